/- Lists of numbers: copied, compared, added, multiplied. -/
import Derived.Test.YtnhcgjjcbdjofabNum
import Derived.Test.YtnhcgjjcbdjofabSlice
import Derived.Test.YtnhcgjjcbdjofabLoose
namespace Go.Proofs.Ytnhcgjjcbdjofab
open Go.Proofs.FX Go.RowKit Go.Deep

/-- Two lists of the same numbers. -/
def EqvL (xs ys : List Nat) : Prop := xs.length = ys.length ∧ ∀ i, i < xs.length → Eqv .f32 (xs.getD i 0) (ys.getD i 0)
theorem EqvL.refl (xs : List Nat) : EqvL xs xs := ⟨rfl, fun _ _ => Eqv.refl _ _⟩

theorem eqF_cells (xs ys : List Nat) (b off cap b2 off2 cap2 n2 : Nat) (w : World) (hn : n2 = xs.length) (hc : xs.length ≤ cap) (hm : cap ≤ maxLen)
    (hw : ∀ i, i < xs.length → widen (xs.getD i 0) = widen (ys.getD i 0))
    (hcell : ∀ i, i < xs.length → w.cell? ⟨b, off + i, none⟩ = some (.float .f32 (xs.getD i 0)))
    (hcell2 : ∀ i, i < xs.length → w.cell? ⟨b2, off2 + i, none⟩ = some (.float .f32 (ys.getD i 0))) :
    Calls Try.prog 38 #[.slice (some ⟨b, off, none⟩) xs.length cap, .slice (some ⟨b2, off2, none⟩) n2 cap2] w (Fb true w) := by
  unfold maxLen at hm
  subst hn
  have e0 : ((xs.length : Int) != (xs.length : Int)) = false := by simp
  have HC := Lib.hid hcell
  have HC2 := Lib.hid hcell2
  have HWW := Lib.hid hw
  clear hcell hcell2 hw
  go_enter Try.func38, Try.ntmps38
  go_wp2
  go_loopw [5] (fun i wr => ∃ k n : Nat, k ≤ xs.length ∧ i = .int .i64 k ∧ wr = w.drewN n) (fun i _ => xs.length - (intOf i).toNat)
  case atStart => exact ⟨0, 0, Nat.zero_le _, rfl, rfl⟩
  case round =>
    obtain ⟨k, n, hk, rfl, rfl⟩ := hrel
    by_cases hlt : k < xs.length
    · have g1 := HC.out k hlt
      have g2 := HC2.out k hlt
      have HW := Lib.hid (HWW.out k hlt)
      generalize xs.getD k 0 = x at g1 HW
      generalize ys.getD k 0 = y at g2 HW
      go_wp2
      refine wp_region_drawn (SIs (.bool true)) (by kernel_rfl) (by kernel_rfl) ?_
      repeat (first | (refine loose_widen (drawn_drewN _) rfl rfl rfl Try.underlying22 Try.underlying53 ?_; intro r hr he) | (refine loose_ex rfl (fun K hK => ?_); go_simp; refine hK _ ?_; clear hK K))
      (refine loose_excall rfl (fun K hK => ?_); go_simp; refine ⟨_, _, ⟨rfl, rfl⟩, fun n => ?_, fun u hu => ?_⟩; (refine (sameFloat_ok _ _ _ (eqv_mid (by assumption) (by assumption) HW.out)).mono ?_; rintro e w' ⟨m, rfl, rfl⟩; exact ⟨_, rfl, rfl, by first | exact drawn_mk _ _ _ _ | exact drawn_mk0 _ _ _⟩); unfold SIs at hu; subst hu; refine hK _ ?_; clear hK K)
      repeat (first | (refine loose_widen (drawn_drewN _) rfl rfl rfl Try.underlying22 Try.underlying53 ?_; intro r hr he) | (refine loose_ex rfl (fun K hK => ?_); go_simp; refine hK _ ?_; clear hK K))
      refine loose_nil ?_
      intro nq
      go_wp2
      go_roundw
      case rel => exact ⟨k + 1, _, by omega, by go_num, rfl⟩
      case measure => simp [intOf]; omega
    · go_wp2
      go_ret
      exact ⟨_, rfl, rfl⟩
theorem eqF_empty (ao ao2 : Option Addr) (cap cap2 : Nat) (w : World) :
    Calls Try.prog 38 #[.slice ao 0 cap, .slice ao2 0 cap2] w (Fb true w) := by
  go_enter Try.func38, Try.ntmps38
  go_wp2
  go_loopw [5] (fun i wr => i = .int .i64 0 ∧ wr = w) (fun i _ => 0)
  case atStart => exact ⟨rfl, rfl⟩
  case round =>
    obtain ⟨rfl, rfl⟩ := hrel
    go_wp2
    go_ret
    exact ⟨0, rfl, rfl⟩
theorem eqFloat32S_ok (xs ys : List Nat) (v v' : Value) (w : World) (h : FSl w v xs) (h' : FSl w v' ys) (he : EqvL xs ys) :
    Calls Try.prog 38 #[v, v'] w (Fb true w) := by
  obtain ⟨hl, he⟩ := he
  rcases h.cases with ⟨rfl, ao, cap, rfl, _⟩ | ⟨hp, b, off, cap, _, rfl, hc, hm, hcell⟩
  · rcases h'.cases with ⟨rfl, ao', cap', rfl, _⟩ | ⟨hp', b', off', cap', _, rfl, hc', hm', hcell'⟩
    · exact eqF_empty _ _ _ _ _
    · simp at hl; omega
  · rcases h'.cases with ⟨rfl, ao', cap', rfl, _⟩ | ⟨hp', b', off', cap', _, rfl, hc', hm', hcell'⟩
    · simp at hl; subst hl; simp at hp
    · exact eqF_cells xs ys b off cap b' off' cap' _ w hl.symm hc hm (fun i hi => widen_eqv (he i hi)) hcell (fun i hi => hcell' i (by omega))
theorem toF_info : (Try.prog.info? 22).map (fun i => (i.zero, i.size, i.bytes)) = some (some (.float .f32 0), 1, 4) := by kernel_rfl
/-- A new list of the same numbers, in new memory. -/
def NewF (xs : List Nat) (w : World) (e : Ending) (w' : World) : Prop := ∃ v, e = .returned v ∧ FSl w' v xs ∧ Below w.heap.size w w'
theorem toF_cells (xs : List Nat) (b off cap : Nat) (w : World) (hb : b < w.heap.size) (hx : ∀ x ∈ xs, x < 4294967296) (hl : xs.length ≤ 1048576)
    (hcell : ∀ i, i < xs.length → w.cell? ⟨b, off + i, none⟩ = some (.float .f32 (xs.getD i 0))) :
    Calls Try.prog 32 #[.slice (some ⟨b, off, none⟩) xs.length cap] w (NewF xs w) := by
  obtain ⟨i0, hi, hz0, hz1, hz2⟩ := info_parts toF_info
  have hmk := run_make (P := Try.prog) w 25 22 i0 (.float .f32 0) Try.underlying25 hi hz0 .i64 .i64 xs.length xs.length (by omega) (by omega) (by rw [hz2]; omega) (by omega)
  have HC := Lib.hid hcell
  clear hcell
  go_enter Try.func32, Try.ntmps32
  go_wp2
  go_loopw [4] (fun i wr => ∃ k : Nat, ∃ cs : Array Value, k ≤ xs.length ∧ i = .int .i64 k ∧ wr.heap[w.heap.size]? = some (.cells cs 22 (0, 0)) ∧ cs.size = xs.length ∧ (∀ j, j < k → cs[j]? = some (.float .f32 (xs.getD j 0))) ∧ Below w.heap.size w wr) (fun i _ => xs.length - (intOf i).toNat)
  case atStart =>
    refine ⟨0, _, Nat.zero_le _, rfl, heap_alloc_new _ _, ?_, fun j hj => by omega, (Below.refl _ _).alloc (Nat.le_refl _) _⟩
    rw [size_madeCells]
  case round =>
    obtain ⟨k, cs, hk, rfl, hh, hsz, hcs, hbl⟩ := hrel
    have HH := Lib.hid hh
    have HCS := Lib.hid hcs
    have HSZ := Lib.hid hsz
    clear hh hcs hsz hmk
    by_cases hlt : k < xs.length
    · have g1 : wr.cell? ⟨b, off + k, none⟩ = some (.float .f32 (xs.getD k 0)) := by
        rw [hbl.cell (p := ⟨b, off + k, none⟩) hb]; exact HC.out k hlt
      have g2 : wr.cell? ⟨w.heap.size, k, none⟩ = some (cs[k]'(by rw [HSZ.out]; exact hlt)) := by
        rw [cell_of_row wr w.heap.size k cs _ _ HH.out]; exact Array.getElem?_eq_getElem _
      have g3 : wr.frozen? ⟨w.heap.size, k, none⟩ = false := frozen_of_row wr _ _ _ _ HH.out
      generalize hxk : xs.getD k 0 = x at g1
      have HXK := Lib.hid hxk
      clear hxk
      generalize cs[k]'(by rw [HSZ.out]; exact hlt) = old at g2
      go_wp2
      go_roundw
      case rel =>
        refine ⟨k + 1, cs.setIfInBounds k (.float .f32 x), by omega, by go_num, heap_setCell_same wr w.heap.size k cs _ _ HH.out, by simpa using HSZ.out, fun j hj => ?_, hbl.setCell (Nat.le_refl _) _⟩
        have hs := HSZ.out
        by_cases hjk : j = k
        · subst hjk
          rw [HXK.out, Array.getElem?_setIfInBounds_self_of_lt (by omega)]
        · rw [Array.getElem?_setIfInBounds_ne (fun e => hjk e.symm)]
          exact HCS.out j (by omega)
      case measure => simp [intOf]; omega
    · go_wp2
      go_ret
      have hkl : k = xs.length := by omega
      have hs := HSZ.out
      refine ⟨_, rfl, ⟨hx, some ⟨w.heap.size, 0, none⟩, xs.length, ?_, ?_, ?_, ?_⟩, hbl⟩
      · rw [flts_length]; rfl
      · rw [flts_length]; exact Nat.le_refl _
      · unfold maxLen; omega
      · refine .inr ⟨w.heap.size, 0, ?_, rfl, fun i hi => ?_⟩
        · have hg := HH.out
          exact (Array.getElem?_eq_some_iff.1 hg).1
        · rw [Nat.zero_add, cell_of_row wr w.heap.size i cs _ _ HH.out]
          have hi' : i < xs.length := by rw [flts_length] at hi; exact hi
          rw [HCS.out i (by omega)]
          simp [flts, List.getElem?_eq_getElem hi']
theorem toF_empty (ao : Option Addr) (cap : Nat) (w : World) :
    Calls Try.prog 32 #[.slice ao 0 cap] w (NewF [] w) := by
  obtain ⟨i0, hi, hz0, hz1, hz2⟩ := info_parts toF_info
  have hmk := run_make (P := Try.prog) w 25 22 i0 (.float .f32 0) Try.underlying25 hi hz0 .i64 .i64 0 0 (by omega) (by omega) (by rw [hz2]; omega) (by omega)
  go_enter Try.func32, Try.ntmps32
  go_wp2
  go_loopw [4] (fun i wr => i = .int .i64 0 ∧ Below w.heap.size w wr) (fun i _ => 0)
  case atStart => exact ⟨rfl, (Below.refl _ _).alloc (Nat.le_refl _) _⟩
  case round =>
    obtain ⟨rfl, hbl⟩ := hrel
    go_wp2
    go_ret
    exact ⟨_, rfl, ⟨by simp, some ⟨w.heap.size, 0, none⟩, 0, rfl, by simp [flts], by simp [maxLen], .inl rfl⟩, hbl⟩
theorem toFloat32S_ok (xs : List Nat) (v : Value) (w : World) (h : FSl w v xs) (hl : xs.length ≤ 1048576) :
    Calls Try.prog 32 #[v] w (NewF xs w) := by
  rcases h.cases with ⟨rfl, ao, cap, rfl, _⟩ | ⟨hp, b, off, cap, hb, rfl, hc, hm, hcell⟩
  · exact toF_empty _ _ _
  · exact toF_cells xs b off cap w hb h.1 hl hcell
/-- A number and a truth. -/
def Fs2 (g : Nat) (ok : Bool) (w : World) (e : Ending) (w' : World) : Prop := ∃ r n, e = .returned (.tuple #[.float .f32 r, .bool ok]) ∧ w' = w.drewN n ∧ r < 4294967296 ∧ Eqv .f32 r g
def sumF (xs : List Nat) : Nat := xs.foldl (fop .add .f32) 0
theorem sumF_snoc (xs : List Nat) (k : Nat) (h : k < xs.length) : sumF (xs.take (k + 1)) = fop .add .f32 (sumF (xs.take k)) (xs.getD k 0) := by
  unfold sumF
  rw [List.take_succ_eq_append_getElem h, List.foldl_append]
  simp [h]
end Go.Proofs.Ytnhcgjjcbdjofab
