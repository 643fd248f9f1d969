/- Rows of vectors: opened, counted, copied, compared. -/
import Derived.Test.YthkokkocdmbcgaaAroundI
import Derived.Test.YthkokkocdmbcgaaBoxLaw
import Derived.Test.YthkokkocdmbcgaaShapes
namespace Go.Proofs.Ythkokkocdmbcgaa
open Go Go.Proofs.FX Go.RowKit Go.Deep Go.ChangeShapes Go.WideShapes Go.Joins
section
variable {H : Type} {enc : TypeId × Value → H} {P : Program} {w : World}
theorem open_vecs {t e : TypeId} {f0 f1 f2 : Field} {b0 : Nat} {r : Reach} {v : Value} {d : DataW H} {pl : List MemPlace} (ht : P.underlying t = some (.slice e)) (he : P.underlying e = some (.struct #[f0, f1, f2])) (hone : oneCellFields P #[f0, f1, f2] = true) (hC : P.cellsOf e = 3)
    (h0 : P.underlying f0.type = some (.float .f32)) (h1 : P.underlying f1.type = some (.float .f32)) (h2 : P.underlying f2.type = some (.float .f32))
    (hval : Value.okWide P w r b0 t v) (h : DataW.Trod enc P w 0 (fun _ => true) true t v d pl) : ∃ ps : List Pt3, VR 0 w v ps := by
  obtain ⟨a0, len, cap, rfl⟩ := okWide_slice ht hval
  obtain ⟨fuel, hf⟩ := h
  rcases open_slice ht hf with ⟨hcs, hx⟩ | ⟨a, len', cap', m, n, D, Pl, hcs, _, hl, hm, hmm, hx, hi⟩
  · simp [Value.cells] at hcs
    obtain ⟨rfl, rfl, rfl⟩ := hcs
    exact ⟨[], none, 0, rfl, Nat.zero_le _, by simp [maxLen], by simp, .inl rfl⟩
  · simp [Value.cells] at hcs
    obtain ⟨rfl, rfl, rfl⟩ := hcs
    have hm' : m = cap := by simpa using hmm
    subst hm'
    have hcell : ∀ i, i < m → ∃ p : Pt3, p.Lt ∧ w.cell? (a.add (i * 3)) = some (.float .f32 p.x) ∧ w.cell? (a.add (i * 3 + 1)) = some (.float .f32 p.y) ∧ w.cell? (a.add (i * 3 + 2)) = some (.float .f32 p.z) := by
      intro i hi1
      obtain ⟨cs', h3, h4⟩ := hi i hi1
      rw [hC] at h3
      obtain ⟨_, hl1, hg⟩ := World.cells?_some h3
      match cs', hl1 with
      | [c0, c1, c2], _ =>
        obtain ⟨x, y, z, rfl, rfl, rfl, gx, gy, gz⟩ := trod_vec3 he hone h0 h1 h2 h4
        have e0 := hg 0 (by omega)
        have e1 := hg 1 (by omega)
        have e2 := hg 2 (by omega)
        rw [Go.Deep.add_add] at e0 e1 e2
        exact ⟨⟨x, y, z⟩, ⟨gx, gy, gz⟩, e0, e1, e2⟩
    by_cases hz : len = 0
    · subst hz
      exact ⟨[], some a, m, rfl, hl, hm, by simp, .inl rfl⟩
    · have hp : a.spot = none := by
        obtain ⟨x, _, hx0, _⟩ := hcell 0 (by omega)
        simpa [Addr.add] using World.cell?_spot hx0
      obtain ⟨b, off, sp⟩ := a
      simp only at hp
      subst hp
      obtain ⟨g, hg⟩ := (letI : Inhabited Pt3 := ⟨Pt3.o⟩; choose_lt hcell)
      have hlt : b < w.heap.size := block_lt_of_cell (hg 0 (by omega)).2.1
      refine ⟨(List.range len).map g, some ⟨b, off, none⟩, m, by simp, by simpa using hl, hm, ?_, .inr ⟨b, off, Nat.zero_le _, hlt, rfl, fun i hi1 => ?_⟩⟩
      · intro p hp
        obtain ⟨i, hi1, rfl⟩ := List.mem_map.1 hp
        exact (hg i (by have := List.mem_range.1 hi1; omega)).1
      have hi2 : i < len := by simpa using hi1
      have hgi : ((List.range len).map g).getD i Pt3.o = g i := by simp [hi2]
      rw [hgi]
      obtain ⟨_, q1, q2, q3⟩ := hg i (by omega)
      rw [Go.WideShapes.add_plain] at q1 q2 q3
      exact ⟨q1, by rw [Nat.add_assoc]; exact q2, by rw [Nat.add_assoc]; exact q3⟩
end
theorem VR.cases {lo : Nat} {w : World} {v : Value} {ps : List Pt3} (h : VR lo w v ps) :
    (ps = [] ∧ ∃ ao cap, v = .slice ao 0 cap ∧ cap ≤ maxLen) ∨
    (0 < ps.length ∧ ∃ b off cap, b < w.heap.size ∧ v = .slice (some ⟨b, off, none⟩) ps.length cap ∧ ps.length ≤ cap ∧ cap ≤ maxLen ∧ ∀ i, i < ps.length →
      w.cell? ⟨b, off + i * 3, none⟩ = some (.float .f32 (ps.getD i Pt3.o).x) ∧ w.cell? ⟨b, off + i * 3 + 1, none⟩ = some (.float .f32 (ps.getD i Pt3.o).y) ∧ w.cell? ⟨b, off + i * 3 + 2, none⟩ = some (.float .f32 (ps.getD i Pt3.o).z)) := by
  obtain ⟨ao, cap, rfl, h1, h2, _, h3⟩ := h
  rcases h3 with rfl | ⟨b, off, hl, hlt, rfl, hc⟩
  · exact .inl ⟨rfl, ao, cap, rfl, h2⟩
  · cases ps with
    | nil => exact .inl ⟨rfl, _, cap, rfl, h2⟩
    | cons n ns => exact .inr ⟨by simp, b, off, cap, hlt, rfl, h1, h2, hc⟩
theorem szVectorS_ok (ao : Option Addr) (n cap : Nat) (left : Int) (w : World) (h0 : 0 ≤ left) (h1 : left ≤ 1048576) (hn : n ≤ maxLen) :
    Calls Try.prog 5 #[.slice ao n cap, .int .i64 left] w fun e w' => e = .returned (.int .i64 (szF left n)) ∧ w = w' := by
  unfold maxLen at hn
  unfold szF
  by_cases h : left - n < 0
  · rw [if_pos h]
    go_enter Try.func5, Try.ntmps5
    go_wp2
    go_ret
    exact ⟨rfl, rfl⟩
  · rw [if_neg h]
    go_enter Try.func5, Try.ntmps5
    go_wp2
    go_ret
    exact ⟨rfl, rfl⟩
theorem toV_info : (Try.prog.info? 26).map (fun i => (i.zero, i.size, i.bytes)) = some (some (.agg #[.float .f32 0, .float .f32 0, .float .f32 0]), 3, 12) := by kernel_rfl
def RowV (cs : Array Value) (ps : List Pt3) (k : Nat) : Prop :=
  ∀ j, j < k → cs[j * 3]? = some (.float .f32 (ps.getD j Pt3.o).x) ∧ cs[j * 3 + 1]? = some (.float .f32 (ps.getD j Pt3.o).y) ∧ cs[j * 3 + 2]? = some (.float .f32 (ps.getD j Pt3.o).z)
def set3a (cs : Array Value) (o : Nat) (v0 v1 v2 : Value) : Array Value := ((cs.setIfInBounds o v0).setIfInBounds (o + 1) v1).setIfInBounds (o + 2) v2
theorem RowV.step {cs : Array Value} {ps : List Pt3} {k : Nat} {p : Pt3} (h : RowV cs ps k) (hs : k * 3 + 3 ≤ cs.size) (hp : ps.getD k Pt3.o = p) : RowV (set3a cs (k * 3) (.float .f32 p.x) (.float .f32 p.y) (.float .f32 p.z)) ps (k + 1) := by
  intro j hj
  unfold set3a
  by_cases hjk : j = k
  · subst hjk
    rw [hp]
    refine ⟨?_, ?_, ?_⟩
    · rw [Array.getElem?_setIfInBounds_ne (by omega), Array.getElem?_setIfInBounds_ne (by omega), Array.getElem?_setIfInBounds_self_of_lt (by omega)]
    · rw [Array.getElem?_setIfInBounds_ne (by omega), Array.getElem?_setIfInBounds_self_of_lt (by simp; omega)]
    · rw [Array.getElem?_setIfInBounds_self_of_lt (by simp; omega)]
  · obtain ⟨e0, e1, e2⟩ := h j (by omega)
    refine ⟨?_, ?_, ?_⟩
    · rw [Array.getElem?_setIfInBounds_ne (by omega), Array.getElem?_setIfInBounds_ne (by omega), Array.getElem?_setIfInBounds_ne (by omega)]; exact e0
    · rw [Array.getElem?_setIfInBounds_ne (by omega), Array.getElem?_setIfInBounds_ne (by omega), Array.getElem?_setIfInBounds_ne (by omega)]; exact e1
    · rw [Array.getElem?_setIfInBounds_ne (by omega), Array.getElem?_setIfInBounds_ne (by omega), Array.getElem?_setIfInBounds_ne (by omega)]; exact e2
/-- A row of the same vectors, in a new block. -/
def NewV (ps : List Pt3) (w : World) (e : Ending) (w' : World) : Prop := ∃ u, e = .returned u ∧ VR 0 w' u ps ∧ Below w.heap.size w w'
set_option maxHeartbeats 1000000 in
theorem toVectorS_cells (ps : List Pt3) (b off cap : Nat) (w : World) (hps : ∀ p ∈ ps, p.Lt) (hb : b < w.heap.size) (hln : ps.length ≤ 1048576)
    (hcell : ∀ i, i < ps.length → w.cell? ⟨b, off + i * 3, none⟩ = some (.float .f32 (ps.getD i Pt3.o).x) ∧ w.cell? ⟨b, off + i * 3 + 1, none⟩ = some (.float .f32 (ps.getD i Pt3.o).y) ∧ w.cell? ⟨b, off + i * 3 + 2, none⟩ = some (.float .f32 (ps.getD i Pt3.o).z)) :
    Calls Try.prog 7 #[.slice (some ⟨b, off, none⟩) ps.length cap] w (NewV ps w) := by
  obtain ⟨i0, hi, hz0, hz1, hz2⟩ := info_parts toV_info
  have hmk := run_make (P := Try.prog) w 31 26 i0 _ Try.underlying31 hi hz0 .i64 .i64 ps.length ps.length (by omega) (by omega) (by rw [hz2]; omega) (by omega)
  rw [hz1] at hmk
  have HC := Lib.hid hcell
  have HPS := Lib.hid hps
  clear hcell hps
  go_enter Try.func7, Try.ntmps7
  go_wp2
  go_loopw [4] (fun i wr => ∃ k : Nat, ∃ cs : Array Value, k ≤ ps.length ∧ i = .int .i64 k ∧ wr.heap[w.heap.size]? = some (.cells cs 26 (0, 0)) ∧ cs.size = ps.length * 3 ∧ RowV cs ps k ∧ Below w.heap.size w wr) (fun i _ => ps.length - (intOf i).toNat)
  case atStart =>
    refine ⟨0, _, Nat.zero_le _, rfl, heap_alloc_new _ _, ?_, fun j hj => absurd hj (Nat.not_lt_zero j), (Below.refl _ _).alloc (Nat.le_refl _) _⟩
    rw [size_madeCells]
  case round =>
    obtain ⟨k, cs, hk, rfl, hh, hsz, hrow, hbl⟩ := hrel
    have HH := Lib.hid hh
    have HROW := Lib.hid hrow
    have HSZ := Lib.hid hsz
    clear hh hrow hsz hmk
    by_cases hlt : k < ps.length
    · obtain ⟨c0, c1, c2⟩ := HC.out k hlt
      rw [← hbl.cell (p := ⟨b, off + k * 3, none⟩) hb] at c0
      rw [← hbl.cell (p := ⟨b, off + k * 3 + 1, none⟩) hb] at c1
      rw [← hbl.cell (p := ⟨b, off + k * 3 + 2, none⟩) hb] at c2
      generalize hnd0 : ps.getD k Pt3.o = p at c0 c1 c2
      have hnd := Lib.hid hnd0
      clear hnd0
      have hlb : b < wr.heap.size := Nat.lt_of_lt_of_le hb hbl.size
      go_wp2_with fail
      refine (toVector_ok _ _ _ _).mono ?_
      rintro e w4 ⟨rfl, hb4⟩
      have hlt4 : w.heap.size < wr.heap.size := (Array.getElem?_eq_some_iff.1 HH.out).1
      have H4 : Hid (w4.heap[w.heap.size]? = some (.cells cs 26 (0, 0))) := Lib.hid (by rw [hb4.block _ hlt4]; exact HH.out)
      have hcz : k * 3 + 3 ≤ cs.size := by rw [HSZ.out]; omega
      have d0 : w4.cell? ⟨w.heap.size, k * 3, none⟩ = some (cs[k * 3]'(by omega)) := by rw [cell_of_row w4 _ _ cs _ _ H4.out]; exact Array.getElem?_eq_getElem _
      have d1 : w4.cell? ⟨w.heap.size, k * 3 + 1, none⟩ = some (cs[k * 3 + 1]'(by omega)) := by rw [cell_of_row w4 _ _ cs _ _ H4.out]; exact Array.getElem?_eq_getElem _
      have d2 : w4.cell? ⟨w.heap.size, k * 3 + 2, none⟩ = some (cs[k * 3 + 2]'(by omega)) := by rw [cell_of_row w4 _ _ cs _ _ H4.out]; exact Array.getElem?_eq_getElem _
      have f0 : w4.frozen? ⟨w.heap.size, k * 3, none⟩ = false := frozen_of_row w4 _ _ _ _ H4.out
      have f1 : w4.frozen? ⟨w.heap.size, k * 3 + 1, none⟩ = false := frozen_of_row w4 _ _ _ _ H4.out
      have f2 : w4.frozen? ⟨w.heap.size, k * 3 + 2, none⟩ = false := frozen_of_row w4 _ _ _ _ H4.out
      generalize cs[k * 3]'(by omega) = o0 at d0
      generalize cs[k * 3 + 1]'(by omega) = o1 at d1
      generalize cs[k * 3 + 2]'(by omega) = o2 at d2
      have hb5 := hbl.trans (hb4.mono hbl.size)
      clear hb4 c0 c1 c2
      go_wp2_with fail
      go_roundw
      case rel =>
        refine ⟨k + 1, set3a cs (k * 3) (.float .f32 p.x) (.float .f32 p.y) (.float .f32 p.z), by omega, by go_num, ?_, by simp [set3a]; exact HSZ.out, HROW.out.step hcz hnd.out, ?_⟩
        · exact heap_setCell_same _ _ _ _ _ _ (heap_setCell_same _ _ _ _ _ _ (heap_setCell_same _ _ _ _ _ _ H4.out))
        · exact ((hb5.setCell (Nat.le_refl _) _).setCell (Nat.le_refl _) _).setCell (Nat.le_refl _) _
      case measure => simp [intOf]; omega
    · go_wp2
      go_ret
      have hkl : k = ps.length := by omega
      subst hkl
      refine ⟨_, rfl, ⟨some ⟨w.heap.size, 0, none⟩, ps.length, rfl, Nat.le_refl _, by unfold maxLen; omega, HPS.out, .inr ⟨w.heap.size, 0, Nat.zero_le _, (Array.getElem?_eq_some_iff.1 HH.out).1, rfl, fun i hi => ?_⟩⟩, hbl⟩
      obtain ⟨e0, e1, e2⟩ := HROW.out i hi
      rw [Nat.zero_add]
      exact ⟨by rw [cell_of_row wr _ _ cs _ _ HH.out]; exact e0, by rw [cell_of_row wr _ _ cs _ _ HH.out]; exact e1, by rw [cell_of_row wr _ _ cs _ _ HH.out]; exact e2⟩
theorem toVectorS_empty (ao : Option Addr) (cap : Nat) (w : World) :
    Calls Try.prog 7 #[.slice ao 0 cap] w (NewV [] w) := by
  obtain ⟨i0, hi, hz0, hz1, hz2⟩ := info_parts toV_info
  have hmk := run_make (P := Try.prog) w 31 26 i0 _ Try.underlying31 hi hz0 .i64 .i64 0 0 (by omega) (by omega) (by rw [hz2]; omega) (by omega)
  go_enter Try.func7, Try.ntmps7
  go_wp2
  go_loopw [4] (fun i wr => i = .int .i64 0 ∧ Below w.heap.size w wr) (fun i _ => 0)
  case atStart => exact ⟨rfl, (Below.refl _ _).alloc (Nat.le_refl _) _⟩
  case round =>
    obtain ⟨rfl, hbl⟩ := hrel
    go_wp2
    go_ret
    exact ⟨_, rfl, ⟨some ⟨w.heap.size, 0, none⟩, 0, rfl, Nat.le_refl _, by simp [maxLen], by simp, .inl rfl⟩, hbl⟩
theorem toVectorS_ok (ps : List Pt3) (v : Value) (w : World) (h : VR 0 w v ps) (hln : ps.length ≤ 1048576) :
    Calls Try.prog 7 #[v] w (NewV ps w) := by
  have hps : ∀ p ∈ ps, p.Lt := by obtain ⟨_, _, _, _, _, h, _⟩ := h; exact h
  rcases h.cases with ⟨rfl, ao, cap, rfl, _⟩ | ⟨hp, b, off, cap, hlt, rfl, hc, hm, hcell⟩
  · exact toVectorS_empty _ _ _
  · exact toVectorS_cells ps b off cap w hps hlt hln hcell
set_option maxHeartbeats 1000000 in
theorem eqVectorS_cells (ps : List Pt3) (b off cap b2 off2 cap2 n2 : Nat) (w : World) (hn : n2 = ps.length) (hc : ps.length ≤ cap) (hm : cap ≤ maxLen) (_hc2 : ps.length ≤ cap2) (_hm2 : cap2 ≤ maxLen) (hl : b < w.heap.size) (hl2 : b2 < w.heap.size)
    (hcell : ∀ i, i < ps.length → w.cell? ⟨b, off + i * 3, none⟩ = some (.float .f32 (ps.getD i Pt3.o).x) ∧ w.cell? ⟨b, off + i * 3 + 1, none⟩ = some (.float .f32 (ps.getD i Pt3.o).y) ∧ w.cell? ⟨b, off + i * 3 + 2, none⟩ = some (.float .f32 (ps.getD i Pt3.o).z))
    (hcell2 : ∀ i, i < ps.length → w.cell? ⟨b2, off2 + i * 3, none⟩ = some (.float .f32 (ps.getD i Pt3.o).x) ∧ w.cell? ⟨b2, off2 + i * 3 + 1, none⟩ = some (.float .f32 (ps.getD i Pt3.o).y) ∧ w.cell? ⟨b2, off2 + i * 3 + 2, none⟩ = some (.float .f32 (ps.getD i Pt3.o).z)) :
    Calls Try.prog 10 #[.slice (some ⟨b, off, none⟩) ps.length cap, .slice (some ⟨b2, off2, none⟩) n2 cap2] w fun e w' => e = .returned (.bool true) ∧ Below w.heap.size w w' := by
  unfold maxLen at hm
  subst hn
  have e0 : ((ps.length : Int) != (ps.length : Int)) = false := by simp
  have HC := Lib.hid hcell
  have HC2 := Lib.hid hcell2
  clear hcell hcell2
  go_enter Try.func10, Try.ntmps10
  go_wp2
  go_loopw [5] (fun i wr => ∃ k : Nat, k ≤ ps.length ∧ i = .int .i64 k ∧ Below w.heap.size w wr) (fun i _ => ps.length - (intOf i).toNat)
  case atStart => exact ⟨0, Nat.zero_le _, rfl, Below.refl _ _⟩
  case round =>
    obtain ⟨k, hk, rfl, hbl⟩ := hrel
    by_cases hlt : k < ps.length
    · obtain ⟨c0, c1, c2⟩ := HC.out k hlt
      obtain ⟨d0, d1, d2⟩ := HC2.out k hlt
      rw [← hbl.cell (p := ⟨b, off + k * 3, none⟩) hl] at c0
      rw [← hbl.cell (p := ⟨b, off + k * 3 + 1, none⟩) hl] at c1
      rw [← hbl.cell (p := ⟨b, off + k * 3 + 2, none⟩) hl] at c2
      rw [← hbl.cell (p := ⟨b2, off2 + k * 3, none⟩) hl2] at d0
      rw [← hbl.cell (p := ⟨b2, off2 + k * 3 + 1, none⟩) hl2] at d1
      rw [← hbl.cell (p := ⟨b2, off2 + k * 3 + 2, none⟩) hl2] at d2
      generalize ps.getD k Pt3.o = p at c0 c1 c2 d0 d1 d2
      have hlb : b < wr.heap.size := Nat.lt_of_lt_of_le hl hbl.size
      have hlb2 : b2 < wr.heap.size := Nat.lt_of_lt_of_le hl2 hbl.size
      go_wp2
      refine wp_region_grew (SIs (.bool true)) (by kernel_rfl) (by kernel_rfl) ?_
      repeat (first | (refine loose_exB rfl (fun K hK => ?_); apply Exists.intro; refine ⟨fun w' hw' => ?_, ?_⟩; (obtain ⟨hcc, hff⟩ := Grew.cells hw'; clear hw'; go_simp; rfl); refine hK _ ?_; clear hK K))
      (refine loose_callB rfl (fun K hK => ?_); go_simp; refine ⟨_, _, fun _ _ => ⟨rfl, rfl⟩, fun w1 hw1 => ?_, fun u hu => ?_⟩)
      · refine (eqVector_ok _ _ _ _ _ _ w1 rfl rfl rfl).mono ?_
        rintro e w2 ⟨rfl, hb⟩
        exact ⟨_, rfl, rfl, hw1.trans hb⟩
      (obtain rfl : u = .bool true := hu)
      (refine hK _ ?_; clear hK K)
      repeat (first | (refine loose_exB rfl (fun K hK => ?_); apply Exists.intro; refine ⟨fun w' hw' => ?_, ?_⟩; (obtain ⟨hcc, hff⟩ := Grew.cells hw'; clear hw'; go_simp; rfl); refine hK _ ?_; clear hK K))
      refine loose_nil ?_
      intro w4 hw4
      have hb4 := hbl.trans (hw4.mono hbl.size)
      clear hw4
      go_wp2
      go_roundw
      case rel => exact ⟨k + 1, by omega, by go_num, hb4⟩
      case measure => simp [intOf]; omega
    · go_wp2
      go_ret
      exact ⟨rfl, hbl⟩
theorem eqVectorS_empty (ao ao2 : Option Addr) (cap cap2 : Nat) (w : World) :
    Calls Try.prog 10 #[.slice ao 0 cap, .slice ao2 0 cap2] w fun e w' => e = .returned (.bool true) ∧ Below w.heap.size w w' := by
  go_enter Try.func10, Try.ntmps10
  go_wp2
  go_loopw [5] (fun i wr => i = .int .i64 0 ∧ wr = w) (fun i _ => 0)
  case atStart => exact ⟨rfl, rfl⟩
  case round =>
    obtain ⟨rfl, rfl⟩ := hrel
    go_wp2
    go_ret
    exact ⟨rfl, Below.refl _ _⟩
theorem eqVectorS_ok (ps : List Pt3) (u v : Value) (w : World) (h : VR 0 w u ps) (h' : VR 0 w v ps) :
    Calls Try.prog 10 #[u, v] w fun e w' => e = .returned (.bool true) ∧ Below w.heap.size w w' := by
  rcases h.cases with ⟨rfl, ao, cap, rfl, _⟩ | ⟨hp, b, off, cap, hlt, rfl, hc, hm, hcell⟩
  · rcases h'.cases with ⟨_, ao', cap', rfl, _⟩ | ⟨hp', _⟩
    · exact eqVectorS_empty _ _ _ _ _
    · simp at hp'
  · rcases h'.cases with ⟨rfl, _⟩ | ⟨_, b', off', cap', hlt', rfl, hc', hm', hcell'⟩
    · simp at hp
    · exact eqVectorS_cells ps b off cap b' off' cap' _ w rfl hc hm hc' hm' hlt hlt' hcell hcell'
theorem VR.unique {lo lo' : Nat} {w : World} {v : Value} {ms ns : List Pt3} (h : VR lo w v ms) (g : VR lo' w v ns) : ms = ns := by
  obtain ⟨ao, cap, hv, _, _, _, h3⟩ := h
  obtain ⟨ao', cap', hv', _, _, _, g3⟩ := g
  rw [hv] at hv'
  simp only [Value.slice.injEq] at hv'
  obtain ⟨rfl, hl, rfl⟩ := hv'
  rcases h3 with rfl | ⟨b, off, _, _, rfl, hc⟩
  · exact (List.eq_nil_of_length_eq_zero hl.symm).symm
  · rcases g3 with rfl | ⟨b', off', _, _, hb, gc⟩
    · exact List.eq_nil_of_length_eq_zero hl
    · simp only [Option.some.injEq, Addr.mk.injEq] at hb
      obtain ⟨rfl, rfl, -⟩ := hb
      apply List.ext_getElem hl
      intro i h1 h2
      obtain ⟨e0, e1, e2⟩ := hc i h1
      obtain ⟨k0, k1, k2⟩ := gc i h2
      rw [e0] at k0; rw [e1] at k1; rw [e2] at k2
      simp only [List.getD, List.getElem?_eq_getElem h1, List.getElem?_eq_getElem h2, Option.getD_some, Option.some.injEq, Value.float.injEq, true_and] at k0 k1 k2
      cases hm : ms[i]; cases hn : ns[i]
      rw [hm, hn] at k0 k1 k2
      simp only at k0 k1 k2
      rw [k0, k1, k2]
theorem VR.keepsE {w w' : World} {v : Value} {ps : List Pt3} (h : VR 0 w v ps) (hx : Ext w w') : VR 0 w' v ps := h.below hx
end Go.Proofs.Ythkokkocdmbcgaa
