/- Where signs change: program and model. -/
import Derived.Test.YtkpokgfllipabaaSums
import Derived.Test.YtkpokgfllipabaaIntRow
import Derived.Test.YtkpokgfllipabaaInts
import Derived.Test.YtkpokgfllipabaaLaterO
namespace Go.Proofs.FX
open Go Go.RowKit
/-- Whether the sign changes behind the i-th number. -/
def chg (xs : List Nat) (i : Nat) : Bool := flt .f32 (xs.getD i 0) 0 != flt .f32 (xs.getD (i + 1) 0) 0
/-- Where signs change among the first k steps. -/
def chgTo (xs : List Nat) : Nat → List Int
  | 0 => []
  | k + 1 => chgTo xs k ++ (if chg xs k then [(k : Int)] else [])
theorem chgTo_len (xs : List Nat) : ∀ k, (chgTo xs k).length ≤ k
  | 0 => Nat.le_refl _
  | k + 1 => by
    have := chgTo_len xs k
    rw [chgTo, List.length_append]
    split <;> simp <;> omega
def chgV (xs : List Nat) : List Int := if xs.length ≤ 256 then chgTo xs (xs.length - 1) else []
theorem chgV_len (xs : List Nat) : (chgV xs).length ≤ 256 := by
  unfold chgV
  split
  · have := chgTo_len xs (xs.length - 1); omega
  · exact Nat.zero_le _
theorem chgTo_yes (xs : List Nat) (k : Nat) (h : chg xs k = true) : chgTo xs (k + 1) = chgTo xs k ++ [(k : Int)] := by rw [chgTo, if_pos h]
theorem chgTo_no (xs : List Nat) (k : Nat) (h : chg xs k = false) : chgTo xs (k + 1) = chgTo xs k := by rw [chgTo, if_neg (by rw [h]; simp), List.append_nil]
end Go.Proofs.FX
namespace Go.Proofs.Ytkpokgfllipabaa
open Go.Proofs.FX Go.RowKit Go.Deep
/-- A row of integers of one's own, and a truth. -/
def Ib (D : List Int) (b : Bool) (w : World) (e : Ending) (w' : World) : Prop := ∃ v, e = .returned (.tuple #[v, .bool b]) ∧ OI w.heap.size 2 w' v D ∧ Below w.heap.size w w'
theorem is_info : (Try.prog.info? 2).map (fun i => (i.zero, i.size, i.bytes)) = some (some (.int .i64 0), 1, 8) := by kernel_rfl
theorem SignChanges_long (xs : List Nat) (ao : Option Addr) (cap : Nat) (w : World) (hl : 256 < xs.length) (hm : xs.length ≤ 9223372036854775807) :
    Calls Try.prog 23 #[.slice ao xs.length cap] w (Ib [] false w) := by
  go_enter Try.func23, Try.ntmps23
  go_wp2_with fail
  go_ret2
  exact ⟨_, rfl, World.ownsRow_nil _ _ _ _, Below.refl _ _⟩
theorem specSignChanges_long (xs : List Nat) (ao : Option Addr) (cap : Nat) (w : World) (hl : 256 < xs.length) (hm : xs.length ≤ 9223372036854775807) :
    Calls Try.prog 21 #[.slice ao xs.length cap] w (Ib [] false w) := by
  go_enter Try.func21, Try.ntmps21
  go_wp2_with fail
  go_ret2
  exact ⟨_, rfl, World.ownsRow_nil _ _ _ _, Below.refl _ _⟩

set_option maxRecDepth 100000 in
set_option maxHeartbeats 4000000 in
theorem SignChanges_cells (xs : List Nat) (b off cap : Nat) (w : World) (hl : b < w.heap.size) (hs : xs.length ≤ 256) (hc : xs.length ≤ cap) (hm : cap ≤ maxLen)
    (hcell : ∀ i, i < xs.length → w.cell? ⟨b, off + i, none⟩ = some (.float .f32 (xs.getD i 0))) :
    Calls Try.prog 23 #[.slice (some ⟨b, off, none⟩) xs.length cap] w (Ib (chgTo xs (xs.length - 1)) true w) := by
  obtain ⟨i0, hi, hz0, hz1, hz2⟩ := info_parts is_info
  unfold maxLen at hm
  have HC := Lib.hid hcell
  have HI := Lib.hid hi
  have HZ0 := Lib.hid hz0
  have HZ1 := Lib.hid hz1
  have HZ2 := Lib.hid hz2
  clear hcell hi hz0 hz1 hz2
  go_enter Try.func23, Try.ntmps23
  go_wp2_with fail
  go_loopw [4, 5] (fun v i wr => ∃ (k : Nat) (v0 : Value), k ≤ xs.length - 1 ∧ i = .int .i64 ((k : Int) + 1) ∧ v = v0 ∧ Hid (OI w.heap.size 2 wr v0 (chgTo xs k)) ∧ Hid (Below w.heap.size w wr)) (fun _ i _ => xs.length - (intOf i).toNat)
  case atStart =>
    exact ⟨0, _, Nat.zero_le _, rfl, rfl, Lib.hid (World.ownsRow_nil _ _ _ _), Lib.hid (Below.refl _ _)⟩
  case round =>
    obtain ⟨k, v0, hk, rfl, rfl, HOW, HBL⟩ := hrel
    have hzr := HBL.out.size
    obtain ⟨va, vc, rfl⟩ := HOW.out.shape
    by_cases hlt : k + 1 < xs.length
    · have hlb : b < wr.heap.size := Nat.lt_of_lt_of_le hl hzr
      have c0 : wr.cell? ⟨b, off + k, none⟩ = some (.float .f32 (xs.getD k 0)) := by rw [HBL.out.cell (p := ⟨b, off + k, none⟩) hl]; exact HC.out k (by omega)
      have c1 : wr.cell? ⟨b, off + (k + 1), none⟩ = some (.float .f32 (xs.getD (k + 1) 0)) := by rw [HBL.out.cell (p := ⟨b, off + (k + 1), none⟩) hl]; exact HC.out (k + 1) (by omega)
      have HY := Lib.hid (chgTo_yes xs k)
      have HN := Lib.hid (chgTo_no xs k)
      have hCH : chg xs k = (flt .f32 (xs.getD k 0) 0 != flt .f32 (xs.getD (k + 1) 0) 0) := rfl
      have hDl := chgTo_len xs k
      generalize xs.getD k 0 = x at *
      generalize xs.getD (k + 1) 0 = y at *
      generalize chg xs k = ch at *
      generalize hD : chgTo xs k = D at *
      have HD := Lib.hid hD
      clear hD
      have hlti : (k : Int) + 1 < xs.length := by omega
      have hlt0 : k < xs.length := by omega
      have hlt1 : (k : Int) < xs.length := by omega
      have hk1 : (0 : Int) ≤ (k : Int) + 1 := by omega
      have hk2 : ((k : Int) + 1).toNat = k + 1 := by omega
      go_wp2_with fail
      have hwk : IntKind.i64.wrap (k : Int) = k := IntWalk.i64_in _ (by omega)
      have hwk1 : IntKind.i64.wrap ((k : Int) + 1) = k + 1 := IntWalk.i64_in _ (by omega)
      refine wp_region_drawn (SIs (.bool true)) (by kernel_rfl) (by kernel_rfl) ?_
      repeat (first | (refine loose_ex rfl (fun K hK => ?_); go_simp; refine hK _ ?_; clear hK K) | simp only [hwk, hwk1])
      refine loose_nil ?_
      intro nq
      have hBN := HBL.out
      have hCC : (!(FloatKind.f32.format.order x 0 == some Ordering.lt) == (FloatKind.f32.format.order y 0 == some Ordering.lt)) = ch := hCH.symm
      rw [hCC]
      clear hCC hCH c0 c1
      cases ch
      · have HNN := Lib.hid (HN.out rfl)
        clear HY HN
        go_wp2_with fail
        go_roundw
        case rel =>
          refine ⟨k + 1, _, by omega, by go_num, rfl, Lib.hid (by rw [HNN.out]; exact ownsRow_below HOW.out (below_drewN (Below.refl _ _) _)), Lib.hid (below_drewN HBL.out _)⟩
        case measure => simp [intOf]; omega
      · have HYY := Lib.hid (HY.out rfl)
        clear HY HN
        go_wp2_with (refine wpList_append_own _ rfl (.tmp 27) (.tmp 30) 47 rfl w.heap.size 2 i0 (.int .i64 0) 1 8 Try.underlying47 HI.out HZ0.out HZ1.out HZ2.out rfl (by omega) _ D.length (ints D) rfl (ownsRow_below HOW.out ((below_drewN (Below.refl _ _) nq).alloc (Nat.le_refl _) _)) ⟨(wr.drewN nq).heap.size, 0, none⟩ 1 1 [.int .i64 (k : Int)] rfl rfl (one_new _ _ _) (by intro q hq; simp at hq; subst hq; rfl) (by unfold maxLen; omega) (by omega) (by simp; omega) ?_; intro v' w' how' hgr hnil; clear hnil)
        go_roundw
        case rel =>
          refine ⟨k + 1, v', by omega, by go_num, rfl, Lib.hid (by rw [HYY.out]; unfold OI; rw [ints_append, List.length_append]; exact how'), Lib.hid (below_grown ((below_drewN HBL.out nq).alloc (below_drewN HBL.out nq).size _) (by have := HBL.out.size; simp; omega) hgr (fun q hq => (HOW.out.lt q hq).1))⟩
        case measure => simp [intOf]; omega
    · have hke : k = xs.length - 1 := by omega
      have hnl : ¬ ((k : Int) + 1 < xs.length) := by omega
      go_wp2
      go_ret2
      exact ⟨_, rfl, by rw [← hke]; exact HOW.out, HBL.out⟩

set_option maxRecDepth 100000 in
set_option maxHeartbeats 4000000 in
theorem specSignChanges_cells (xs : List Nat) (b off cap : Nat) (w : World) (hl : b < w.heap.size) (hs : xs.length ≤ 256) (hc : xs.length ≤ cap) (hm : cap ≤ maxLen)
    (hcell : ∀ i, i < xs.length → w.cell? ⟨b, off + i, none⟩ = some (.float .f32 (xs.getD i 0))) :
    Calls Try.prog 21 #[.slice (some ⟨b, off, none⟩) xs.length cap] w (Ib (chgTo xs (xs.length - 1)) true w) := by
  obtain ⟨i0, hi, hz0, hz1, hz2⟩ := info_parts is_info
  unfold maxLen at hm
  have HC := Lib.hid hcell
  have HI := Lib.hid hi
  have HZ0 := Lib.hid hz0
  have HZ1 := Lib.hid hz1
  have HZ2 := Lib.hid hz2
  clear hcell hi hz0 hz1 hz2
  go_enter Try.func21, Try.ntmps21
  go_wp2_with fail
  go_loopw [4, 5] (fun v i wr => ∃ (k : Nat) (v0 : Value), k ≤ xs.length - 1 ∧ i = .int .i64 k ∧ v = v0 ∧ Hid (OI w.heap.size 2 wr v0 (chgTo xs k)) ∧ Hid (Below w.heap.size w wr)) (fun _ i _ => xs.length - (intOf i).toNat)
  case atStart =>
    exact ⟨0, _, Nat.zero_le _, rfl, rfl, Lib.hid (World.ownsRow_made w #[] 0 (Nat.le_refl _) (by unfold maxLen; omega) rfl), Lib.hid ((Below.refl _ _).alloc (Nat.le_refl _) _)⟩
  case round =>
    obtain ⟨k, v0, hk, rfl, rfl, HOW, HBL⟩ := hrel
    have hzr := HBL.out.size
    obtain ⟨va, vc, rfl⟩ := HOW.out.shape
    by_cases hlt : k + 1 < xs.length
    · have hlb : b < wr.heap.size := Nat.lt_of_lt_of_le hl hzr
      have c0 : wr.cell? ⟨b, off + k, none⟩ = some (.float .f32 (xs.getD k 0)) := by rw [HBL.out.cell (p := ⟨b, off + k, none⟩) hl]; exact HC.out k (by omega)
      have c1 : wr.cell? ⟨b, off + (k + 1), none⟩ = some (.float .f32 (xs.getD (k + 1) 0)) := by rw [HBL.out.cell (p := ⟨b, off + (k + 1), none⟩) hl]; exact HC.out (k + 1) (by omega)
      have HY := Lib.hid (chgTo_yes xs k)
      have HN := Lib.hid (chgTo_no xs k)
      have hCH : chg xs k = (flt .f32 (xs.getD k 0) 0 != flt .f32 (xs.getD (k + 1) 0) 0) := rfl
      have hDl := chgTo_len xs k
      generalize xs.getD k 0 = x at *
      generalize xs.getD (k + 1) 0 = y at *
      generalize chg xs k = ch at *
      generalize hD : chgTo xs k = D at *
      have HD := Lib.hid hD
      clear hD
      have hlti : (k : Int) + 1 < xs.length := by omega
      have hlt0 : k < xs.length := by omega
      have hlt1 : (k : Int) < xs.length := by omega
      have hk1 : (0 : Int) ≤ (k : Int) + 1 := by omega
      have hk2 : ((k : Int) + 1).toNat = k + 1 := by omega
      go_wp2_with fail
      have hwk : IntKind.i64.wrap (k : Int) = k := IntWalk.i64_in _ (by omega)
      have hwk1 : IntKind.i64.wrap ((k : Int) + 1) = k + 1 := IntWalk.i64_in _ (by omega)
      refine wp_region_drawn (SIs (.bool true)) (by kernel_rfl) (by kernel_rfl) ?_
      repeat (first | (refine loose_ex rfl (fun K hK => ?_); go_simp; refine hK _ ?_; clear hK K) | simp only [hwk, hwk1])
      refine loose_nil ?_
      intro nq
      have hBN := HBL.out
      have hCC : (!(FloatKind.f32.format.order x 0 == some Ordering.lt) == (FloatKind.f32.format.order y 0 == some Ordering.lt)) = ch := hCH.symm
      rw [hCC]
      clear hCC hCH c0 c1
      cases ch
      · have HNN := Lib.hid (HN.out rfl)
        clear HY HN
        go_wp2_with fail
        go_roundw
        case rel =>
          refine ⟨k + 1, _, by omega, by go_num, rfl, Lib.hid (by rw [HNN.out]; exact ownsRow_below HOW.out (below_drewN (Below.refl _ _) _)), Lib.hid (below_drewN HBL.out _)⟩
        case measure => simp [intOf]; omega
      · have HYY := Lib.hid (HY.out rfl)
        clear HY HN
        go_wp2_with (refine wpList_append_own _ rfl (.tmp 29) (.tmp 31) 47 rfl w.heap.size 2 i0 (.int .i64 0) 1 8 Try.underlying47 HI.out HZ0.out HZ1.out HZ2.out rfl (by omega) _ D.length (ints D) rfl (ownsRow_below HOW.out ((below_drewN (Below.refl _ _) nq).alloc (Nat.le_refl _) _)) ⟨(wr.drewN nq).heap.size, 0, none⟩ 1 1 [.int .i64 (k : Int)] rfl rfl (one_new _ _ _) (by intro q hq; simp at hq; subst hq; rfl) (by unfold maxLen; omega) (by omega) (by simp; omega) ?_; intro v' w' how' hgr hnil; clear hnil)
        go_roundw
        case rel =>
          refine ⟨k + 1, v', by omega, by go_num, rfl, Lib.hid (by rw [HYY.out]; unfold OI; rw [ints_append, List.length_append]; exact how'), Lib.hid (below_grown ((below_drewN HBL.out nq).alloc (below_drewN HBL.out nq).size _) (by have := HBL.out.size; simp; omega) hgr (fun q hq => (HOW.out.lt q hq).1))⟩
        case measure => simp [intOf]; omega
    · have hke : k = xs.length - 1 := by omega
      have hnl : ¬ ((k : Int) + 1 < xs.length) := by omega
      go_wp2
      go_ret2
      exact ⟨_, rfl, by rw [← hke]; exact HOW.out, HBL.out⟩
theorem SignChanges_empty (ao : Option Addr) (cap : Nat) (w : World) :
    Calls Try.prog 23 #[.slice ao 0 cap] w (Ib [] true w) := by
  go_enter Try.func23, Try.ntmps23
  go_wp2_with fail
  go_loopw [4, 5] (fun v i wr => i = .int .i64 1 ∧ Hid (OI w.heap.size 2 wr v []) ∧ Hid (Below w.heap.size w wr)) (fun _ _ _ => 0)
  case atStart => exact ⟨rfl, Lib.hid (World.ownsRow_nil _ _ _ _), Lib.hid (Below.refl _ _)⟩
  case round =>
    obtain ⟨rfl, HOW, HBL⟩ := hrel
    obtain ⟨va, vc, rfl⟩ := HOW.out.shape
    go_wp2
    go_ret2
    exact ⟨_, rfl, HOW.out, HBL.out⟩
theorem specSignChanges_empty (ao : Option Addr) (cap : Nat) (w : World) :
    Calls Try.prog 21 #[.slice ao 0 cap] w (Ib [] true w) := by
  go_enter Try.func21, Try.ntmps21
  go_wp2_with fail
  go_loopw [4, 5] (fun v i wr => i = .int .i64 0 ∧ Hid (OI w.heap.size 2 wr v []) ∧ Hid (Below w.heap.size w wr)) (fun _ _ _ => 0)
  case atStart => exact ⟨rfl, Lib.hid (World.ownsRow_made w #[] 0 (Nat.le_refl _) (by unfold maxLen; omega) rfl), Lib.hid ((Below.refl _ _).alloc (Nat.le_refl _) _)⟩
  case round =>
    obtain ⟨rfl, HOW, HBL⟩ := hrel
    obtain ⟨va, vc, rfl⟩ := HOW.out.shape
    go_wp2
    go_ret2
    exact ⟨_, rfl, HOW.out, HBL.out⟩
theorem SignChanges_ok (xs : List Nat) (u : Value) (w : World) (h : FSl w u xs) (hm : xs.length ≤ 9223372036854775807) :
    Calls Try.prog 23 #[u] w (Ib (chgV xs) (decide (xs.length ≤ 256)) w) := by
  unfold chgV
  by_cases hl : xs.length ≤ 256
  · rw [if_pos hl, decide_eq_true hl]
    rcases h.cases with ⟨rfl, ao, cap, rfl, _⟩ | ⟨hp, b, off, cap, hb, rfl, hc, hm, hcell⟩
    · exact SignChanges_empty _ _ _
    · exact SignChanges_cells xs b off cap w hb hl hc hm hcell
  · rw [if_neg hl, decide_eq_false hl]
    obtain ⟨_, ao, cap, rfl, _⟩ := h
    rw [flts_length]
    exact SignChanges_long xs _ _ _ (by omega) hm
theorem specSignChanges_ok (xs : List Nat) (u : Value) (w : World) (h : FSl w u xs) (hm : xs.length ≤ 9223372036854775807) :
    Calls Try.prog 21 #[u] w (Ib (chgV xs) (decide (xs.length ≤ 256)) w) := by
  unfold chgV
  by_cases hl : xs.length ≤ 256
  · rw [if_pos hl, decide_eq_true hl]
    rcases h.cases with ⟨rfl, ao, cap, rfl, _⟩ | ⟨hp, b, off, cap, hb, rfl, hc, hm, hcell⟩
    · exact specSignChanges_empty _ _ _
    · exact specSignChanges_cells xs b off cap w hb hl hc hm hcell
  · rw [if_neg hl, decide_eq_false hl]
    obtain ⟨_, ao, cap, rfl, _⟩ := h
    rw [flts_length]
    exact specSignChanges_long xs _ _ _ (by omega) hm
end Go.Proofs.Ytkpokgfllipabaa
