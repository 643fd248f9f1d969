/- Shapes: lists of nodes copied. -/
import Derived.Test.YthkokkocdmbcgaaDoorShapes2
import Derived.Test.YthkokkocdmbcgaaDoorRow
namespace Go.Proofs.YthkokkocdmbcgaaDoor
open Go.Proofs.FX Go.RowKit Go.Deep
theorem toN_info : (Tryd.prog.info? 64).map (fun i => (i.zero, i.size, i.bytes)) = some (some (.agg #[.int .i64 0, .int .i64 0, .int .i64 0, .slice none 0 0]), 4, 48) := by kernel_rfl
/-- A list of nodes in new blocks. -/
def NewS (ns : List Nd) (w : World) (e : Ending) (w' : World) : Prop := ∃ u, e = .returned u ∧ NSx w.heap.size w' u ns ∧ Below w.heap.size w w'
theorem toNodeS_cells (ns : List Nd) (b off cap : Nat) (w : World) (hb : b < w.heap.size) (ht : total ns ≤ 1048576)
    (hcell : ∀ i, i < ns.length → NdAt 0 w b (off + i * 4) (ns.getD i nd0)) :
    Calls Tryd.prog 56 #[.slice (some ⟨b, off, none⟩) ns.length cap] w (NewS ns w) := by
  obtain ⟨i0, hi, hz0, hz1, hz2⟩ := info_parts toN_info
  have hln : ns.length ≤ 1048576 := Nat.le_trans (total_ge ns) ht
  have hmk := run_make (P := Tryd.prog) w 24 64 i0 _ Tryd.underlying24 hi hz0 .i64 .i64 ns.length ns.length (by omega) (by omega) (by rw [hz2]; omega) (by omega)
  rw [hz1] at hmk
  have HC := Lib.hid hcell
  clear hcell
  go_enter Tryd.func56, Tryd.ntmps56
  go_wp2
  go_loopw [4] (fun i wr => ∃ k : Nat, ∃ cs : Array Value, k ≤ ns.length ∧ i = .int .i64 k ∧ wr.heap[w.heap.size]? = some (.cells cs 64 (0, 0)) ∧ cs.size = ns.length * 4 ∧ RowN (w.heap.size + 1) wr cs ns k ∧ Below w.heap.size w wr) (fun i _ => ns.length - (intOf i).toNat)
  case atStart =>
    refine ⟨0, _, Nat.zero_le _, rfl, heap_alloc_new _ _, ?_, RowN.zero _ _ _ _, (Below.refl _ _).alloc (Nat.le_refl _) _⟩
    rw [size_madeCells]
  case round =>
    obtain ⟨k, cs, hk, rfl, hh, hsz, hrow, hbl⟩ := hrel
    have HH := Lib.hid hh
    have HROW := Lib.hid hrow
    have HSZ := Lib.hid hsz
    clear hh hrow hsz hmk
    by_cases hlt : k < ns.length
    · obtain ⟨hok, c0, c1, c2, u, c3, hx⟩ := (HC.out k hlt).keeps (keeps_below hbl 0) (Nat.zero_le _) hb
      have hx2 := total_at ns k hlt
      generalize hnd0 : ns.getD k nd0 = nd at hok c0 c1 c2 c3 hx hx2
      have hnd := Lib.hid hnd0
      clear hnd0
      have HS := Lib.hid (toNode_ok nd u wr hx.toFSl (by omega))
      obtain ⟨ao, cp, rfl⟩ := hx.form
      clear hx
      have hlb : b < wr.heap.size := Nat.lt_of_lt_of_le hb hbl.size
      go_wp2_with fail
      refine HS.out.mono ?_
      rintro e w4 ⟨u1, rfl, hu, hb4⟩
      have hlt4 : w.heap.size < wr.heap.size := (Array.getElem?_eq_some_iff.1 HH.out).1
      have H4 : Hid (w4.heap[w.heap.size]? = some (.cells cs 64 (0, 0))) := Lib.hid (by rw [hb4.block _ hlt4]; exact HH.out)
      have hcz : k * 4 + 4 ≤ cs.size := by rw [HSZ.out]; omega
      have d0 : w4.cell? ⟨w.heap.size, k * 4, none⟩ = some (cs[k * 4]'(by omega)) := by rw [cell_of_row w4 _ _ cs _ _ H4.out]; exact Array.getElem?_eq_getElem _
      have d1 : w4.cell? ⟨w.heap.size, k * 4 + 1, none⟩ = some (cs[k * 4 + 1]'(by omega)) := by rw [cell_of_row w4 _ _ cs _ _ H4.out]; exact Array.getElem?_eq_getElem _
      have d2 : w4.cell? ⟨w.heap.size, k * 4 + 2, none⟩ = some (cs[k * 4 + 2]'(by omega)) := by rw [cell_of_row w4 _ _ cs _ _ H4.out]; exact Array.getElem?_eq_getElem _
      have d3 : w4.cell? ⟨w.heap.size, k * 4 + 3, none⟩ = some (cs[k * 4 + 3]'(by omega)) := by rw [cell_of_row w4 _ _ cs _ _ H4.out]; exact Array.getElem?_eq_getElem _
      have f0 : w4.frozen? ⟨w.heap.size, k * 4, none⟩ = false := frozen_of_row w4 _ _ _ _ H4.out
      have f1 : w4.frozen? ⟨w.heap.size, k * 4 + 1, none⟩ = false := frozen_of_row w4 _ _ _ _ H4.out
      have f2 : w4.frozen? ⟨w.heap.size, k * 4 + 2, none⟩ = false := frozen_of_row w4 _ _ _ _ H4.out
      have f3 : w4.frozen? ⟨w.heap.size, k * 4 + 3, none⟩ = false := frozen_of_row w4 _ _ _ _ H4.out
      generalize cs[k * 4]'(by omega) = o0 at d0
      generalize cs[k * 4 + 1]'(by omega) = o1 at d1
      generalize cs[k * 4 + 2]'(by omega) = o2 at d2
      generalize cs[k * 4 + 3]'(by omega) = o3 at d3
      have HU := Lib.hid hu
      obtain ⟨ao1, cap1, rfl⟩ := hu.form
      have hb5 := hbl.trans (hb4.mono hbl.size)
      have hk4 := keeps_below hb4 (w.heap.size + 1)
      clear hu hb4 c0 c1 c2 c3
      go_wp2_with fail
      go_roundw
      case rel =>
        refine ⟨k + 1, set4 cs (k * 4) (.int .i64 nd.k) (.int .i64 nd.a) (.int .i64 nd.b) (.slice ao1 nd.xs.length cap1), by omega, by go_num, ?_, by rw [set4_size]; exact HSZ.out, ?_, ?_⟩
        · exact heap_set4 H4.out
        · refine HROW.out.step ((((hk4.setCell ?_ _).setCell ?_ _).setCell ?_ _).setCell ?_ _) hcz hnd.out ((HU.out.mono (by omega)).keeps (((((Keeps.refl _ _).setCell ?_ _).setCell ?_ _).setCell ?_ _).setCell ?_ _))
          all_goals exact Nat.lt_succ_self _
        · exact (((hb5.setCell (Nat.le_refl _) _).setCell (Nat.le_refl _) _).setCell (Nat.le_refl _) _).setCell (Nat.le_refl _) _
      case measure => simp [intOf]; omega
    · go_wp2
      go_ret
      have hkl : k = ns.length := by omega
      subst hkl
      refine ⟨_, rfl, NSx.of_row HH.out (fun j hj => ?_) (fun i hi => (HC.out i hi).ok) (Nat.le_refl _) (Nat.le_refl _) (by unfold maxLen; omega), hbl⟩
      obtain ⟨e0, e1, e2, u, e3, hu⟩ := HROW.out j hj
      exact ⟨e0, e1, e2, u, e3, hu.mono (Nat.le_succ _)⟩
theorem toNodeS_empty (ao : Option Addr) (cap : Nat) (w : World) :
    Calls Tryd.prog 56 #[.slice ao 0 cap] w (NewS [] w) := by
  obtain ⟨i0, hi, hz0, hz1, hz2⟩ := info_parts toN_info
  have hmk := run_make (P := Tryd.prog) w 24 64 i0 _ Tryd.underlying24 hi hz0 .i64 .i64 0 0 (by omega) (by omega) (by rw [hz2]; omega) (by omega)
  go_enter Tryd.func56, Tryd.ntmps56
  go_wp2
  go_loopw [4] (fun i wr => i = .int .i64 0 ∧ Below w.heap.size w wr) (fun i _ => 0)
  case atStart => exact ⟨rfl, (Below.refl _ _).alloc (Nat.le_refl _) _⟩
  case round =>
    obtain ⟨rfl, hbl⟩ := hrel
    go_wp2
    go_ret
    exact ⟨_, rfl, ⟨some ⟨w.heap.size, 0, none⟩, 0, rfl, Nat.le_refl _, by simp [maxLen], .inl rfl⟩, hbl⟩
theorem toNodeS_ok (ns : List Nd) (v : Value) (w : World) (h : NSx 0 w v ns) (ht : total ns ≤ 1048576) :
    Calls Tryd.prog 56 #[v] w (NewS ns w) := by
  rcases h.cases with ⟨rfl, ao, cap, rfl, _⟩ | ⟨hp, b, off, cap, _, hlt, rfl, hc, hm, hcell⟩
  · exact toNodeS_empty _ _ _
  · exact toNodeS_cells ns b off cap w hlt ht hcell
/-- A shape in new blocks. -/
def NewH (ns : List Nd) (w : World) (e : Ending) (w' : World) : Prop := ∃ u, e = .returned (.agg #[u]) ∧ NSx w.heap.size w' u ns ∧ Below w.heap.size w w'
theorem toShape_ok (ns : List Nd) (v : Value) (w : World) (h : NSx 0 w v ns) (ht : total ns ≤ 1048576) :
    Calls Tryd.prog 24 #[.agg #[v]] w (NewH ns w) := by
  have HS := Lib.hid (fun w' (hb : Below w.heap.size w w') => toNodeS_ok ns v w' (h.below hb) ht)
  obtain ⟨ao, cap, rfl⟩ := h.form
  clear h
  go_enter Tryd.func24, Tryd.ntmps24
  go_wp2_with fail
  refine (HS.out _ (by (repeat (first | exact Below.refl _ _ | assumption | refine below_drewN ?_ _ | refine Below.setCell ?_ (by first | omega | (simp <;> omega)) _ | refine Below.alloc ?_ (by first | omega | (simp <;> omega)) _)))).mono ?_
  rintro e w4 ⟨u1, rfl, hu, hb⟩
  obtain ⟨hcc, hff⟩ := Grew.cells hb
  have hs4 := Below.size hb
  simp at hs4
  have hBB : Below w.heap.size w w4 := Below.trans (by (repeat (first | exact Below.refl _ _ | assumption | refine below_drewN ?_ _ | refine Below.setCell ?_ (by first | omega | (simp <;> omega)) _ | refine Below.alloc ?_ (by first | omega | (simp <;> omega)) _))) (Below.mono hb (by simp <;> omega))
  have HU := Lib.hid hu
  obtain ⟨ao1, cap1, rfl⟩ := hu.form
  clear hb hu
  go_wp2_with fail
  refine bodyPost_ret (v := .agg #[.slice ao1 ns.length cap1]) (by simp [results, Tryd.results24, go_sem, hcc]) rfl ⟨_, rfl, ?_, ?_⟩
  · refine ((HU.out.mono' (lo' := w.heap.size + 1 + 1 + 1) (by simp)).keeps (((Keeps.refl _ _).setCell ?_ _).setCell ?_ _)).mono (by omega)
    all_goals first | omega | (simp; done) | (simp; omega)
  · repeat (refine Below.setCell ?_ (by first | omega | (simp <;> omega)) _)
    exact hBB
end Go.Proofs.YthkokkocdmbcgaaDoor
