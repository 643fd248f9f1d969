/- Shapes copied: no block that a copy makes is frozen. -/
import Derived.Test.YthkokkocdmbcgaaDoorMark
namespace Go.Proofs.FX
open Go Go.RowKit Go.Deep
end Go.Proofs.FX
namespace Go.Proofs.YthkokkocdmbcgaaDoor
open Go.Proofs.FX Go.RowKit Go.Deep
/-- A new list of the same numbers, in a new block. -/
def NewXF (xs : List Nat) (w : World) (e : Ending) (w' : World) : Prop := ∃ u, e = .returned u ∧ FSx w.heap.size w' u xs ∧ Below w.heap.size w w' ∧ Sf w.heap.size w' ∧ ∃ ad cap, u = .slice (some ad) xs.length cap
theorem toFx_cellsF (xs : List Nat) (b off cap : Nat) (w : World) (hb : b < w.heap.size) (hx : ∀ x ∈ xs, x < 4294967296) (hl : xs.length ≤ 1048576)
    (hcell : ∀ i, i < xs.length → w.cell? ⟨b, off + i, none⟩ = some (.float .f32 (xs.getD i 0))) :
    Calls Tryd.prog 64 #[.slice (some ⟨b, off, none⟩) xs.length cap] w (NewXF xs w) := by
  obtain ⟨i0, hi, hz0, hz1, hz2⟩ := info_parts toF_info
  have hmk := run_make (P := Tryd.prog) w 59 101 i0 (.float .f32 0) Tryd.underlying59 hi hz0 .i64 .i64 xs.length xs.length (by omega) (by omega) (by rw [hz2]; omega) (by omega)
  have HC := Lib.hid hcell
  clear hcell
  go_enter Tryd.func64, Tryd.ntmps64
  go_wp2
  go_loopw [4] (fun i wr => ∃ k : Nat, ∃ cs : Array Value, k ≤ xs.length ∧ i = .int .i64 k ∧ wr.heap[w.heap.size]? = some (.cells cs 101 (0, 0)) ∧ cs.size = xs.length ∧ (∀ j, j < k → cs[j]? = some (.float .f32 (xs.getD j 0))) ∧ Below w.heap.size w wr ∧ Hid (Sf w.heap.size wr)) (fun i _ => xs.length - (intOf i).toNat)
  case atStart =>
    refine ⟨0, _, Nat.zero_le _, rfl, heap_alloc_new _ _, ?_, fun j hj => by omega, (Below.refl _ _).alloc (Nat.le_refl _) _, Lib.hid ((Sf.self w).alloc _ _)⟩
    rw [size_madeCells]
  case round =>
    obtain ⟨k, cs, hk, rfl, hh, hsz, hcs, hbl, HSF⟩ := hrel
    have HH := Lib.hid hh
    have HCS := Lib.hid hcs
    have HSZ := Lib.hid hsz
    clear hh hcs hsz hmk
    by_cases hlt : k < xs.length
    · have g1 : wr.cell? ⟨b, off + k, none⟩ = some (.float .f32 (xs.getD k 0)) := by
        rw [hbl.cell (p := ⟨b, off + k, none⟩) hb]; exact HC.out k hlt
      have g2 : wr.cell? ⟨w.heap.size, k, none⟩ = some (cs[k]'(by rw [HSZ.out]; exact hlt)) := by
        rw [cell_of_row wr w.heap.size k cs _ _ HH.out]; exact Array.getElem?_eq_getElem _
      have g3 : wr.frozen? ⟨w.heap.size, k, none⟩ = false := frozen_of_row wr _ _ _ _ HH.out
      generalize hxk : xs.getD k 0 = x at g1
      have HXK := Lib.hid hxk
      clear hxk
      generalize cs[k]'(by rw [HSZ.out]; exact hlt) = old at g2
      go_wp2
      go_roundw
      case rel =>
        refine ⟨k + 1, cs.setIfInBounds k (.float .f32 x), by omega, by go_num, heap_setCell_same wr w.heap.size k cs _ _ HH.out, by simpa using HSZ.out, fun j hj => ?_, hbl.setCell (Nat.le_refl _) _, Lib.hid (HSF.out.setCell _ _)⟩
        have hs := HSZ.out
        by_cases hjk : j = k
        · subst hjk
          rw [HXK.out, Array.getElem?_setIfInBounds_self_of_lt (by omega)]
        · rw [Array.getElem?_setIfInBounds_ne (fun e => hjk e.symm)]
          exact HCS.out j (by omega)
      case measure => simp [intOf]; omega
    · go_wp2
      go_ret
      have hkl : k = xs.length := by omega
      have hs := HSZ.out
      refine ⟨_, rfl, ⟨hx, some ⟨w.heap.size, 0, none⟩, xs.length, rfl, Nat.le_refl _, ?_, ?_⟩, hbl, HSF.out, _, _, rfl⟩
      · unfold maxLen; omega
      · refine .inr ⟨w.heap.size, 0, Nat.le_refl _, ?_, rfl, fun i hi => ?_⟩
        · have hg := HH.out
          exact (Array.getElem?_eq_some_iff.1 hg).1
        · rw [Nat.zero_add, cell_of_row wr w.heap.size i cs _ _ HH.out]
          exact HCS.out i (by omega)
theorem toFx_emptyF (ao : Option Addr) (cap : Nat) (w : World) :
    Calls Tryd.prog 64 #[.slice ao 0 cap] w (NewXF [] w) := by
  obtain ⟨i0, hi, hz0, hz1, hz2⟩ := info_parts toF_info
  have hmk := run_make (P := Tryd.prog) w 59 101 i0 (.float .f32 0) Tryd.underlying59 hi hz0 .i64 .i64 0 0 (by omega) (by omega) (by rw [hz2]; omega) (by omega)
  go_enter Tryd.func64, Tryd.ntmps64
  go_wp2
  go_loopw [4] (fun i wr => i = .int .i64 0 ∧ Below w.heap.size w wr ∧ Hid (Sf w.heap.size wr)) (fun i _ => 0)
  case atStart => exact ⟨rfl, (Below.refl _ _).alloc (Nat.le_refl _) _, Lib.hid ((Sf.self w).alloc _ _)⟩
  case round =>
    obtain ⟨rfl, hbl, HSF⟩ := hrel
    go_wp2
    go_ret
    exact ⟨_, rfl, ⟨by simp, some ⟨w.heap.size, 0, none⟩, 0, rfl, Nat.le_refl _, by simp [maxLen], .inl rfl⟩, hbl, HSF.out, _, _, rfl⟩
theorem toFx_okF (xs : List Nat) (v : Value) (w : World) (h : FSl w v xs) (hl : xs.length ≤ 1048576) :
    Calls Tryd.prog 64 #[v] w (NewXF xs w) := by
  rcases h.cases with ⟨rfl, ao, cap, rfl, _⟩ | ⟨hp, b, off, cap, hb, rfl, hc, hm, hcell⟩
  · exact toFx_emptyF _ _ _
  · exact toFx_cellsF xs b off cap w hb h.1 hl hcell
/-- A node whose numbers lie in a new block. -/
def NewNF (nd : Nd) (w : World) (e : Ending) (w' : World) : Prop := ∃ u, e = .returned (ndv nd u) ∧ FSx w.heap.size w' u nd.xs ∧ Below w.heap.size w w' ∧ Sf w.heap.size w'
theorem toNode_okF (nd : Nd) (u : Value) (w : World) (h : FSl w u nd.xs) (hl : nd.xs.length ≤ 1048576) :
    Calls Tryd.prog 32 #[ndv nd u] w (NewNF nd w) := by
  have HS := Lib.hid (fun w' (hb : Below w.heap.size w w') => toFx_okF nd.xs u w' (h.below hb) hl)
  obtain ⟨ao, cap, rfl⟩ := h.form
  clear h
  go_enter Tryd.func32, Tryd.ntmps32
  go_wp2_with fail
  refine (HS.out _ (by (repeat (first | exact Below.refl _ _ | assumption | refine below_drewN ?_ _ | refine Below.setCell ?_ (by first | omega | (simp <;> omega)) _ | refine Below.alloc ?_ (by first | omega | (simp <;> omega)) _)))).mono ?_
  rintro e w4 ⟨u1, rfl, hu, hb, hsf, -⟩
  have HSF : Hid (Sf w.heap.size w4) := Lib.hid (Sf.below (by (repeat (first | exact Sf.self _ | refine Sf.setCell ?_ _ _ | refine Sf.alloc ?_ _ _))) hb hsf)
  clear hsf
  obtain ⟨hcc, hff⟩ := Grew.cells hb
  have hs4 := Below.size hb
  simp at hs4
  have hBB : Below w.heap.size w w4 := Below.trans (by (repeat (first | exact Below.refl _ _ | assumption | refine below_drewN ?_ _ | refine Below.setCell ?_ (by first | omega | (simp <;> omega)) _ | refine Below.alloc ?_ (by first | omega | (simp <;> omega)) _))) (Below.mono hb (by simp <;> omega))
  have HU := Lib.hid hu
  obtain ⟨ao1, cap1, rfl⟩ := hu.form
  clear hb hu
  go_wp2_with fail
  refine bodyPost_ret (v := ndv nd (.slice ao1 nd.xs.length cap1)) (by simp [results, Tryd.results32, go_sem, hcc]) rfl ⟨_, rfl, ?_, ?_, ?_⟩
  · refine ((HU.out.mono' (lo' := w.heap.size + 1 + 1 + 1) (by simp)).keeps ((((((Keeps.refl _ _).setCell ?_ _).setCell ?_ _).setCell ?_ _).setCell ?_ _).setCell ?_ _)).mono (by omega)
    all_goals first | omega | (simp; done) | (simp; omega)
  · repeat (refine Below.setCell ?_ (by first | omega | (simp <;> omega)) _)
    exact hBB
  · repeat (refine Sf.setCell ?_ _ _)
    exact HSF.out
/-- A list of nodes in new blocks. -/
def NewSF (ns : List Nd) (w : World) (e : Ending) (w' : World) : Prop := ∃ u, e = .returned u ∧ NSx w.heap.size w' u ns ∧ Below w.heap.size w w' ∧ Sf w.heap.size w'
theorem toNodeS_cellsF (ns : List Nd) (b off cap : Nat) (w : World) (hb : b < w.heap.size) (ht : total ns ≤ 1048576)
    (hcell : ∀ i, i < ns.length → NdAt 0 w b (off + i * 4) (ns.getD i nd0)) :
    Calls Tryd.prog 56 #[.slice (some ⟨b, off, none⟩) ns.length cap] w (NewSF ns w) := by
  obtain ⟨i0, hi, hz0, hz1, hz2⟩ := info_parts toN_info
  have hln : ns.length ≤ 1048576 := Nat.le_trans (total_ge ns) ht
  have hmk := run_make (P := Tryd.prog) w 24 64 i0 _ Tryd.underlying24 hi hz0 .i64 .i64 ns.length ns.length (by omega) (by omega) (by rw [hz2]; omega) (by omega)
  rw [hz1] at hmk
  have HC := Lib.hid hcell
  clear hcell
  go_enter Tryd.func56, Tryd.ntmps56
  go_wp2
  go_loopw [4] (fun i wr => ∃ k : Nat, ∃ cs : Array Value, k ≤ ns.length ∧ i = .int .i64 k ∧ wr.heap[w.heap.size]? = some (.cells cs 64 (0, 0)) ∧ cs.size = ns.length * 4 ∧ RowN (w.heap.size + 1) wr cs ns k ∧ Below w.heap.size w wr ∧ Hid (Sf w.heap.size wr)) (fun i _ => ns.length - (intOf i).toNat)
  case atStart =>
    refine ⟨0, _, Nat.zero_le _, rfl, heap_alloc_new _ _, ?_, RowN.zero _ _ _ _, (Below.refl _ _).alloc (Nat.le_refl _) _, Lib.hid ((Sf.self w).alloc _ _)⟩
    rw [size_madeCells]
  case round =>
    obtain ⟨k, cs, hk, rfl, hh, hsz, hrow, hbl, HSF⟩ := hrel
    have HH := Lib.hid hh
    have HROW := Lib.hid hrow
    have HSZ := Lib.hid hsz
    clear hh hrow hsz hmk
    by_cases hlt : k < ns.length
    · obtain ⟨hok, c0, c1, c2, u, c3, hx⟩ := (HC.out k hlt).keeps (keeps_below hbl 0) (Nat.zero_le _) hb
      have hx2 := total_at ns k hlt
      generalize hnd0 : ns.getD k nd0 = nd at hok c0 c1 c2 c3 hx hx2
      have hnd := Lib.hid hnd0
      clear hnd0
      have HS := Lib.hid (toNode_okF nd u wr hx.toFSl (by omega))
      obtain ⟨ao, cp, rfl⟩ := hx.form
      clear hx
      have hlb : b < wr.heap.size := Nat.lt_of_lt_of_le hb hbl.size
      go_wp2_with fail
      refine HS.out.mono ?_
      rintro e w4 ⟨u1, rfl, hu, hb4, hsf⟩
      have HSF4 := Lib.hid (HSF.out.below hb4 hsf)
      clear hsf
      have hlt4 : w.heap.size < wr.heap.size := (Array.getElem?_eq_some_iff.1 HH.out).1
      have H4 : Hid (w4.heap[w.heap.size]? = some (.cells cs 64 (0, 0))) := Lib.hid (by rw [hb4.block _ hlt4]; exact HH.out)
      have hcz : k * 4 + 4 ≤ cs.size := by rw [HSZ.out]; omega
      have d0 : w4.cell? ⟨w.heap.size, k * 4, none⟩ = some (cs[k * 4]'(by omega)) := by rw [cell_of_row w4 _ _ cs _ _ H4.out]; exact Array.getElem?_eq_getElem _
      have d1 : w4.cell? ⟨w.heap.size, k * 4 + 1, none⟩ = some (cs[k * 4 + 1]'(by omega)) := by rw [cell_of_row w4 _ _ cs _ _ H4.out]; exact Array.getElem?_eq_getElem _
      have d2 : w4.cell? ⟨w.heap.size, k * 4 + 2, none⟩ = some (cs[k * 4 + 2]'(by omega)) := by rw [cell_of_row w4 _ _ cs _ _ H4.out]; exact Array.getElem?_eq_getElem _
      have d3 : w4.cell? ⟨w.heap.size, k * 4 + 3, none⟩ = some (cs[k * 4 + 3]'(by omega)) := by rw [cell_of_row w4 _ _ cs _ _ H4.out]; exact Array.getElem?_eq_getElem _
      have f0 : w4.frozen? ⟨w.heap.size, k * 4, none⟩ = false := frozen_of_row w4 _ _ _ _ H4.out
      have f1 : w4.frozen? ⟨w.heap.size, k * 4 + 1, none⟩ = false := frozen_of_row w4 _ _ _ _ H4.out
      have f2 : w4.frozen? ⟨w.heap.size, k * 4 + 2, none⟩ = false := frozen_of_row w4 _ _ _ _ H4.out
      have f3 : w4.frozen? ⟨w.heap.size, k * 4 + 3, none⟩ = false := frozen_of_row w4 _ _ _ _ H4.out
      generalize cs[k * 4]'(by omega) = o0 at d0
      generalize cs[k * 4 + 1]'(by omega) = o1 at d1
      generalize cs[k * 4 + 2]'(by omega) = o2 at d2
      generalize cs[k * 4 + 3]'(by omega) = o3 at d3
      have HU := Lib.hid hu
      obtain ⟨ao1, cap1, rfl⟩ := hu.form
      have hb5 := hbl.trans (hb4.mono hbl.size)
      have hk4 := keeps_below hb4 (w.heap.size + 1)
      clear hu hb4 c0 c1 c2 c3
      go_wp2_with fail
      go_roundw
      case rel =>
        refine ⟨k + 1, set4 cs (k * 4) (.int .i64 nd.k) (.int .i64 nd.a) (.int .i64 nd.b) (.slice ao1 nd.xs.length cap1), by omega, by go_num, ?_, by rw [set4_size]; exact HSZ.out, ?_, ?_, Lib.hid ((((HSF4.out.setCell _ _).setCell _ _).setCell _ _).setCell _ _)⟩
        · exact heap_set4 H4.out
        · refine HROW.out.step ((((hk4.setCell ?_ _).setCell ?_ _).setCell ?_ _).setCell ?_ _) hcz hnd.out ((HU.out.mono (by omega)).keeps (((((Keeps.refl _ _).setCell ?_ _).setCell ?_ _).setCell ?_ _).setCell ?_ _))
          all_goals exact Nat.lt_succ_self _
        · exact (((hb5.setCell (Nat.le_refl _) _).setCell (Nat.le_refl _) _).setCell (Nat.le_refl _) _).setCell (Nat.le_refl _) _
      case measure => simp [intOf]; omega
    · go_wp2
      go_ret
      have hkl : k = ns.length := by omega
      subst hkl
      refine ⟨_, rfl, NSx.of_row HH.out (fun j hj => ?_) (fun i hi => (HC.out i hi).ok) (Nat.le_refl _) (Nat.le_refl _) (by unfold maxLen; omega), hbl, HSF.out⟩
      obtain ⟨e0, e1, e2, u, e3, hu⟩ := HROW.out j hj
      exact ⟨e0, e1, e2, u, e3, hu.mono (Nat.le_succ _)⟩
theorem toNodeS_emptyF (ao : Option Addr) (cap : Nat) (w : World) :
    Calls Tryd.prog 56 #[.slice ao 0 cap] w (NewSF [] w) := by
  obtain ⟨i0, hi, hz0, hz1, hz2⟩ := info_parts toN_info
  have hmk := run_make (P := Tryd.prog) w 24 64 i0 _ Tryd.underlying24 hi hz0 .i64 .i64 0 0 (by omega) (by omega) (by rw [hz2]; omega) (by omega)
  go_enter Tryd.func56, Tryd.ntmps56
  go_wp2
  go_loopw [4] (fun i wr => i = .int .i64 0 ∧ Below w.heap.size w wr ∧ Hid (Sf w.heap.size wr)) (fun i _ => 0)
  case atStart => exact ⟨rfl, (Below.refl _ _).alloc (Nat.le_refl _) _, Lib.hid ((Sf.self w).alloc _ _)⟩
  case round =>
    obtain ⟨rfl, hbl, HSF⟩ := hrel
    go_wp2
    go_ret
    exact ⟨_, rfl, ⟨some ⟨w.heap.size, 0, none⟩, 0, rfl, Nat.le_refl _, by simp [maxLen], .inl rfl⟩, hbl, HSF.out⟩
theorem toNodeS_okF (ns : List Nd) (v : Value) (w : World) (h : NSx 0 w v ns) (ht : total ns ≤ 1048576) :
    Calls Tryd.prog 56 #[v] w (NewSF ns w) := by
  rcases h.cases with ⟨rfl, ao, cap, rfl, _⟩ | ⟨hp, b, off, cap, _, hlt, rfl, hc, hm, hcell⟩
  · exact toNodeS_emptyF _ _ _
  · exact toNodeS_cellsF ns b off cap w hlt ht hcell
/-- A shape in new blocks. -/
def NewHF (ns : List Nd) (w : World) (e : Ending) (w' : World) : Prop := ∃ u, e = .returned (.agg #[u]) ∧ NSx w.heap.size w' u ns ∧ Below w.heap.size w w' ∧ Sf w.heap.size w'
theorem toShape_okF (ns : List Nd) (v : Value) (w : World) (h : NSx 0 w v ns) (ht : total ns ≤ 1048576) :
    Calls Tryd.prog 24 #[.agg #[v]] w (NewHF ns w) := by
  have HS := Lib.hid (fun w' (hb : Below w.heap.size w w') => toNodeS_okF ns v w' (h.below hb) ht)
  obtain ⟨ao, cap, rfl⟩ := h.form
  clear h
  go_enter Tryd.func24, Tryd.ntmps24
  go_wp2_with fail
  refine (HS.out _ (by (repeat (first | exact Below.refl _ _ | assumption | refine below_drewN ?_ _ | refine Below.setCell ?_ (by first | omega | (simp <;> omega)) _ | refine Below.alloc ?_ (by first | omega | (simp <;> omega)) _)))).mono ?_
  rintro e w4 ⟨u1, rfl, hu, hb, hsf⟩
  have HSF : Hid (Sf w.heap.size w4) := Lib.hid (Sf.below (by (repeat (first | exact Sf.self _ | refine Sf.setCell ?_ _ _ | refine Sf.alloc ?_ _ _))) hb hsf)
  clear hsf
  obtain ⟨hcc, hff⟩ := Grew.cells hb
  have hs4 := Below.size hb
  simp at hs4
  have hBB : Below w.heap.size w w4 := Below.trans (by (repeat (first | exact Below.refl _ _ | assumption | refine below_drewN ?_ _ | refine Below.setCell ?_ (by first | omega | (simp <;> omega)) _ | refine Below.alloc ?_ (by first | omega | (simp <;> omega)) _))) (Below.mono hb (by simp <;> omega))
  have HU := Lib.hid hu
  obtain ⟨ao1, cap1, rfl⟩ := hu.form
  clear hb hu
  go_wp2_with fail
  refine bodyPost_ret (v := .agg #[.slice ao1 ns.length cap1]) (by simp [results, Tryd.results24, go_sem, hcc]) rfl ⟨_, rfl, ?_, ?_, ?_⟩
  · refine ((HU.out.mono' (lo' := w.heap.size + 1 + 1 + 1) (by simp)).keeps (((Keeps.refl _ _).setCell ?_ _).setCell ?_ _)).mono (by omega)
    all_goals first | omega | (simp; done) | (simp; omega)
  · repeat (refine Below.setCell ?_ (by first | omega | (simp <;> omega)) _)
    exact hBB
  · repeat (refine Sf.setCell ?_ _ _)
    exact HSF.out
end Go.Proofs.YthkokkocdmbcgaaDoor
