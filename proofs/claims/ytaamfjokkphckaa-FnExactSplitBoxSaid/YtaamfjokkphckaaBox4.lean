/- Chapter 4: ranges of sizes and lengths. -/
import Derived.Test.YtaamfjokkphckaaBoxLaw
namespace Go.Proofs.Ytaamfjokkphckaa
open Go.Proofs.FX Go.RowKit
def sizeLo (a b : Nat) : Nat := if fgt .f32 a 0 then a else if flt .f32 b 0 then flip32 b else 0
def sizeHi (a b : Nat) : Nat := if fgt .f32 a 0 then b else if flt .f32 b 0 then flip32 a else greaterF (flip32 a) b
theorem sizeLo_lt {a b : Nat} (ha : a < 4294967296) (hb : b < 4294967296) : sizeLo a b < 4294967296 := by unfold sizeLo; (repeat' split) <;> first | exact ha | exact flip32_lt hb | decide
theorem sizeHi_lt {a b : Nat} (ha : a < 4294967296) (hb : b < 4294967296) : sizeHi a b < 4294967296 := by unfold sizeHi; (repeat' split) <;> first | exact hb | exact flip32_lt ha | exact greater_lt (flip32_lt ha) hb
theorem sizes_1 {a b : Nat} (h : fgt .f32 a 0 = true) : sizeLo a b = a ∧ sizeHi a b = b := by unfold sizeLo sizeHi; simp only [h, if_true, and_self]
theorem sizes_2 {a b : Nat} (h : fgt .f32 a 0 = false) (h2 : flt .f32 b 0 = true) : sizeLo a b = flip32 b ∧ sizeHi a b = flip32 a := by unfold sizeLo sizeHi; simp only [h, h2, if_true, if_false, Bool.false_eq_true, and_self]
theorem sizes_3 {a b : Nat} (h : fgt .f32 a 0 = false) (h2 : flt .f32 b 0 = false) : sizeLo a b = 0 ∧ sizeHi a b = greaterF (flip32 a) b := by unfold sizeLo sizeHi; simp only [h, h2, if_true, if_false, Bool.false_eq_true, and_self]
theorem fgt_raw {a b : Nat} {v : Bool} (h : fgt .f32 a b = v) : (FloatKind.f32.format.order a b == some .gt) = v := h
theorem flt_raw {a b : Nat} {v : Bool} (h : flt .f32 a b = v) : (FloatKind.f32.format.order a b == some .lt) = v := h
/-- A range. -/
def RgE (lo hi : Nat) (w : World) (e : Ending) (w' : World) : Prop := e = .returned (rng lo hi) ∧ Below w.heap.size w w'
def Rg (lo hi : Nat) (w : World) (e : Ending) (w' : World) : Prop := ∃ r s, e = .returned (rng r s) ∧ r < 4294967296 ∧ s < 4294967296 ∧ Eqv .f32 r lo ∧ Eqv .f32 s hi ∧ Below w.heap.size w w'
def VR (lo hi : Nat) (u : Value) : Prop := ∃ r s, u = rng r s ∧ r < 4294967296 ∧ s < 4294967296 ∧ Eqv .f32 r lo ∧ Eqv .f32 s hi

set_option maxHeartbeats 2000000 in
set_option maxRecDepth 100000 in
theorem SizeRange_ok (a b : Nat) (w : World) (ha : a < 4294967296) (hb0 : b < 4294967296) :
    Calls Try.prog 19 #[rng a b] w (RgE (sizeLo a b) (sizeHi a b) w) := by
  cases h1 : fgt .f32 a 0
  · have r1 := fgt_raw h1
    cases h2 : flt .f32 b 0
    · have r2 := flt_raw h2
      go_enter Try.func19, Try.ntmps19
      go_wp2_with fail
      generalize hW0 : (w.alloc (.cells #[.float .f32 a, .float .f32 b] 38)).alloc (.cells #[.float .f32 0, .float .f32 0] 38) = W0
      have hB0 : Below w.heap.size w W0 := by subst hW0; exact by (repeat (first | exact Below.refl _ _ | assumption | refine below_drewN ?_ _ | refine Below.setCell ?_ (by first | omega | (simp <;> omega)) _ | refine Below.alloc ?_ (by first | omega | (simp <;> omega)) _))
      have hK0 : W0.heap[w.heap.size]? = some (.cells #[.float .f32 a, .float .f32 b] 38) := by subst hW0; exact heap_alloc2_old _ _ _
      have hK1 : W0.heap[w.heap.size + 1]? = some (.cells #[.float .f32 0, .float .f32 0] 38) := by subst hW0; exact heap_alloc2_new _ _ _
      clear hW0
      have hZ0 : w.heap.size + 1 < W0.heap.size := (Array.getElem?_eq_some_iff.1 hK1).1
      have g0_0 : W0.cell? ⟨w.heap.size, 0, none⟩ = some (.float .f32 a) := cell_of_row W0 _ 0 _ _ _ hK0
      have f0_0 : W0.frozen? ⟨w.heap.size, 0, none⟩ = false := frozen_of_row W0 _ 0 _ _ hK0
      have g0_1 : W0.cell? ⟨w.heap.size, 1, none⟩ = some (.float .f32 b) := cell_of_row W0 _ 1 _ _ _ hK0
      have f0_1 : W0.frozen? ⟨w.heap.size, 1, none⟩ = false := frozen_of_row W0 _ 1 _ _ hK0
      have l0 : w.heap.size < W0.heap.size := (Array.getElem?_eq_some_iff.1 hK0).1
      have g1_0 : W0.cell? ⟨w.heap.size + 1, 0, none⟩ = some (.float .f32 0) := cell_of_row W0 _ 0 _ _ _ hK1
      have f1_0 : W0.frozen? ⟨w.heap.size + 1, 0, none⟩ = false := frozen_of_row W0 _ 0 _ _ hK1
      have g1_1 : W0.cell? ⟨w.heap.size + 1, 1, none⟩ = some (.float .f32 0) := cell_of_row W0 _ 1 _ _ _ hK1
      have f1_1 : W0.frozen? ⟨w.heap.size + 1, 1, none⟩ = false := frozen_of_row W0 _ 1 _ _ hK1
      have l1 : w.heap.size + 1 < W0.heap.size := (Array.getElem?_eq_some_iff.1 hK1).1
      refine wp_region_laterO 7 (SO (QL [(21, fun u => u = Value.float .f32 (flip32 a)), (24, fun u => u = Value.float .f32 (greaterF (flip32 a) b))])) (stays_SO _) (by kernel_rfl) (by kernel_rfl) ?_
      repeat (first | (refine later_exO rfl (fun K hK => ?_); apply Exists.intro; refine ⟨fun w' hw' => ?_, ?_⟩; (obtain ⟨hcc, hff⟩ := Grew.cells hw'; clear hw'; go_simp; rfl); go_simp; refine hK _ ?_; clear hK K))
      (refine later_callO rfl (fun K hK => ?_); go_simp; refine ⟨_, _, fun _ _ => ⟨rfl, rfl⟩, fun w1 hw1 => ?_, fun u y1 hx1 hu => ?_⟩)
      · refine (opposite_ok _ _ ha).mono ?_
        rintro e w2 ⟨rfl, rfl⟩
        exact ⟨_, rfl, rfl, Ext.refl _⟩
      obtain rfl : (fun u => u = Value.float .f32 (flip32 a)) u := hu
      (refine hK _ _ hx1 ?_; clear hK K)
      repeat (first | (refine later_exO rfl (fun K hK => ?_); apply Exists.intro; refine ⟨fun w' hw' => ?_, ?_⟩; (obtain ⟨hcc, hff⟩ := Grew.cells hw'; clear hw'; go_simp; rfl); go_simp; refine hK _ ?_; clear hK K))
      (refine later_callO rfl (fun K hK => ?_); go_simp; refine ⟨_, _, fun _ _ => ⟨rfl, rfl⟩, fun w1 hw1 => ?_, fun u y2 hx2 hu => ?_⟩)
      · refine (greater_ok _ _ _).mono ?_
        rintro e w2 ⟨rfl, rfl⟩
        exact ⟨_, rfl, rfl, Ext.refl _⟩
      obtain rfl : (fun u => u = Value.float .f32 (greaterF (flip32 a) b)) u := hu
      (refine hK _ _ hx2 ?_; clear hK K)
      repeat (first | (refine later_exO rfl (fun K hK => ?_); apply Exists.intro; refine ⟨fun w' hw' => ?_, ?_⟩; (obtain ⟨hcc, hff⟩ := Grew.cells hw'; clear hw'; go_simp; rfl); go_simp; refine hK _ ?_; clear hK K))
      refine later_nilO ?_
      intro w4 hw4
      simp only [List.drop_succ_cons, List.drop_zero]
      clear g0_0 f0_0 g0_1 f0_1 l0 g1_0 f1_0 g1_1 f1_1 l1
      have hE0 : Ext W0 w4 := ((hx1).trans hx2).trans hw4
      have hB1 : Below w.heap.size w w4 := hB0.trans (hE0.mono hB0.size)
      replace hK0 := hE0.heap hK0
      replace hK1 := hE0.heap hK1
      have g0_0 : w4.cell? ⟨w.heap.size, 0, none⟩ = some (.float .f32 a) := cell_of_row w4 _ 0 _ _ _ hK0
      have f0_0 : w4.frozen? ⟨w.heap.size, 0, none⟩ = false := frozen_of_row w4 _ 0 _ _ hK0
      have g0_1 : w4.cell? ⟨w.heap.size, 1, none⟩ = some (.float .f32 b) := cell_of_row w4 _ 1 _ _ _ hK0
      have f0_1 : w4.frozen? ⟨w.heap.size, 1, none⟩ = false := frozen_of_row w4 _ 1 _ _ hK0
      have l0 : w.heap.size < w4.heap.size := (Array.getElem?_eq_some_iff.1 hK0).1
      have g1_0 : w4.cell? ⟨w.heap.size + 1, 0, none⟩ = some (.float .f32 0) := cell_of_row w4 _ 0 _ _ _ hK1
      have f1_0 : w4.frozen? ⟨w.heap.size + 1, 0, none⟩ = false := frozen_of_row w4 _ 0 _ _ hK1
      have g1_1 : w4.cell? ⟨w.heap.size + 1, 1, none⟩ = some (.float .f32 0) := cell_of_row w4 _ 1 _ _ _ hK1
      have f1_1 : w4.frozen? ⟨w.heap.size + 1, 1, none⟩ = false := frozen_of_row w4 _ 1 _ _ hK1
      have l1 : w.heap.size + 1 < w4.heap.size := (Array.getElem?_eq_some_iff.1 hK1).1
      clear hw4 hx1 hx2
      go_wp2_with fail
      generalize hWs : (w4.setCell ⟨w.heap.size + 1, 0, none⟩ (.float .f32 0)).setCell ⟨w.heap.size + 1, 1, none⟩ (.float .f32 (greaterF (flip32 a) b)) = w5
      have hS : w5.heap[w.heap.size + 1]? = some (.cells #[.float .f32 0, .float .f32 (greaterF (flip32 a) b)] 38) := by
        subst hWs
        have s0 := heap_setCell_same (w4) _ 0 _ _ (.float .f32 0) hK1
        have s1 := heap_setCell_same ((w4).setCell ⟨w.heap.size + 1, 0, none⟩ (.float .f32 0)) _ 1 _ _ (.float .f32 (greaterF (flip32 a) b)) s0
        simpa using s1
      have hO : ∀ q, q ≠ w.heap.size + 1 → w5.heap[q]? = w4.heap[q]? := fun q hq => by subst hWs; rw [heap_setCell_other _ _ _ _ hq, heap_setCell_other _ _ _ _ hq]
      have hB2 : Below w.heap.size w w5 := by
        subst hWs
        have hle : w.heap.size ≤ w.heap.size + 1 := by omega
        refine Below.setCell ?_ hle _
        refine Below.setCell ?_ hle _
        repeat (first | exact hB1 | refine below_drewN ?_ _)
      clear g0_0 f0_0 g0_1 f0_1 l0 g1_0 f1_0 g1_1 f1_1 l1
      replace hK0 := (hO _ (by omega)).trans hK0
      replace hK1 := hS
      clear hS hO hWs
      have g0_0 : w5.cell? ⟨w.heap.size, 0, none⟩ = some (.float .f32 a) := cell_of_row w5 _ 0 _ _ _ hK0
      have f0_0 : w5.frozen? ⟨w.heap.size, 0, none⟩ = false := frozen_of_row w5 _ 0 _ _ hK0
      have g0_1 : w5.cell? ⟨w.heap.size, 1, none⟩ = some (.float .f32 b) := cell_of_row w5 _ 1 _ _ _ hK0
      have f0_1 : w5.frozen? ⟨w.heap.size, 1, none⟩ = false := frozen_of_row w5 _ 1 _ _ hK0
      have l0 : w.heap.size < w5.heap.size := (Array.getElem?_eq_some_iff.1 hK0).1
      have g1_0 : w5.cell? ⟨w.heap.size + 1, 0, none⟩ = some (.float .f32 0) := cell_of_row w5 _ 0 _ _ _ hK1
      have f1_0 : w5.frozen? ⟨w.heap.size + 1, 0, none⟩ = false := frozen_of_row w5 _ 0 _ _ hK1
      have g1_1 : w5.cell? ⟨w.heap.size + 1, 1, none⟩ = some (.float .f32 (greaterF (flip32 a) b)) := cell_of_row w5 _ 1 _ _ _ hK1
      have f1_1 : w5.frozen? ⟨w.heap.size + 1, 1, none⟩ = false := frozen_of_row w5 _ 1 _ _ hK1
      have l1 : w.heap.size + 1 < w5.heap.size := (Array.getElem?_eq_some_iff.1 hK1).1
      exact bodyPost_ret (v := .agg #[.float .f32 0, .float .f32 (greaterF (flip32 a) b)]) (by simp [results, Try.results19, go_sem, g1_0, g1_1]) rfl ⟨by rw [(sizes_3 h1 h2).1, (sizes_3 h1 h2).2], hB2⟩
    · have r2 := flt_raw h2
      go_enter Try.func19, Try.ntmps19
      go_wp2_with fail
      generalize hW0 : (w.alloc (.cells #[.float .f32 a, .float .f32 b] 38)).alloc (.cells #[.float .f32 0, .float .f32 0] 38) = W0
      have hB0 : Below w.heap.size w W0 := by subst hW0; exact by (repeat (first | exact Below.refl _ _ | assumption | refine below_drewN ?_ _ | refine Below.setCell ?_ (by first | omega | (simp <;> omega)) _ | refine Below.alloc ?_ (by first | omega | (simp <;> omega)) _))
      have hK0 : W0.heap[w.heap.size]? = some (.cells #[.float .f32 a, .float .f32 b] 38) := by subst hW0; exact heap_alloc2_old _ _ _
      have hK1 : W0.heap[w.heap.size + 1]? = some (.cells #[.float .f32 0, .float .f32 0] 38) := by subst hW0; exact heap_alloc2_new _ _ _
      clear hW0
      have hZ0 : w.heap.size + 1 < W0.heap.size := (Array.getElem?_eq_some_iff.1 hK1).1
      have g0_0 : W0.cell? ⟨w.heap.size, 0, none⟩ = some (.float .f32 a) := cell_of_row W0 _ 0 _ _ _ hK0
      have f0_0 : W0.frozen? ⟨w.heap.size, 0, none⟩ = false := frozen_of_row W0 _ 0 _ _ hK0
      have g0_1 : W0.cell? ⟨w.heap.size, 1, none⟩ = some (.float .f32 b) := cell_of_row W0 _ 1 _ _ _ hK0
      have f0_1 : W0.frozen? ⟨w.heap.size, 1, none⟩ = false := frozen_of_row W0 _ 1 _ _ hK0
      have l0 : w.heap.size < W0.heap.size := (Array.getElem?_eq_some_iff.1 hK0).1
      have g1_0 : W0.cell? ⟨w.heap.size + 1, 0, none⟩ = some (.float .f32 0) := cell_of_row W0 _ 0 _ _ _ hK1
      have f1_0 : W0.frozen? ⟨w.heap.size + 1, 0, none⟩ = false := frozen_of_row W0 _ 0 _ _ hK1
      have g1_1 : W0.cell? ⟨w.heap.size + 1, 1, none⟩ = some (.float .f32 0) := cell_of_row W0 _ 1 _ _ _ hK1
      have f1_1 : W0.frozen? ⟨w.heap.size + 1, 1, none⟩ = false := frozen_of_row W0 _ 1 _ _ hK1
      have l1 : w.heap.size + 1 < W0.heap.size := (Array.getElem?_eq_some_iff.1 hK1).1
      refine wp_region_laterO 7 (SO (QL [(14, fun u => u = Value.float .f32 (flip32 b)), (17, fun u => u = Value.float .f32 (flip32 a))])) (stays_SO _) (by kernel_rfl) (by kernel_rfl) ?_
      repeat (first | (refine later_exO rfl (fun K hK => ?_); apply Exists.intro; refine ⟨fun w' hw' => ?_, ?_⟩; (obtain ⟨hcc, hff⟩ := Grew.cells hw'; clear hw'; go_simp; rfl); go_simp; refine hK _ ?_; clear hK K))
      (refine later_callO rfl (fun K hK => ?_); go_simp; refine ⟨_, _, fun _ _ => ⟨rfl, rfl⟩, fun w1 hw1 => ?_, fun u y1 hx1 hu => ?_⟩)
      · refine (opposite_ok _ _ hb0).mono ?_
        rintro e w2 ⟨rfl, rfl⟩
        exact ⟨_, rfl, rfl, Ext.refl _⟩
      obtain rfl : (fun u => u = Value.float .f32 (flip32 b)) u := hu
      (refine hK _ _ hx1 ?_; clear hK K)
      repeat (first | (refine later_exO rfl (fun K hK => ?_); apply Exists.intro; refine ⟨fun w' hw' => ?_, ?_⟩; (obtain ⟨hcc, hff⟩ := Grew.cells hw'; clear hw'; go_simp; rfl); go_simp; refine hK _ ?_; clear hK K))
      (refine later_callO rfl (fun K hK => ?_); go_simp; refine ⟨_, _, fun _ _ => ⟨rfl, rfl⟩, fun w1 hw1 => ?_, fun u y2 hx2 hu => ?_⟩)
      · refine (opposite_ok _ _ ha).mono ?_
        rintro e w2 ⟨rfl, rfl⟩
        exact ⟨_, rfl, rfl, Ext.refl _⟩
      obtain rfl : (fun u => u = Value.float .f32 (flip32 a)) u := hu
      (refine hK _ _ hx2 ?_; clear hK K)
      repeat (first | (refine later_exO rfl (fun K hK => ?_); apply Exists.intro; refine ⟨fun w' hw' => ?_, ?_⟩; (obtain ⟨hcc, hff⟩ := Grew.cells hw'; clear hw'; go_simp; rfl); go_simp; refine hK _ ?_; clear hK K))
      refine later_nilO ?_
      intro w4 hw4
      simp only [List.drop_succ_cons, List.drop_zero]
      clear g0_0 f0_0 g0_1 f0_1 l0 g1_0 f1_0 g1_1 f1_1 l1
      have hE0 : Ext W0 w4 := ((hx1).trans hx2).trans hw4
      have hB1 : Below w.heap.size w w4 := hB0.trans (hE0.mono hB0.size)
      replace hK0 := hE0.heap hK0
      replace hK1 := hE0.heap hK1
      have g0_0 : w4.cell? ⟨w.heap.size, 0, none⟩ = some (.float .f32 a) := cell_of_row w4 _ 0 _ _ _ hK0
      have f0_0 : w4.frozen? ⟨w.heap.size, 0, none⟩ = false := frozen_of_row w4 _ 0 _ _ hK0
      have g0_1 : w4.cell? ⟨w.heap.size, 1, none⟩ = some (.float .f32 b) := cell_of_row w4 _ 1 _ _ _ hK0
      have f0_1 : w4.frozen? ⟨w.heap.size, 1, none⟩ = false := frozen_of_row w4 _ 1 _ _ hK0
      have l0 : w.heap.size < w4.heap.size := (Array.getElem?_eq_some_iff.1 hK0).1
      have g1_0 : w4.cell? ⟨w.heap.size + 1, 0, none⟩ = some (.float .f32 0) := cell_of_row w4 _ 0 _ _ _ hK1
      have f1_0 : w4.frozen? ⟨w.heap.size + 1, 0, none⟩ = false := frozen_of_row w4 _ 0 _ _ hK1
      have g1_1 : w4.cell? ⟨w.heap.size + 1, 1, none⟩ = some (.float .f32 0) := cell_of_row w4 _ 1 _ _ _ hK1
      have f1_1 : w4.frozen? ⟨w.heap.size + 1, 1, none⟩ = false := frozen_of_row w4 _ 1 _ _ hK1
      have l1 : w.heap.size + 1 < w4.heap.size := (Array.getElem?_eq_some_iff.1 hK1).1
      clear hw4 hx1 hx2
      go_wp2_with fail
      generalize hWs : (w4.setCell ⟨w.heap.size + 1, 0, none⟩ (.float .f32 (flip32 b))).setCell ⟨w.heap.size + 1, 1, none⟩ (.float .f32 (flip32 a)) = w5
      have hS : w5.heap[w.heap.size + 1]? = some (.cells #[.float .f32 (flip32 b), .float .f32 (flip32 a)] 38) := by
        subst hWs
        have s0 := heap_setCell_same (w4) _ 0 _ _ (.float .f32 (flip32 b)) hK1
        have s1 := heap_setCell_same ((w4).setCell ⟨w.heap.size + 1, 0, none⟩ (.float .f32 (flip32 b))) _ 1 _ _ (.float .f32 (flip32 a)) s0
        simpa using s1
      have hO : ∀ q, q ≠ w.heap.size + 1 → w5.heap[q]? = w4.heap[q]? := fun q hq => by subst hWs; rw [heap_setCell_other _ _ _ _ hq, heap_setCell_other _ _ _ _ hq]
      have hB2 : Below w.heap.size w w5 := by
        subst hWs
        have hle : w.heap.size ≤ w.heap.size + 1 := by omega
        refine Below.setCell ?_ hle _
        refine Below.setCell ?_ hle _
        repeat (first | exact hB1 | refine below_drewN ?_ _)
      clear g0_0 f0_0 g0_1 f0_1 l0 g1_0 f1_0 g1_1 f1_1 l1
      replace hK0 := (hO _ (by omega)).trans hK0
      replace hK1 := hS
      clear hS hO hWs
      have g0_0 : w5.cell? ⟨w.heap.size, 0, none⟩ = some (.float .f32 a) := cell_of_row w5 _ 0 _ _ _ hK0
      have f0_0 : w5.frozen? ⟨w.heap.size, 0, none⟩ = false := frozen_of_row w5 _ 0 _ _ hK0
      have g0_1 : w5.cell? ⟨w.heap.size, 1, none⟩ = some (.float .f32 b) := cell_of_row w5 _ 1 _ _ _ hK0
      have f0_1 : w5.frozen? ⟨w.heap.size, 1, none⟩ = false := frozen_of_row w5 _ 1 _ _ hK0
      have l0 : w.heap.size < w5.heap.size := (Array.getElem?_eq_some_iff.1 hK0).1
      have g1_0 : w5.cell? ⟨w.heap.size + 1, 0, none⟩ = some (.float .f32 (flip32 b)) := cell_of_row w5 _ 0 _ _ _ hK1
      have f1_0 : w5.frozen? ⟨w.heap.size + 1, 0, none⟩ = false := frozen_of_row w5 _ 0 _ _ hK1
      have g1_1 : w5.cell? ⟨w.heap.size + 1, 1, none⟩ = some (.float .f32 (flip32 a)) := cell_of_row w5 _ 1 _ _ _ hK1
      have f1_1 : w5.frozen? ⟨w.heap.size + 1, 1, none⟩ = false := frozen_of_row w5 _ 1 _ _ hK1
      have l1 : w.heap.size + 1 < w5.heap.size := (Array.getElem?_eq_some_iff.1 hK1).1
      exact bodyPost_ret (v := .agg #[.float .f32 (flip32 b), .float .f32 (flip32 a)]) (by simp [results, Try.results19, go_sem, g1_0, g1_1]) rfl ⟨by rw [(sizes_2 h1 h2).1, (sizes_2 h1 h2).2], hB2⟩
  · have r1 := fgt_raw h1
    go_enter Try.func19, Try.ntmps19
    go_wp2_with fail
    exact bodyPost_ret (v := .agg #[.float .f32 a, .float .f32 b]) (by simp [results, Try.results19, go_sem]) rfl ⟨by rw [(sizes_1 h1).1, (sizes_1 h1).2], by (repeat (first | exact Below.refl _ _ | assumption | refine below_drewN ?_ _ | refine Below.setCell ?_ (by first | omega | (simp <;> omega)) _ | refine Below.alloc ?_ (by first | omega | (simp <;> omega)) _))⟩
set_option maxHeartbeats 2000000 in
set_option maxRecDepth 100000 in
theorem l04Size_ok (a b : Nat) (w : World) (ha : a < 4294967296) (hb0 : b < 4294967296) :
    Calls Try.prog 39 #[rng a b] w (RgE (sizeLo a b) (sizeHi a b) w) := by
  have hna : Op.negFloat .f32 a = flip32 a := negFloat32 a ha
  have hnb : Op.negFloat .f32 b = flip32 b := negFloat32 b hb0
  cases h1 : fgt .f32 a 0
  · have r1 := fgt_raw h1
    cases h2 : flt .f32 b 0
    · have r2 := flt_raw h2
      go_enter Try.func39, Try.ntmps39
      go_wp2_with fail
      generalize hW0 : (w.alloc (.cells #[.float .f32 a, .float .f32 b] 38)).alloc (.cells #[.float .f32 0, .float .f32 0] 38) = W0
      have hB0 : Below w.heap.size w W0 := by subst hW0; exact by (repeat (first | exact Below.refl _ _ | assumption | refine below_drewN ?_ _ | refine Below.setCell ?_ (by first | omega | (simp <;> omega)) _ | refine Below.alloc ?_ (by first | omega | (simp <;> omega)) _))
      have hK0 : W0.heap[w.heap.size]? = some (.cells #[.float .f32 a, .float .f32 b] 38) := by subst hW0; exact heap_alloc2_old _ _ _
      have hK1 : W0.heap[w.heap.size + 1]? = some (.cells #[.float .f32 0, .float .f32 0] 38) := by subst hW0; exact heap_alloc2_new _ _ _
      clear hW0
      have hZ0 : w.heap.size + 1 < W0.heap.size := (Array.getElem?_eq_some_iff.1 hK1).1
      have g0_0 : W0.cell? ⟨w.heap.size, 0, none⟩ = some (.float .f32 a) := cell_of_row W0 _ 0 _ _ _ hK0
      have f0_0 : W0.frozen? ⟨w.heap.size, 0, none⟩ = false := frozen_of_row W0 _ 0 _ _ hK0
      have g0_1 : W0.cell? ⟨w.heap.size, 1, none⟩ = some (.float .f32 b) := cell_of_row W0 _ 1 _ _ _ hK0
      have f0_1 : W0.frozen? ⟨w.heap.size, 1, none⟩ = false := frozen_of_row W0 _ 1 _ _ hK0
      have l0 : w.heap.size < W0.heap.size := (Array.getElem?_eq_some_iff.1 hK0).1
      have g1_0 : W0.cell? ⟨w.heap.size + 1, 0, none⟩ = some (.float .f32 0) := cell_of_row W0 _ 0 _ _ _ hK1
      have f1_0 : W0.frozen? ⟨w.heap.size + 1, 0, none⟩ = false := frozen_of_row W0 _ 0 _ _ hK1
      have g1_1 : W0.cell? ⟨w.heap.size + 1, 1, none⟩ = some (.float .f32 0) := cell_of_row W0 _ 1 _ _ _ hK1
      have f1_1 : W0.frozen? ⟨w.heap.size + 1, 1, none⟩ = false := frozen_of_row W0 _ 1 _ _ hK1
      have l1 : w.heap.size + 1 < W0.heap.size := (Array.getElem?_eq_some_iff.1 hK1).1
      refine (mGreater_ok _ _ _).mono ?_
      rintro e w2 ⟨rfl, rfl⟩
      go_wp2_with fail
      generalize hWs : (W0.setCell ⟨w.heap.size + 1, 0, none⟩ (.float .f32 0)).setCell ⟨w.heap.size + 1, 1, none⟩ (.float .f32 (greaterF (flip32 a) b)) = w5
      have hS : w5.heap[w.heap.size + 1]? = some (.cells #[.float .f32 0, .float .f32 (greaterF (flip32 a) b)] 38) := by
        subst hWs
        have s0 := heap_setCell_same (W0) _ 0 _ _ (.float .f32 0) hK1
        have s1 := heap_setCell_same ((W0).setCell ⟨w.heap.size + 1, 0, none⟩ (.float .f32 0)) _ 1 _ _ (.float .f32 (greaterF (flip32 a) b)) s0
        simpa using s1
      have hO : ∀ q, q ≠ w.heap.size + 1 → w5.heap[q]? = W0.heap[q]? := fun q hq => by subst hWs; rw [heap_setCell_other _ _ _ _ hq, heap_setCell_other _ _ _ _ hq]
      have hB1 : Below w.heap.size w w5 := by
        subst hWs
        have hle : w.heap.size ≤ w.heap.size + 1 := by omega
        refine Below.setCell ?_ hle _
        refine Below.setCell ?_ hle _
        repeat (first | exact hB0 | refine below_drewN ?_ _)
      clear g0_0 f0_0 g0_1 f0_1 l0 g1_0 f1_0 g1_1 f1_1 l1
      replace hK0 := (hO _ (by omega)).trans hK0
      replace hK1 := hS
      clear hS hO hWs
      have g0_0 : w5.cell? ⟨w.heap.size, 0, none⟩ = some (.float .f32 a) := cell_of_row w5 _ 0 _ _ _ hK0
      have f0_0 : w5.frozen? ⟨w.heap.size, 0, none⟩ = false := frozen_of_row w5 _ 0 _ _ hK0
      have g0_1 : w5.cell? ⟨w.heap.size, 1, none⟩ = some (.float .f32 b) := cell_of_row w5 _ 1 _ _ _ hK0
      have f0_1 : w5.frozen? ⟨w.heap.size, 1, none⟩ = false := frozen_of_row w5 _ 1 _ _ hK0
      have l0 : w.heap.size < w5.heap.size := (Array.getElem?_eq_some_iff.1 hK0).1
      have g1_0 : w5.cell? ⟨w.heap.size + 1, 0, none⟩ = some (.float .f32 0) := cell_of_row w5 _ 0 _ _ _ hK1
      have f1_0 : w5.frozen? ⟨w.heap.size + 1, 0, none⟩ = false := frozen_of_row w5 _ 0 _ _ hK1
      have g1_1 : w5.cell? ⟨w.heap.size + 1, 1, none⟩ = some (.float .f32 (greaterF (flip32 a) b)) := cell_of_row w5 _ 1 _ _ _ hK1
      have f1_1 : w5.frozen? ⟨w.heap.size + 1, 1, none⟩ = false := frozen_of_row w5 _ 1 _ _ hK1
      have l1 : w.heap.size + 1 < w5.heap.size := (Array.getElem?_eq_some_iff.1 hK1).1
      exact bodyPost_ret (v := .agg #[.float .f32 0, .float .f32 (greaterF (flip32 a) b)]) (by simp [results, Try.results39, go_sem, g1_0, g1_1]) rfl ⟨by rw [(sizes_3 h1 h2).1, (sizes_3 h1 h2).2], hB1⟩
    · have r2 := flt_raw h2
      go_enter Try.func39, Try.ntmps39
      go_wp2_with fail
      exact bodyPost_ret (v := .agg #[.float .f32 (flip32 b), .float .f32 (flip32 a)]) (by simp [results, Try.results39, go_sem]) rfl ⟨by rw [(sizes_2 h1 h2).1, (sizes_2 h1 h2).2], by (repeat (first | exact Below.refl _ _ | assumption | refine below_drewN ?_ _ | refine Below.setCell ?_ (by first | omega | (simp <;> omega)) _ | refine Below.alloc ?_ (by first | omega | (simp <;> omega)) _))⟩
  · have r1 := fgt_raw h1
    go_enter Try.func39, Try.ntmps39
    go_wp2_with fail
    exact bodyPost_ret (v := .agg #[.float .f32 a, .float .f32 b]) (by simp [results, Try.results39, go_sem]) rfl ⟨by rw [(sizes_1 h1).1, (sizes_1 h1).2], by (repeat (first | exact Below.refl _ _ | assumption | refine below_drewN ?_ _ | refine Below.setCell ?_ (by first | omega | (simp <;> omega)) _ | refine Below.alloc ?_ (by first | omega | (simp <;> omega)) _))⟩
set_option maxRecDepth 100000 in
theorem specSizeRange_ok (a b : Nat) (w : World) (ha : a < 4294967296) (hb0 : b < 4294967296) :
    Calls Try.prog 17 #[rng a b] w (RgE (sizeLo a b) (sizeHi a b) w) := by
  go_enter Try.func17, Try.ntmps17
  go_wp2_with fail
  generalize hW0 : (w.alloc (.cells #[.float .f32 a, .float .f32 b] 38)).alloc (.cells #[.float .f32 0, .float .f32 0] 38) = W0
  have hB0 : Below w.heap.size w W0 := by subst hW0; exact by (repeat (first | exact Below.refl _ _ | assumption | refine below_drewN ?_ _ | refine Below.setCell ?_ (by first | omega | (simp <;> omega)) _ | refine Below.alloc ?_ (by first | omega | (simp <;> omega)) _))
  have hK0 : W0.heap[w.heap.size]? = some (.cells #[.float .f32 a, .float .f32 b] 38) := by subst hW0; exact heap_alloc2_old _ _ _
  have hK1 : W0.heap[w.heap.size + 1]? = some (.cells #[.float .f32 0, .float .f32 0] 38) := by subst hW0; exact heap_alloc2_new _ _ _
  clear hW0
  have hZ0 : w.heap.size + 1 < W0.heap.size := (Array.getElem?_eq_some_iff.1 hK1).1
  have g0_0 : W0.cell? ⟨w.heap.size, 0, none⟩ = some (.float .f32 a) := cell_of_row W0 _ 0 _ _ _ hK0
  have f0_0 : W0.frozen? ⟨w.heap.size, 0, none⟩ = false := frozen_of_row W0 _ 0 _ _ hK0
  have g0_1 : W0.cell? ⟨w.heap.size, 1, none⟩ = some (.float .f32 b) := cell_of_row W0 _ 1 _ _ _ hK0
  have f0_1 : W0.frozen? ⟨w.heap.size, 1, none⟩ = false := frozen_of_row W0 _ 1 _ _ hK0
  have l0 : w.heap.size < W0.heap.size := (Array.getElem?_eq_some_iff.1 hK0).1
  have g1_0 : W0.cell? ⟨w.heap.size + 1, 0, none⟩ = some (.float .f32 0) := cell_of_row W0 _ 0 _ _ _ hK1
  have f1_0 : W0.frozen? ⟨w.heap.size + 1, 0, none⟩ = false := frozen_of_row W0 _ 0 _ _ hK1
  have g1_1 : W0.cell? ⟨w.heap.size + 1, 1, none⟩ = some (.float .f32 0) := cell_of_row W0 _ 1 _ _ _ hK1
  have f1_1 : W0.frozen? ⟨w.heap.size + 1, 1, none⟩ = false := frozen_of_row W0 _ 1 _ _ hK1
  have l1 : w.heap.size + 1 < W0.heap.size := (Array.getElem?_eq_some_iff.1 hK1).1
  refine (l04Size_ok a b _ ha hb0).mono ?_
  rintro e w1 ⟨rfl, hb⟩
  clear g0_0 f0_0 g0_1 f0_1 l0 g1_0 f1_0 g1_1 f1_1 l1
  have hE0 : Ext W0 w1 := hb
  have hB1 : Below w.heap.size w w1 := hB0.trans (hE0.mono hB0.size)
  replace hK0 := hE0.heap hK0
  replace hK1 := hE0.heap hK1
  have g0_0 : w1.cell? ⟨w.heap.size, 0, none⟩ = some (.float .f32 a) := cell_of_row w1 _ 0 _ _ _ hK0
  have f0_0 : w1.frozen? ⟨w.heap.size, 0, none⟩ = false := frozen_of_row w1 _ 0 _ _ hK0
  have g0_1 : w1.cell? ⟨w.heap.size, 1, none⟩ = some (.float .f32 b) := cell_of_row w1 _ 1 _ _ _ hK0
  have f0_1 : w1.frozen? ⟨w.heap.size, 1, none⟩ = false := frozen_of_row w1 _ 1 _ _ hK0
  have l0 : w.heap.size < w1.heap.size := (Array.getElem?_eq_some_iff.1 hK0).1
  have g1_0 : w1.cell? ⟨w.heap.size + 1, 0, none⟩ = some (.float .f32 0) := cell_of_row w1 _ 0 _ _ _ hK1
  have f1_0 : w1.frozen? ⟨w.heap.size + 1, 0, none⟩ = false := frozen_of_row w1 _ 0 _ _ hK1
  have g1_1 : w1.cell? ⟨w.heap.size + 1, 1, none⟩ = some (.float .f32 0) := cell_of_row w1 _ 1 _ _ _ hK1
  have f1_1 : w1.frozen? ⟨w.heap.size + 1, 1, none⟩ = false := frozen_of_row w1 _ 1 _ _ hK1
  have l1 : w.heap.size + 1 < w1.heap.size := (Array.getElem?_eq_some_iff.1 hK1).1
  clear hb
  go_wp2_with fail
  generalize hWs : (w1.setCell ⟨w.heap.size + 1, 0, none⟩ (.float .f32 (sizeLo a b))).setCell ⟨w.heap.size + 1, 1, none⟩ (.float .f32 (sizeHi a b)) = w5
  have hS : w5.heap[w.heap.size + 1]? = some (.cells #[.float .f32 (sizeLo a b), .float .f32 (sizeHi a b)] 38) := by
    subst hWs
    have s0 := heap_setCell_same (w1) _ 0 _ _ (.float .f32 (sizeLo a b)) hK1
    have s1 := heap_setCell_same ((w1).setCell ⟨w.heap.size + 1, 0, none⟩ (.float .f32 (sizeLo a b))) _ 1 _ _ (.float .f32 (sizeHi a b)) s0
    simpa using s1
  have hO : ∀ q, q ≠ w.heap.size + 1 → w5.heap[q]? = w1.heap[q]? := fun q hq => by subst hWs; rw [heap_setCell_other _ _ _ _ hq, heap_setCell_other _ _ _ _ hq]
  have hB2 : Below w.heap.size w w5 := by
    subst hWs
    have hle : w.heap.size ≤ w.heap.size + 1 := by omega
    refine Below.setCell ?_ hle _
    refine Below.setCell ?_ hle _
    repeat (first | exact hB1 | refine below_drewN ?_ _)
  clear g0_0 f0_0 g0_1 f0_1 l0 g1_0 f1_0 g1_1 f1_1 l1
  replace hK0 := (hO _ (by omega)).trans hK0
  replace hK1 := hS
  clear hS hO hWs
  have g0_0 : w5.cell? ⟨w.heap.size, 0, none⟩ = some (.float .f32 a) := cell_of_row w5 _ 0 _ _ _ hK0
  have f0_0 : w5.frozen? ⟨w.heap.size, 0, none⟩ = false := frozen_of_row w5 _ 0 _ _ hK0
  have g0_1 : w5.cell? ⟨w.heap.size, 1, none⟩ = some (.float .f32 b) := cell_of_row w5 _ 1 _ _ _ hK0
  have f0_1 : w5.frozen? ⟨w.heap.size, 1, none⟩ = false := frozen_of_row w5 _ 1 _ _ hK0
  have l0 : w.heap.size < w5.heap.size := (Array.getElem?_eq_some_iff.1 hK0).1
  have g1_0 : w5.cell? ⟨w.heap.size + 1, 0, none⟩ = some (.float .f32 (sizeLo a b)) := cell_of_row w5 _ 0 _ _ _ hK1
  have f1_0 : w5.frozen? ⟨w.heap.size + 1, 0, none⟩ = false := frozen_of_row w5 _ 0 _ _ hK1
  have g1_1 : w5.cell? ⟨w.heap.size + 1, 1, none⟩ = some (.float .f32 (sizeHi a b)) := cell_of_row w5 _ 1 _ _ _ hK1
  have f1_1 : w5.frozen? ⟨w.heap.size + 1, 1, none⟩ = false := frozen_of_row w5 _ 1 _ _ hK1
  have l1 : w.heap.size + 1 < w5.heap.size := (Array.getElem?_eq_some_iff.1 hK1).1
  exact bodyPost_ret (v := .agg #[.float .f32 (sizeLo a b), .float .f32 (sizeHi a b)]) (by simp [results, Try.results17, go_sem, g1_0, g1_1]) rfl ⟨rfl, hB2⟩
set_option maxHeartbeats 2000000 in
set_option maxRecDepth 100000 in
theorem sidesBox_ok (a b c d m n : Nat) (w : World) :
    Calls Try.prog 56 #[.agg #[.float .f32 a, .float .f32 b, .float .f32 c, .float .f32 d, .float .f32 m, .float .f32 n]] w fun e w' => e = .returned (.agg #[.float .f32 a, .float .f32 c, .float .f32 m, .float .f32 b, .float .f32 d, .float .f32 n]) ∧ Below w.heap.size w w' := by
  go_enter Try.func56, Try.ntmps56
  go_wp2_with fail
  exact bodyPost_ret (v := .agg #[.float .f32 a, .float .f32 c, .float .f32 m, .float .f32 b, .float .f32 d, .float .f32 n]) (by simp [results, Try.results56, go_sem]) rfl ⟨rfl, by (repeat (first | exact Below.refl _ _ | assumption | refine below_drewN ?_ _ | refine Below.setCell ?_ (by first | omega | (simp <;> omega)) _ | refine Below.alloc ?_ (by first | omega | (simp <;> omega)) _))⟩
set_option maxHeartbeats 2000000 in
set_option maxRecDepth 100000 in
theorem eachLong_ok (a b c x y z : Nat) (w : World) :
    Calls Try.prog 68 #[.agg #[.float .f32 a, .float .f32 b, .float .f32 c, .float .f32 x, .float .f32 y, .float .f32 z], .func (.func 45) #[] #[]] w (Rg (longF a b c) (longF x y z) w) := by
  go_enter Try.func68, Try.ntmps68
  go_wp2_with fail
  generalize hW0 : (w.alloc (.cells #[.float .f32 a, .float .f32 b, .float .f32 c, .float .f32 x, .float .f32 y, .float .f32 z] 90)).alloc (.cells #[.float .f32 0, .float .f32 0] 88) = W0
  have hB0 : Below w.heap.size w W0 := by subst hW0; exact by (repeat (first | exact Below.refl _ _ | assumption | refine below_drewN ?_ _ | refine Below.setCell ?_ (by first | omega | (simp <;> omega)) _ | refine Below.alloc ?_ (by first | omega | (simp <;> omega)) _))
  have hK0 : W0.heap[w.heap.size]? = some (.cells #[.float .f32 a, .float .f32 b, .float .f32 c, .float .f32 x, .float .f32 y, .float .f32 z] 90) := by subst hW0; exact heap_alloc2_old _ _ _
  have hK1 : W0.heap[w.heap.size + 1]? = some (.cells #[.float .f32 0, .float .f32 0] 88) := by subst hW0; exact heap_alloc2_new _ _ _
  clear hW0
  have hZ0 : w.heap.size + 1 < W0.heap.size := (Array.getElem?_eq_some_iff.1 hK1).1
  have g0_0 : W0.cell? ⟨w.heap.size, 0, none⟩ = some (.float .f32 a) := cell_of_row W0 _ 0 _ _ _ hK0
  have f0_0 : W0.frozen? ⟨w.heap.size, 0, none⟩ = false := frozen_of_row W0 _ 0 _ _ hK0
  have g0_1 : W0.cell? ⟨w.heap.size, 1, none⟩ = some (.float .f32 b) := cell_of_row W0 _ 1 _ _ _ hK0
  have f0_1 : W0.frozen? ⟨w.heap.size, 1, none⟩ = false := frozen_of_row W0 _ 1 _ _ hK0
  have g0_2 : W0.cell? ⟨w.heap.size, 2, none⟩ = some (.float .f32 c) := cell_of_row W0 _ 2 _ _ _ hK0
  have f0_2 : W0.frozen? ⟨w.heap.size, 2, none⟩ = false := frozen_of_row W0 _ 2 _ _ hK0
  have g0_3 : W0.cell? ⟨w.heap.size, 3, none⟩ = some (.float .f32 x) := cell_of_row W0 _ 3 _ _ _ hK0
  have f0_3 : W0.frozen? ⟨w.heap.size, 3, none⟩ = false := frozen_of_row W0 _ 3 _ _ hK0
  have g0_4 : W0.cell? ⟨w.heap.size, 4, none⟩ = some (.float .f32 y) := cell_of_row W0 _ 4 _ _ _ hK0
  have f0_4 : W0.frozen? ⟨w.heap.size, 4, none⟩ = false := frozen_of_row W0 _ 4 _ _ hK0
  have g0_5 : W0.cell? ⟨w.heap.size, 5, none⟩ = some (.float .f32 z) := cell_of_row W0 _ 5 _ _ _ hK0
  have f0_5 : W0.frozen? ⟨w.heap.size, 5, none⟩ = false := frozen_of_row W0 _ 5 _ _ hK0
  have l0 : w.heap.size < W0.heap.size := (Array.getElem?_eq_some_iff.1 hK0).1
  have g1_0 : W0.cell? ⟨w.heap.size + 1, 0, none⟩ = some (.float .f32 0) := cell_of_row W0 _ 0 _ _ _ hK1
  have f1_0 : W0.frozen? ⟨w.heap.size + 1, 0, none⟩ = false := frozen_of_row W0 _ 0 _ _ hK1
  have g1_1 : W0.cell? ⟨w.heap.size + 1, 1, none⟩ = some (.float .f32 0) := cell_of_row W0 _ 1 _ _ _ hK1
  have f1_1 : W0.frozen? ⟨w.heap.size + 1, 1, none⟩ = false := frozen_of_row W0 _ 1 _ _ hK1
  have l1 : w.heap.size + 1 < W0.heap.size := (Array.getElem?_eq_some_iff.1 hK1).1
  refine wp_region_laterO 9 (SO (QL [(8, V1 (longF a b c)), (12, V1 (longF x y z))])) (stays_SO _) (by kernel_rfl) (by kernel_rfl) ?_
  repeat (first | (refine later_exO rfl (fun K hK => ?_); apply Exists.intro; refine ⟨fun w' hw' => ?_, ?_⟩; (obtain ⟨hcc, hff⟩ := Grew.cells hw'; clear hw'; go_simp; rfl); go_simp; refine hK _ ?_; clear hK K))
  (refine later_callO rfl (fun K hK => ?_); go_simp; refine ⟨_, _, fun _ _ => ⟨rfl, rfl⟩, fun w1 hw1 => ?_, fun u y1 hx1 hu => ?_⟩)
  · refine (LongOf_ok _ _ _ _).mono ?_
    rintro e w2 ⟨r1, rfl, h1, e1, hb⟩
    exact ⟨_, rfl, ⟨r1, rfl, h1, e1⟩, hb⟩
  obtain ⟨p1, rfl, hp1, pe1⟩ : (V1 (longF a b c)) u := hu
  (refine hK _ _ hx1 ?_; clear hK K)
  repeat (first | (refine later_exO rfl (fun K hK => ?_); apply Exists.intro; refine ⟨fun w' hw' => ?_, ?_⟩; (obtain ⟨hcc, hff⟩ := Grew.cells hw'; clear hw'; go_simp; rfl); go_simp; refine hK _ ?_; clear hK K))
  (refine later_callO rfl (fun K hK => ?_); go_simp; refine ⟨_, _, fun _ _ => ⟨rfl, rfl⟩, fun w1 hw1 => ?_, fun u y2 hx2 hu => ?_⟩)
  · refine (LongOf_ok _ _ _ _).mono ?_
    rintro e w2 ⟨r1, rfl, h1, e1, hb⟩
    exact ⟨_, rfl, ⟨r1, rfl, h1, e1⟩, hb⟩
  obtain ⟨p2, rfl, hp2, pe2⟩ : (V1 (longF x y z)) u := hu
  (refine hK _ _ hx2 ?_; clear hK K)
  repeat (first | (refine later_exO rfl (fun K hK => ?_); apply Exists.intro; refine ⟨fun w' hw' => ?_, ?_⟩; (obtain ⟨hcc, hff⟩ := Grew.cells hw'; clear hw'; go_simp; rfl); go_simp; refine hK _ ?_; clear hK K))
  refine later_nilO ?_
  intro w4 hw4
  simp only [List.drop_succ_cons, List.drop_zero]
  clear g0_0 f0_0 g0_1 f0_1 g0_2 f0_2 g0_3 f0_3 g0_4 f0_4 g0_5 f0_5 l0 g1_0 f1_0 g1_1 f1_1 l1
  have hE0 : Ext W0 w4 := ((hx1).trans hx2).trans hw4
  have hB1 : Below w.heap.size w w4 := hB0.trans (hE0.mono hB0.size)
  replace hK0 := hE0.heap hK0
  replace hK1 := hE0.heap hK1
  have g0_0 : w4.cell? ⟨w.heap.size, 0, none⟩ = some (.float .f32 a) := cell_of_row w4 _ 0 _ _ _ hK0
  have f0_0 : w4.frozen? ⟨w.heap.size, 0, none⟩ = false := frozen_of_row w4 _ 0 _ _ hK0
  have g0_1 : w4.cell? ⟨w.heap.size, 1, none⟩ = some (.float .f32 b) := cell_of_row w4 _ 1 _ _ _ hK0
  have f0_1 : w4.frozen? ⟨w.heap.size, 1, none⟩ = false := frozen_of_row w4 _ 1 _ _ hK0
  have g0_2 : w4.cell? ⟨w.heap.size, 2, none⟩ = some (.float .f32 c) := cell_of_row w4 _ 2 _ _ _ hK0
  have f0_2 : w4.frozen? ⟨w.heap.size, 2, none⟩ = false := frozen_of_row w4 _ 2 _ _ hK0
  have g0_3 : w4.cell? ⟨w.heap.size, 3, none⟩ = some (.float .f32 x) := cell_of_row w4 _ 3 _ _ _ hK0
  have f0_3 : w4.frozen? ⟨w.heap.size, 3, none⟩ = false := frozen_of_row w4 _ 3 _ _ hK0
  have g0_4 : w4.cell? ⟨w.heap.size, 4, none⟩ = some (.float .f32 y) := cell_of_row w4 _ 4 _ _ _ hK0
  have f0_4 : w4.frozen? ⟨w.heap.size, 4, none⟩ = false := frozen_of_row w4 _ 4 _ _ hK0
  have g0_5 : w4.cell? ⟨w.heap.size, 5, none⟩ = some (.float .f32 z) := cell_of_row w4 _ 5 _ _ _ hK0
  have f0_5 : w4.frozen? ⟨w.heap.size, 5, none⟩ = false := frozen_of_row w4 _ 5 _ _ hK0
  have l0 : w.heap.size < w4.heap.size := (Array.getElem?_eq_some_iff.1 hK0).1
  have g1_0 : w4.cell? ⟨w.heap.size + 1, 0, none⟩ = some (.float .f32 0) := cell_of_row w4 _ 0 _ _ _ hK1
  have f1_0 : w4.frozen? ⟨w.heap.size + 1, 0, none⟩ = false := frozen_of_row w4 _ 0 _ _ hK1
  have g1_1 : w4.cell? ⟨w.heap.size + 1, 1, none⟩ = some (.float .f32 0) := cell_of_row w4 _ 1 _ _ _ hK1
  have f1_1 : w4.frozen? ⟨w.heap.size + 1, 1, none⟩ = false := frozen_of_row w4 _ 1 _ _ hK1
  have l1 : w.heap.size + 1 < w4.heap.size := (Array.getElem?_eq_some_iff.1 hK1).1
  clear hw4 hx1 hx2
  go_wp2_with fail
  generalize hWs : (w4.setCell ⟨w.heap.size + 1, 0, none⟩ (.float .f32 p1)).setCell ⟨w.heap.size + 1, 1, none⟩ (.float .f32 p2) = w5
  have hS : w5.heap[w.heap.size + 1]? = some (.cells #[.float .f32 p1, .float .f32 p2] 88) := by
    subst hWs
    have s0 := heap_setCell_same (w4) _ 0 _ _ (.float .f32 p1) hK1
    have s1 := heap_setCell_same ((w4).setCell ⟨w.heap.size + 1, 0, none⟩ (.float .f32 p1)) _ 1 _ _ (.float .f32 p2) s0
    simpa using s1
  have hO : ∀ q, q ≠ w.heap.size + 1 → w5.heap[q]? = w4.heap[q]? := fun q hq => by subst hWs; rw [heap_setCell_other _ _ _ _ hq, heap_setCell_other _ _ _ _ hq]
  have hB2 : Below w.heap.size w w5 := by
    subst hWs
    have hle : w.heap.size ≤ w.heap.size + 1 := by omega
    refine Below.setCell ?_ hle _
    refine Below.setCell ?_ hle _
    repeat (first | exact hB1 | refine below_drewN ?_ _)
  clear g0_0 f0_0 g0_1 f0_1 g0_2 f0_2 g0_3 f0_3 g0_4 f0_4 g0_5 f0_5 l0 g1_0 f1_0 g1_1 f1_1 l1
  replace hK0 := (hO _ (by omega)).trans hK0
  replace hK1 := hS
  clear hS hO hWs
  have g0_0 : w5.cell? ⟨w.heap.size, 0, none⟩ = some (.float .f32 a) := cell_of_row w5 _ 0 _ _ _ hK0
  have f0_0 : w5.frozen? ⟨w.heap.size, 0, none⟩ = false := frozen_of_row w5 _ 0 _ _ hK0
  have g0_1 : w5.cell? ⟨w.heap.size, 1, none⟩ = some (.float .f32 b) := cell_of_row w5 _ 1 _ _ _ hK0
  have f0_1 : w5.frozen? ⟨w.heap.size, 1, none⟩ = false := frozen_of_row w5 _ 1 _ _ hK0
  have g0_2 : w5.cell? ⟨w.heap.size, 2, none⟩ = some (.float .f32 c) := cell_of_row w5 _ 2 _ _ _ hK0
  have f0_2 : w5.frozen? ⟨w.heap.size, 2, none⟩ = false := frozen_of_row w5 _ 2 _ _ hK0
  have g0_3 : w5.cell? ⟨w.heap.size, 3, none⟩ = some (.float .f32 x) := cell_of_row w5 _ 3 _ _ _ hK0
  have f0_3 : w5.frozen? ⟨w.heap.size, 3, none⟩ = false := frozen_of_row w5 _ 3 _ _ hK0
  have g0_4 : w5.cell? ⟨w.heap.size, 4, none⟩ = some (.float .f32 y) := cell_of_row w5 _ 4 _ _ _ hK0
  have f0_4 : w5.frozen? ⟨w.heap.size, 4, none⟩ = false := frozen_of_row w5 _ 4 _ _ hK0
  have g0_5 : w5.cell? ⟨w.heap.size, 5, none⟩ = some (.float .f32 z) := cell_of_row w5 _ 5 _ _ _ hK0
  have f0_5 : w5.frozen? ⟨w.heap.size, 5, none⟩ = false := frozen_of_row w5 _ 5 _ _ hK0
  have l0 : w.heap.size < w5.heap.size := (Array.getElem?_eq_some_iff.1 hK0).1
  have g1_0 : w5.cell? ⟨w.heap.size + 1, 0, none⟩ = some (.float .f32 p1) := cell_of_row w5 _ 0 _ _ _ hK1
  have f1_0 : w5.frozen? ⟨w.heap.size + 1, 0, none⟩ = false := frozen_of_row w5 _ 0 _ _ hK1
  have g1_1 : w5.cell? ⟨w.heap.size + 1, 1, none⟩ = some (.float .f32 p2) := cell_of_row w5 _ 1 _ _ _ hK1
  have f1_1 : w5.frozen? ⟨w.heap.size + 1, 1, none⟩ = false := frozen_of_row w5 _ 1 _ _ hK1
  have l1 : w.heap.size + 1 < w5.heap.size := (Array.getElem?_eq_some_iff.1 hK1).1
  exact bodyPost_ret (v := rng p1 p2) (by simp [results, Try.results68, go_sem, g1_0, g1_1]) rfl ⟨p1, p2, rfl, hp1, hp2, pe1, pe2, hB2⟩
def longLo (a b c d m n : Nat) : Nat := longF (sizeLo a b) (sizeLo c d) (sizeLo m n)
def longHi (a b c d m n : Nat) : Nat := longF (sizeHi a b) (sizeHi c d) (sizeHi m n)
set_option maxHeartbeats 4000000 in
set_option maxRecDepth 100000 in
theorem rangeLong_ok (a b c d m n : Nat) (w : World) (ha : a < 4294967296) (hb : b < 4294967296) (hc : c < 4294967296) (hd : d < 4294967296) (hm : m < 4294967296) (hn : n < 4294967296) :
    Calls Try.prog 44 #[.agg #[.float .f32 a, .float .f32 b, .float .f32 c, .float .f32 d, .float .f32 m, .float .f32 n], .func (.func 45) #[] #[]] w (Rg (longLo a b c d m n) (longHi a b c d m n) w) := by
  go_enter Try.func44, Try.ntmps44
  go_wp2_with fail
  generalize hW0 : (w.alloc (.cells #[.float .f32 a, .float .f32 b, .float .f32 c, .float .f32 d, .float .f32 m, .float .f32 n] 69)).alloc (.cells #[.float .f32 0, .float .f32 0] 38) = W0
  have hB0 : Below w.heap.size w W0 := by subst hW0; exact by (repeat (first | exact Below.refl _ _ | assumption | refine below_drewN ?_ _ | refine Below.setCell ?_ (by first | omega | (simp <;> omega)) _ | refine Below.alloc ?_ (by first | omega | (simp <;> omega)) _))
  have hK0 : W0.heap[w.heap.size]? = some (.cells #[.float .f32 a, .float .f32 b, .float .f32 c, .float .f32 d, .float .f32 m, .float .f32 n] 69) := by subst hW0; exact heap_alloc2_old _ _ _
  have hK1 : W0.heap[w.heap.size + 1]? = some (.cells #[.float .f32 0, .float .f32 0] 38) := by subst hW0; exact heap_alloc2_new _ _ _
  clear hW0
  have hZ0 : w.heap.size + 1 < W0.heap.size := (Array.getElem?_eq_some_iff.1 hK1).1
  have g0_0 : W0.cell? ⟨w.heap.size, 0, none⟩ = some (.float .f32 a) := cell_of_row W0 _ 0 _ _ _ hK0
  have f0_0 : W0.frozen? ⟨w.heap.size, 0, none⟩ = false := frozen_of_row W0 _ 0 _ _ hK0
  have g0_1 : W0.cell? ⟨w.heap.size, 1, none⟩ = some (.float .f32 b) := cell_of_row W0 _ 1 _ _ _ hK0
  have f0_1 : W0.frozen? ⟨w.heap.size, 1, none⟩ = false := frozen_of_row W0 _ 1 _ _ hK0
  have g0_2 : W0.cell? ⟨w.heap.size, 2, none⟩ = some (.float .f32 c) := cell_of_row W0 _ 2 _ _ _ hK0
  have f0_2 : W0.frozen? ⟨w.heap.size, 2, none⟩ = false := frozen_of_row W0 _ 2 _ _ hK0
  have g0_3 : W0.cell? ⟨w.heap.size, 3, none⟩ = some (.float .f32 d) := cell_of_row W0 _ 3 _ _ _ hK0
  have f0_3 : W0.frozen? ⟨w.heap.size, 3, none⟩ = false := frozen_of_row W0 _ 3 _ _ hK0
  have g0_4 : W0.cell? ⟨w.heap.size, 4, none⟩ = some (.float .f32 m) := cell_of_row W0 _ 4 _ _ _ hK0
  have f0_4 : W0.frozen? ⟨w.heap.size, 4, none⟩ = false := frozen_of_row W0 _ 4 _ _ hK0
  have g0_5 : W0.cell? ⟨w.heap.size, 5, none⟩ = some (.float .f32 n) := cell_of_row W0 _ 5 _ _ _ hK0
  have f0_5 : W0.frozen? ⟨w.heap.size, 5, none⟩ = false := frozen_of_row W0 _ 5 _ _ hK0
  have l0 : w.heap.size < W0.heap.size := (Array.getElem?_eq_some_iff.1 hK0).1
  have g1_0 : W0.cell? ⟨w.heap.size + 1, 0, none⟩ = some (.float .f32 0) := cell_of_row W0 _ 0 _ _ _ hK1
  have f1_0 : W0.frozen? ⟨w.heap.size + 1, 0, none⟩ = false := frozen_of_row W0 _ 0 _ _ hK1
  have g1_1 : W0.cell? ⟨w.heap.size + 1, 1, none⟩ = some (.float .f32 0) := cell_of_row W0 _ 1 _ _ _ hK1
  have f1_1 : W0.frozen? ⟨w.heap.size + 1, 1, none⟩ = false := frozen_of_row W0 _ 1 _ _ hK1
  have l1 : w.heap.size + 1 < W0.heap.size := (Array.getElem?_eq_some_iff.1 hK1).1
  refine wp_region_laterO 11 (SO (QL [(8, fun u => u = rng (sizeLo a b) (sizeHi a b)), (11, fun u => u = rng (sizeLo c d) (sizeHi c d)), (14, fun u => u = rng (sizeLo m n) (sizeHi m n))])) (stays_SO _) (by kernel_rfl) (by kernel_rfl) ?_
  repeat (first | (refine later_exO rfl (fun K hK => ?_); apply Exists.intro; refine ⟨fun w' hw' => ?_, ?_⟩; (obtain ⟨hcc, hff⟩ := Grew.cells hw'; clear hw'; go_simp; rfl); go_simp; refine hK _ ?_; clear hK K))
  (refine later_callO rfl (fun K hK => ?_); go_simp; refine ⟨_, _, fun _ _ => ⟨rfl, rfl⟩, fun w1 hw1 => ?_, fun u y1 hx1 hu => ?_⟩)
  · refine (SizeRange_ok _ _ _ ha hb).mono ?_
    rintro e w2 ⟨rfl, hb⟩
    exact ⟨_, rfl, rfl, hb⟩
  obtain rfl : (fun u => u = rng (sizeLo a b) (sizeHi a b)) u := hu
  (refine hK _ _ hx1 ?_; clear hK K)
  repeat (first | (refine later_exO rfl (fun K hK => ?_); apply Exists.intro; refine ⟨fun w' hw' => ?_, ?_⟩; (obtain ⟨hcc, hff⟩ := Grew.cells hw'; clear hw'; go_simp; rfl); go_simp; refine hK _ ?_; clear hK K))
  (refine later_callO rfl (fun K hK => ?_); go_simp; refine ⟨_, _, fun _ _ => ⟨rfl, rfl⟩, fun w1 hw1 => ?_, fun u y2 hx2 hu => ?_⟩)
  · refine (SizeRange_ok _ _ _ hc hd).mono ?_
    rintro e w2 ⟨rfl, hb⟩
    exact ⟨_, rfl, rfl, hb⟩
  obtain rfl : (fun u => u = rng (sizeLo c d) (sizeHi c d)) u := hu
  (refine hK _ _ hx2 ?_; clear hK K)
  repeat (first | (refine later_exO rfl (fun K hK => ?_); apply Exists.intro; refine ⟨fun w' hw' => ?_, ?_⟩; (obtain ⟨hcc, hff⟩ := Grew.cells hw'; clear hw'; go_simp; rfl); go_simp; refine hK _ ?_; clear hK K))
  (refine later_callO rfl (fun K hK => ?_); go_simp; refine ⟨_, _, fun _ _ => ⟨rfl, rfl⟩, fun w1 hw1 => ?_, fun u y3 hx3 hu => ?_⟩)
  · refine (SizeRange_ok _ _ _ hm hn).mono ?_
    rintro e w2 ⟨rfl, hb⟩
    exact ⟨_, rfl, rfl, hb⟩
  obtain rfl : (fun u => u = rng (sizeLo m n) (sizeHi m n)) u := hu
  (refine hK _ _ hx3 ?_; clear hK K)
  repeat (first | (refine later_exO rfl (fun K hK => ?_); apply Exists.intro; refine ⟨fun w' hw' => ?_, ?_⟩; (obtain ⟨hcc, hff⟩ := Grew.cells hw'; clear hw'; go_simp; rfl); go_simp; refine hK _ ?_; clear hK K))
  (refine later_allocO rfl #[.float .f32 0, .float .f32 0, .float .f32 0, .float .f32 0, .float .f32 0, .float .f32 0] 69 (fun w' _ => by go_simp) ?_; intro R y5 hy5 hR hh)
  repeat (first | (refine later_exO rfl (fun K hK => ?_); apply Exists.intro; refine ⟨fun w' hw' => ?_, ?_⟩; (obtain ⟨hcc, hff⟩ := Grew.cells hw'; clear hw'; go_simp; rfl); go_simp; refine hK _ ?_; clear hK K))
  refine later_nilO ?_
  intro w4 hw4
  simp only [List.drop_succ_cons, List.drop_zero]
  clear g0_0 f0_0 g0_1 f0_1 g0_2 f0_2 g0_3 f0_3 g0_4 f0_4 g0_5 f0_5 l0 g1_0 f1_0 g1_1 f1_1 l1
  have hE0 : Ext W0 w4 := ((((hx1).trans hx2).trans hx3).trans hy5).trans hw4
  have hB1 : Below w.heap.size w w4 := hB0.trans (hE0.mono hB0.size)
  replace hK0 := hE0.heap hK0
  replace hK1 := hE0.heap hK1
  have g0_0 : w4.cell? ⟨w.heap.size, 0, none⟩ = some (.float .f32 a) := cell_of_row w4 _ 0 _ _ _ hK0
  have f0_0 : w4.frozen? ⟨w.heap.size, 0, none⟩ = false := frozen_of_row w4 _ 0 _ _ hK0
  have g0_1 : w4.cell? ⟨w.heap.size, 1, none⟩ = some (.float .f32 b) := cell_of_row w4 _ 1 _ _ _ hK0
  have f0_1 : w4.frozen? ⟨w.heap.size, 1, none⟩ = false := frozen_of_row w4 _ 1 _ _ hK0
  have g0_2 : w4.cell? ⟨w.heap.size, 2, none⟩ = some (.float .f32 c) := cell_of_row w4 _ 2 _ _ _ hK0
  have f0_2 : w4.frozen? ⟨w.heap.size, 2, none⟩ = false := frozen_of_row w4 _ 2 _ _ hK0
  have g0_3 : w4.cell? ⟨w.heap.size, 3, none⟩ = some (.float .f32 d) := cell_of_row w4 _ 3 _ _ _ hK0
  have f0_3 : w4.frozen? ⟨w.heap.size, 3, none⟩ = false := frozen_of_row w4 _ 3 _ _ hK0
  have g0_4 : w4.cell? ⟨w.heap.size, 4, none⟩ = some (.float .f32 m) := cell_of_row w4 _ 4 _ _ _ hK0
  have f0_4 : w4.frozen? ⟨w.heap.size, 4, none⟩ = false := frozen_of_row w4 _ 4 _ _ hK0
  have g0_5 : w4.cell? ⟨w.heap.size, 5, none⟩ = some (.float .f32 n) := cell_of_row w4 _ 5 _ _ _ hK0
  have f0_5 : w4.frozen? ⟨w.heap.size, 5, none⟩ = false := frozen_of_row w4 _ 5 _ _ hK0
  have l0 : w.heap.size < w4.heap.size := (Array.getElem?_eq_some_iff.1 hK0).1
  have g1_0 : w4.cell? ⟨w.heap.size + 1, 0, none⟩ = some (.float .f32 0) := cell_of_row w4 _ 0 _ _ _ hK1
  have f1_0 : w4.frozen? ⟨w.heap.size + 1, 0, none⟩ = false := frozen_of_row w4 _ 0 _ _ hK1
  have g1_1 : w4.cell? ⟨w.heap.size + 1, 1, none⟩ = some (.float .f32 0) := cell_of_row w4 _ 1 _ _ _ hK1
  have f1_1 : w4.frozen? ⟨w.heap.size + 1, 1, none⟩ = false := frozen_of_row w4 _ 1 _ _ hK1
  have l1 : w.heap.size + 1 < w4.heap.size := (Array.getElem?_eq_some_iff.1 hK1).1
  have hk := hw4.heap hh
  clear hh
  clear hw4 hx1 hx2 hx3 hy5
  have hg : w.heap.size + 2 ≤ R := by omega
  clear g0_0 f0_0 g0_1 f0_1 g0_2 f0_2 g0_3 f0_3 g0_4 f0_4 g0_5 f0_5 l0 g1_0 f1_0 g1_1 f1_1 l1
  have hK2 : w4.heap[R]? = some (.cells #[.float .f32 0, .float .f32 0, .float .f32 0, .float .f32 0, .float .f32 0, .float .f32 0] 69) := hk
  have g0_0 : w4.cell? ⟨w.heap.size, 0, none⟩ = some (.float .f32 a) := cell_of_row w4 _ 0 _ _ _ hK0
  have f0_0 : w4.frozen? ⟨w.heap.size, 0, none⟩ = false := frozen_of_row w4 _ 0 _ _ hK0
  have g0_1 : w4.cell? ⟨w.heap.size, 1, none⟩ = some (.float .f32 b) := cell_of_row w4 _ 1 _ _ _ hK0
  have f0_1 : w4.frozen? ⟨w.heap.size, 1, none⟩ = false := frozen_of_row w4 _ 1 _ _ hK0
  have g0_2 : w4.cell? ⟨w.heap.size, 2, none⟩ = some (.float .f32 c) := cell_of_row w4 _ 2 _ _ _ hK0
  have f0_2 : w4.frozen? ⟨w.heap.size, 2, none⟩ = false := frozen_of_row w4 _ 2 _ _ hK0
  have g0_3 : w4.cell? ⟨w.heap.size, 3, none⟩ = some (.float .f32 d) := cell_of_row w4 _ 3 _ _ _ hK0
  have f0_3 : w4.frozen? ⟨w.heap.size, 3, none⟩ = false := frozen_of_row w4 _ 3 _ _ hK0
  have g0_4 : w4.cell? ⟨w.heap.size, 4, none⟩ = some (.float .f32 m) := cell_of_row w4 _ 4 _ _ _ hK0
  have f0_4 : w4.frozen? ⟨w.heap.size, 4, none⟩ = false := frozen_of_row w4 _ 4 _ _ hK0
  have g0_5 : w4.cell? ⟨w.heap.size, 5, none⟩ = some (.float .f32 n) := cell_of_row w4 _ 5 _ _ _ hK0
  have f0_5 : w4.frozen? ⟨w.heap.size, 5, none⟩ = false := frozen_of_row w4 _ 5 _ _ hK0
  have l0 : w.heap.size < w4.heap.size := (Array.getElem?_eq_some_iff.1 hK0).1
  have g1_0 : w4.cell? ⟨w.heap.size + 1, 0, none⟩ = some (.float .f32 0) := cell_of_row w4 _ 0 _ _ _ hK1
  have f1_0 : w4.frozen? ⟨w.heap.size + 1, 0, none⟩ = false := frozen_of_row w4 _ 0 _ _ hK1
  have g1_1 : w4.cell? ⟨w.heap.size + 1, 1, none⟩ = some (.float .f32 0) := cell_of_row w4 _ 1 _ _ _ hK1
  have f1_1 : w4.frozen? ⟨w.heap.size + 1, 1, none⟩ = false := frozen_of_row w4 _ 1 _ _ hK1
  have l1 : w.heap.size + 1 < w4.heap.size := (Array.getElem?_eq_some_iff.1 hK1).1
  have g2_0 : w4.cell? ⟨R, 0, none⟩ = some (.float .f32 0) := cell_of_row w4 _ 0 _ _ _ hK2
  have f2_0 : w4.frozen? ⟨R, 0, none⟩ = false := frozen_of_row w4 _ 0 _ _ hK2
  have g2_1 : w4.cell? ⟨R, 1, none⟩ = some (.float .f32 0) := cell_of_row w4 _ 1 _ _ _ hK2
  have f2_1 : w4.frozen? ⟨R, 1, none⟩ = false := frozen_of_row w4 _ 1 _ _ hK2
  have g2_2 : w4.cell? ⟨R, 2, none⟩ = some (.float .f32 0) := cell_of_row w4 _ 2 _ _ _ hK2
  have f2_2 : w4.frozen? ⟨R, 2, none⟩ = false := frozen_of_row w4 _ 2 _ _ hK2
  have g2_3 : w4.cell? ⟨R, 3, none⟩ = some (.float .f32 0) := cell_of_row w4 _ 3 _ _ _ hK2
  have f2_3 : w4.frozen? ⟨R, 3, none⟩ = false := frozen_of_row w4 _ 3 _ _ hK2
  have g2_4 : w4.cell? ⟨R, 4, none⟩ = some (.float .f32 0) := cell_of_row w4 _ 4 _ _ _ hK2
  have f2_4 : w4.frozen? ⟨R, 4, none⟩ = false := frozen_of_row w4 _ 4 _ _ hK2
  have g2_5 : w4.cell? ⟨R, 5, none⟩ = some (.float .f32 0) := cell_of_row w4 _ 5 _ _ _ hK2
  have f2_5 : w4.frozen? ⟨R, 5, none⟩ = false := frozen_of_row w4 _ 5 _ _ hK2
  have l2 : R < w4.heap.size := (Array.getElem?_eq_some_iff.1 hK2).1
  go_wp2_with fail
  generalize hWs : (((((w4.setCell ⟨R, 0, none⟩ (.float .f32 (sizeLo a b))).setCell ⟨R, 1, none⟩ (.float .f32 (sizeHi a b))).setCell ⟨R, 2, none⟩ (.float .f32 (sizeLo c d))).setCell ⟨R, 3, none⟩ (.float .f32 (sizeHi c d))).setCell ⟨R, 4, none⟩ (.float .f32 (sizeLo m n))).setCell ⟨R, 5, none⟩ (.float .f32 (sizeHi m n)) = w5
  have hS : w5.heap[R]? = some (.cells #[.float .f32 (sizeLo a b), .float .f32 (sizeHi a b), .float .f32 (sizeLo c d), .float .f32 (sizeHi c d), .float .f32 (sizeLo m n), .float .f32 (sizeHi m n)] 69) := by
    subst hWs
    have s0 := heap_setCell_same (w4) _ 0 _ _ (.float .f32 (sizeLo a b)) hK2
    have s1 := heap_setCell_same ((w4).setCell ⟨R, 0, none⟩ (.float .f32 (sizeLo a b))) _ 1 _ _ (.float .f32 (sizeHi a b)) s0
    have s2 := heap_setCell_same (((w4).setCell ⟨R, 0, none⟩ (.float .f32 (sizeLo a b))).setCell ⟨R, 1, none⟩ (.float .f32 (sizeHi a b))) _ 2 _ _ (.float .f32 (sizeLo c d)) s1
    have s3 := heap_setCell_same ((((w4).setCell ⟨R, 0, none⟩ (.float .f32 (sizeLo a b))).setCell ⟨R, 1, none⟩ (.float .f32 (sizeHi a b))).setCell ⟨R, 2, none⟩ (.float .f32 (sizeLo c d))) _ 3 _ _ (.float .f32 (sizeHi c d)) s2
    have s4 := heap_setCell_same (((((w4).setCell ⟨R, 0, none⟩ (.float .f32 (sizeLo a b))).setCell ⟨R, 1, none⟩ (.float .f32 (sizeHi a b))).setCell ⟨R, 2, none⟩ (.float .f32 (sizeLo c d))).setCell ⟨R, 3, none⟩ (.float .f32 (sizeHi c d))) _ 4 _ _ (.float .f32 (sizeLo m n)) s3
    have s5 := heap_setCell_same ((((((w4).setCell ⟨R, 0, none⟩ (.float .f32 (sizeLo a b))).setCell ⟨R, 1, none⟩ (.float .f32 (sizeHi a b))).setCell ⟨R, 2, none⟩ (.float .f32 (sizeLo c d))).setCell ⟨R, 3, none⟩ (.float .f32 (sizeHi c d))).setCell ⟨R, 4, none⟩ (.float .f32 (sizeLo m n))) _ 5 _ _ (.float .f32 (sizeHi m n)) s4
    simpa using s5
  have hO : ∀ q, q ≠ R → w5.heap[q]? = w4.heap[q]? := fun q hq => by subst hWs; rw [heap_setCell_other _ _ _ _ hq, heap_setCell_other _ _ _ _ hq, heap_setCell_other _ _ _ _ hq, heap_setCell_other _ _ _ _ hq, heap_setCell_other _ _ _ _ hq, heap_setCell_other _ _ _ _ hq]
  have hB2 : Below w.heap.size w w5 := by
    subst hWs
    have hle : w.heap.size ≤ R := by omega
    refine Below.setCell ?_ hle _
    refine Below.setCell ?_ hle _
    refine Below.setCell ?_ hle _
    refine Below.setCell ?_ hle _
    refine Below.setCell ?_ hle _
    refine Below.setCell ?_ hle _
    repeat (first | exact hB1 | refine below_drewN ?_ _)
  clear g0_0 f0_0 g0_1 f0_1 g0_2 f0_2 g0_3 f0_3 g0_4 f0_4 g0_5 f0_5 l0 g1_0 f1_0 g1_1 f1_1 l1 g2_0 f2_0 g2_1 f2_1 g2_2 f2_2 g2_3 f2_3 g2_4 f2_4 g2_5 f2_5 l2
  replace hK0 := (hO _ (by omega)).trans hK0
  replace hK1 := (hO _ (by omega)).trans hK1
  replace hK2 := hS
  clear hS hO hWs
  have g0_0 : w5.cell? ⟨w.heap.size, 0, none⟩ = some (.float .f32 a) := cell_of_row w5 _ 0 _ _ _ hK0
  have f0_0 : w5.frozen? ⟨w.heap.size, 0, none⟩ = false := frozen_of_row w5 _ 0 _ _ hK0
  have g0_1 : w5.cell? ⟨w.heap.size, 1, none⟩ = some (.float .f32 b) := cell_of_row w5 _ 1 _ _ _ hK0
  have f0_1 : w5.frozen? ⟨w.heap.size, 1, none⟩ = false := frozen_of_row w5 _ 1 _ _ hK0
  have g0_2 : w5.cell? ⟨w.heap.size, 2, none⟩ = some (.float .f32 c) := cell_of_row w5 _ 2 _ _ _ hK0
  have f0_2 : w5.frozen? ⟨w.heap.size, 2, none⟩ = false := frozen_of_row w5 _ 2 _ _ hK0
  have g0_3 : w5.cell? ⟨w.heap.size, 3, none⟩ = some (.float .f32 d) := cell_of_row w5 _ 3 _ _ _ hK0
  have f0_3 : w5.frozen? ⟨w.heap.size, 3, none⟩ = false := frozen_of_row w5 _ 3 _ _ hK0
  have g0_4 : w5.cell? ⟨w.heap.size, 4, none⟩ = some (.float .f32 m) := cell_of_row w5 _ 4 _ _ _ hK0
  have f0_4 : w5.frozen? ⟨w.heap.size, 4, none⟩ = false := frozen_of_row w5 _ 4 _ _ hK0
  have g0_5 : w5.cell? ⟨w.heap.size, 5, none⟩ = some (.float .f32 n) := cell_of_row w5 _ 5 _ _ _ hK0
  have f0_5 : w5.frozen? ⟨w.heap.size, 5, none⟩ = false := frozen_of_row w5 _ 5 _ _ hK0
  have l0 : w.heap.size < w5.heap.size := (Array.getElem?_eq_some_iff.1 hK0).1
  have g1_0 : w5.cell? ⟨w.heap.size + 1, 0, none⟩ = some (.float .f32 0) := cell_of_row w5 _ 0 _ _ _ hK1
  have f1_0 : w5.frozen? ⟨w.heap.size + 1, 0, none⟩ = false := frozen_of_row w5 _ 0 _ _ hK1
  have g1_1 : w5.cell? ⟨w.heap.size + 1, 1, none⟩ = some (.float .f32 0) := cell_of_row w5 _ 1 _ _ _ hK1
  have f1_1 : w5.frozen? ⟨w.heap.size + 1, 1, none⟩ = false := frozen_of_row w5 _ 1 _ _ hK1
  have l1 : w.heap.size + 1 < w5.heap.size := (Array.getElem?_eq_some_iff.1 hK1).1
  have g2_0 : w5.cell? ⟨R, 0, none⟩ = some (.float .f32 (sizeLo a b)) := cell_of_row w5 _ 0 _ _ _ hK2
  have f2_0 : w5.frozen? ⟨R, 0, none⟩ = false := frozen_of_row w5 _ 0 _ _ hK2
  have g2_1 : w5.cell? ⟨R, 1, none⟩ = some (.float .f32 (sizeHi a b)) := cell_of_row w5 _ 1 _ _ _ hK2
  have f2_1 : w5.frozen? ⟨R, 1, none⟩ = false := frozen_of_row w5 _ 1 _ _ hK2
  have g2_2 : w5.cell? ⟨R, 2, none⟩ = some (.float .f32 (sizeLo c d)) := cell_of_row w5 _ 2 _ _ _ hK2
  have f2_2 : w5.frozen? ⟨R, 2, none⟩ = false := frozen_of_row w5 _ 2 _ _ hK2
  have g2_3 : w5.cell? ⟨R, 3, none⟩ = some (.float .f32 (sizeHi c d)) := cell_of_row w5 _ 3 _ _ _ hK2
  have f2_3 : w5.frozen? ⟨R, 3, none⟩ = false := frozen_of_row w5 _ 3 _ _ hK2
  have g2_4 : w5.cell? ⟨R, 4, none⟩ = some (.float .f32 (sizeLo m n)) := cell_of_row w5 _ 4 _ _ _ hK2
  have f2_4 : w5.frozen? ⟨R, 4, none⟩ = false := frozen_of_row w5 _ 4 _ _ hK2
  have g2_5 : w5.cell? ⟨R, 5, none⟩ = some (.float .f32 (sizeHi m n)) := cell_of_row w5 _ 5 _ _ _ hK2
  have f2_5 : w5.frozen? ⟨R, 5, none⟩ = false := frozen_of_row w5 _ 5 _ _ hK2
  have l2 : R < w5.heap.size := (Array.getElem?_eq_some_iff.1 hK2).1
  refine (sidesBox_ok (sizeLo a b) (sizeHi a b) (sizeLo c d) (sizeHi c d) (sizeLo m n) (sizeHi m n) _).mono ?_
  rintro e w6 ⟨rfl, hb⟩
  clear g0_0 f0_0 g0_1 f0_1 g0_2 f0_2 g0_3 f0_3 g0_4 f0_4 g0_5 f0_5 l0 g1_0 f1_0 g1_1 f1_1 l1 g2_0 f2_0 g2_1 f2_1 g2_2 f2_2 g2_3 f2_3 g2_4 f2_4 g2_5 f2_5 l2
  have hE2 : Ext w5 w6 := hb
  have hB3 : Below w.heap.size w w6 := hB2.trans (hE2.mono hB2.size)
  replace hK0 := hE2.heap hK0
  replace hK1 := hE2.heap hK1
  replace hK2 := hE2.heap hK2
  have g0_0 : w6.cell? ⟨w.heap.size, 0, none⟩ = some (.float .f32 a) := cell_of_row w6 _ 0 _ _ _ hK0
  have f0_0 : w6.frozen? ⟨w.heap.size, 0, none⟩ = false := frozen_of_row w6 _ 0 _ _ hK0
  have g0_1 : w6.cell? ⟨w.heap.size, 1, none⟩ = some (.float .f32 b) := cell_of_row w6 _ 1 _ _ _ hK0
  have f0_1 : w6.frozen? ⟨w.heap.size, 1, none⟩ = false := frozen_of_row w6 _ 1 _ _ hK0
  have g0_2 : w6.cell? ⟨w.heap.size, 2, none⟩ = some (.float .f32 c) := cell_of_row w6 _ 2 _ _ _ hK0
  have f0_2 : w6.frozen? ⟨w.heap.size, 2, none⟩ = false := frozen_of_row w6 _ 2 _ _ hK0
  have g0_3 : w6.cell? ⟨w.heap.size, 3, none⟩ = some (.float .f32 d) := cell_of_row w6 _ 3 _ _ _ hK0
  have f0_3 : w6.frozen? ⟨w.heap.size, 3, none⟩ = false := frozen_of_row w6 _ 3 _ _ hK0
  have g0_4 : w6.cell? ⟨w.heap.size, 4, none⟩ = some (.float .f32 m) := cell_of_row w6 _ 4 _ _ _ hK0
  have f0_4 : w6.frozen? ⟨w.heap.size, 4, none⟩ = false := frozen_of_row w6 _ 4 _ _ hK0
  have g0_5 : w6.cell? ⟨w.heap.size, 5, none⟩ = some (.float .f32 n) := cell_of_row w6 _ 5 _ _ _ hK0
  have f0_5 : w6.frozen? ⟨w.heap.size, 5, none⟩ = false := frozen_of_row w6 _ 5 _ _ hK0
  have l0 : w.heap.size < w6.heap.size := (Array.getElem?_eq_some_iff.1 hK0).1
  have g1_0 : w6.cell? ⟨w.heap.size + 1, 0, none⟩ = some (.float .f32 0) := cell_of_row w6 _ 0 _ _ _ hK1
  have f1_0 : w6.frozen? ⟨w.heap.size + 1, 0, none⟩ = false := frozen_of_row w6 _ 0 _ _ hK1
  have g1_1 : w6.cell? ⟨w.heap.size + 1, 1, none⟩ = some (.float .f32 0) := cell_of_row w6 _ 1 _ _ _ hK1
  have f1_1 : w6.frozen? ⟨w.heap.size + 1, 1, none⟩ = false := frozen_of_row w6 _ 1 _ _ hK1
  have l1 : w.heap.size + 1 < w6.heap.size := (Array.getElem?_eq_some_iff.1 hK1).1
  have g2_0 : w6.cell? ⟨R, 0, none⟩ = some (.float .f32 (sizeLo a b)) := cell_of_row w6 _ 0 _ _ _ hK2
  have f2_0 : w6.frozen? ⟨R, 0, none⟩ = false := frozen_of_row w6 _ 0 _ _ hK2
  have g2_1 : w6.cell? ⟨R, 1, none⟩ = some (.float .f32 (sizeHi a b)) := cell_of_row w6 _ 1 _ _ _ hK2
  have f2_1 : w6.frozen? ⟨R, 1, none⟩ = false := frozen_of_row w6 _ 1 _ _ hK2
  have g2_2 : w6.cell? ⟨R, 2, none⟩ = some (.float .f32 (sizeLo c d)) := cell_of_row w6 _ 2 _ _ _ hK2
  have f2_2 : w6.frozen? ⟨R, 2, none⟩ = false := frozen_of_row w6 _ 2 _ _ hK2
  have g2_3 : w6.cell? ⟨R, 3, none⟩ = some (.float .f32 (sizeHi c d)) := cell_of_row w6 _ 3 _ _ _ hK2
  have f2_3 : w6.frozen? ⟨R, 3, none⟩ = false := frozen_of_row w6 _ 3 _ _ hK2
  have g2_4 : w6.cell? ⟨R, 4, none⟩ = some (.float .f32 (sizeLo m n)) := cell_of_row w6 _ 4 _ _ _ hK2
  have f2_4 : w6.frozen? ⟨R, 4, none⟩ = false := frozen_of_row w6 _ 4 _ _ hK2
  have g2_5 : w6.cell? ⟨R, 5, none⟩ = some (.float .f32 (sizeHi m n)) := cell_of_row w6 _ 5 _ _ _ hK2
  have f2_5 : w6.frozen? ⟨R, 5, none⟩ = false := frozen_of_row w6 _ 5 _ _ hK2
  have l2 : R < w6.heap.size := (Array.getElem?_eq_some_iff.1 hK2).1
  clear hb
  go_wp2_with fail
  refine (eachLong_ok _ _ _ _ _ _ _).mono ?_
  rintro e w7 ⟨r, s, rfl, hr, hs, er, es, hb⟩
  clear g0_0 f0_0 g0_1 f0_1 g0_2 f0_2 g0_3 f0_3 g0_4 f0_4 g0_5 f0_5 l0 g1_0 f1_0 g1_1 f1_1 l1 g2_0 f2_0 g2_1 f2_1 g2_2 f2_2 g2_3 f2_3 g2_4 f2_4 g2_5 f2_5 l2
  have hE3 : Ext w6 w7 := hb
  have hB4 : Below w.heap.size w w7 := hB3.trans (hE3.mono hB3.size)
  replace hK0 := hE3.heap hK0
  replace hK1 := hE3.heap hK1
  replace hK2 := hE3.heap hK2
  have g0_0 : w7.cell? ⟨w.heap.size, 0, none⟩ = some (.float .f32 a) := cell_of_row w7 _ 0 _ _ _ hK0
  have f0_0 : w7.frozen? ⟨w.heap.size, 0, none⟩ = false := frozen_of_row w7 _ 0 _ _ hK0
  have g0_1 : w7.cell? ⟨w.heap.size, 1, none⟩ = some (.float .f32 b) := cell_of_row w7 _ 1 _ _ _ hK0
  have f0_1 : w7.frozen? ⟨w.heap.size, 1, none⟩ = false := frozen_of_row w7 _ 1 _ _ hK0
  have g0_2 : w7.cell? ⟨w.heap.size, 2, none⟩ = some (.float .f32 c) := cell_of_row w7 _ 2 _ _ _ hK0
  have f0_2 : w7.frozen? ⟨w.heap.size, 2, none⟩ = false := frozen_of_row w7 _ 2 _ _ hK0
  have g0_3 : w7.cell? ⟨w.heap.size, 3, none⟩ = some (.float .f32 d) := cell_of_row w7 _ 3 _ _ _ hK0
  have f0_3 : w7.frozen? ⟨w.heap.size, 3, none⟩ = false := frozen_of_row w7 _ 3 _ _ hK0
  have g0_4 : w7.cell? ⟨w.heap.size, 4, none⟩ = some (.float .f32 m) := cell_of_row w7 _ 4 _ _ _ hK0
  have f0_4 : w7.frozen? ⟨w.heap.size, 4, none⟩ = false := frozen_of_row w7 _ 4 _ _ hK0
  have g0_5 : w7.cell? ⟨w.heap.size, 5, none⟩ = some (.float .f32 n) := cell_of_row w7 _ 5 _ _ _ hK0
  have f0_5 : w7.frozen? ⟨w.heap.size, 5, none⟩ = false := frozen_of_row w7 _ 5 _ _ hK0
  have l0 : w.heap.size < w7.heap.size := (Array.getElem?_eq_some_iff.1 hK0).1
  have g1_0 : w7.cell? ⟨w.heap.size + 1, 0, none⟩ = some (.float .f32 0) := cell_of_row w7 _ 0 _ _ _ hK1
  have f1_0 : w7.frozen? ⟨w.heap.size + 1, 0, none⟩ = false := frozen_of_row w7 _ 0 _ _ hK1
  have g1_1 : w7.cell? ⟨w.heap.size + 1, 1, none⟩ = some (.float .f32 0) := cell_of_row w7 _ 1 _ _ _ hK1
  have f1_1 : w7.frozen? ⟨w.heap.size + 1, 1, none⟩ = false := frozen_of_row w7 _ 1 _ _ hK1
  have l1 : w.heap.size + 1 < w7.heap.size := (Array.getElem?_eq_some_iff.1 hK1).1
  have g2_0 : w7.cell? ⟨R, 0, none⟩ = some (.float .f32 (sizeLo a b)) := cell_of_row w7 _ 0 _ _ _ hK2
  have f2_0 : w7.frozen? ⟨R, 0, none⟩ = false := frozen_of_row w7 _ 0 _ _ hK2
  have g2_1 : w7.cell? ⟨R, 1, none⟩ = some (.float .f32 (sizeHi a b)) := cell_of_row w7 _ 1 _ _ _ hK2
  have f2_1 : w7.frozen? ⟨R, 1, none⟩ = false := frozen_of_row w7 _ 1 _ _ hK2
  have g2_2 : w7.cell? ⟨R, 2, none⟩ = some (.float .f32 (sizeLo c d)) := cell_of_row w7 _ 2 _ _ _ hK2
  have f2_2 : w7.frozen? ⟨R, 2, none⟩ = false := frozen_of_row w7 _ 2 _ _ hK2
  have g2_3 : w7.cell? ⟨R, 3, none⟩ = some (.float .f32 (sizeHi c d)) := cell_of_row w7 _ 3 _ _ _ hK2
  have f2_3 : w7.frozen? ⟨R, 3, none⟩ = false := frozen_of_row w7 _ 3 _ _ hK2
  have g2_4 : w7.cell? ⟨R, 4, none⟩ = some (.float .f32 (sizeLo m n)) := cell_of_row w7 _ 4 _ _ _ hK2
  have f2_4 : w7.frozen? ⟨R, 4, none⟩ = false := frozen_of_row w7 _ 4 _ _ hK2
  have g2_5 : w7.cell? ⟨R, 5, none⟩ = some (.float .f32 (sizeHi m n)) := cell_of_row w7 _ 5 _ _ _ hK2
  have f2_5 : w7.frozen? ⟨R, 5, none⟩ = false := frozen_of_row w7 _ 5 _ _ hK2
  have l2 : R < w7.heap.size := (Array.getElem?_eq_some_iff.1 hK2).1
  clear hb
  go_wp2_with fail
  generalize hWs : (w7.setCell ⟨w.heap.size + 1, 0, none⟩ (.float .f32 r)).setCell ⟨w.heap.size + 1, 1, none⟩ (.float .f32 s) = w8
  have hS : w8.heap[w.heap.size + 1]? = some (.cells #[.float .f32 r, .float .f32 s] 38) := by
    subst hWs
    have s0 := heap_setCell_same (w7) _ 0 _ _ (.float .f32 r) hK1
    have s1 := heap_setCell_same ((w7).setCell ⟨w.heap.size + 1, 0, none⟩ (.float .f32 r)) _ 1 _ _ (.float .f32 s) s0
    simpa using s1
  have hO : ∀ q, q ≠ w.heap.size + 1 → w8.heap[q]? = w7.heap[q]? := fun q hq => by subst hWs; rw [heap_setCell_other _ _ _ _ hq, heap_setCell_other _ _ _ _ hq]
  have hB5 : Below w.heap.size w w8 := by
    subst hWs
    have hle : w.heap.size ≤ w.heap.size + 1 := by omega
    refine Below.setCell ?_ hle _
    refine Below.setCell ?_ hle _
    repeat (first | exact hB4 | refine below_drewN ?_ _)
  clear g0_0 f0_0 g0_1 f0_1 g0_2 f0_2 g0_3 f0_3 g0_4 f0_4 g0_5 f0_5 l0 g1_0 f1_0 g1_1 f1_1 l1 g2_0 f2_0 g2_1 f2_1 g2_2 f2_2 g2_3 f2_3 g2_4 f2_4 g2_5 f2_5 l2
  replace hK0 := (hO _ (by omega)).trans hK0
  replace hK2 := (hO _ (by omega)).trans hK2
  replace hK1 := hS
  clear hS hO hWs
  have g0_0 : w8.cell? ⟨w.heap.size, 0, none⟩ = some (.float .f32 a) := cell_of_row w8 _ 0 _ _ _ hK0
  have f0_0 : w8.frozen? ⟨w.heap.size, 0, none⟩ = false := frozen_of_row w8 _ 0 _ _ hK0
  have g0_1 : w8.cell? ⟨w.heap.size, 1, none⟩ = some (.float .f32 b) := cell_of_row w8 _ 1 _ _ _ hK0
  have f0_1 : w8.frozen? ⟨w.heap.size, 1, none⟩ = false := frozen_of_row w8 _ 1 _ _ hK0
  have g0_2 : w8.cell? ⟨w.heap.size, 2, none⟩ = some (.float .f32 c) := cell_of_row w8 _ 2 _ _ _ hK0
  have f0_2 : w8.frozen? ⟨w.heap.size, 2, none⟩ = false := frozen_of_row w8 _ 2 _ _ hK0
  have g0_3 : w8.cell? ⟨w.heap.size, 3, none⟩ = some (.float .f32 d) := cell_of_row w8 _ 3 _ _ _ hK0
  have f0_3 : w8.frozen? ⟨w.heap.size, 3, none⟩ = false := frozen_of_row w8 _ 3 _ _ hK0
  have g0_4 : w8.cell? ⟨w.heap.size, 4, none⟩ = some (.float .f32 m) := cell_of_row w8 _ 4 _ _ _ hK0
  have f0_4 : w8.frozen? ⟨w.heap.size, 4, none⟩ = false := frozen_of_row w8 _ 4 _ _ hK0
  have g0_5 : w8.cell? ⟨w.heap.size, 5, none⟩ = some (.float .f32 n) := cell_of_row w8 _ 5 _ _ _ hK0
  have f0_5 : w8.frozen? ⟨w.heap.size, 5, none⟩ = false := frozen_of_row w8 _ 5 _ _ hK0
  have l0 : w.heap.size < w8.heap.size := (Array.getElem?_eq_some_iff.1 hK0).1
  have g1_0 : w8.cell? ⟨w.heap.size + 1, 0, none⟩ = some (.float .f32 r) := cell_of_row w8 _ 0 _ _ _ hK1
  have f1_0 : w8.frozen? ⟨w.heap.size + 1, 0, none⟩ = false := frozen_of_row w8 _ 0 _ _ hK1
  have g1_1 : w8.cell? ⟨w.heap.size + 1, 1, none⟩ = some (.float .f32 s) := cell_of_row w8 _ 1 _ _ _ hK1
  have f1_1 : w8.frozen? ⟨w.heap.size + 1, 1, none⟩ = false := frozen_of_row w8 _ 1 _ _ hK1
  have l1 : w.heap.size + 1 < w8.heap.size := (Array.getElem?_eq_some_iff.1 hK1).1
  have g2_0 : w8.cell? ⟨R, 0, none⟩ = some (.float .f32 (sizeLo a b)) := cell_of_row w8 _ 0 _ _ _ hK2
  have f2_0 : w8.frozen? ⟨R, 0, none⟩ = false := frozen_of_row w8 _ 0 _ _ hK2
  have g2_1 : w8.cell? ⟨R, 1, none⟩ = some (.float .f32 (sizeHi a b)) := cell_of_row w8 _ 1 _ _ _ hK2
  have f2_1 : w8.frozen? ⟨R, 1, none⟩ = false := frozen_of_row w8 _ 1 _ _ hK2
  have g2_2 : w8.cell? ⟨R, 2, none⟩ = some (.float .f32 (sizeLo c d)) := cell_of_row w8 _ 2 _ _ _ hK2
  have f2_2 : w8.frozen? ⟨R, 2, none⟩ = false := frozen_of_row w8 _ 2 _ _ hK2
  have g2_3 : w8.cell? ⟨R, 3, none⟩ = some (.float .f32 (sizeHi c d)) := cell_of_row w8 _ 3 _ _ _ hK2
  have f2_3 : w8.frozen? ⟨R, 3, none⟩ = false := frozen_of_row w8 _ 3 _ _ hK2
  have g2_4 : w8.cell? ⟨R, 4, none⟩ = some (.float .f32 (sizeLo m n)) := cell_of_row w8 _ 4 _ _ _ hK2
  have f2_4 : w8.frozen? ⟨R, 4, none⟩ = false := frozen_of_row w8 _ 4 _ _ hK2
  have g2_5 : w8.cell? ⟨R, 5, none⟩ = some (.float .f32 (sizeHi m n)) := cell_of_row w8 _ 5 _ _ _ hK2
  have f2_5 : w8.frozen? ⟨R, 5, none⟩ = false := frozen_of_row w8 _ 5 _ _ hK2
  have l2 : R < w8.heap.size := (Array.getElem?_eq_some_iff.1 hK2).1
  exact bodyPost_ret (v := rng r s) (by simp [results, Try.results44, go_sem, g1_0, g1_1]) rfl ⟨r, s, rfl, hr, hs, er, es, hB5⟩
set_option maxHeartbeats 4000000 in
set_option maxRecDepth 100000 in
theorem LongRange_ok (a b c d m n : Nat) (w : World) (ha : a < 4294967296) (hb : b < 4294967296) (hc : c < 4294967296) (hd : d < 4294967296) (hm : m < 4294967296) (hn : n < 4294967296) :
    Calls Try.prog 22 #[rng a b, rng c d, rng m n] w (Rg (longLo a b c d m n) (longHi a b c d m n) w) := by
  go_enter Try.func22, Try.ntmps22
  go_wp2_with fail
  generalize hW0 : (((w.alloc (.cells #[.float .f32 a, .float .f32 b] 38)).alloc (.cells #[.float .f32 c, .float .f32 d] 38)).alloc (.cells #[.float .f32 m, .float .f32 n] 38)).alloc (.cells #[.float .f32 0, .float .f32 0] 38) = W0
  have hB0 : Below w.heap.size w W0 := by subst hW0; exact by (repeat (first | exact Below.refl _ _ | assumption | refine below_drewN ?_ _ | refine Below.setCell ?_ (by first | omega | (simp <;> omega)) _ | refine Below.alloc ?_ (by first | omega | (simp <;> omega)) _))
  have hK0 : W0.heap[w.heap.size + 1 + 1 + 1]? = some (.cells #[.float .f32 0, .float .f32 0] 38) := by
    subst hW0
    have := Go.heap_alloc_new ((((w.alloc (.cells #[.float .f32 a, .float .f32 b] 38)).alloc (.cells #[.float .f32 c, .float .f32 d] 38)).alloc (.cells #[.float .f32 m, .float .f32 n] 38))) (.cells #[.float .f32 0, .float .f32 0] 38)
    simpa using this
  clear hW0
  have g0_0 : W0.cell? ⟨w.heap.size + 1 + 1 + 1, 0, none⟩ = some (.float .f32 0) := cell_of_row W0 _ 0 _ _ _ hK0
  have f0_0 : W0.frozen? ⟨w.heap.size + 1 + 1 + 1, 0, none⟩ = false := frozen_of_row W0 _ 0 _ _ hK0
  have g0_1 : W0.cell? ⟨w.heap.size + 1 + 1 + 1, 1, none⟩ = some (.float .f32 0) := cell_of_row W0 _ 1 _ _ _ hK0
  have f0_1 : W0.frozen? ⟨w.heap.size + 1 + 1 + 1, 1, none⟩ = false := frozen_of_row W0 _ 1 _ _ hK0
  have l0 : w.heap.size + 1 + 1 + 1 < W0.heap.size := (Array.getElem?_eq_some_iff.1 hK0).1
  refine (rangeLong_ok a b c d m n _ ha hb hc hd hm hn).mono ?_
  rintro e w7 ⟨r, s, rfl, hr, hs, er, es, hb⟩
  clear g0_0 f0_0 g0_1 f0_1 l0
  have hE0 : Ext W0 w7 := hb
  have hB1 : Below w.heap.size w w7 := hB0.trans (hE0.mono hB0.size)
  replace hK0 := hE0.heap hK0
  have g0_0 : w7.cell? ⟨w.heap.size + 1 + 1 + 1, 0, none⟩ = some (.float .f32 0) := cell_of_row w7 _ 0 _ _ _ hK0
  have f0_0 : w7.frozen? ⟨w.heap.size + 1 + 1 + 1, 0, none⟩ = false := frozen_of_row w7 _ 0 _ _ hK0
  have g0_1 : w7.cell? ⟨w.heap.size + 1 + 1 + 1, 1, none⟩ = some (.float .f32 0) := cell_of_row w7 _ 1 _ _ _ hK0
  have f0_1 : w7.frozen? ⟨w.heap.size + 1 + 1 + 1, 1, none⟩ = false := frozen_of_row w7 _ 1 _ _ hK0
  have l0 : w.heap.size + 1 + 1 + 1 < w7.heap.size := (Array.getElem?_eq_some_iff.1 hK0).1
  clear hb
  go_wp2_with fail
  generalize hWs : (w7.setCell ⟨w.heap.size + 1 + 1 + 1, 0, none⟩ (.float .f32 r)).setCell ⟨w.heap.size + 1 + 1 + 1, 1, none⟩ (.float .f32 s) = w8
  have hS : w8.heap[w.heap.size + 1 + 1 + 1]? = some (.cells #[.float .f32 r, .float .f32 s] 38) := by
    subst hWs
    have s0 := heap_setCell_same (w7) _ 0 _ _ (.float .f32 r) hK0
    have s1 := heap_setCell_same ((w7).setCell ⟨w.heap.size + 1 + 1 + 1, 0, none⟩ (.float .f32 r)) _ 1 _ _ (.float .f32 s) s0
    simpa using s1
  have hO : ∀ q, q ≠ w.heap.size + 1 + 1 + 1 → w8.heap[q]? = w7.heap[q]? := fun q hq => by subst hWs; rw [heap_setCell_other _ _ _ _ hq, heap_setCell_other _ _ _ _ hq]
  have hB2 : Below w.heap.size w w8 := by
    subst hWs
    have hle : w.heap.size ≤ w.heap.size + 1 + 1 + 1 := by omega
    refine Below.setCell ?_ hle _
    refine Below.setCell ?_ hle _
    repeat (first | exact hB1 | refine below_drewN ?_ _)
  clear g0_0 f0_0 g0_1 f0_1 l0
  replace hK0 := hS
  clear hS hO hWs
  have g0_0 : w8.cell? ⟨w.heap.size + 1 + 1 + 1, 0, none⟩ = some (.float .f32 r) := cell_of_row w8 _ 0 _ _ _ hK0
  have f0_0 : w8.frozen? ⟨w.heap.size + 1 + 1 + 1, 0, none⟩ = false := frozen_of_row w8 _ 0 _ _ hK0
  have g0_1 : w8.cell? ⟨w.heap.size + 1 + 1 + 1, 1, none⟩ = some (.float .f32 s) := cell_of_row w8 _ 1 _ _ _ hK0
  have f0_1 : w8.frozen? ⟨w.heap.size + 1 + 1 + 1, 1, none⟩ = false := frozen_of_row w8 _ 1 _ _ hK0
  have l0 : w.heap.size + 1 + 1 + 1 < w8.heap.size := (Array.getElem?_eq_some_iff.1 hK0).1
  exact bodyPost_ret (v := rng r s) (by simp [results, Try.results22, go_sem, g0_0, g0_1]) rfl ⟨r, s, rfl, hr, hs, er, es, hB2⟩
set_option maxHeartbeats 4000000 in
set_option maxRecDepth 100000 in
theorem l04Long_ok (a b c d m n : Nat) (w : World) (ha : a < 4294967296) (hb : b < 4294967296) (hc : c < 4294967296) (hd : d < 4294967296) (hm : m < 4294967296) (hn : n < 4294967296) :
    Calls Try.prog 43 #[rng a b, rng c d, rng m n] w (Rg (longLo a b c d m n) (longHi a b c d m n) w) := by
  go_enter Try.func43, Try.ntmps43
  go_wp2_with fail
  generalize hW0 : (((w.alloc (.cells #[.float .f32 a, .float .f32 b] 38)).alloc (.cells #[.float .f32 c, .float .f32 d] 38)).alloc (.cells #[.float .f32 m, .float .f32 n] 38)).alloc (.cells #[.float .f32 0, .float .f32 0] 38) = W0
  have hB0 : Below w.heap.size w W0 := by subst hW0; exact by (repeat (first | exact Below.refl _ _ | assumption | refine below_drewN ?_ _ | refine Below.setCell ?_ (by first | omega | (simp <;> omega)) _ | refine Below.alloc ?_ (by first | omega | (simp <;> omega)) _))
  have hK0 : W0.heap[w.heap.size]? = some (.cells #[.float .f32 a, .float .f32 b] 38) := by 
    subst hW0
    rw [Go.RowKit.Below.heap_alloc _ _ _ (by simp <;> omega)]
    rw [Go.RowKit.Below.heap_alloc _ _ _ (by simp <;> omega)]
    exact heap_alloc2_old _ _ _
  have hK1 : W0.heap[w.heap.size + 1]? = some (.cells #[.float .f32 c, .float .f32 d] 38) := by 
    subst hW0
    rw [Go.RowKit.Below.heap_alloc _ _ _ (by simp <;> omega)]
    rw [Go.RowKit.Below.heap_alloc _ _ _ (by simp <;> omega)]
    exact heap_alloc2_new _ _ _
  have hK2 : W0.heap[w.heap.size + 1 + 1]? = some (.cells #[.float .f32 m, .float .f32 n] 38) := by 
    subst hW0
    rw [Go.RowKit.Below.heap_alloc _ _ _ (by simp <;> omega)]
    have := Go.heap_alloc_new ((w.alloc (.cells #[.float .f32 a, .float .f32 b] 38)).alloc (.cells #[.float .f32 c, .float .f32 d] 38)) (.cells #[.float .f32 m, .float .f32 n] 38)
    simpa using this
  have hK3 : W0.heap[w.heap.size + 1 + 1 + 1]? = some (.cells #[.float .f32 0, .float .f32 0] 38) := by 
    subst hW0
    have := Go.heap_alloc_new (((w.alloc (.cells #[.float .f32 a, .float .f32 b] 38)).alloc (.cells #[.float .f32 c, .float .f32 d] 38)).alloc (.cells #[.float .f32 m, .float .f32 n] 38)) (.cells #[.float .f32 0, .float .f32 0] 38)
    simpa using this
  clear hW0
  have hZ0 : w.heap.size + 1 + 1 + 1 < W0.heap.size := (Array.getElem?_eq_some_iff.1 hK3).1
  have g0_0 : W0.cell? ⟨w.heap.size, 0, none⟩ = some (.float .f32 a) := cell_of_row W0 _ 0 _ _ _ hK0
  have f0_0 : W0.frozen? ⟨w.heap.size, 0, none⟩ = false := frozen_of_row W0 _ 0 _ _ hK0
  have g0_1 : W0.cell? ⟨w.heap.size, 1, none⟩ = some (.float .f32 b) := cell_of_row W0 _ 1 _ _ _ hK0
  have f0_1 : W0.frozen? ⟨w.heap.size, 1, none⟩ = false := frozen_of_row W0 _ 1 _ _ hK0
  have l0 : w.heap.size < W0.heap.size := (Array.getElem?_eq_some_iff.1 hK0).1
  have g1_0 : W0.cell? ⟨w.heap.size + 1, 0, none⟩ = some (.float .f32 c) := cell_of_row W0 _ 0 _ _ _ hK1
  have f1_0 : W0.frozen? ⟨w.heap.size + 1, 0, none⟩ = false := frozen_of_row W0 _ 0 _ _ hK1
  have g1_1 : W0.cell? ⟨w.heap.size + 1, 1, none⟩ = some (.float .f32 d) := cell_of_row W0 _ 1 _ _ _ hK1
  have f1_1 : W0.frozen? ⟨w.heap.size + 1, 1, none⟩ = false := frozen_of_row W0 _ 1 _ _ hK1
  have l1 : w.heap.size + 1 < W0.heap.size := (Array.getElem?_eq_some_iff.1 hK1).1
  have g2_0 : W0.cell? ⟨w.heap.size + 1 + 1, 0, none⟩ = some (.float .f32 m) := cell_of_row W0 _ 0 _ _ _ hK2
  have f2_0 : W0.frozen? ⟨w.heap.size + 1 + 1, 0, none⟩ = false := frozen_of_row W0 _ 0 _ _ hK2
  have g2_1 : W0.cell? ⟨w.heap.size + 1 + 1, 1, none⟩ = some (.float .f32 n) := cell_of_row W0 _ 1 _ _ _ hK2
  have f2_1 : W0.frozen? ⟨w.heap.size + 1 + 1, 1, none⟩ = false := frozen_of_row W0 _ 1 _ _ hK2
  have l2 : w.heap.size + 1 + 1 < W0.heap.size := (Array.getElem?_eq_some_iff.1 hK2).1
  have g3_0 : W0.cell? ⟨w.heap.size + 1 + 1 + 1, 0, none⟩ = some (.float .f32 0) := cell_of_row W0 _ 0 _ _ _ hK3
  have f3_0 : W0.frozen? ⟨w.heap.size + 1 + 1 + 1, 0, none⟩ = false := frozen_of_row W0 _ 0 _ _ hK3
  have g3_1 : W0.cell? ⟨w.heap.size + 1 + 1 + 1, 1, none⟩ = some (.float .f32 0) := cell_of_row W0 _ 1 _ _ _ hK3
  have f3_1 : W0.frozen? ⟨w.heap.size + 1 + 1 + 1, 1, none⟩ = false := frozen_of_row W0 _ 1 _ _ hK3
  have l3 : w.heap.size + 1 + 1 + 1 < W0.heap.size := (Array.getElem?_eq_some_iff.1 hK3).1
  refine (l04Size_ok _ _ _ ha hb).mono ?_
  rintro e a0 ⟨rfl, hb⟩
  clear g0_0 f0_0 g0_1 f0_1 l0 g1_0 f1_0 g1_1 f1_1 l1 g2_0 f2_0 g2_1 f2_1 l2 g3_0 f3_0 g3_1 f3_1 l3
  have hE0 : Ext W0 a0 := hb
  have hB1 : Below w.heap.size w a0 := hB0.trans (hE0.mono hB0.size)
  replace hK0 := hE0.heap hK0
  replace hK1 := hE0.heap hK1
  replace hK2 := hE0.heap hK2
  replace hK3 := hE0.heap hK3
  have g0_0 : a0.cell? ⟨w.heap.size, 0, none⟩ = some (.float .f32 a) := cell_of_row a0 _ 0 _ _ _ hK0
  have f0_0 : a0.frozen? ⟨w.heap.size, 0, none⟩ = false := frozen_of_row a0 _ 0 _ _ hK0
  have g0_1 : a0.cell? ⟨w.heap.size, 1, none⟩ = some (.float .f32 b) := cell_of_row a0 _ 1 _ _ _ hK0
  have f0_1 : a0.frozen? ⟨w.heap.size, 1, none⟩ = false := frozen_of_row a0 _ 1 _ _ hK0
  have l0 : w.heap.size < a0.heap.size := (Array.getElem?_eq_some_iff.1 hK0).1
  have g1_0 : a0.cell? ⟨w.heap.size + 1, 0, none⟩ = some (.float .f32 c) := cell_of_row a0 _ 0 _ _ _ hK1
  have f1_0 : a0.frozen? ⟨w.heap.size + 1, 0, none⟩ = false := frozen_of_row a0 _ 0 _ _ hK1
  have g1_1 : a0.cell? ⟨w.heap.size + 1, 1, none⟩ = some (.float .f32 d) := cell_of_row a0 _ 1 _ _ _ hK1
  have f1_1 : a0.frozen? ⟨w.heap.size + 1, 1, none⟩ = false := frozen_of_row a0 _ 1 _ _ hK1
  have l1 : w.heap.size + 1 < a0.heap.size := (Array.getElem?_eq_some_iff.1 hK1).1
  have g2_0 : a0.cell? ⟨w.heap.size + 1 + 1, 0, none⟩ = some (.float .f32 m) := cell_of_row a0 _ 0 _ _ _ hK2
  have f2_0 : a0.frozen? ⟨w.heap.size + 1 + 1, 0, none⟩ = false := frozen_of_row a0 _ 0 _ _ hK2
  have g2_1 : a0.cell? ⟨w.heap.size + 1 + 1, 1, none⟩ = some (.float .f32 n) := cell_of_row a0 _ 1 _ _ _ hK2
  have f2_1 : a0.frozen? ⟨w.heap.size + 1 + 1, 1, none⟩ = false := frozen_of_row a0 _ 1 _ _ hK2
  have l2 : w.heap.size + 1 + 1 < a0.heap.size := (Array.getElem?_eq_some_iff.1 hK2).1
  have g3_0 : a0.cell? ⟨w.heap.size + 1 + 1 + 1, 0, none⟩ = some (.float .f32 0) := cell_of_row a0 _ 0 _ _ _ hK3
  have f3_0 : a0.frozen? ⟨w.heap.size + 1 + 1 + 1, 0, none⟩ = false := frozen_of_row a0 _ 0 _ _ hK3
  have g3_1 : a0.cell? ⟨w.heap.size + 1 + 1 + 1, 1, none⟩ = some (.float .f32 0) := cell_of_row a0 _ 1 _ _ _ hK3
  have f3_1 : a0.frozen? ⟨w.heap.size + 1 + 1 + 1, 1, none⟩ = false := frozen_of_row a0 _ 1 _ _ hK3
  have l3 : w.heap.size + 1 + 1 + 1 < a0.heap.size := (Array.getElem?_eq_some_iff.1 hK3).1
  clear hb
  go_wp2_with fail
  generalize hWs : (a0.setCell ⟨w.heap.size, 0, none⟩ (.float .f32 (sizeLo a b))).setCell ⟨w.heap.size, 1, none⟩ (.float .f32 (sizeHi a b)) = b0
  have hS : b0.heap[w.heap.size]? = some (.cells #[.float .f32 (sizeLo a b), .float .f32 (sizeHi a b)] 38) := by
    subst hWs
    have s0 := heap_setCell_same (a0) _ 0 _ _ (.float .f32 (sizeLo a b)) hK0
    have s1 := heap_setCell_same ((a0).setCell ⟨w.heap.size, 0, none⟩ (.float .f32 (sizeLo a b))) _ 1 _ _ (.float .f32 (sizeHi a b)) s0
    simpa using s1
  have hO : ∀ q, q ≠ w.heap.size → b0.heap[q]? = a0.heap[q]? := fun q hq => by subst hWs; rw [heap_setCell_other _ _ _ _ hq, heap_setCell_other _ _ _ _ hq]
  have hB2 : Below w.heap.size w b0 := by
    subst hWs
    have hle : w.heap.size ≤ w.heap.size := by omega
    refine Below.setCell ?_ hle _
    refine Below.setCell ?_ hle _
    repeat (first | exact hB1 | refine below_drewN ?_ _)
  clear g0_0 f0_0 g0_1 f0_1 l0 g1_0 f1_0 g1_1 f1_1 l1 g2_0 f2_0 g2_1 f2_1 l2 g3_0 f3_0 g3_1 f3_1 l3
  replace hK1 := (hO _ (by omega)).trans hK1
  replace hK2 := (hO _ (by omega)).trans hK2
  replace hK3 := (hO _ (by omega)).trans hK3
  replace hK0 := hS
  clear hS hO hWs
  have g0_0 : b0.cell? ⟨w.heap.size, 0, none⟩ = some (.float .f32 (sizeLo a b)) := cell_of_row b0 _ 0 _ _ _ hK0
  have f0_0 : b0.frozen? ⟨w.heap.size, 0, none⟩ = false := frozen_of_row b0 _ 0 _ _ hK0
  have g0_1 : b0.cell? ⟨w.heap.size, 1, none⟩ = some (.float .f32 (sizeHi a b)) := cell_of_row b0 _ 1 _ _ _ hK0
  have f0_1 : b0.frozen? ⟨w.heap.size, 1, none⟩ = false := frozen_of_row b0 _ 1 _ _ hK0
  have l0 : w.heap.size < b0.heap.size := (Array.getElem?_eq_some_iff.1 hK0).1
  have g1_0 : b0.cell? ⟨w.heap.size + 1, 0, none⟩ = some (.float .f32 c) := cell_of_row b0 _ 0 _ _ _ hK1
  have f1_0 : b0.frozen? ⟨w.heap.size + 1, 0, none⟩ = false := frozen_of_row b0 _ 0 _ _ hK1
  have g1_1 : b0.cell? ⟨w.heap.size + 1, 1, none⟩ = some (.float .f32 d) := cell_of_row b0 _ 1 _ _ _ hK1
  have f1_1 : b0.frozen? ⟨w.heap.size + 1, 1, none⟩ = false := frozen_of_row b0 _ 1 _ _ hK1
  have l1 : w.heap.size + 1 < b0.heap.size := (Array.getElem?_eq_some_iff.1 hK1).1
  have g2_0 : b0.cell? ⟨w.heap.size + 1 + 1, 0, none⟩ = some (.float .f32 m) := cell_of_row b0 _ 0 _ _ _ hK2
  have f2_0 : b0.frozen? ⟨w.heap.size + 1 + 1, 0, none⟩ = false := frozen_of_row b0 _ 0 _ _ hK2
  have g2_1 : b0.cell? ⟨w.heap.size + 1 + 1, 1, none⟩ = some (.float .f32 n) := cell_of_row b0 _ 1 _ _ _ hK2
  have f2_1 : b0.frozen? ⟨w.heap.size + 1 + 1, 1, none⟩ = false := frozen_of_row b0 _ 1 _ _ hK2
  have l2 : w.heap.size + 1 + 1 < b0.heap.size := (Array.getElem?_eq_some_iff.1 hK2).1
  have g3_0 : b0.cell? ⟨w.heap.size + 1 + 1 + 1, 0, none⟩ = some (.float .f32 0) := cell_of_row b0 _ 0 _ _ _ hK3
  have f3_0 : b0.frozen? ⟨w.heap.size + 1 + 1 + 1, 0, none⟩ = false := frozen_of_row b0 _ 0 _ _ hK3
  have g3_1 : b0.cell? ⟨w.heap.size + 1 + 1 + 1, 1, none⟩ = some (.float .f32 0) := cell_of_row b0 _ 1 _ _ _ hK3
  have f3_1 : b0.frozen? ⟨w.heap.size + 1 + 1 + 1, 1, none⟩ = false := frozen_of_row b0 _ 1 _ _ hK3
  have l3 : w.heap.size + 1 + 1 + 1 < b0.heap.size := (Array.getElem?_eq_some_iff.1 hK3).1
  refine (l04Size_ok _ _ _ hc hd).mono ?_
  rintro e a1 ⟨rfl, hb⟩
  clear g0_0 f0_0 g0_1 f0_1 l0 g1_0 f1_0 g1_1 f1_1 l1 g2_0 f2_0 g2_1 f2_1 l2 g3_0 f3_0 g3_1 f3_1 l3
  have hE2 : Ext b0 a1 := hb
  have hB3 : Below w.heap.size w a1 := hB2.trans (hE2.mono hB2.size)
  replace hK0 := hE2.heap hK0
  replace hK1 := hE2.heap hK1
  replace hK2 := hE2.heap hK2
  replace hK3 := hE2.heap hK3
  have g0_0 : a1.cell? ⟨w.heap.size, 0, none⟩ = some (.float .f32 (sizeLo a b)) := cell_of_row a1 _ 0 _ _ _ hK0
  have f0_0 : a1.frozen? ⟨w.heap.size, 0, none⟩ = false := frozen_of_row a1 _ 0 _ _ hK0
  have g0_1 : a1.cell? ⟨w.heap.size, 1, none⟩ = some (.float .f32 (sizeHi a b)) := cell_of_row a1 _ 1 _ _ _ hK0
  have f0_1 : a1.frozen? ⟨w.heap.size, 1, none⟩ = false := frozen_of_row a1 _ 1 _ _ hK0
  have l0 : w.heap.size < a1.heap.size := (Array.getElem?_eq_some_iff.1 hK0).1
  have g1_0 : a1.cell? ⟨w.heap.size + 1, 0, none⟩ = some (.float .f32 c) := cell_of_row a1 _ 0 _ _ _ hK1
  have f1_0 : a1.frozen? ⟨w.heap.size + 1, 0, none⟩ = false := frozen_of_row a1 _ 0 _ _ hK1
  have g1_1 : a1.cell? ⟨w.heap.size + 1, 1, none⟩ = some (.float .f32 d) := cell_of_row a1 _ 1 _ _ _ hK1
  have f1_1 : a1.frozen? ⟨w.heap.size + 1, 1, none⟩ = false := frozen_of_row a1 _ 1 _ _ hK1
  have l1 : w.heap.size + 1 < a1.heap.size := (Array.getElem?_eq_some_iff.1 hK1).1
  have g2_0 : a1.cell? ⟨w.heap.size + 1 + 1, 0, none⟩ = some (.float .f32 m) := cell_of_row a1 _ 0 _ _ _ hK2
  have f2_0 : a1.frozen? ⟨w.heap.size + 1 + 1, 0, none⟩ = false := frozen_of_row a1 _ 0 _ _ hK2
  have g2_1 : a1.cell? ⟨w.heap.size + 1 + 1, 1, none⟩ = some (.float .f32 n) := cell_of_row a1 _ 1 _ _ _ hK2
  have f2_1 : a1.frozen? ⟨w.heap.size + 1 + 1, 1, none⟩ = false := frozen_of_row a1 _ 1 _ _ hK2
  have l2 : w.heap.size + 1 + 1 < a1.heap.size := (Array.getElem?_eq_some_iff.1 hK2).1
  have g3_0 : a1.cell? ⟨w.heap.size + 1 + 1 + 1, 0, none⟩ = some (.float .f32 0) := cell_of_row a1 _ 0 _ _ _ hK3
  have f3_0 : a1.frozen? ⟨w.heap.size + 1 + 1 + 1, 0, none⟩ = false := frozen_of_row a1 _ 0 _ _ hK3
  have g3_1 : a1.cell? ⟨w.heap.size + 1 + 1 + 1, 1, none⟩ = some (.float .f32 0) := cell_of_row a1 _ 1 _ _ _ hK3
  have f3_1 : a1.frozen? ⟨w.heap.size + 1 + 1 + 1, 1, none⟩ = false := frozen_of_row a1 _ 1 _ _ hK3
  have l3 : w.heap.size + 1 + 1 + 1 < a1.heap.size := (Array.getElem?_eq_some_iff.1 hK3).1
  clear hb
  go_wp2_with fail
  generalize hWs : (a1.setCell ⟨w.heap.size + 1, 0, none⟩ (.float .f32 (sizeLo c d))).setCell ⟨w.heap.size + 1, 1, none⟩ (.float .f32 (sizeHi c d)) = b1
  have hS : b1.heap[w.heap.size + 1]? = some (.cells #[.float .f32 (sizeLo c d), .float .f32 (sizeHi c d)] 38) := by
    subst hWs
    have s0 := heap_setCell_same (a1) _ 0 _ _ (.float .f32 (sizeLo c d)) hK1
    have s1 := heap_setCell_same ((a1).setCell ⟨w.heap.size + 1, 0, none⟩ (.float .f32 (sizeLo c d))) _ 1 _ _ (.float .f32 (sizeHi c d)) s0
    simpa using s1
  have hO : ∀ q, q ≠ w.heap.size + 1 → b1.heap[q]? = a1.heap[q]? := fun q hq => by subst hWs; rw [heap_setCell_other _ _ _ _ hq, heap_setCell_other _ _ _ _ hq]
  have hB4 : Below w.heap.size w b1 := by
    subst hWs
    have hle : w.heap.size ≤ w.heap.size + 1 := by omega
    refine Below.setCell ?_ hle _
    refine Below.setCell ?_ hle _
    repeat (first | exact hB3 | refine below_drewN ?_ _)
  clear g0_0 f0_0 g0_1 f0_1 l0 g1_0 f1_0 g1_1 f1_1 l1 g2_0 f2_0 g2_1 f2_1 l2 g3_0 f3_0 g3_1 f3_1 l3
  replace hK0 := (hO _ (by omega)).trans hK0
  replace hK2 := (hO _ (by omega)).trans hK2
  replace hK3 := (hO _ (by omega)).trans hK3
  replace hK1 := hS
  clear hS hO hWs
  have g0_0 : b1.cell? ⟨w.heap.size, 0, none⟩ = some (.float .f32 (sizeLo a b)) := cell_of_row b1 _ 0 _ _ _ hK0
  have f0_0 : b1.frozen? ⟨w.heap.size, 0, none⟩ = false := frozen_of_row b1 _ 0 _ _ hK0
  have g0_1 : b1.cell? ⟨w.heap.size, 1, none⟩ = some (.float .f32 (sizeHi a b)) := cell_of_row b1 _ 1 _ _ _ hK0
  have f0_1 : b1.frozen? ⟨w.heap.size, 1, none⟩ = false := frozen_of_row b1 _ 1 _ _ hK0
  have l0 : w.heap.size < b1.heap.size := (Array.getElem?_eq_some_iff.1 hK0).1
  have g1_0 : b1.cell? ⟨w.heap.size + 1, 0, none⟩ = some (.float .f32 (sizeLo c d)) := cell_of_row b1 _ 0 _ _ _ hK1
  have f1_0 : b1.frozen? ⟨w.heap.size + 1, 0, none⟩ = false := frozen_of_row b1 _ 0 _ _ hK1
  have g1_1 : b1.cell? ⟨w.heap.size + 1, 1, none⟩ = some (.float .f32 (sizeHi c d)) := cell_of_row b1 _ 1 _ _ _ hK1
  have f1_1 : b1.frozen? ⟨w.heap.size + 1, 1, none⟩ = false := frozen_of_row b1 _ 1 _ _ hK1
  have l1 : w.heap.size + 1 < b1.heap.size := (Array.getElem?_eq_some_iff.1 hK1).1
  have g2_0 : b1.cell? ⟨w.heap.size + 1 + 1, 0, none⟩ = some (.float .f32 m) := cell_of_row b1 _ 0 _ _ _ hK2
  have f2_0 : b1.frozen? ⟨w.heap.size + 1 + 1, 0, none⟩ = false := frozen_of_row b1 _ 0 _ _ hK2
  have g2_1 : b1.cell? ⟨w.heap.size + 1 + 1, 1, none⟩ = some (.float .f32 n) := cell_of_row b1 _ 1 _ _ _ hK2
  have f2_1 : b1.frozen? ⟨w.heap.size + 1 + 1, 1, none⟩ = false := frozen_of_row b1 _ 1 _ _ hK2
  have l2 : w.heap.size + 1 + 1 < b1.heap.size := (Array.getElem?_eq_some_iff.1 hK2).1
  have g3_0 : b1.cell? ⟨w.heap.size + 1 + 1 + 1, 0, none⟩ = some (.float .f32 0) := cell_of_row b1 _ 0 _ _ _ hK3
  have f3_0 : b1.frozen? ⟨w.heap.size + 1 + 1 + 1, 0, none⟩ = false := frozen_of_row b1 _ 0 _ _ hK3
  have g3_1 : b1.cell? ⟨w.heap.size + 1 + 1 + 1, 1, none⟩ = some (.float .f32 0) := cell_of_row b1 _ 1 _ _ _ hK3
  have f3_1 : b1.frozen? ⟨w.heap.size + 1 + 1 + 1, 1, none⟩ = false := frozen_of_row b1 _ 1 _ _ hK3
  have l3 : w.heap.size + 1 + 1 + 1 < b1.heap.size := (Array.getElem?_eq_some_iff.1 hK3).1
  refine (l04Size_ok _ _ _ hm hn).mono ?_
  rintro e a2 ⟨rfl, hb⟩
  clear g0_0 f0_0 g0_1 f0_1 l0 g1_0 f1_0 g1_1 f1_1 l1 g2_0 f2_0 g2_1 f2_1 l2 g3_0 f3_0 g3_1 f3_1 l3
  have hE4 : Ext b1 a2 := hb
  have hB5 : Below w.heap.size w a2 := hB4.trans (hE4.mono hB4.size)
  replace hK0 := hE4.heap hK0
  replace hK1 := hE4.heap hK1
  replace hK2 := hE4.heap hK2
  replace hK3 := hE4.heap hK3
  have g0_0 : a2.cell? ⟨w.heap.size, 0, none⟩ = some (.float .f32 (sizeLo a b)) := cell_of_row a2 _ 0 _ _ _ hK0
  have f0_0 : a2.frozen? ⟨w.heap.size, 0, none⟩ = false := frozen_of_row a2 _ 0 _ _ hK0
  have g0_1 : a2.cell? ⟨w.heap.size, 1, none⟩ = some (.float .f32 (sizeHi a b)) := cell_of_row a2 _ 1 _ _ _ hK0
  have f0_1 : a2.frozen? ⟨w.heap.size, 1, none⟩ = false := frozen_of_row a2 _ 1 _ _ hK0
  have l0 : w.heap.size < a2.heap.size := (Array.getElem?_eq_some_iff.1 hK0).1
  have g1_0 : a2.cell? ⟨w.heap.size + 1, 0, none⟩ = some (.float .f32 (sizeLo c d)) := cell_of_row a2 _ 0 _ _ _ hK1
  have f1_0 : a2.frozen? ⟨w.heap.size + 1, 0, none⟩ = false := frozen_of_row a2 _ 0 _ _ hK1
  have g1_1 : a2.cell? ⟨w.heap.size + 1, 1, none⟩ = some (.float .f32 (sizeHi c d)) := cell_of_row a2 _ 1 _ _ _ hK1
  have f1_1 : a2.frozen? ⟨w.heap.size + 1, 1, none⟩ = false := frozen_of_row a2 _ 1 _ _ hK1
  have l1 : w.heap.size + 1 < a2.heap.size := (Array.getElem?_eq_some_iff.1 hK1).1
  have g2_0 : a2.cell? ⟨w.heap.size + 1 + 1, 0, none⟩ = some (.float .f32 m) := cell_of_row a2 _ 0 _ _ _ hK2
  have f2_0 : a2.frozen? ⟨w.heap.size + 1 + 1, 0, none⟩ = false := frozen_of_row a2 _ 0 _ _ hK2
  have g2_1 : a2.cell? ⟨w.heap.size + 1 + 1, 1, none⟩ = some (.float .f32 n) := cell_of_row a2 _ 1 _ _ _ hK2
  have f2_1 : a2.frozen? ⟨w.heap.size + 1 + 1, 1, none⟩ = false := frozen_of_row a2 _ 1 _ _ hK2
  have l2 : w.heap.size + 1 + 1 < a2.heap.size := (Array.getElem?_eq_some_iff.1 hK2).1
  have g3_0 : a2.cell? ⟨w.heap.size + 1 + 1 + 1, 0, none⟩ = some (.float .f32 0) := cell_of_row a2 _ 0 _ _ _ hK3
  have f3_0 : a2.frozen? ⟨w.heap.size + 1 + 1 + 1, 0, none⟩ = false := frozen_of_row a2 _ 0 _ _ hK3
  have g3_1 : a2.cell? ⟨w.heap.size + 1 + 1 + 1, 1, none⟩ = some (.float .f32 0) := cell_of_row a2 _ 1 _ _ _ hK3
  have f3_1 : a2.frozen? ⟨w.heap.size + 1 + 1 + 1, 1, none⟩ = false := frozen_of_row a2 _ 1 _ _ hK3
  have l3 : w.heap.size + 1 + 1 + 1 < a2.heap.size := (Array.getElem?_eq_some_iff.1 hK3).1
  clear hb
  go_wp2_with fail
  generalize hWs : (a2.setCell ⟨w.heap.size + 1 + 1, 0, none⟩ (.float .f32 (sizeLo m n))).setCell ⟨w.heap.size + 1 + 1, 1, none⟩ (.float .f32 (sizeHi m n)) = b2
  have hS : b2.heap[w.heap.size + 1 + 1]? = some (.cells #[.float .f32 (sizeLo m n), .float .f32 (sizeHi m n)] 38) := by
    subst hWs
    have s0 := heap_setCell_same (a2) _ 0 _ _ (.float .f32 (sizeLo m n)) hK2
    have s1 := heap_setCell_same ((a2).setCell ⟨w.heap.size + 1 + 1, 0, none⟩ (.float .f32 (sizeLo m n))) _ 1 _ _ (.float .f32 (sizeHi m n)) s0
    simpa using s1
  have hO : ∀ q, q ≠ w.heap.size + 1 + 1 → b2.heap[q]? = a2.heap[q]? := fun q hq => by subst hWs; rw [heap_setCell_other _ _ _ _ hq, heap_setCell_other _ _ _ _ hq]
  have hB6 : Below w.heap.size w b2 := by
    subst hWs
    have hle : w.heap.size ≤ w.heap.size + 1 + 1 := by omega
    refine Below.setCell ?_ hle _
    refine Below.setCell ?_ hle _
    repeat (first | exact hB5 | refine below_drewN ?_ _)
  clear g0_0 f0_0 g0_1 f0_1 l0 g1_0 f1_0 g1_1 f1_1 l1 g2_0 f2_0 g2_1 f2_1 l2 g3_0 f3_0 g3_1 f3_1 l3
  replace hK0 := (hO _ (by omega)).trans hK0
  replace hK1 := (hO _ (by omega)).trans hK1
  replace hK3 := (hO _ (by omega)).trans hK3
  replace hK2 := hS
  clear hS hO hWs
  have g0_0 : b2.cell? ⟨w.heap.size, 0, none⟩ = some (.float .f32 (sizeLo a b)) := cell_of_row b2 _ 0 _ _ _ hK0
  have f0_0 : b2.frozen? ⟨w.heap.size, 0, none⟩ = false := frozen_of_row b2 _ 0 _ _ hK0
  have g0_1 : b2.cell? ⟨w.heap.size, 1, none⟩ = some (.float .f32 (sizeHi a b)) := cell_of_row b2 _ 1 _ _ _ hK0
  have f0_1 : b2.frozen? ⟨w.heap.size, 1, none⟩ = false := frozen_of_row b2 _ 1 _ _ hK0
  have l0 : w.heap.size < b2.heap.size := (Array.getElem?_eq_some_iff.1 hK0).1
  have g1_0 : b2.cell? ⟨w.heap.size + 1, 0, none⟩ = some (.float .f32 (sizeLo c d)) := cell_of_row b2 _ 0 _ _ _ hK1
  have f1_0 : b2.frozen? ⟨w.heap.size + 1, 0, none⟩ = false := frozen_of_row b2 _ 0 _ _ hK1
  have g1_1 : b2.cell? ⟨w.heap.size + 1, 1, none⟩ = some (.float .f32 (sizeHi c d)) := cell_of_row b2 _ 1 _ _ _ hK1
  have f1_1 : b2.frozen? ⟨w.heap.size + 1, 1, none⟩ = false := frozen_of_row b2 _ 1 _ _ hK1
  have l1 : w.heap.size + 1 < b2.heap.size := (Array.getElem?_eq_some_iff.1 hK1).1
  have g2_0 : b2.cell? ⟨w.heap.size + 1 + 1, 0, none⟩ = some (.float .f32 (sizeLo m n)) := cell_of_row b2 _ 0 _ _ _ hK2
  have f2_0 : b2.frozen? ⟨w.heap.size + 1 + 1, 0, none⟩ = false := frozen_of_row b2 _ 0 _ _ hK2
  have g2_1 : b2.cell? ⟨w.heap.size + 1 + 1, 1, none⟩ = some (.float .f32 (sizeHi m n)) := cell_of_row b2 _ 1 _ _ _ hK2
  have f2_1 : b2.frozen? ⟨w.heap.size + 1 + 1, 1, none⟩ = false := frozen_of_row b2 _ 1 _ _ hK2
  have l2 : w.heap.size + 1 + 1 < b2.heap.size := (Array.getElem?_eq_some_iff.1 hK2).1
  have g3_0 : b2.cell? ⟨w.heap.size + 1 + 1 + 1, 0, none⟩ = some (.float .f32 0) := cell_of_row b2 _ 0 _ _ _ hK3
  have f3_0 : b2.frozen? ⟨w.heap.size + 1 + 1 + 1, 0, none⟩ = false := frozen_of_row b2 _ 0 _ _ hK3
  have g3_1 : b2.cell? ⟨w.heap.size + 1 + 1 + 1, 1, none⟩ = some (.float .f32 0) := cell_of_row b2 _ 1 _ _ _ hK3
  have f3_1 : b2.frozen? ⟨w.heap.size + 1 + 1 + 1, 1, none⟩ = false := frozen_of_row b2 _ 1 _ _ hK3
  have l3 : w.heap.size + 1 + 1 + 1 < b2.heap.size := (Array.getElem?_eq_some_iff.1 hK3).1
  refine (l01Long_ok _ _ _ _).mono ?_
  rintro e c0 ⟨r, rfl, hr, er, hb⟩
  clear g0_0 f0_0 g0_1 f0_1 l0 g1_0 f1_0 g1_1 f1_1 l1 g2_0 f2_0 g2_1 f2_1 l2 g3_0 f3_0 g3_1 f3_1 l3
  have hE6 : Ext b2 c0 := hb
  have hB7 : Below w.heap.size w c0 := hB6.trans (hE6.mono hB6.size)
  replace hK0 := hE6.heap hK0
  replace hK1 := hE6.heap hK1
  replace hK2 := hE6.heap hK2
  replace hK3 := hE6.heap hK3
  have g0_0 : c0.cell? ⟨w.heap.size, 0, none⟩ = some (.float .f32 (sizeLo a b)) := cell_of_row c0 _ 0 _ _ _ hK0
  have f0_0 : c0.frozen? ⟨w.heap.size, 0, none⟩ = false := frozen_of_row c0 _ 0 _ _ hK0
  have g0_1 : c0.cell? ⟨w.heap.size, 1, none⟩ = some (.float .f32 (sizeHi a b)) := cell_of_row c0 _ 1 _ _ _ hK0
  have f0_1 : c0.frozen? ⟨w.heap.size, 1, none⟩ = false := frozen_of_row c0 _ 1 _ _ hK0
  have l0 : w.heap.size < c0.heap.size := (Array.getElem?_eq_some_iff.1 hK0).1
  have g1_0 : c0.cell? ⟨w.heap.size + 1, 0, none⟩ = some (.float .f32 (sizeLo c d)) := cell_of_row c0 _ 0 _ _ _ hK1
  have f1_0 : c0.frozen? ⟨w.heap.size + 1, 0, none⟩ = false := frozen_of_row c0 _ 0 _ _ hK1
  have g1_1 : c0.cell? ⟨w.heap.size + 1, 1, none⟩ = some (.float .f32 (sizeHi c d)) := cell_of_row c0 _ 1 _ _ _ hK1
  have f1_1 : c0.frozen? ⟨w.heap.size + 1, 1, none⟩ = false := frozen_of_row c0 _ 1 _ _ hK1
  have l1 : w.heap.size + 1 < c0.heap.size := (Array.getElem?_eq_some_iff.1 hK1).1
  have g2_0 : c0.cell? ⟨w.heap.size + 1 + 1, 0, none⟩ = some (.float .f32 (sizeLo m n)) := cell_of_row c0 _ 0 _ _ _ hK2
  have f2_0 : c0.frozen? ⟨w.heap.size + 1 + 1, 0, none⟩ = false := frozen_of_row c0 _ 0 _ _ hK2
  have g2_1 : c0.cell? ⟨w.heap.size + 1 + 1, 1, none⟩ = some (.float .f32 (sizeHi m n)) := cell_of_row c0 _ 1 _ _ _ hK2
  have f2_1 : c0.frozen? ⟨w.heap.size + 1 + 1, 1, none⟩ = false := frozen_of_row c0 _ 1 _ _ hK2
  have l2 : w.heap.size + 1 + 1 < c0.heap.size := (Array.getElem?_eq_some_iff.1 hK2).1
  have g3_0 : c0.cell? ⟨w.heap.size + 1 + 1 + 1, 0, none⟩ = some (.float .f32 0) := cell_of_row c0 _ 0 _ _ _ hK3
  have f3_0 : c0.frozen? ⟨w.heap.size + 1 + 1 + 1, 0, none⟩ = false := frozen_of_row c0 _ 0 _ _ hK3
  have g3_1 : c0.cell? ⟨w.heap.size + 1 + 1 + 1, 1, none⟩ = some (.float .f32 0) := cell_of_row c0 _ 1 _ _ _ hK3
  have f3_1 : c0.frozen? ⟨w.heap.size + 1 + 1 + 1, 1, none⟩ = false := frozen_of_row c0 _ 1 _ _ hK3
  have l3 : w.heap.size + 1 + 1 + 1 < c0.heap.size := (Array.getElem?_eq_some_iff.1 hK3).1
  clear hb
  go_wp2_with fail
  refine (l01Long_ok _ _ _ _).mono ?_
  rintro e c1 ⟨s, rfl, hs, es, hb⟩
  clear g0_0 f0_0 g0_1 f0_1 l0 g1_0 f1_0 g1_1 f1_1 l1 g2_0 f2_0 g2_1 f2_1 l2 g3_0 f3_0 g3_1 f3_1 l3
  have hE7 : Ext c0 c1 := hb
  have hB8 : Below w.heap.size w c1 := hB7.trans (hE7.mono hB7.size)
  replace hK0 := hE7.heap hK0
  replace hK1 := hE7.heap hK1
  replace hK2 := hE7.heap hK2
  replace hK3 := hE7.heap hK3
  have g0_0 : c1.cell? ⟨w.heap.size, 0, none⟩ = some (.float .f32 (sizeLo a b)) := cell_of_row c1 _ 0 _ _ _ hK0
  have f0_0 : c1.frozen? ⟨w.heap.size, 0, none⟩ = false := frozen_of_row c1 _ 0 _ _ hK0
  have g0_1 : c1.cell? ⟨w.heap.size, 1, none⟩ = some (.float .f32 (sizeHi a b)) := cell_of_row c1 _ 1 _ _ _ hK0
  have f0_1 : c1.frozen? ⟨w.heap.size, 1, none⟩ = false := frozen_of_row c1 _ 1 _ _ hK0
  have l0 : w.heap.size < c1.heap.size := (Array.getElem?_eq_some_iff.1 hK0).1
  have g1_0 : c1.cell? ⟨w.heap.size + 1, 0, none⟩ = some (.float .f32 (sizeLo c d)) := cell_of_row c1 _ 0 _ _ _ hK1
  have f1_0 : c1.frozen? ⟨w.heap.size + 1, 0, none⟩ = false := frozen_of_row c1 _ 0 _ _ hK1
  have g1_1 : c1.cell? ⟨w.heap.size + 1, 1, none⟩ = some (.float .f32 (sizeHi c d)) := cell_of_row c1 _ 1 _ _ _ hK1
  have f1_1 : c1.frozen? ⟨w.heap.size + 1, 1, none⟩ = false := frozen_of_row c1 _ 1 _ _ hK1
  have l1 : w.heap.size + 1 < c1.heap.size := (Array.getElem?_eq_some_iff.1 hK1).1
  have g2_0 : c1.cell? ⟨w.heap.size + 1 + 1, 0, none⟩ = some (.float .f32 (sizeLo m n)) := cell_of_row c1 _ 0 _ _ _ hK2
  have f2_0 : c1.frozen? ⟨w.heap.size + 1 + 1, 0, none⟩ = false := frozen_of_row c1 _ 0 _ _ hK2
  have g2_1 : c1.cell? ⟨w.heap.size + 1 + 1, 1, none⟩ = some (.float .f32 (sizeHi m n)) := cell_of_row c1 _ 1 _ _ _ hK2
  have f2_1 : c1.frozen? ⟨w.heap.size + 1 + 1, 1, none⟩ = false := frozen_of_row c1 _ 1 _ _ hK2
  have l2 : w.heap.size + 1 + 1 < c1.heap.size := (Array.getElem?_eq_some_iff.1 hK2).1
  have g3_0 : c1.cell? ⟨w.heap.size + 1 + 1 + 1, 0, none⟩ = some (.float .f32 0) := cell_of_row c1 _ 0 _ _ _ hK3
  have f3_0 : c1.frozen? ⟨w.heap.size + 1 + 1 + 1, 0, none⟩ = false := frozen_of_row c1 _ 0 _ _ hK3
  have g3_1 : c1.cell? ⟨w.heap.size + 1 + 1 + 1, 1, none⟩ = some (.float .f32 0) := cell_of_row c1 _ 1 _ _ _ hK3
  have f3_1 : c1.frozen? ⟨w.heap.size + 1 + 1 + 1, 1, none⟩ = false := frozen_of_row c1 _ 1 _ _ hK3
  have l3 : w.heap.size + 1 + 1 + 1 < c1.heap.size := (Array.getElem?_eq_some_iff.1 hK3).1
  clear hb
  go_wp2_with fail
  generalize hWs : (c1.setCell ⟨w.heap.size + 1 + 1 + 1, 0, none⟩ (.float .f32 r)).setCell ⟨w.heap.size + 1 + 1 + 1, 1, none⟩ (.float .f32 s) = c2
  have hS : c2.heap[w.heap.size + 1 + 1 + 1]? = some (.cells #[.float .f32 r, .float .f32 s] 38) := by
    subst hWs
    have s0 := heap_setCell_same (c1) _ 0 _ _ (.float .f32 r) hK3
    have s1 := heap_setCell_same ((c1).setCell ⟨w.heap.size + 1 + 1 + 1, 0, none⟩ (.float .f32 r)) _ 1 _ _ (.float .f32 s) s0
    simpa using s1
  have hO : ∀ q, q ≠ w.heap.size + 1 + 1 + 1 → c2.heap[q]? = c1.heap[q]? := fun q hq => by subst hWs; rw [heap_setCell_other _ _ _ _ hq, heap_setCell_other _ _ _ _ hq]
  have hB9 : Below w.heap.size w c2 := by
    subst hWs
    have hle : w.heap.size ≤ w.heap.size + 1 + 1 + 1 := by omega
    refine Below.setCell ?_ hle _
    refine Below.setCell ?_ hle _
    repeat (first | exact hB8 | refine below_drewN ?_ _)
  clear g0_0 f0_0 g0_1 f0_1 l0 g1_0 f1_0 g1_1 f1_1 l1 g2_0 f2_0 g2_1 f2_1 l2 g3_0 f3_0 g3_1 f3_1 l3
  replace hK0 := (hO _ (by omega)).trans hK0
  replace hK1 := (hO _ (by omega)).trans hK1
  replace hK2 := (hO _ (by omega)).trans hK2
  replace hK3 := hS
  clear hS hO hWs
  have g0_0 : c2.cell? ⟨w.heap.size, 0, none⟩ = some (.float .f32 (sizeLo a b)) := cell_of_row c2 _ 0 _ _ _ hK0
  have f0_0 : c2.frozen? ⟨w.heap.size, 0, none⟩ = false := frozen_of_row c2 _ 0 _ _ hK0
  have g0_1 : c2.cell? ⟨w.heap.size, 1, none⟩ = some (.float .f32 (sizeHi a b)) := cell_of_row c2 _ 1 _ _ _ hK0
  have f0_1 : c2.frozen? ⟨w.heap.size, 1, none⟩ = false := frozen_of_row c2 _ 1 _ _ hK0
  have l0 : w.heap.size < c2.heap.size := (Array.getElem?_eq_some_iff.1 hK0).1
  have g1_0 : c2.cell? ⟨w.heap.size + 1, 0, none⟩ = some (.float .f32 (sizeLo c d)) := cell_of_row c2 _ 0 _ _ _ hK1
  have f1_0 : c2.frozen? ⟨w.heap.size + 1, 0, none⟩ = false := frozen_of_row c2 _ 0 _ _ hK1
  have g1_1 : c2.cell? ⟨w.heap.size + 1, 1, none⟩ = some (.float .f32 (sizeHi c d)) := cell_of_row c2 _ 1 _ _ _ hK1
  have f1_1 : c2.frozen? ⟨w.heap.size + 1, 1, none⟩ = false := frozen_of_row c2 _ 1 _ _ hK1
  have l1 : w.heap.size + 1 < c2.heap.size := (Array.getElem?_eq_some_iff.1 hK1).1
  have g2_0 : c2.cell? ⟨w.heap.size + 1 + 1, 0, none⟩ = some (.float .f32 (sizeLo m n)) := cell_of_row c2 _ 0 _ _ _ hK2
  have f2_0 : c2.frozen? ⟨w.heap.size + 1 + 1, 0, none⟩ = false := frozen_of_row c2 _ 0 _ _ hK2
  have g2_1 : c2.cell? ⟨w.heap.size + 1 + 1, 1, none⟩ = some (.float .f32 (sizeHi m n)) := cell_of_row c2 _ 1 _ _ _ hK2
  have f2_1 : c2.frozen? ⟨w.heap.size + 1 + 1, 1, none⟩ = false := frozen_of_row c2 _ 1 _ _ hK2
  have l2 : w.heap.size + 1 + 1 < c2.heap.size := (Array.getElem?_eq_some_iff.1 hK2).1
  have g3_0 : c2.cell? ⟨w.heap.size + 1 + 1 + 1, 0, none⟩ = some (.float .f32 r) := cell_of_row c2 _ 0 _ _ _ hK3
  have f3_0 : c2.frozen? ⟨w.heap.size + 1 + 1 + 1, 0, none⟩ = false := frozen_of_row c2 _ 0 _ _ hK3
  have g3_1 : c2.cell? ⟨w.heap.size + 1 + 1 + 1, 1, none⟩ = some (.float .f32 s) := cell_of_row c2 _ 1 _ _ _ hK3
  have f3_1 : c2.frozen? ⟨w.heap.size + 1 + 1 + 1, 1, none⟩ = false := frozen_of_row c2 _ 1 _ _ hK3
  have l3 : w.heap.size + 1 + 1 + 1 < c2.heap.size := (Array.getElem?_eq_some_iff.1 hK3).1
  exact bodyPost_ret (v := rng r s) (by simp [results, Try.results43, go_sem, g3_0, g3_1]) rfl ⟨r, s, rfl, hr, hs, er, es, hB9⟩
set_option maxHeartbeats 4000000 in
set_option maxRecDepth 100000 in
theorem specLongRange_ok (a b c d m n : Nat) (w : World) (ha : a < 4294967296) (hb : b < 4294967296) (hc : c < 4294967296) (hd : d < 4294967296) (hm : m < 4294967296) (hn : n < 4294967296) :
    Calls Try.prog 21 #[rng a b, rng c d, rng m n] w (Rg (longLo a b c d m n) (longHi a b c d m n) w) := by
  go_enter Try.func21, Try.ntmps21
  go_wp2_with fail
  generalize hW0 : (((w.alloc (.cells #[.float .f32 a, .float .f32 b] 38)).alloc (.cells #[.float .f32 c, .float .f32 d] 38)).alloc (.cells #[.float .f32 m, .float .f32 n] 38)).alloc (.cells #[.float .f32 0, .float .f32 0] 38) = W0
  have hB0 : Below w.heap.size w W0 := by subst hW0; exact by (repeat (first | exact Below.refl _ _ | assumption | refine below_drewN ?_ _ | refine Below.setCell ?_ (by first | omega | (simp <;> omega)) _ | refine Below.alloc ?_ (by first | omega | (simp <;> omega)) _))
  have hK0 : W0.heap[w.heap.size + 1 + 1 + 1]? = some (.cells #[.float .f32 0, .float .f32 0] 38) := by
    subst hW0
    have := Go.heap_alloc_new ((((w.alloc (.cells #[.float .f32 a, .float .f32 b] 38)).alloc (.cells #[.float .f32 c, .float .f32 d] 38)).alloc (.cells #[.float .f32 m, .float .f32 n] 38))) (.cells #[.float .f32 0, .float .f32 0] 38)
    simpa using this
  clear hW0
  have g0_0 : W0.cell? ⟨w.heap.size + 1 + 1 + 1, 0, none⟩ = some (.float .f32 0) := cell_of_row W0 _ 0 _ _ _ hK0
  have f0_0 : W0.frozen? ⟨w.heap.size + 1 + 1 + 1, 0, none⟩ = false := frozen_of_row W0 _ 0 _ _ hK0
  have g0_1 : W0.cell? ⟨w.heap.size + 1 + 1 + 1, 1, none⟩ = some (.float .f32 0) := cell_of_row W0 _ 1 _ _ _ hK0
  have f0_1 : W0.frozen? ⟨w.heap.size + 1 + 1 + 1, 1, none⟩ = false := frozen_of_row W0 _ 1 _ _ hK0
  have l0 : w.heap.size + 1 + 1 + 1 < W0.heap.size := (Array.getElem?_eq_some_iff.1 hK0).1
  refine (l04Long_ok a b c d m n _ ha hb hc hd hm hn).mono ?_
  rintro e w7 ⟨r, s, rfl, hr, hs, er, es, hb⟩
  clear g0_0 f0_0 g0_1 f0_1 l0
  have hE0 : Ext W0 w7 := hb
  have hB1 : Below w.heap.size w w7 := hB0.trans (hE0.mono hB0.size)
  replace hK0 := hE0.heap hK0
  have g0_0 : w7.cell? ⟨w.heap.size + 1 + 1 + 1, 0, none⟩ = some (.float .f32 0) := cell_of_row w7 _ 0 _ _ _ hK0
  have f0_0 : w7.frozen? ⟨w.heap.size + 1 + 1 + 1, 0, none⟩ = false := frozen_of_row w7 _ 0 _ _ hK0
  have g0_1 : w7.cell? ⟨w.heap.size + 1 + 1 + 1, 1, none⟩ = some (.float .f32 0) := cell_of_row w7 _ 1 _ _ _ hK0
  have f0_1 : w7.frozen? ⟨w.heap.size + 1 + 1 + 1, 1, none⟩ = false := frozen_of_row w7 _ 1 _ _ hK0
  have l0 : w.heap.size + 1 + 1 + 1 < w7.heap.size := (Array.getElem?_eq_some_iff.1 hK0).1
  clear hb
  go_wp2_with fail
  generalize hWs : (w7.setCell ⟨w.heap.size + 1 + 1 + 1, 0, none⟩ (.float .f32 r)).setCell ⟨w.heap.size + 1 + 1 + 1, 1, none⟩ (.float .f32 s) = w8
  have hS : w8.heap[w.heap.size + 1 + 1 + 1]? = some (.cells #[.float .f32 r, .float .f32 s] 38) := by
    subst hWs
    have s0 := heap_setCell_same (w7) _ 0 _ _ (.float .f32 r) hK0
    have s1 := heap_setCell_same ((w7).setCell ⟨w.heap.size + 1 + 1 + 1, 0, none⟩ (.float .f32 r)) _ 1 _ _ (.float .f32 s) s0
    simpa using s1
  have hO : ∀ q, q ≠ w.heap.size + 1 + 1 + 1 → w8.heap[q]? = w7.heap[q]? := fun q hq => by subst hWs; rw [heap_setCell_other _ _ _ _ hq, heap_setCell_other _ _ _ _ hq]
  have hB2 : Below w.heap.size w w8 := by
    subst hWs
    have hle : w.heap.size ≤ w.heap.size + 1 + 1 + 1 := by omega
    refine Below.setCell ?_ hle _
    refine Below.setCell ?_ hle _
    repeat (first | exact hB1 | refine below_drewN ?_ _)
  clear g0_0 f0_0 g0_1 f0_1 l0
  replace hK0 := hS
  clear hS hO hWs
  have g0_0 : w8.cell? ⟨w.heap.size + 1 + 1 + 1, 0, none⟩ = some (.float .f32 r) := cell_of_row w8 _ 0 _ _ _ hK0
  have f0_0 : w8.frozen? ⟨w.heap.size + 1 + 1 + 1, 0, none⟩ = false := frozen_of_row w8 _ 0 _ _ hK0
  have g0_1 : w8.cell? ⟨w.heap.size + 1 + 1 + 1, 1, none⟩ = some (.float .f32 s) := cell_of_row w8 _ 1 _ _ _ hK0
  have f0_1 : w8.frozen? ⟨w.heap.size + 1 + 1 + 1, 1, none⟩ = false := frozen_of_row w8 _ 1 _ _ hK0
  have l0 : w.heap.size + 1 + 1 + 1 < w8.heap.size := (Array.getElem?_eq_some_iff.1 hK0).1
  exact bodyPost_ret (v := rng r s) (by simp [results, Try.results21, go_sem, g0_0, g0_1]) rfl ⟨r, s, rfl, hr, hs, er, es, hB2⟩
end Go.Proofs.Ytaamfjokkphckaa
