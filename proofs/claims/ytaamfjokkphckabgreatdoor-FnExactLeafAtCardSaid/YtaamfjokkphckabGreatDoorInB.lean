/- DistY, DistT, DistL, ModD, ModM, ModP: in one text. -/
import Derived.Test.YtaamfjokkphckabGreatDoorInA
namespace Go.Proofs.YtaamfjokkphckabGreatDoor
open Go.Proofs.FX Go.RowKit

set_option maxRecDepth 100000 in
theorem turnBelow_0 (c s x y z : Nat) (hx : x < 4294967296) (hy : y < 4294967296) (hz : z < 4294967296) (w : World) :
    Calls Tryz.prog 132 #[.agg #[.int .i64 0, .float .f32 c, .float .f32 s], vec x y z] w (Vec (turnP c s 0 ⟨x, y, z⟩).x (turnP c s 0 ⟨x, y, z⟩).y (turnP c s 0 ⟨x, y, z⟩).z w) := by
  have kc := fun (b : Nat) (w : World) => run_convert_same (P := Tryz.prog) 25 25 .f32 b w Tryz.underlying25 Tryz.underlying25
  go_enter Tryz.func132, Tryz.ntmps132
  go_wp2_with fail
  generalize hW0 : ((w.alloc (.cells #[.int .i64 0, .float .f32 c, .float .f32 s] 127)).alloc (.cells #[.float .f32 x, .float .f32 y, .float .f32 z] 34)).alloc (.cells #[.float .f32 0, .float .f32 0, .float .f32 0] 34) = W0
  have hB0 : Below w.heap.size w W0 := by subst hW0; exact by (repeat (first | exact Below.refl _ _ | assumption | refine below_drewN ?_ _ | refine Below.setCell ?_ (by first | omega | (simp <;> omega)) _ | refine Below.alloc ?_ (by first | omega | (simp <;> omega)) _))
  have hK0 : W0.heap[w.heap.size]? = some (.cells #[.int .i64 0, .float .f32 c, .float .f32 s] 127) := by subst hW0; rw [Go.RowKit.Below.heap_alloc _ _ _ (by simp; omega)]; exact heap_alloc2_old _ _ _
  have hK1 : W0.heap[w.heap.size + 1]? = some (.cells #[.float .f32 x, .float .f32 y, .float .f32 z] 34) := by subst hW0; rw [Go.RowKit.Below.heap_alloc _ _ _ (by simp)]; exact heap_alloc2_new _ _ _
  have hK2 : W0.heap[w.heap.size + 1 + 1]? = some (.cells #[.float .f32 0, .float .f32 0, .float .f32 0] 34) := by 
    subst hW0
    have := Go.heap_alloc_new ((w.alloc (.cells #[.int .i64 0, .float .f32 c, .float .f32 s] 127)).alloc (.cells #[.float .f32 x, .float .f32 y, .float .f32 z] 34)) (.cells #[.float .f32 0, .float .f32 0, .float .f32 0] 34)
    simpa using this
  clear hW0
  have hZ0 : w.heap.size + 1 + 1 < W0.heap.size := (Array.getElem?_eq_some_iff.1 hK2).1
  have g0_0 : W0.cell? ⟨w.heap.size, 0, none⟩ = some (.int .i64 0) := cell_of_row W0 _ 0 _ _ _ hK0
  have f0_0 : W0.frozen? ⟨w.heap.size, 0, none⟩ = false := frozen_of_row W0 _ 0 _ _ hK0
  have g0_1 : W0.cell? ⟨w.heap.size, 1, none⟩ = some (.float .f32 c) := cell_of_row W0 _ 1 _ _ _ hK0
  have f0_1 : W0.frozen? ⟨w.heap.size, 1, none⟩ = false := frozen_of_row W0 _ 1 _ _ hK0
  have g0_2 : W0.cell? ⟨w.heap.size, 2, none⟩ = some (.float .f32 s) := cell_of_row W0 _ 2 _ _ _ hK0
  have f0_2 : W0.frozen? ⟨w.heap.size, 2, none⟩ = false := frozen_of_row W0 _ 2 _ _ hK0
  have l0 : w.heap.size < W0.heap.size := (Array.getElem?_eq_some_iff.1 hK0).1
  have g1_0 : W0.cell? ⟨w.heap.size + 1, 0, none⟩ = some (.float .f32 x) := cell_of_row W0 _ 0 _ _ _ hK1
  have f1_0 : W0.frozen? ⟨w.heap.size + 1, 0, none⟩ = false := frozen_of_row W0 _ 0 _ _ hK1
  have g1_1 : W0.cell? ⟨w.heap.size + 1, 1, none⟩ = some (.float .f32 y) := cell_of_row W0 _ 1 _ _ _ hK1
  have f1_1 : W0.frozen? ⟨w.heap.size + 1, 1, none⟩ = false := frozen_of_row W0 _ 1 _ _ hK1
  have g1_2 : W0.cell? ⟨w.heap.size + 1, 2, none⟩ = some (.float .f32 z) := cell_of_row W0 _ 2 _ _ _ hK1
  have f1_2 : W0.frozen? ⟨w.heap.size + 1, 2, none⟩ = false := frozen_of_row W0 _ 2 _ _ hK1
  have l1 : w.heap.size + 1 < W0.heap.size := (Array.getElem?_eq_some_iff.1 hK1).1
  have g2_0 : W0.cell? ⟨w.heap.size + 1 + 1, 0, none⟩ = some (.float .f32 0) := cell_of_row W0 _ 0 _ _ _ hK2
  have f2_0 : W0.frozen? ⟨w.heap.size + 1 + 1, 0, none⟩ = false := frozen_of_row W0 _ 0 _ _ hK2
  have g2_1 : W0.cell? ⟨w.heap.size + 1 + 1, 1, none⟩ = some (.float .f32 0) := cell_of_row W0 _ 1 _ _ _ hK2
  have f2_1 : W0.frozen? ⟨w.heap.size + 1 + 1, 1, none⟩ = false := frozen_of_row W0 _ 1 _ _ hK2
  have g2_2 : W0.cell? ⟨w.heap.size + 1 + 1, 2, none⟩ = some (.float .f32 0) := cell_of_row W0 _ 2 _ _ _ hK2
  have f2_2 : W0.frozen? ⟨w.heap.size + 1 + 1, 2, none⟩ = false := frozen_of_row W0 _ 2 _ _ hK2
  have l2 : w.heap.size + 1 + 1 < W0.heap.size := (Array.getElem?_eq_some_iff.1 hK2).1
  refine (tripleOf_ok _ _ _ _).mono ?_
  rintro e w3 ⟨rfl, hb⟩
  clear g0_0 f0_0 g0_1 f0_1 g0_2 f0_2 l0 g1_0 f1_0 g1_1 f1_1 g1_2 f1_2 l1 g2_0 f2_0 g2_1 f2_1 g2_2 f2_2 l2
  have hE0 : Ext W0 w3 := hb
  have hB1 : Below w.heap.size w w3 := hB0.trans (hE0.mono hB0.size)
  replace hK0 := hE0.heap hK0
  replace hK1 := hE0.heap hK1
  replace hK2 := hE0.heap hK2
  have g0_0 : w3.cell? ⟨w.heap.size, 0, none⟩ = some (.int .i64 0) := cell_of_row w3 _ 0 _ _ _ hK0
  have f0_0 : w3.frozen? ⟨w.heap.size, 0, none⟩ = false := frozen_of_row w3 _ 0 _ _ hK0
  have g0_1 : w3.cell? ⟨w.heap.size, 1, none⟩ = some (.float .f32 c) := cell_of_row w3 _ 1 _ _ _ hK0
  have f0_1 : w3.frozen? ⟨w.heap.size, 1, none⟩ = false := frozen_of_row w3 _ 1 _ _ hK0
  have g0_2 : w3.cell? ⟨w.heap.size, 2, none⟩ = some (.float .f32 s) := cell_of_row w3 _ 2 _ _ _ hK0
  have f0_2 : w3.frozen? ⟨w.heap.size, 2, none⟩ = false := frozen_of_row w3 _ 2 _ _ hK0
  have l0 : w.heap.size < w3.heap.size := (Array.getElem?_eq_some_iff.1 hK0).1
  have g1_0 : w3.cell? ⟨w.heap.size + 1, 0, none⟩ = some (.float .f32 x) := cell_of_row w3 _ 0 _ _ _ hK1
  have f1_0 : w3.frozen? ⟨w.heap.size + 1, 0, none⟩ = false := frozen_of_row w3 _ 0 _ _ hK1
  have g1_1 : w3.cell? ⟨w.heap.size + 1, 1, none⟩ = some (.float .f32 y) := cell_of_row w3 _ 1 _ _ _ hK1
  have f1_1 : w3.frozen? ⟨w.heap.size + 1, 1, none⟩ = false := frozen_of_row w3 _ 1 _ _ hK1
  have g1_2 : w3.cell? ⟨w.heap.size + 1, 2, none⟩ = some (.float .f32 z) := cell_of_row w3 _ 2 _ _ _ hK1
  have f1_2 : w3.frozen? ⟨w.heap.size + 1, 2, none⟩ = false := frozen_of_row w3 _ 2 _ _ hK1
  have l1 : w.heap.size + 1 < w3.heap.size := (Array.getElem?_eq_some_iff.1 hK1).1
  have g2_0 : w3.cell? ⟨w.heap.size + 1 + 1, 0, none⟩ = some (.float .f32 0) := cell_of_row w3 _ 0 _ _ _ hK2
  have f2_0 : w3.frozen? ⟨w.heap.size + 1 + 1, 0, none⟩ = false := frozen_of_row w3 _ 0 _ _ hK2
  have g2_1 : w3.cell? ⟨w.heap.size + 1 + 1, 1, none⟩ = some (.float .f32 0) := cell_of_row w3 _ 1 _ _ _ hK2
  have f2_1 : w3.frozen? ⟨w.heap.size + 1 + 1, 1, none⟩ = false := frozen_of_row w3 _ 1 _ _ hK2
  have g2_2 : w3.cell? ⟨w.heap.size + 1 + 1, 2, none⟩ = some (.float .f32 0) := cell_of_row w3 _ 2 _ _ _ hK2
  have f2_2 : w3.frozen? ⟨w.heap.size + 1 + 1, 2, none⟩ = false := frozen_of_row w3 _ 2 _ _ hK2
  have l2 : w.heap.size + 1 + 1 < w3.heap.size := (Array.getElem?_eq_some_iff.1 hK2).1
  clear hb
  go_wp2_with fail
  clear g0_0 f0_0 g0_1 f0_1 g0_2 f0_2 l0 g1_0 f1_0 g1_1 f1_1 g1_2 f1_2 l1 g2_0 f2_0 g2_1 f2_1 g2_2 f2_2 l2
  generalize hWa : w3.alloc (.cells #[.float .f32 x, .float .f32 y, .float .f32 z] 146) = w4
  have hE1 : Ext w3 w4 := by subst hWa; exact (Ext.refl _).alloc _
  have hN : w4.heap[w3.heap.size]? = some (.cells #[.float .f32 x, .float .f32 y, .float .f32 z] 146) := by subst hWa; exact Go.heap_alloc_new _ _
  clear hWa
  have hB2 : Below w.heap.size w w4 := hB1.trans (hE1.mono hB1.size)
  have hs1 : w.heap.size + 3 ≤ w3.heap.size := by have := (Array.getElem?_eq_some_iff.1 hK2).1; omega
  replace hK0 := hE1.heap hK0
  replace hK1 := hE1.heap hK1
  replace hK2 := hE1.heap hK2
  have hK3 := hN
  clear hN
  have g0_0 : w4.cell? ⟨w.heap.size, 0, none⟩ = some (.int .i64 0) := cell_of_row w4 _ 0 _ _ _ hK0
  have f0_0 : w4.frozen? ⟨w.heap.size, 0, none⟩ = false := frozen_of_row w4 _ 0 _ _ hK0
  have g0_1 : w4.cell? ⟨w.heap.size, 1, none⟩ = some (.float .f32 c) := cell_of_row w4 _ 1 _ _ _ hK0
  have f0_1 : w4.frozen? ⟨w.heap.size, 1, none⟩ = false := frozen_of_row w4 _ 1 _ _ hK0
  have g0_2 : w4.cell? ⟨w.heap.size, 2, none⟩ = some (.float .f32 s) := cell_of_row w4 _ 2 _ _ _ hK0
  have f0_2 : w4.frozen? ⟨w.heap.size, 2, none⟩ = false := frozen_of_row w4 _ 2 _ _ hK0
  have l0 : w.heap.size < w4.heap.size := (Array.getElem?_eq_some_iff.1 hK0).1
  have g1_0 : w4.cell? ⟨w.heap.size + 1, 0, none⟩ = some (.float .f32 x) := cell_of_row w4 _ 0 _ _ _ hK1
  have f1_0 : w4.frozen? ⟨w.heap.size + 1, 0, none⟩ = false := frozen_of_row w4 _ 0 _ _ hK1
  have g1_1 : w4.cell? ⟨w.heap.size + 1, 1, none⟩ = some (.float .f32 y) := cell_of_row w4 _ 1 _ _ _ hK1
  have f1_1 : w4.frozen? ⟨w.heap.size + 1, 1, none⟩ = false := frozen_of_row w4 _ 1 _ _ hK1
  have g1_2 : w4.cell? ⟨w.heap.size + 1, 2, none⟩ = some (.float .f32 z) := cell_of_row w4 _ 2 _ _ _ hK1
  have f1_2 : w4.frozen? ⟨w.heap.size + 1, 2, none⟩ = false := frozen_of_row w4 _ 2 _ _ hK1
  have l1 : w.heap.size + 1 < w4.heap.size := (Array.getElem?_eq_some_iff.1 hK1).1
  have g2_0 : w4.cell? ⟨w.heap.size + 1 + 1, 0, none⟩ = some (.float .f32 0) := cell_of_row w4 _ 0 _ _ _ hK2
  have f2_0 : w4.frozen? ⟨w.heap.size + 1 + 1, 0, none⟩ = false := frozen_of_row w4 _ 0 _ _ hK2
  have g2_1 : w4.cell? ⟨w.heap.size + 1 + 1, 1, none⟩ = some (.float .f32 0) := cell_of_row w4 _ 1 _ _ _ hK2
  have f2_1 : w4.frozen? ⟨w.heap.size + 1 + 1, 1, none⟩ = false := frozen_of_row w4 _ 1 _ _ hK2
  have g2_2 : w4.cell? ⟨w.heap.size + 1 + 1, 2, none⟩ = some (.float .f32 0) := cell_of_row w4 _ 2 _ _ _ hK2
  have f2_2 : w4.frozen? ⟨w.heap.size + 1 + 1, 2, none⟩ = false := frozen_of_row w4 _ 2 _ _ hK2
  have l2 : w.heap.size + 1 + 1 < w4.heap.size := (Array.getElem?_eq_some_iff.1 hK2).1
  have g3_0 : w4.cell? ⟨w3.heap.size, 0, none⟩ = some (.float .f32 x) := cell_of_row w4 _ 0 _ _ _ hK3
  have f3_0 : w4.frozen? ⟨w3.heap.size, 0, none⟩ = false := frozen_of_row w4 _ 0 _ _ hK3
  have g3_1 : w4.cell? ⟨w3.heap.size, 1, none⟩ = some (.float .f32 y) := cell_of_row w4 _ 1 _ _ _ hK3
  have f3_1 : w4.frozen? ⟨w3.heap.size, 1, none⟩ = false := frozen_of_row w4 _ 1 _ _ hK3
  have g3_2 : w4.cell? ⟨w3.heap.size, 2, none⟩ = some (.float .f32 z) := cell_of_row w4 _ 2 _ _ _ hK3
  have f3_2 : w4.frozen? ⟨w3.heap.size, 2, none⟩ = false := frozen_of_row w4 _ 2 _ _ hK3
  have l3 : w3.heap.size < w4.heap.size := (Array.getElem?_eq_some_iff.1 hK3).1
  have T1 : (IntKind.i64.wrap 1).tmod 3 = 1 := by decide
  have T2 : (IntKind.i64.wrap 2).tmod 3 = 2 := by decide
  refine wp_region_laterO 9 (SO (QL [])) (stays_SO _) (by kernel_rfl) (by kernel_rfl) ?_
  repeat (first | (refine later_exO rfl (fun K hK => ?_); apply Exists.intro; refine ⟨fun w' hw' => ?_, ?_⟩; (obtain ⟨hcc, hff⟩ := Grew.cells hw'; clear hw'; go_simp; rfl); go_simp; refine hK _ ?_; clear hK K))
  refine later_nilO ?_
  intro w5 hw4
  simp only [List.drop_succ_cons, List.drop_zero]
  clear g0_0 f0_0 g0_1 f0_1 g0_2 f0_2 l0 g1_0 f1_0 g1_1 f1_1 g1_2 f1_2 l1 g2_0 f2_0 g2_1 f2_1 g2_2 f2_2 l2 g3_0 f3_0 g3_1 f3_1 g3_2 f3_2 l3
  have hE2 : Ext w4 w5 := hw4
  have hB3 : Below w.heap.size w w5 := hB2.trans (hE2.mono hB2.size)
  replace hK0 := hE2.heap hK0
  replace hK1 := hE2.heap hK1
  replace hK2 := hE2.heap hK2
  replace hK3 := hE2.heap hK3
  have g0_0 : w5.cell? ⟨w.heap.size, 0, none⟩ = some (.int .i64 0) := cell_of_row w5 _ 0 _ _ _ hK0
  have f0_0 : w5.frozen? ⟨w.heap.size, 0, none⟩ = false := frozen_of_row w5 _ 0 _ _ hK0
  have g0_1 : w5.cell? ⟨w.heap.size, 1, none⟩ = some (.float .f32 c) := cell_of_row w5 _ 1 _ _ _ hK0
  have f0_1 : w5.frozen? ⟨w.heap.size, 1, none⟩ = false := frozen_of_row w5 _ 1 _ _ hK0
  have g0_2 : w5.cell? ⟨w.heap.size, 2, none⟩ = some (.float .f32 s) := cell_of_row w5 _ 2 _ _ _ hK0
  have f0_2 : w5.frozen? ⟨w.heap.size, 2, none⟩ = false := frozen_of_row w5 _ 2 _ _ hK0
  have l0 : w.heap.size < w5.heap.size := (Array.getElem?_eq_some_iff.1 hK0).1
  have g1_0 : w5.cell? ⟨w.heap.size + 1, 0, none⟩ = some (.float .f32 x) := cell_of_row w5 _ 0 _ _ _ hK1
  have f1_0 : w5.frozen? ⟨w.heap.size + 1, 0, none⟩ = false := frozen_of_row w5 _ 0 _ _ hK1
  have g1_1 : w5.cell? ⟨w.heap.size + 1, 1, none⟩ = some (.float .f32 y) := cell_of_row w5 _ 1 _ _ _ hK1
  have f1_1 : w5.frozen? ⟨w.heap.size + 1, 1, none⟩ = false := frozen_of_row w5 _ 1 _ _ hK1
  have g1_2 : w5.cell? ⟨w.heap.size + 1, 2, none⟩ = some (.float .f32 z) := cell_of_row w5 _ 2 _ _ _ hK1
  have f1_2 : w5.frozen? ⟨w.heap.size + 1, 2, none⟩ = false := frozen_of_row w5 _ 2 _ _ hK1
  have l1 : w.heap.size + 1 < w5.heap.size := (Array.getElem?_eq_some_iff.1 hK1).1
  have g2_0 : w5.cell? ⟨w.heap.size + 1 + 1, 0, none⟩ = some (.float .f32 0) := cell_of_row w5 _ 0 _ _ _ hK2
  have f2_0 : w5.frozen? ⟨w.heap.size + 1 + 1, 0, none⟩ = false := frozen_of_row w5 _ 0 _ _ hK2
  have g2_1 : w5.cell? ⟨w.heap.size + 1 + 1, 1, none⟩ = some (.float .f32 0) := cell_of_row w5 _ 1 _ _ _ hK2
  have f2_1 : w5.frozen? ⟨w.heap.size + 1 + 1, 1, none⟩ = false := frozen_of_row w5 _ 1 _ _ hK2
  have g2_2 : w5.cell? ⟨w.heap.size + 1 + 1, 2, none⟩ = some (.float .f32 0) := cell_of_row w5 _ 2 _ _ _ hK2
  have f2_2 : w5.frozen? ⟨w.heap.size + 1 + 1, 2, none⟩ = false := frozen_of_row w5 _ 2 _ _ hK2
  have l2 : w.heap.size + 1 + 1 < w5.heap.size := (Array.getElem?_eq_some_iff.1 hK2).1
  have g3_0 : w5.cell? ⟨w3.heap.size, 0, none⟩ = some (.float .f32 x) := cell_of_row w5 _ 0 _ _ _ hK3
  have f3_0 : w5.frozen? ⟨w3.heap.size, 0, none⟩ = false := frozen_of_row w5 _ 0 _ _ hK3
  have g3_1 : w5.cell? ⟨w3.heap.size, 1, none⟩ = some (.float .f32 y) := cell_of_row w5 _ 1 _ _ _ hK3
  have f3_1 : w5.frozen? ⟨w3.heap.size, 1, none⟩ = false := frozen_of_row w5 _ 1 _ _ hK3
  have g3_2 : w5.cell? ⟨w3.heap.size, 2, none⟩ = some (.float .f32 z) := cell_of_row w5 _ 2 _ _ _ hK3
  have f3_2 : w5.frozen? ⟨w3.heap.size, 2, none⟩ = false := frozen_of_row w5 _ 2 _ _ hK3
  have l3 : w3.heap.size < w5.heap.size := (Array.getElem?_eq_some_iff.1 hK3).1
  clear hw4 
  go_wp2_with fail
  refine wp_region_laterO 7 (SO (QL [])) (stays_SO _) (by kernel_rfl) (by kernel_rfl) ?_
  repeat (first | (refine later_exO rfl (fun K hK => ?_); apply Exists.intro; refine ⟨fun w' hw' => ?_, ?_⟩; (obtain ⟨hcc, hff⟩ := Grew.cells hw'; clear hw'; go_simp; rfl); go_simp; refine hK _ ?_; clear hK K))
  refine later_nilO ?_
  intro w6 hw4
  simp only [List.drop_succ_cons, List.drop_zero]
  clear g0_0 f0_0 g0_1 f0_1 g0_2 f0_2 l0 g1_0 f1_0 g1_1 f1_1 g1_2 f1_2 l1 g2_0 f2_0 g2_1 f2_1 g2_2 f2_2 l2 g3_0 f3_0 g3_1 f3_1 g3_2 f3_2 l3
  have hE3 : Ext w5 w6 := hw4
  have hB4 : Below w.heap.size w w6 := hB3.trans (hE3.mono hB3.size)
  replace hK0 := hE3.heap hK0
  replace hK1 := hE3.heap hK1
  replace hK2 := hE3.heap hK2
  replace hK3 := hE3.heap hK3
  have g0_0 : w6.cell? ⟨w.heap.size, 0, none⟩ = some (.int .i64 0) := cell_of_row w6 _ 0 _ _ _ hK0
  have f0_0 : w6.frozen? ⟨w.heap.size, 0, none⟩ = false := frozen_of_row w6 _ 0 _ _ hK0
  have g0_1 : w6.cell? ⟨w.heap.size, 1, none⟩ = some (.float .f32 c) := cell_of_row w6 _ 1 _ _ _ hK0
  have f0_1 : w6.frozen? ⟨w.heap.size, 1, none⟩ = false := frozen_of_row w6 _ 1 _ _ hK0
  have g0_2 : w6.cell? ⟨w.heap.size, 2, none⟩ = some (.float .f32 s) := cell_of_row w6 _ 2 _ _ _ hK0
  have f0_2 : w6.frozen? ⟨w.heap.size, 2, none⟩ = false := frozen_of_row w6 _ 2 _ _ hK0
  have l0 : w.heap.size < w6.heap.size := (Array.getElem?_eq_some_iff.1 hK0).1
  have g1_0 : w6.cell? ⟨w.heap.size + 1, 0, none⟩ = some (.float .f32 x) := cell_of_row w6 _ 0 _ _ _ hK1
  have f1_0 : w6.frozen? ⟨w.heap.size + 1, 0, none⟩ = false := frozen_of_row w6 _ 0 _ _ hK1
  have g1_1 : w6.cell? ⟨w.heap.size + 1, 1, none⟩ = some (.float .f32 y) := cell_of_row w6 _ 1 _ _ _ hK1
  have f1_1 : w6.frozen? ⟨w.heap.size + 1, 1, none⟩ = false := frozen_of_row w6 _ 1 _ _ hK1
  have g1_2 : w6.cell? ⟨w.heap.size + 1, 2, none⟩ = some (.float .f32 z) := cell_of_row w6 _ 2 _ _ _ hK1
  have f1_2 : w6.frozen? ⟨w.heap.size + 1, 2, none⟩ = false := frozen_of_row w6 _ 2 _ _ hK1
  have l1 : w.heap.size + 1 < w6.heap.size := (Array.getElem?_eq_some_iff.1 hK1).1
  have g2_0 : w6.cell? ⟨w.heap.size + 1 + 1, 0, none⟩ = some (.float .f32 0) := cell_of_row w6 _ 0 _ _ _ hK2
  have f2_0 : w6.frozen? ⟨w.heap.size + 1 + 1, 0, none⟩ = false := frozen_of_row w6 _ 0 _ _ hK2
  have g2_1 : w6.cell? ⟨w.heap.size + 1 + 1, 1, none⟩ = some (.float .f32 0) := cell_of_row w6 _ 1 _ _ _ hK2
  have f2_1 : w6.frozen? ⟨w.heap.size + 1 + 1, 1, none⟩ = false := frozen_of_row w6 _ 1 _ _ hK2
  have g2_2 : w6.cell? ⟨w.heap.size + 1 + 1, 2, none⟩ = some (.float .f32 0) := cell_of_row w6 _ 2 _ _ _ hK2
  have f2_2 : w6.frozen? ⟨w.heap.size + 1 + 1, 2, none⟩ = false := frozen_of_row w6 _ 2 _ _ hK2
  have l2 : w.heap.size + 1 + 1 < w6.heap.size := (Array.getElem?_eq_some_iff.1 hK2).1
  have g3_0 : w6.cell? ⟨w3.heap.size, 0, none⟩ = some (.float .f32 x) := cell_of_row w6 _ 0 _ _ _ hK3
  have f3_0 : w6.frozen? ⟨w3.heap.size, 0, none⟩ = false := frozen_of_row w6 _ 0 _ _ hK3
  have g3_1 : w6.cell? ⟨w3.heap.size, 1, none⟩ = some (.float .f32 y) := cell_of_row w6 _ 1 _ _ _ hK3
  have f3_1 : w6.frozen? ⟨w3.heap.size, 1, none⟩ = false := frozen_of_row w6 _ 1 _ _ hK3
  have g3_2 : w6.cell? ⟨w3.heap.size, 2, none⟩ = some (.float .f32 z) := cell_of_row w6 _ 2 _ _ _ hK3
  have f3_2 : w6.frozen? ⟨w3.heap.size, 2, none⟩ = false := frozen_of_row w6 _ 2 _ _ hK3
  have l3 : w3.heap.size < w6.heap.size := (Array.getElem?_eq_some_iff.1 hK3).1
  clear hw4 
  go_wp2_with (refine wpList_f32 rfl rfl rfl rfl rfl ?_; intro r n hr he)
  rename_i m1 n1 hm1 em1 m2 n2 hm2 em2 ra n3 hra ea m3 n4 hm3 em3 m4 n5 hm4 em4 KK hKK KK2 hKK2
  have E1 : Eqv .f32 ra (add32 (mul32 c y) (mul32 s z)) := by rw [show add32 (mul32 c y) (mul32 s z) = fop .add .f32 m1 m2 from (fop_eqv em1 em2).symm]; exact ea
  have E2 : Eqv .f32 r (sub32 (mul32 c z) (mul32 s y)) := by rw [show sub32 (mul32 c z) (mul32 s y) = fop .sub .f32 m3 m4 from (fop_eqv em3 em4).symm]; exact he
  have HK2 := Lib.hid hK2
  have h12 : w.heap.size ≤ w.heap.size + 1 + 1 := by omega
  have h3 : w.heap.size ≤ w3.heap.size := by omega
  have hne : w.heap.size + 1 + 1 ≠ w3.heap.size := by omega
  clear em1 em2 ea em3 em4 he g0_0 f0_0 g0_1 f0_1 g0_2 f0_2 l0 g1_0 f1_0 g1_1 f1_1 g1_2 f1_2 l1 g2_0 f2_0 g2_1 f2_1 g2_2 f2_2 l2 g3_0 f3_0 g3_1 f3_1 g3_2 f3_2 l3 hK0 hK1 hK2 hK3
  refine (vector_ok _ _ _ _).mono ?_
  rintro e w9 ⟨rfl, hb⟩
  have hK : w9.heap[w.heap.size + 1 + 1]? = some (.cells #[.float .f32 0, .float .f32 0, .float .f32 0] 34) := by
    refine (hb.block _ ?_).trans ((heap_setCell_other _ _ _ _ hne).trans ((heap_setCell_other _ _ _ _ hne).trans HK2.out))
    have := (Array.getElem?_eq_some_iff.1 HK2.out).1
    simpa using this
  have hB9 : Below w.heap.size w w9 := Below.trans (below_drewN (Below.setCell (below_drewN hB4 _) h3 _) _ |>.setCell h3 _) (hb.mono (by have := hB4.size; simpa using this))
  have g2_0 : w9.cell? ⟨w.heap.size + 1 + 1, 0, none⟩ = some (.float .f32 0) := cell_of_row w9 _ 0 _ _ _ hK
  have g2_1 : w9.cell? ⟨w.heap.size + 1 + 1, 1, none⟩ = some (.float .f32 0) := cell_of_row w9 _ 1 _ _ _ hK
  have g2_2 : w9.cell? ⟨w.heap.size + 1 + 1, 2, none⟩ = some (.float .f32 0) := cell_of_row w9 _ 2 _ _ _ hK
  have f2_0 : w9.frozen? ⟨w.heap.size + 1 + 1, 0, none⟩ = false := frozen_of_row w9 _ 0 _ _ hK
  have f2_1 : w9.frozen? ⟨w.heap.size + 1 + 1, 1, none⟩ = false := frozen_of_row w9 _ 1 _ _ hK
  have f2_2 : w9.frozen? ⟨w.heap.size + 1 + 1, 2, none⟩ = false := frozen_of_row w9 _ 2 _ _ hK
  have l2 : w.heap.size + 1 + 1 < w9.heap.size := (Array.getElem?_eq_some_iff.1 hK).1
  clear hb hK
  go_wp2_with fail
  exact bodyPost_ret (v := vec x ra r) (by simp [results, Tryz.results132, go_sem, g2_0, g2_1, g2_2]) rfl ⟨x, ra, r, rfl, hx, hra, hr, Eqv.refl _ _, E1, E2, by (iterate 3 (refine Below.setCell ?_ h12 _)); exact hB9⟩
set_option maxRecDepth 100000 in
theorem turnBelow_1 (c s x y z : Nat) (hx : x < 4294967296) (hy : y < 4294967296) (hz : z < 4294967296) (w : World) :
    Calls Tryz.prog 132 #[.agg #[.int .i64 1, .float .f32 c, .float .f32 s], vec x y z] w (Vec (turnP c s 1 ⟨x, y, z⟩).x (turnP c s 1 ⟨x, y, z⟩).y (turnP c s 1 ⟨x, y, z⟩).z w) := by
  have kc := fun (b : Nat) (w : World) => run_convert_same (P := Tryz.prog) 25 25 .f32 b w Tryz.underlying25 Tryz.underlying25
  go_enter Tryz.func132, Tryz.ntmps132
  go_wp2_with fail
  generalize hW0 : ((w.alloc (.cells #[.int .i64 1, .float .f32 c, .float .f32 s] 127)).alloc (.cells #[.float .f32 x, .float .f32 y, .float .f32 z] 34)).alloc (.cells #[.float .f32 0, .float .f32 0, .float .f32 0] 34) = W0
  have hB0 : Below w.heap.size w W0 := by subst hW0; exact by (repeat (first | exact Below.refl _ _ | assumption | refine below_drewN ?_ _ | refine Below.setCell ?_ (by first | omega | (simp <;> omega)) _ | refine Below.alloc ?_ (by first | omega | (simp <;> omega)) _))
  have hK0 : W0.heap[w.heap.size]? = some (.cells #[.int .i64 1, .float .f32 c, .float .f32 s] 127) := by subst hW0; rw [Go.RowKit.Below.heap_alloc _ _ _ (by simp; omega)]; exact heap_alloc2_old _ _ _
  have hK1 : W0.heap[w.heap.size + 1]? = some (.cells #[.float .f32 x, .float .f32 y, .float .f32 z] 34) := by subst hW0; rw [Go.RowKit.Below.heap_alloc _ _ _ (by simp)]; exact heap_alloc2_new _ _ _
  have hK2 : W0.heap[w.heap.size + 1 + 1]? = some (.cells #[.float .f32 0, .float .f32 0, .float .f32 0] 34) := by 
    subst hW0
    have := Go.heap_alloc_new ((w.alloc (.cells #[.int .i64 1, .float .f32 c, .float .f32 s] 127)).alloc (.cells #[.float .f32 x, .float .f32 y, .float .f32 z] 34)) (.cells #[.float .f32 0, .float .f32 0, .float .f32 0] 34)
    simpa using this
  clear hW0
  have hZ0 : w.heap.size + 1 + 1 < W0.heap.size := (Array.getElem?_eq_some_iff.1 hK2).1
  have g0_0 : W0.cell? ⟨w.heap.size, 0, none⟩ = some (.int .i64 1) := cell_of_row W0 _ 0 _ _ _ hK0
  have f0_0 : W0.frozen? ⟨w.heap.size, 0, none⟩ = false := frozen_of_row W0 _ 0 _ _ hK0
  have g0_1 : W0.cell? ⟨w.heap.size, 1, none⟩ = some (.float .f32 c) := cell_of_row W0 _ 1 _ _ _ hK0
  have f0_1 : W0.frozen? ⟨w.heap.size, 1, none⟩ = false := frozen_of_row W0 _ 1 _ _ hK0
  have g0_2 : W0.cell? ⟨w.heap.size, 2, none⟩ = some (.float .f32 s) := cell_of_row W0 _ 2 _ _ _ hK0
  have f0_2 : W0.frozen? ⟨w.heap.size, 2, none⟩ = false := frozen_of_row W0 _ 2 _ _ hK0
  have l0 : w.heap.size < W0.heap.size := (Array.getElem?_eq_some_iff.1 hK0).1
  have g1_0 : W0.cell? ⟨w.heap.size + 1, 0, none⟩ = some (.float .f32 x) := cell_of_row W0 _ 0 _ _ _ hK1
  have f1_0 : W0.frozen? ⟨w.heap.size + 1, 0, none⟩ = false := frozen_of_row W0 _ 0 _ _ hK1
  have g1_1 : W0.cell? ⟨w.heap.size + 1, 1, none⟩ = some (.float .f32 y) := cell_of_row W0 _ 1 _ _ _ hK1
  have f1_1 : W0.frozen? ⟨w.heap.size + 1, 1, none⟩ = false := frozen_of_row W0 _ 1 _ _ hK1
  have g1_2 : W0.cell? ⟨w.heap.size + 1, 2, none⟩ = some (.float .f32 z) := cell_of_row W0 _ 2 _ _ _ hK1
  have f1_2 : W0.frozen? ⟨w.heap.size + 1, 2, none⟩ = false := frozen_of_row W0 _ 2 _ _ hK1
  have l1 : w.heap.size + 1 < W0.heap.size := (Array.getElem?_eq_some_iff.1 hK1).1
  have g2_0 : W0.cell? ⟨w.heap.size + 1 + 1, 0, none⟩ = some (.float .f32 0) := cell_of_row W0 _ 0 _ _ _ hK2
  have f2_0 : W0.frozen? ⟨w.heap.size + 1 + 1, 0, none⟩ = false := frozen_of_row W0 _ 0 _ _ hK2
  have g2_1 : W0.cell? ⟨w.heap.size + 1 + 1, 1, none⟩ = some (.float .f32 0) := cell_of_row W0 _ 1 _ _ _ hK2
  have f2_1 : W0.frozen? ⟨w.heap.size + 1 + 1, 1, none⟩ = false := frozen_of_row W0 _ 1 _ _ hK2
  have g2_2 : W0.cell? ⟨w.heap.size + 1 + 1, 2, none⟩ = some (.float .f32 0) := cell_of_row W0 _ 2 _ _ _ hK2
  have f2_2 : W0.frozen? ⟨w.heap.size + 1 + 1, 2, none⟩ = false := frozen_of_row W0 _ 2 _ _ hK2
  have l2 : w.heap.size + 1 + 1 < W0.heap.size := (Array.getElem?_eq_some_iff.1 hK2).1
  refine (tripleOf_ok _ _ _ _).mono ?_
  rintro e w3 ⟨rfl, hb⟩
  clear g0_0 f0_0 g0_1 f0_1 g0_2 f0_2 l0 g1_0 f1_0 g1_1 f1_1 g1_2 f1_2 l1 g2_0 f2_0 g2_1 f2_1 g2_2 f2_2 l2
  have hE0 : Ext W0 w3 := hb
  have hB1 : Below w.heap.size w w3 := hB0.trans (hE0.mono hB0.size)
  replace hK0 := hE0.heap hK0
  replace hK1 := hE0.heap hK1
  replace hK2 := hE0.heap hK2
  have g0_0 : w3.cell? ⟨w.heap.size, 0, none⟩ = some (.int .i64 1) := cell_of_row w3 _ 0 _ _ _ hK0
  have f0_0 : w3.frozen? ⟨w.heap.size, 0, none⟩ = false := frozen_of_row w3 _ 0 _ _ hK0
  have g0_1 : w3.cell? ⟨w.heap.size, 1, none⟩ = some (.float .f32 c) := cell_of_row w3 _ 1 _ _ _ hK0
  have f0_1 : w3.frozen? ⟨w.heap.size, 1, none⟩ = false := frozen_of_row w3 _ 1 _ _ hK0
  have g0_2 : w3.cell? ⟨w.heap.size, 2, none⟩ = some (.float .f32 s) := cell_of_row w3 _ 2 _ _ _ hK0
  have f0_2 : w3.frozen? ⟨w.heap.size, 2, none⟩ = false := frozen_of_row w3 _ 2 _ _ hK0
  have l0 : w.heap.size < w3.heap.size := (Array.getElem?_eq_some_iff.1 hK0).1
  have g1_0 : w3.cell? ⟨w.heap.size + 1, 0, none⟩ = some (.float .f32 x) := cell_of_row w3 _ 0 _ _ _ hK1
  have f1_0 : w3.frozen? ⟨w.heap.size + 1, 0, none⟩ = false := frozen_of_row w3 _ 0 _ _ hK1
  have g1_1 : w3.cell? ⟨w.heap.size + 1, 1, none⟩ = some (.float .f32 y) := cell_of_row w3 _ 1 _ _ _ hK1
  have f1_1 : w3.frozen? ⟨w.heap.size + 1, 1, none⟩ = false := frozen_of_row w3 _ 1 _ _ hK1
  have g1_2 : w3.cell? ⟨w.heap.size + 1, 2, none⟩ = some (.float .f32 z) := cell_of_row w3 _ 2 _ _ _ hK1
  have f1_2 : w3.frozen? ⟨w.heap.size + 1, 2, none⟩ = false := frozen_of_row w3 _ 2 _ _ hK1
  have l1 : w.heap.size + 1 < w3.heap.size := (Array.getElem?_eq_some_iff.1 hK1).1
  have g2_0 : w3.cell? ⟨w.heap.size + 1 + 1, 0, none⟩ = some (.float .f32 0) := cell_of_row w3 _ 0 _ _ _ hK2
  have f2_0 : w3.frozen? ⟨w.heap.size + 1 + 1, 0, none⟩ = false := frozen_of_row w3 _ 0 _ _ hK2
  have g2_1 : w3.cell? ⟨w.heap.size + 1 + 1, 1, none⟩ = some (.float .f32 0) := cell_of_row w3 _ 1 _ _ _ hK2
  have f2_1 : w3.frozen? ⟨w.heap.size + 1 + 1, 1, none⟩ = false := frozen_of_row w3 _ 1 _ _ hK2
  have g2_2 : w3.cell? ⟨w.heap.size + 1 + 1, 2, none⟩ = some (.float .f32 0) := cell_of_row w3 _ 2 _ _ _ hK2
  have f2_2 : w3.frozen? ⟨w.heap.size + 1 + 1, 2, none⟩ = false := frozen_of_row w3 _ 2 _ _ hK2
  have l2 : w.heap.size + 1 + 1 < w3.heap.size := (Array.getElem?_eq_some_iff.1 hK2).1
  clear hb
  go_wp2_with fail
  clear g0_0 f0_0 g0_1 f0_1 g0_2 f0_2 l0 g1_0 f1_0 g1_1 f1_1 g1_2 f1_2 l1 g2_0 f2_0 g2_1 f2_1 g2_2 f2_2 l2
  generalize hWa : w3.alloc (.cells #[.float .f32 x, .float .f32 y, .float .f32 z] 146) = w4
  have hE1 : Ext w3 w4 := by subst hWa; exact (Ext.refl _).alloc _
  have hN : w4.heap[w3.heap.size]? = some (.cells #[.float .f32 x, .float .f32 y, .float .f32 z] 146) := by subst hWa; exact Go.heap_alloc_new _ _
  clear hWa
  have hB2 : Below w.heap.size w w4 := hB1.trans (hE1.mono hB1.size)
  have hs1 : w.heap.size + 3 ≤ w3.heap.size := by have := (Array.getElem?_eq_some_iff.1 hK2).1; omega
  replace hK0 := hE1.heap hK0
  replace hK1 := hE1.heap hK1
  replace hK2 := hE1.heap hK2
  have hK3 := hN
  clear hN
  have g0_0 : w4.cell? ⟨w.heap.size, 0, none⟩ = some (.int .i64 1) := cell_of_row w4 _ 0 _ _ _ hK0
  have f0_0 : w4.frozen? ⟨w.heap.size, 0, none⟩ = false := frozen_of_row w4 _ 0 _ _ hK0
  have g0_1 : w4.cell? ⟨w.heap.size, 1, none⟩ = some (.float .f32 c) := cell_of_row w4 _ 1 _ _ _ hK0
  have f0_1 : w4.frozen? ⟨w.heap.size, 1, none⟩ = false := frozen_of_row w4 _ 1 _ _ hK0
  have g0_2 : w4.cell? ⟨w.heap.size, 2, none⟩ = some (.float .f32 s) := cell_of_row w4 _ 2 _ _ _ hK0
  have f0_2 : w4.frozen? ⟨w.heap.size, 2, none⟩ = false := frozen_of_row w4 _ 2 _ _ hK0
  have l0 : w.heap.size < w4.heap.size := (Array.getElem?_eq_some_iff.1 hK0).1
  have g1_0 : w4.cell? ⟨w.heap.size + 1, 0, none⟩ = some (.float .f32 x) := cell_of_row w4 _ 0 _ _ _ hK1
  have f1_0 : w4.frozen? ⟨w.heap.size + 1, 0, none⟩ = false := frozen_of_row w4 _ 0 _ _ hK1
  have g1_1 : w4.cell? ⟨w.heap.size + 1, 1, none⟩ = some (.float .f32 y) := cell_of_row w4 _ 1 _ _ _ hK1
  have f1_1 : w4.frozen? ⟨w.heap.size + 1, 1, none⟩ = false := frozen_of_row w4 _ 1 _ _ hK1
  have g1_2 : w4.cell? ⟨w.heap.size + 1, 2, none⟩ = some (.float .f32 z) := cell_of_row w4 _ 2 _ _ _ hK1
  have f1_2 : w4.frozen? ⟨w.heap.size + 1, 2, none⟩ = false := frozen_of_row w4 _ 2 _ _ hK1
  have l1 : w.heap.size + 1 < w4.heap.size := (Array.getElem?_eq_some_iff.1 hK1).1
  have g2_0 : w4.cell? ⟨w.heap.size + 1 + 1, 0, none⟩ = some (.float .f32 0) := cell_of_row w4 _ 0 _ _ _ hK2
  have f2_0 : w4.frozen? ⟨w.heap.size + 1 + 1, 0, none⟩ = false := frozen_of_row w4 _ 0 _ _ hK2
  have g2_1 : w4.cell? ⟨w.heap.size + 1 + 1, 1, none⟩ = some (.float .f32 0) := cell_of_row w4 _ 1 _ _ _ hK2
  have f2_1 : w4.frozen? ⟨w.heap.size + 1 + 1, 1, none⟩ = false := frozen_of_row w4 _ 1 _ _ hK2
  have g2_2 : w4.cell? ⟨w.heap.size + 1 + 1, 2, none⟩ = some (.float .f32 0) := cell_of_row w4 _ 2 _ _ _ hK2
  have f2_2 : w4.frozen? ⟨w.heap.size + 1 + 1, 2, none⟩ = false := frozen_of_row w4 _ 2 _ _ hK2
  have l2 : w.heap.size + 1 + 1 < w4.heap.size := (Array.getElem?_eq_some_iff.1 hK2).1
  have g3_0 : w4.cell? ⟨w3.heap.size, 0, none⟩ = some (.float .f32 x) := cell_of_row w4 _ 0 _ _ _ hK3
  have f3_0 : w4.frozen? ⟨w3.heap.size, 0, none⟩ = false := frozen_of_row w4 _ 0 _ _ hK3
  have g3_1 : w4.cell? ⟨w3.heap.size, 1, none⟩ = some (.float .f32 y) := cell_of_row w4 _ 1 _ _ _ hK3
  have f3_1 : w4.frozen? ⟨w3.heap.size, 1, none⟩ = false := frozen_of_row w4 _ 1 _ _ hK3
  have g3_2 : w4.cell? ⟨w3.heap.size, 2, none⟩ = some (.float .f32 z) := cell_of_row w4 _ 2 _ _ _ hK3
  have f3_2 : w4.frozen? ⟨w3.heap.size, 2, none⟩ = false := frozen_of_row w4 _ 2 _ _ hK3
  have l3 : w3.heap.size < w4.heap.size := (Array.getElem?_eq_some_iff.1 hK3).1
  have T1 : (IntKind.i64.wrap 2).tmod 3 = 2 := by decide
  have T2 : (IntKind.i64.wrap 3).tmod 3 = 0 := by decide
  refine wp_region_laterO 9 (SO (QL [])) (stays_SO _) (by kernel_rfl) (by kernel_rfl) ?_
  repeat (first | (refine later_exO rfl (fun K hK => ?_); apply Exists.intro; refine ⟨fun w' hw' => ?_, ?_⟩; (obtain ⟨hcc, hff⟩ := Grew.cells hw'; clear hw'; go_simp; rfl); go_simp; refine hK _ ?_; clear hK K))
  refine later_nilO ?_
  intro w5 hw4
  simp only [List.drop_succ_cons, List.drop_zero]
  clear g0_0 f0_0 g0_1 f0_1 g0_2 f0_2 l0 g1_0 f1_0 g1_1 f1_1 g1_2 f1_2 l1 g2_0 f2_0 g2_1 f2_1 g2_2 f2_2 l2 g3_0 f3_0 g3_1 f3_1 g3_2 f3_2 l3
  have hE2 : Ext w4 w5 := hw4
  have hB3 : Below w.heap.size w w5 := hB2.trans (hE2.mono hB2.size)
  replace hK0 := hE2.heap hK0
  replace hK1 := hE2.heap hK1
  replace hK2 := hE2.heap hK2
  replace hK3 := hE2.heap hK3
  have g0_0 : w5.cell? ⟨w.heap.size, 0, none⟩ = some (.int .i64 1) := cell_of_row w5 _ 0 _ _ _ hK0
  have f0_0 : w5.frozen? ⟨w.heap.size, 0, none⟩ = false := frozen_of_row w5 _ 0 _ _ hK0
  have g0_1 : w5.cell? ⟨w.heap.size, 1, none⟩ = some (.float .f32 c) := cell_of_row w5 _ 1 _ _ _ hK0
  have f0_1 : w5.frozen? ⟨w.heap.size, 1, none⟩ = false := frozen_of_row w5 _ 1 _ _ hK0
  have g0_2 : w5.cell? ⟨w.heap.size, 2, none⟩ = some (.float .f32 s) := cell_of_row w5 _ 2 _ _ _ hK0
  have f0_2 : w5.frozen? ⟨w.heap.size, 2, none⟩ = false := frozen_of_row w5 _ 2 _ _ hK0
  have l0 : w.heap.size < w5.heap.size := (Array.getElem?_eq_some_iff.1 hK0).1
  have g1_0 : w5.cell? ⟨w.heap.size + 1, 0, none⟩ = some (.float .f32 x) := cell_of_row w5 _ 0 _ _ _ hK1
  have f1_0 : w5.frozen? ⟨w.heap.size + 1, 0, none⟩ = false := frozen_of_row w5 _ 0 _ _ hK1
  have g1_1 : w5.cell? ⟨w.heap.size + 1, 1, none⟩ = some (.float .f32 y) := cell_of_row w5 _ 1 _ _ _ hK1
  have f1_1 : w5.frozen? ⟨w.heap.size + 1, 1, none⟩ = false := frozen_of_row w5 _ 1 _ _ hK1
  have g1_2 : w5.cell? ⟨w.heap.size + 1, 2, none⟩ = some (.float .f32 z) := cell_of_row w5 _ 2 _ _ _ hK1
  have f1_2 : w5.frozen? ⟨w.heap.size + 1, 2, none⟩ = false := frozen_of_row w5 _ 2 _ _ hK1
  have l1 : w.heap.size + 1 < w5.heap.size := (Array.getElem?_eq_some_iff.1 hK1).1
  have g2_0 : w5.cell? ⟨w.heap.size + 1 + 1, 0, none⟩ = some (.float .f32 0) := cell_of_row w5 _ 0 _ _ _ hK2
  have f2_0 : w5.frozen? ⟨w.heap.size + 1 + 1, 0, none⟩ = false := frozen_of_row w5 _ 0 _ _ hK2
  have g2_1 : w5.cell? ⟨w.heap.size + 1 + 1, 1, none⟩ = some (.float .f32 0) := cell_of_row w5 _ 1 _ _ _ hK2
  have f2_1 : w5.frozen? ⟨w.heap.size + 1 + 1, 1, none⟩ = false := frozen_of_row w5 _ 1 _ _ hK2
  have g2_2 : w5.cell? ⟨w.heap.size + 1 + 1, 2, none⟩ = some (.float .f32 0) := cell_of_row w5 _ 2 _ _ _ hK2
  have f2_2 : w5.frozen? ⟨w.heap.size + 1 + 1, 2, none⟩ = false := frozen_of_row w5 _ 2 _ _ hK2
  have l2 : w.heap.size + 1 + 1 < w5.heap.size := (Array.getElem?_eq_some_iff.1 hK2).1
  have g3_0 : w5.cell? ⟨w3.heap.size, 0, none⟩ = some (.float .f32 x) := cell_of_row w5 _ 0 _ _ _ hK3
  have f3_0 : w5.frozen? ⟨w3.heap.size, 0, none⟩ = false := frozen_of_row w5 _ 0 _ _ hK3
  have g3_1 : w5.cell? ⟨w3.heap.size, 1, none⟩ = some (.float .f32 y) := cell_of_row w5 _ 1 _ _ _ hK3
  have f3_1 : w5.frozen? ⟨w3.heap.size, 1, none⟩ = false := frozen_of_row w5 _ 1 _ _ hK3
  have g3_2 : w5.cell? ⟨w3.heap.size, 2, none⟩ = some (.float .f32 z) := cell_of_row w5 _ 2 _ _ _ hK3
  have f3_2 : w5.frozen? ⟨w3.heap.size, 2, none⟩ = false := frozen_of_row w5 _ 2 _ _ hK3
  have l3 : w3.heap.size < w5.heap.size := (Array.getElem?_eq_some_iff.1 hK3).1
  clear hw4 
  go_wp2_with fail
  refine wp_region_laterO 7 (SO (QL [])) (stays_SO _) (by kernel_rfl) (by kernel_rfl) ?_
  repeat (first | (refine later_exO rfl (fun K hK => ?_); apply Exists.intro; refine ⟨fun w' hw' => ?_, ?_⟩; (obtain ⟨hcc, hff⟩ := Grew.cells hw'; clear hw'; go_simp; rfl); go_simp; refine hK _ ?_; clear hK K))
  refine later_nilO ?_
  intro w6 hw4
  simp only [List.drop_succ_cons, List.drop_zero]
  clear g0_0 f0_0 g0_1 f0_1 g0_2 f0_2 l0 g1_0 f1_0 g1_1 f1_1 g1_2 f1_2 l1 g2_0 f2_0 g2_1 f2_1 g2_2 f2_2 l2 g3_0 f3_0 g3_1 f3_1 g3_2 f3_2 l3
  have hE3 : Ext w5 w6 := hw4
  have hB4 : Below w.heap.size w w6 := hB3.trans (hE3.mono hB3.size)
  replace hK0 := hE3.heap hK0
  replace hK1 := hE3.heap hK1
  replace hK2 := hE3.heap hK2
  replace hK3 := hE3.heap hK3
  have g0_0 : w6.cell? ⟨w.heap.size, 0, none⟩ = some (.int .i64 1) := cell_of_row w6 _ 0 _ _ _ hK0
  have f0_0 : w6.frozen? ⟨w.heap.size, 0, none⟩ = false := frozen_of_row w6 _ 0 _ _ hK0
  have g0_1 : w6.cell? ⟨w.heap.size, 1, none⟩ = some (.float .f32 c) := cell_of_row w6 _ 1 _ _ _ hK0
  have f0_1 : w6.frozen? ⟨w.heap.size, 1, none⟩ = false := frozen_of_row w6 _ 1 _ _ hK0
  have g0_2 : w6.cell? ⟨w.heap.size, 2, none⟩ = some (.float .f32 s) := cell_of_row w6 _ 2 _ _ _ hK0
  have f0_2 : w6.frozen? ⟨w.heap.size, 2, none⟩ = false := frozen_of_row w6 _ 2 _ _ hK0
  have l0 : w.heap.size < w6.heap.size := (Array.getElem?_eq_some_iff.1 hK0).1
  have g1_0 : w6.cell? ⟨w.heap.size + 1, 0, none⟩ = some (.float .f32 x) := cell_of_row w6 _ 0 _ _ _ hK1
  have f1_0 : w6.frozen? ⟨w.heap.size + 1, 0, none⟩ = false := frozen_of_row w6 _ 0 _ _ hK1
  have g1_1 : w6.cell? ⟨w.heap.size + 1, 1, none⟩ = some (.float .f32 y) := cell_of_row w6 _ 1 _ _ _ hK1
  have f1_1 : w6.frozen? ⟨w.heap.size + 1, 1, none⟩ = false := frozen_of_row w6 _ 1 _ _ hK1
  have g1_2 : w6.cell? ⟨w.heap.size + 1, 2, none⟩ = some (.float .f32 z) := cell_of_row w6 _ 2 _ _ _ hK1
  have f1_2 : w6.frozen? ⟨w.heap.size + 1, 2, none⟩ = false := frozen_of_row w6 _ 2 _ _ hK1
  have l1 : w.heap.size + 1 < w6.heap.size := (Array.getElem?_eq_some_iff.1 hK1).1
  have g2_0 : w6.cell? ⟨w.heap.size + 1 + 1, 0, none⟩ = some (.float .f32 0) := cell_of_row w6 _ 0 _ _ _ hK2
  have f2_0 : w6.frozen? ⟨w.heap.size + 1 + 1, 0, none⟩ = false := frozen_of_row w6 _ 0 _ _ hK2
  have g2_1 : w6.cell? ⟨w.heap.size + 1 + 1, 1, none⟩ = some (.float .f32 0) := cell_of_row w6 _ 1 _ _ _ hK2
  have f2_1 : w6.frozen? ⟨w.heap.size + 1 + 1, 1, none⟩ = false := frozen_of_row w6 _ 1 _ _ hK2
  have g2_2 : w6.cell? ⟨w.heap.size + 1 + 1, 2, none⟩ = some (.float .f32 0) := cell_of_row w6 _ 2 _ _ _ hK2
  have f2_2 : w6.frozen? ⟨w.heap.size + 1 + 1, 2, none⟩ = false := frozen_of_row w6 _ 2 _ _ hK2
  have l2 : w.heap.size + 1 + 1 < w6.heap.size := (Array.getElem?_eq_some_iff.1 hK2).1
  have g3_0 : w6.cell? ⟨w3.heap.size, 0, none⟩ = some (.float .f32 x) := cell_of_row w6 _ 0 _ _ _ hK3
  have f3_0 : w6.frozen? ⟨w3.heap.size, 0, none⟩ = false := frozen_of_row w6 _ 0 _ _ hK3
  have g3_1 : w6.cell? ⟨w3.heap.size, 1, none⟩ = some (.float .f32 y) := cell_of_row w6 _ 1 _ _ _ hK3
  have f3_1 : w6.frozen? ⟨w3.heap.size, 1, none⟩ = false := frozen_of_row w6 _ 1 _ _ hK3
  have g3_2 : w6.cell? ⟨w3.heap.size, 2, none⟩ = some (.float .f32 z) := cell_of_row w6 _ 2 _ _ _ hK3
  have f3_2 : w6.frozen? ⟨w3.heap.size, 2, none⟩ = false := frozen_of_row w6 _ 2 _ _ hK3
  have l3 : w3.heap.size < w6.heap.size := (Array.getElem?_eq_some_iff.1 hK3).1
  clear hw4 
  go_wp2_with (refine wpList_f32 rfl rfl rfl rfl rfl ?_; intro r n hr he)
  rename_i m1 n1 hm1 em1 m2 n2 hm2 em2 ra n3 hra ea m3 n4 hm3 em3 m4 n5 hm4 em4 KK hKK KK2 hKK2
  have E1 : Eqv .f32 ra (add32 (mul32 c z) (mul32 s x)) := by rw [show add32 (mul32 c z) (mul32 s x) = fop .add .f32 m1 m2 from (fop_eqv em1 em2).symm]; exact ea
  have E2 : Eqv .f32 r (sub32 (mul32 c x) (mul32 s z)) := by rw [show sub32 (mul32 c x) (mul32 s z) = fop .sub .f32 m3 m4 from (fop_eqv em3 em4).symm]; exact he
  have HK2 := Lib.hid hK2
  have h12 : w.heap.size ≤ w.heap.size + 1 + 1 := by omega
  have h3 : w.heap.size ≤ w3.heap.size := by omega
  have hne : w.heap.size + 1 + 1 ≠ w3.heap.size := by omega
  clear em1 em2 ea em3 em4 he g0_0 f0_0 g0_1 f0_1 g0_2 f0_2 l0 g1_0 f1_0 g1_1 f1_1 g1_2 f1_2 l1 g2_0 f2_0 g2_1 f2_1 g2_2 f2_2 l2 g3_0 f3_0 g3_1 f3_1 g3_2 f3_2 l3 hK0 hK1 hK2 hK3
  refine (vector_ok _ _ _ _).mono ?_
  rintro e w9 ⟨rfl, hb⟩
  have hK : w9.heap[w.heap.size + 1 + 1]? = some (.cells #[.float .f32 0, .float .f32 0, .float .f32 0] 34) := by
    refine (hb.block _ ?_).trans ((heap_setCell_other _ _ _ _ hne).trans ((heap_setCell_other _ _ _ _ hne).trans HK2.out))
    have := (Array.getElem?_eq_some_iff.1 HK2.out).1
    simpa using this
  have hB9 : Below w.heap.size w w9 := Below.trans (below_drewN (Below.setCell (below_drewN hB4 _) h3 _) _ |>.setCell h3 _) (hb.mono (by have := hB4.size; simpa using this))
  have g2_0 : w9.cell? ⟨w.heap.size + 1 + 1, 0, none⟩ = some (.float .f32 0) := cell_of_row w9 _ 0 _ _ _ hK
  have g2_1 : w9.cell? ⟨w.heap.size + 1 + 1, 1, none⟩ = some (.float .f32 0) := cell_of_row w9 _ 1 _ _ _ hK
  have g2_2 : w9.cell? ⟨w.heap.size + 1 + 1, 2, none⟩ = some (.float .f32 0) := cell_of_row w9 _ 2 _ _ _ hK
  have f2_0 : w9.frozen? ⟨w.heap.size + 1 + 1, 0, none⟩ = false := frozen_of_row w9 _ 0 _ _ hK
  have f2_1 : w9.frozen? ⟨w.heap.size + 1 + 1, 1, none⟩ = false := frozen_of_row w9 _ 1 _ _ hK
  have f2_2 : w9.frozen? ⟨w.heap.size + 1 + 1, 2, none⟩ = false := frozen_of_row w9 _ 2 _ _ hK
  have l2 : w.heap.size + 1 + 1 < w9.heap.size := (Array.getElem?_eq_some_iff.1 hK).1
  clear hb hK
  go_wp2_with fail
  exact bodyPost_ret (v := vec r y ra) (by simp [results, Tryz.results132, go_sem, g2_0, g2_1, g2_2]) rfl ⟨r, y, ra, rfl, hr, hy, hra, E2, Eqv.refl _ _, E1, by (iterate 3 (refine Below.setCell ?_ h12 _)); exact hB9⟩
set_option maxRecDepth 100000 in
theorem turnBelow_2 (c s x y z : Nat) (hx : x < 4294967296) (hy : y < 4294967296) (hz : z < 4294967296) (w : World) :
    Calls Tryz.prog 132 #[.agg #[.int .i64 2, .float .f32 c, .float .f32 s], vec x y z] w (Vec (turnP c s 2 ⟨x, y, z⟩).x (turnP c s 2 ⟨x, y, z⟩).y (turnP c s 2 ⟨x, y, z⟩).z w) := by
  have kc := fun (b : Nat) (w : World) => run_convert_same (P := Tryz.prog) 25 25 .f32 b w Tryz.underlying25 Tryz.underlying25
  go_enter Tryz.func132, Tryz.ntmps132
  go_wp2_with fail
  generalize hW0 : ((w.alloc (.cells #[.int .i64 2, .float .f32 c, .float .f32 s] 127)).alloc (.cells #[.float .f32 x, .float .f32 y, .float .f32 z] 34)).alloc (.cells #[.float .f32 0, .float .f32 0, .float .f32 0] 34) = W0
  have hB0 : Below w.heap.size w W0 := by subst hW0; exact by (repeat (first | exact Below.refl _ _ | assumption | refine below_drewN ?_ _ | refine Below.setCell ?_ (by first | omega | (simp <;> omega)) _ | refine Below.alloc ?_ (by first | omega | (simp <;> omega)) _))
  have hK0 : W0.heap[w.heap.size]? = some (.cells #[.int .i64 2, .float .f32 c, .float .f32 s] 127) := by subst hW0; rw [Go.RowKit.Below.heap_alloc _ _ _ (by simp; omega)]; exact heap_alloc2_old _ _ _
  have hK1 : W0.heap[w.heap.size + 1]? = some (.cells #[.float .f32 x, .float .f32 y, .float .f32 z] 34) := by subst hW0; rw [Go.RowKit.Below.heap_alloc _ _ _ (by simp)]; exact heap_alloc2_new _ _ _
  have hK2 : W0.heap[w.heap.size + 1 + 1]? = some (.cells #[.float .f32 0, .float .f32 0, .float .f32 0] 34) := by 
    subst hW0
    have := Go.heap_alloc_new ((w.alloc (.cells #[.int .i64 2, .float .f32 c, .float .f32 s] 127)).alloc (.cells #[.float .f32 x, .float .f32 y, .float .f32 z] 34)) (.cells #[.float .f32 0, .float .f32 0, .float .f32 0] 34)
    simpa using this
  clear hW0
  have hZ0 : w.heap.size + 1 + 1 < W0.heap.size := (Array.getElem?_eq_some_iff.1 hK2).1
  have g0_0 : W0.cell? ⟨w.heap.size, 0, none⟩ = some (.int .i64 2) := cell_of_row W0 _ 0 _ _ _ hK0
  have f0_0 : W0.frozen? ⟨w.heap.size, 0, none⟩ = false := frozen_of_row W0 _ 0 _ _ hK0
  have g0_1 : W0.cell? ⟨w.heap.size, 1, none⟩ = some (.float .f32 c) := cell_of_row W0 _ 1 _ _ _ hK0
  have f0_1 : W0.frozen? ⟨w.heap.size, 1, none⟩ = false := frozen_of_row W0 _ 1 _ _ hK0
  have g0_2 : W0.cell? ⟨w.heap.size, 2, none⟩ = some (.float .f32 s) := cell_of_row W0 _ 2 _ _ _ hK0
  have f0_2 : W0.frozen? ⟨w.heap.size, 2, none⟩ = false := frozen_of_row W0 _ 2 _ _ hK0
  have l0 : w.heap.size < W0.heap.size := (Array.getElem?_eq_some_iff.1 hK0).1
  have g1_0 : W0.cell? ⟨w.heap.size + 1, 0, none⟩ = some (.float .f32 x) := cell_of_row W0 _ 0 _ _ _ hK1
  have f1_0 : W0.frozen? ⟨w.heap.size + 1, 0, none⟩ = false := frozen_of_row W0 _ 0 _ _ hK1
  have g1_1 : W0.cell? ⟨w.heap.size + 1, 1, none⟩ = some (.float .f32 y) := cell_of_row W0 _ 1 _ _ _ hK1
  have f1_1 : W0.frozen? ⟨w.heap.size + 1, 1, none⟩ = false := frozen_of_row W0 _ 1 _ _ hK1
  have g1_2 : W0.cell? ⟨w.heap.size + 1, 2, none⟩ = some (.float .f32 z) := cell_of_row W0 _ 2 _ _ _ hK1
  have f1_2 : W0.frozen? ⟨w.heap.size + 1, 2, none⟩ = false := frozen_of_row W0 _ 2 _ _ hK1
  have l1 : w.heap.size + 1 < W0.heap.size := (Array.getElem?_eq_some_iff.1 hK1).1
  have g2_0 : W0.cell? ⟨w.heap.size + 1 + 1, 0, none⟩ = some (.float .f32 0) := cell_of_row W0 _ 0 _ _ _ hK2
  have f2_0 : W0.frozen? ⟨w.heap.size + 1 + 1, 0, none⟩ = false := frozen_of_row W0 _ 0 _ _ hK2
  have g2_1 : W0.cell? ⟨w.heap.size + 1 + 1, 1, none⟩ = some (.float .f32 0) := cell_of_row W0 _ 1 _ _ _ hK2
  have f2_1 : W0.frozen? ⟨w.heap.size + 1 + 1, 1, none⟩ = false := frozen_of_row W0 _ 1 _ _ hK2
  have g2_2 : W0.cell? ⟨w.heap.size + 1 + 1, 2, none⟩ = some (.float .f32 0) := cell_of_row W0 _ 2 _ _ _ hK2
  have f2_2 : W0.frozen? ⟨w.heap.size + 1 + 1, 2, none⟩ = false := frozen_of_row W0 _ 2 _ _ hK2
  have l2 : w.heap.size + 1 + 1 < W0.heap.size := (Array.getElem?_eq_some_iff.1 hK2).1
  refine (tripleOf_ok _ _ _ _).mono ?_
  rintro e w3 ⟨rfl, hb⟩
  clear g0_0 f0_0 g0_1 f0_1 g0_2 f0_2 l0 g1_0 f1_0 g1_1 f1_1 g1_2 f1_2 l1 g2_0 f2_0 g2_1 f2_1 g2_2 f2_2 l2
  have hE0 : Ext W0 w3 := hb
  have hB1 : Below w.heap.size w w3 := hB0.trans (hE0.mono hB0.size)
  replace hK0 := hE0.heap hK0
  replace hK1 := hE0.heap hK1
  replace hK2 := hE0.heap hK2
  have g0_0 : w3.cell? ⟨w.heap.size, 0, none⟩ = some (.int .i64 2) := cell_of_row w3 _ 0 _ _ _ hK0
  have f0_0 : w3.frozen? ⟨w.heap.size, 0, none⟩ = false := frozen_of_row w3 _ 0 _ _ hK0
  have g0_1 : w3.cell? ⟨w.heap.size, 1, none⟩ = some (.float .f32 c) := cell_of_row w3 _ 1 _ _ _ hK0
  have f0_1 : w3.frozen? ⟨w.heap.size, 1, none⟩ = false := frozen_of_row w3 _ 1 _ _ hK0
  have g0_2 : w3.cell? ⟨w.heap.size, 2, none⟩ = some (.float .f32 s) := cell_of_row w3 _ 2 _ _ _ hK0
  have f0_2 : w3.frozen? ⟨w.heap.size, 2, none⟩ = false := frozen_of_row w3 _ 2 _ _ hK0
  have l0 : w.heap.size < w3.heap.size := (Array.getElem?_eq_some_iff.1 hK0).1
  have g1_0 : w3.cell? ⟨w.heap.size + 1, 0, none⟩ = some (.float .f32 x) := cell_of_row w3 _ 0 _ _ _ hK1
  have f1_0 : w3.frozen? ⟨w.heap.size + 1, 0, none⟩ = false := frozen_of_row w3 _ 0 _ _ hK1
  have g1_1 : w3.cell? ⟨w.heap.size + 1, 1, none⟩ = some (.float .f32 y) := cell_of_row w3 _ 1 _ _ _ hK1
  have f1_1 : w3.frozen? ⟨w.heap.size + 1, 1, none⟩ = false := frozen_of_row w3 _ 1 _ _ hK1
  have g1_2 : w3.cell? ⟨w.heap.size + 1, 2, none⟩ = some (.float .f32 z) := cell_of_row w3 _ 2 _ _ _ hK1
  have f1_2 : w3.frozen? ⟨w.heap.size + 1, 2, none⟩ = false := frozen_of_row w3 _ 2 _ _ hK1
  have l1 : w.heap.size + 1 < w3.heap.size := (Array.getElem?_eq_some_iff.1 hK1).1
  have g2_0 : w3.cell? ⟨w.heap.size + 1 + 1, 0, none⟩ = some (.float .f32 0) := cell_of_row w3 _ 0 _ _ _ hK2
  have f2_0 : w3.frozen? ⟨w.heap.size + 1 + 1, 0, none⟩ = false := frozen_of_row w3 _ 0 _ _ hK2
  have g2_1 : w3.cell? ⟨w.heap.size + 1 + 1, 1, none⟩ = some (.float .f32 0) := cell_of_row w3 _ 1 _ _ _ hK2
  have f2_1 : w3.frozen? ⟨w.heap.size + 1 + 1, 1, none⟩ = false := frozen_of_row w3 _ 1 _ _ hK2
  have g2_2 : w3.cell? ⟨w.heap.size + 1 + 1, 2, none⟩ = some (.float .f32 0) := cell_of_row w3 _ 2 _ _ _ hK2
  have f2_2 : w3.frozen? ⟨w.heap.size + 1 + 1, 2, none⟩ = false := frozen_of_row w3 _ 2 _ _ hK2
  have l2 : w.heap.size + 1 + 1 < w3.heap.size := (Array.getElem?_eq_some_iff.1 hK2).1
  clear hb
  go_wp2_with fail
  clear g0_0 f0_0 g0_1 f0_1 g0_2 f0_2 l0 g1_0 f1_0 g1_1 f1_1 g1_2 f1_2 l1 g2_0 f2_0 g2_1 f2_1 g2_2 f2_2 l2
  generalize hWa : w3.alloc (.cells #[.float .f32 x, .float .f32 y, .float .f32 z] 146) = w4
  have hE1 : Ext w3 w4 := by subst hWa; exact (Ext.refl _).alloc _
  have hN : w4.heap[w3.heap.size]? = some (.cells #[.float .f32 x, .float .f32 y, .float .f32 z] 146) := by subst hWa; exact Go.heap_alloc_new _ _
  clear hWa
  have hB2 : Below w.heap.size w w4 := hB1.trans (hE1.mono hB1.size)
  have hs1 : w.heap.size + 3 ≤ w3.heap.size := by have := (Array.getElem?_eq_some_iff.1 hK2).1; omega
  replace hK0 := hE1.heap hK0
  replace hK1 := hE1.heap hK1
  replace hK2 := hE1.heap hK2
  have hK3 := hN
  clear hN
  have g0_0 : w4.cell? ⟨w.heap.size, 0, none⟩ = some (.int .i64 2) := cell_of_row w4 _ 0 _ _ _ hK0
  have f0_0 : w4.frozen? ⟨w.heap.size, 0, none⟩ = false := frozen_of_row w4 _ 0 _ _ hK0
  have g0_1 : w4.cell? ⟨w.heap.size, 1, none⟩ = some (.float .f32 c) := cell_of_row w4 _ 1 _ _ _ hK0
  have f0_1 : w4.frozen? ⟨w.heap.size, 1, none⟩ = false := frozen_of_row w4 _ 1 _ _ hK0
  have g0_2 : w4.cell? ⟨w.heap.size, 2, none⟩ = some (.float .f32 s) := cell_of_row w4 _ 2 _ _ _ hK0
  have f0_2 : w4.frozen? ⟨w.heap.size, 2, none⟩ = false := frozen_of_row w4 _ 2 _ _ hK0
  have l0 : w.heap.size < w4.heap.size := (Array.getElem?_eq_some_iff.1 hK0).1
  have g1_0 : w4.cell? ⟨w.heap.size + 1, 0, none⟩ = some (.float .f32 x) := cell_of_row w4 _ 0 _ _ _ hK1
  have f1_0 : w4.frozen? ⟨w.heap.size + 1, 0, none⟩ = false := frozen_of_row w4 _ 0 _ _ hK1
  have g1_1 : w4.cell? ⟨w.heap.size + 1, 1, none⟩ = some (.float .f32 y) := cell_of_row w4 _ 1 _ _ _ hK1
  have f1_1 : w4.frozen? ⟨w.heap.size + 1, 1, none⟩ = false := frozen_of_row w4 _ 1 _ _ hK1
  have g1_2 : w4.cell? ⟨w.heap.size + 1, 2, none⟩ = some (.float .f32 z) := cell_of_row w4 _ 2 _ _ _ hK1
  have f1_2 : w4.frozen? ⟨w.heap.size + 1, 2, none⟩ = false := frozen_of_row w4 _ 2 _ _ hK1
  have l1 : w.heap.size + 1 < w4.heap.size := (Array.getElem?_eq_some_iff.1 hK1).1
  have g2_0 : w4.cell? ⟨w.heap.size + 1 + 1, 0, none⟩ = some (.float .f32 0) := cell_of_row w4 _ 0 _ _ _ hK2
  have f2_0 : w4.frozen? ⟨w.heap.size + 1 + 1, 0, none⟩ = false := frozen_of_row w4 _ 0 _ _ hK2
  have g2_1 : w4.cell? ⟨w.heap.size + 1 + 1, 1, none⟩ = some (.float .f32 0) := cell_of_row w4 _ 1 _ _ _ hK2
  have f2_1 : w4.frozen? ⟨w.heap.size + 1 + 1, 1, none⟩ = false := frozen_of_row w4 _ 1 _ _ hK2
  have g2_2 : w4.cell? ⟨w.heap.size + 1 + 1, 2, none⟩ = some (.float .f32 0) := cell_of_row w4 _ 2 _ _ _ hK2
  have f2_2 : w4.frozen? ⟨w.heap.size + 1 + 1, 2, none⟩ = false := frozen_of_row w4 _ 2 _ _ hK2
  have l2 : w.heap.size + 1 + 1 < w4.heap.size := (Array.getElem?_eq_some_iff.1 hK2).1
  have g3_0 : w4.cell? ⟨w3.heap.size, 0, none⟩ = some (.float .f32 x) := cell_of_row w4 _ 0 _ _ _ hK3
  have f3_0 : w4.frozen? ⟨w3.heap.size, 0, none⟩ = false := frozen_of_row w4 _ 0 _ _ hK3
  have g3_1 : w4.cell? ⟨w3.heap.size, 1, none⟩ = some (.float .f32 y) := cell_of_row w4 _ 1 _ _ _ hK3
  have f3_1 : w4.frozen? ⟨w3.heap.size, 1, none⟩ = false := frozen_of_row w4 _ 1 _ _ hK3
  have g3_2 : w4.cell? ⟨w3.heap.size, 2, none⟩ = some (.float .f32 z) := cell_of_row w4 _ 2 _ _ _ hK3
  have f3_2 : w4.frozen? ⟨w3.heap.size, 2, none⟩ = false := frozen_of_row w4 _ 2 _ _ hK3
  have l3 : w3.heap.size < w4.heap.size := (Array.getElem?_eq_some_iff.1 hK3).1
  have T1 : (IntKind.i64.wrap 3).tmod 3 = 0 := by decide
  have T2 : (IntKind.i64.wrap 4).tmod 3 = 1 := by decide
  refine wp_region_laterO 9 (SO (QL [])) (stays_SO _) (by kernel_rfl) (by kernel_rfl) ?_
  repeat (first | (refine later_exO rfl (fun K hK => ?_); apply Exists.intro; refine ⟨fun w' hw' => ?_, ?_⟩; (obtain ⟨hcc, hff⟩ := Grew.cells hw'; clear hw'; go_simp; rfl); go_simp; refine hK _ ?_; clear hK K))
  refine later_nilO ?_
  intro w5 hw4
  simp only [List.drop_succ_cons, List.drop_zero]
  clear g0_0 f0_0 g0_1 f0_1 g0_2 f0_2 l0 g1_0 f1_0 g1_1 f1_1 g1_2 f1_2 l1 g2_0 f2_0 g2_1 f2_1 g2_2 f2_2 l2 g3_0 f3_0 g3_1 f3_1 g3_2 f3_2 l3
  have hE2 : Ext w4 w5 := hw4
  have hB3 : Below w.heap.size w w5 := hB2.trans (hE2.mono hB2.size)
  replace hK0 := hE2.heap hK0
  replace hK1 := hE2.heap hK1
  replace hK2 := hE2.heap hK2
  replace hK3 := hE2.heap hK3
  have g0_0 : w5.cell? ⟨w.heap.size, 0, none⟩ = some (.int .i64 2) := cell_of_row w5 _ 0 _ _ _ hK0
  have f0_0 : w5.frozen? ⟨w.heap.size, 0, none⟩ = false := frozen_of_row w5 _ 0 _ _ hK0
  have g0_1 : w5.cell? ⟨w.heap.size, 1, none⟩ = some (.float .f32 c) := cell_of_row w5 _ 1 _ _ _ hK0
  have f0_1 : w5.frozen? ⟨w.heap.size, 1, none⟩ = false := frozen_of_row w5 _ 1 _ _ hK0
  have g0_2 : w5.cell? ⟨w.heap.size, 2, none⟩ = some (.float .f32 s) := cell_of_row w5 _ 2 _ _ _ hK0
  have f0_2 : w5.frozen? ⟨w.heap.size, 2, none⟩ = false := frozen_of_row w5 _ 2 _ _ hK0
  have l0 : w.heap.size < w5.heap.size := (Array.getElem?_eq_some_iff.1 hK0).1
  have g1_0 : w5.cell? ⟨w.heap.size + 1, 0, none⟩ = some (.float .f32 x) := cell_of_row w5 _ 0 _ _ _ hK1
  have f1_0 : w5.frozen? ⟨w.heap.size + 1, 0, none⟩ = false := frozen_of_row w5 _ 0 _ _ hK1
  have g1_1 : w5.cell? ⟨w.heap.size + 1, 1, none⟩ = some (.float .f32 y) := cell_of_row w5 _ 1 _ _ _ hK1
  have f1_1 : w5.frozen? ⟨w.heap.size + 1, 1, none⟩ = false := frozen_of_row w5 _ 1 _ _ hK1
  have g1_2 : w5.cell? ⟨w.heap.size + 1, 2, none⟩ = some (.float .f32 z) := cell_of_row w5 _ 2 _ _ _ hK1
  have f1_2 : w5.frozen? ⟨w.heap.size + 1, 2, none⟩ = false := frozen_of_row w5 _ 2 _ _ hK1
  have l1 : w.heap.size + 1 < w5.heap.size := (Array.getElem?_eq_some_iff.1 hK1).1
  have g2_0 : w5.cell? ⟨w.heap.size + 1 + 1, 0, none⟩ = some (.float .f32 0) := cell_of_row w5 _ 0 _ _ _ hK2
  have f2_0 : w5.frozen? ⟨w.heap.size + 1 + 1, 0, none⟩ = false := frozen_of_row w5 _ 0 _ _ hK2
  have g2_1 : w5.cell? ⟨w.heap.size + 1 + 1, 1, none⟩ = some (.float .f32 0) := cell_of_row w5 _ 1 _ _ _ hK2
  have f2_1 : w5.frozen? ⟨w.heap.size + 1 + 1, 1, none⟩ = false := frozen_of_row w5 _ 1 _ _ hK2
  have g2_2 : w5.cell? ⟨w.heap.size + 1 + 1, 2, none⟩ = some (.float .f32 0) := cell_of_row w5 _ 2 _ _ _ hK2
  have f2_2 : w5.frozen? ⟨w.heap.size + 1 + 1, 2, none⟩ = false := frozen_of_row w5 _ 2 _ _ hK2
  have l2 : w.heap.size + 1 + 1 < w5.heap.size := (Array.getElem?_eq_some_iff.1 hK2).1
  have g3_0 : w5.cell? ⟨w3.heap.size, 0, none⟩ = some (.float .f32 x) := cell_of_row w5 _ 0 _ _ _ hK3
  have f3_0 : w5.frozen? ⟨w3.heap.size, 0, none⟩ = false := frozen_of_row w5 _ 0 _ _ hK3
  have g3_1 : w5.cell? ⟨w3.heap.size, 1, none⟩ = some (.float .f32 y) := cell_of_row w5 _ 1 _ _ _ hK3
  have f3_1 : w5.frozen? ⟨w3.heap.size, 1, none⟩ = false := frozen_of_row w5 _ 1 _ _ hK3
  have g3_2 : w5.cell? ⟨w3.heap.size, 2, none⟩ = some (.float .f32 z) := cell_of_row w5 _ 2 _ _ _ hK3
  have f3_2 : w5.frozen? ⟨w3.heap.size, 2, none⟩ = false := frozen_of_row w5 _ 2 _ _ hK3
  have l3 : w3.heap.size < w5.heap.size := (Array.getElem?_eq_some_iff.1 hK3).1
  clear hw4 
  go_wp2_with fail
  refine wp_region_laterO 7 (SO (QL [])) (stays_SO _) (by kernel_rfl) (by kernel_rfl) ?_
  repeat (first | (refine later_exO rfl (fun K hK => ?_); apply Exists.intro; refine ⟨fun w' hw' => ?_, ?_⟩; (obtain ⟨hcc, hff⟩ := Grew.cells hw'; clear hw'; go_simp; rfl); go_simp; refine hK _ ?_; clear hK K))
  refine later_nilO ?_
  intro w6 hw4
  simp only [List.drop_succ_cons, List.drop_zero]
  clear g0_0 f0_0 g0_1 f0_1 g0_2 f0_2 l0 g1_0 f1_0 g1_1 f1_1 g1_2 f1_2 l1 g2_0 f2_0 g2_1 f2_1 g2_2 f2_2 l2 g3_0 f3_0 g3_1 f3_1 g3_2 f3_2 l3
  have hE3 : Ext w5 w6 := hw4
  have hB4 : Below w.heap.size w w6 := hB3.trans (hE3.mono hB3.size)
  replace hK0 := hE3.heap hK0
  replace hK1 := hE3.heap hK1
  replace hK2 := hE3.heap hK2
  replace hK3 := hE3.heap hK3
  have g0_0 : w6.cell? ⟨w.heap.size, 0, none⟩ = some (.int .i64 2) := cell_of_row w6 _ 0 _ _ _ hK0
  have f0_0 : w6.frozen? ⟨w.heap.size, 0, none⟩ = false := frozen_of_row w6 _ 0 _ _ hK0
  have g0_1 : w6.cell? ⟨w.heap.size, 1, none⟩ = some (.float .f32 c) := cell_of_row w6 _ 1 _ _ _ hK0
  have f0_1 : w6.frozen? ⟨w.heap.size, 1, none⟩ = false := frozen_of_row w6 _ 1 _ _ hK0
  have g0_2 : w6.cell? ⟨w.heap.size, 2, none⟩ = some (.float .f32 s) := cell_of_row w6 _ 2 _ _ _ hK0
  have f0_2 : w6.frozen? ⟨w.heap.size, 2, none⟩ = false := frozen_of_row w6 _ 2 _ _ hK0
  have l0 : w.heap.size < w6.heap.size := (Array.getElem?_eq_some_iff.1 hK0).1
  have g1_0 : w6.cell? ⟨w.heap.size + 1, 0, none⟩ = some (.float .f32 x) := cell_of_row w6 _ 0 _ _ _ hK1
  have f1_0 : w6.frozen? ⟨w.heap.size + 1, 0, none⟩ = false := frozen_of_row w6 _ 0 _ _ hK1
  have g1_1 : w6.cell? ⟨w.heap.size + 1, 1, none⟩ = some (.float .f32 y) := cell_of_row w6 _ 1 _ _ _ hK1
  have f1_1 : w6.frozen? ⟨w.heap.size + 1, 1, none⟩ = false := frozen_of_row w6 _ 1 _ _ hK1
  have g1_2 : w6.cell? ⟨w.heap.size + 1, 2, none⟩ = some (.float .f32 z) := cell_of_row w6 _ 2 _ _ _ hK1
  have f1_2 : w6.frozen? ⟨w.heap.size + 1, 2, none⟩ = false := frozen_of_row w6 _ 2 _ _ hK1
  have l1 : w.heap.size + 1 < w6.heap.size := (Array.getElem?_eq_some_iff.1 hK1).1
  have g2_0 : w6.cell? ⟨w.heap.size + 1 + 1, 0, none⟩ = some (.float .f32 0) := cell_of_row w6 _ 0 _ _ _ hK2
  have f2_0 : w6.frozen? ⟨w.heap.size + 1 + 1, 0, none⟩ = false := frozen_of_row w6 _ 0 _ _ hK2
  have g2_1 : w6.cell? ⟨w.heap.size + 1 + 1, 1, none⟩ = some (.float .f32 0) := cell_of_row w6 _ 1 _ _ _ hK2
  have f2_1 : w6.frozen? ⟨w.heap.size + 1 + 1, 1, none⟩ = false := frozen_of_row w6 _ 1 _ _ hK2
  have g2_2 : w6.cell? ⟨w.heap.size + 1 + 1, 2, none⟩ = some (.float .f32 0) := cell_of_row w6 _ 2 _ _ _ hK2
  have f2_2 : w6.frozen? ⟨w.heap.size + 1 + 1, 2, none⟩ = false := frozen_of_row w6 _ 2 _ _ hK2
  have l2 : w.heap.size + 1 + 1 < w6.heap.size := (Array.getElem?_eq_some_iff.1 hK2).1
  have g3_0 : w6.cell? ⟨w3.heap.size, 0, none⟩ = some (.float .f32 x) := cell_of_row w6 _ 0 _ _ _ hK3
  have f3_0 : w6.frozen? ⟨w3.heap.size, 0, none⟩ = false := frozen_of_row w6 _ 0 _ _ hK3
  have g3_1 : w6.cell? ⟨w3.heap.size, 1, none⟩ = some (.float .f32 y) := cell_of_row w6 _ 1 _ _ _ hK3
  have f3_1 : w6.frozen? ⟨w3.heap.size, 1, none⟩ = false := frozen_of_row w6 _ 1 _ _ hK3
  have g3_2 : w6.cell? ⟨w3.heap.size, 2, none⟩ = some (.float .f32 z) := cell_of_row w6 _ 2 _ _ _ hK3
  have f3_2 : w6.frozen? ⟨w3.heap.size, 2, none⟩ = false := frozen_of_row w6 _ 2 _ _ hK3
  have l3 : w3.heap.size < w6.heap.size := (Array.getElem?_eq_some_iff.1 hK3).1
  clear hw4 
  go_wp2_with (refine wpList_f32 rfl rfl rfl rfl rfl ?_; intro r n hr he)
  rename_i m1 n1 hm1 em1 m2 n2 hm2 em2 ra n3 hra ea m3 n4 hm3 em3 m4 n5 hm4 em4 KK hKK KK2 hKK2
  have E1 : Eqv .f32 ra (add32 (mul32 c x) (mul32 s y)) := by rw [show add32 (mul32 c x) (mul32 s y) = fop .add .f32 m1 m2 from (fop_eqv em1 em2).symm]; exact ea
  have E2 : Eqv .f32 r (sub32 (mul32 c y) (mul32 s x)) := by rw [show sub32 (mul32 c y) (mul32 s x) = fop .sub .f32 m3 m4 from (fop_eqv em3 em4).symm]; exact he
  have HK2 := Lib.hid hK2
  have h12 : w.heap.size ≤ w.heap.size + 1 + 1 := by omega
  have h3 : w.heap.size ≤ w3.heap.size := by omega
  have hne : w.heap.size + 1 + 1 ≠ w3.heap.size := by omega
  clear em1 em2 ea em3 em4 he g0_0 f0_0 g0_1 f0_1 g0_2 f0_2 l0 g1_0 f1_0 g1_1 f1_1 g1_2 f1_2 l1 g2_0 f2_0 g2_1 f2_1 g2_2 f2_2 l2 g3_0 f3_0 g3_1 f3_1 g3_2 f3_2 l3 hK0 hK1 hK2 hK3
  refine (vector_ok _ _ _ _).mono ?_
  rintro e w9 ⟨rfl, hb⟩
  have hK : w9.heap[w.heap.size + 1 + 1]? = some (.cells #[.float .f32 0, .float .f32 0, .float .f32 0] 34) := by
    refine (hb.block _ ?_).trans ((heap_setCell_other _ _ _ _ hne).trans ((heap_setCell_other _ _ _ _ hne).trans HK2.out))
    have := (Array.getElem?_eq_some_iff.1 HK2.out).1
    simpa using this
  have hB9 : Below w.heap.size w w9 := Below.trans (below_drewN (Below.setCell (below_drewN hB4 _) h3 _) _ |>.setCell h3 _) (hb.mono (by have := hB4.size; simpa using this))
  have g2_0 : w9.cell? ⟨w.heap.size + 1 + 1, 0, none⟩ = some (.float .f32 0) := cell_of_row w9 _ 0 _ _ _ hK
  have g2_1 : w9.cell? ⟨w.heap.size + 1 + 1, 1, none⟩ = some (.float .f32 0) := cell_of_row w9 _ 1 _ _ _ hK
  have g2_2 : w9.cell? ⟨w.heap.size + 1 + 1, 2, none⟩ = some (.float .f32 0) := cell_of_row w9 _ 2 _ _ _ hK
  have f2_0 : w9.frozen? ⟨w.heap.size + 1 + 1, 0, none⟩ = false := frozen_of_row w9 _ 0 _ _ hK
  have f2_1 : w9.frozen? ⟨w.heap.size + 1 + 1, 1, none⟩ = false := frozen_of_row w9 _ 1 _ _ hK
  have f2_2 : w9.frozen? ⟨w.heap.size + 1 + 1, 2, none⟩ = false := frozen_of_row w9 _ 2 _ _ hK
  have l2 : w.heap.size + 1 + 1 < w9.heap.size := (Array.getElem?_eq_some_iff.1 hK).1
  clear hb hK
  go_wp2_with fail
  exact bodyPost_ret (v := vec ra r z) (by simp [results, Tryz.results132, go_sem, g2_0, g2_1, g2_2]) rfl ⟨ra, r, z, rfl, hra, hr, hz, E1, E2, Eqv.refl _ _, by (iterate 3 (refine Below.setCell ?_ h12 _)); exact hB9⟩
end Go.Proofs.YtaamfjokkphckabGreatDoor
namespace Go.Proofs.YtaamfjokkphckabGreatDoor
open Go.Proofs.FX Go.RowKit
/-- A value answers a method by a function with a body. -/
structure Ans (v : Value) (m : String) (f : FuncId) (r : Value) : Prop where
  ex : ∃ T z, v = .iface T z ∧ ∀ w, (method 282 T z m).run Tryz.prog w = .ok (f, r) w
  cf : ∀ args w, (callFunc f args).run Tryz.prog w = .ok (.enter f args) w
abbrev vp (p : P3) : Value := vec p.x p.y p.z
theorem Vec.to {g1 g2 g3 h1 h2 h3 : Nat} {w : World} {e : Ending} {w' : World} (h : Vec g1 g2 g3 w e w') (a : Eqv .f32 g1 h1) (b : Eqv .f32 g2 h2) (c : Eqv .f32 g3 h3) : Vec h1 h2 h3 w e w' := by
  obtain ⟨x, y, z, e0, l1, l2, l3, e1, e2, e3, hb⟩ := h
  exact ⟨x, y, z, e0, l1, l2, l3, e1.trans a, e2.trans b, e3.trans c, hb⟩
theorem Fn.to {g h : Nat} {w : World} {e : Ending} {w' : World} (hh : Fn g w e w') (a : Eqv .f32 g h) : Fn h w e w' := by
  obtain ⟨r, e0, l, e1, hb⟩ := hh
  exact ⟨r, e0, l, e1.trans a, hb⟩
theorem cf_ballLeaf_distance (args : Array Value) (w : World) : (callFunc 114 args).run Tryz.prog w = .ok (.enter 114 args) w := by kernel_rfl
theorem cf_boxLeaf_distance (args : Array Value) (w : World) : (callFunc 118 args).run Tryz.prog w = .ok (.enter 118 args) w := by kernel_rfl
theorem cf_tubeLeaf_distance (args : Array Value) (w : World) : (callFunc 122 args).run Tryz.prog w = .ok (.enter 122 args) w := by kernel_rfl
theorem cf_ringLeaf_distance (args : Array Value) (w : World) : (callFunc 123 args).run Tryz.prog w = .ok (.enter 123 args) w := by kernel_rfl
theorem cf_planeLeaf_distance (args : Array Value) (w : World) : (callFunc 124 args).run Tryz.prog w = .ok (.enter 124 args) w := by kernel_rfl
theorem cf_wrapped_distance (args : Array Value) (w : World) : (callFunc 113 args).run Tryz.prog w = .ok (.enter 113 args) w := by kernel_rfl
theorem cf_joined_distance (args : Array Value) (w : World) : (callFunc 112 args).run Tryz.prog w = .ok (.enter 112 args) w := by kernel_rfl
theorem cf_moveWrap_below (args : Array Value) (w : World) : (callFunc 126 args).run Tryz.prog w = .ok (.enter 126 args) w := by kernel_rfl
theorem cf_scaleWrap_below (args : Array Value) (w : World) : (callFunc 128 args).run Tryz.prog w = .ok (.enter 128 args) w := by kernel_rfl
theorem cf_stretchWrap_below (args : Array Value) (w : World) : (callFunc 130 args).run Tryz.prog w = .ok (.enter 130 args) w := by kernel_rfl
theorem cf_turnWrap_below (args : Array Value) (w : World) : (callFunc 132 args).run Tryz.prog w = .ok (.enter 132 args) w := by kernel_rfl
theorem cf_mirrorWrap_below (args : Array Value) (w : World) : (callFunc 133 args).run Tryz.prog w = .ok (.enter 133 args) w := by kernel_rfl
theorem cf_foldWrap_below (args : Array Value) (w : World) : (callFunc 134 args).run Tryz.prog w = .ok (.enter 134 args) w := by kernel_rfl
theorem cf_samePoint_below (args : Array Value) (w : World) : (callFunc 136 args).run Tryz.prog w = .ok (.enter 136 args) w := by kernel_rfl
theorem cf_sameDistance_above (args : Array Value) (w : World) : (callFunc 125 args).run Tryz.prog w = .ok (.enter 125 args) w := by kernel_rfl
theorem cf_scaleWrap_above (args : Array Value) (w : World) : (callFunc 127 args).run Tryz.prog w = .ok (.enter 127 args) w := by kernel_rfl
theorem cf_roundWrap_above (args : Array Value) (w : World) : (callFunc 137 args).run Tryz.prog w = .ok (.enter 137 args) w := by kernel_rfl
theorem cf_shellWrap_above (args : Array Value) (w : World) : (callFunc 138 args).run Tryz.prog w = .ok (.enter 138 args) w := by kernel_rfl
theorem cf_unionPair_mix (args : Array Value) (w : World) : (callFunc 139 args).run Tryz.prog w = .ok (.enter 139 args) w := by kernel_rfl
theorem cf_cutPair_mix (args : Array Value) (w : World) : (callFunc 141 args).run Tryz.prog w = .ok (.enter 141 args) w := by kernel_rfl
theorem cf_lessPair_mix (args : Array Value) (w : World) : (callFunc 143 args).run Tryz.prog w = .ok (.enter 143 args) w := by kernel_rfl
theorem cf_smoothPair_mix (args : Array Value) (w : World) : (callFunc 145 args).run Tryz.prog w = .ok (.enter 145 args) w := by kernel_rfl
theorem leafD_box (xs : List Nat) (p : P3) : leafD sizeI 1 [xs.getD 0 0, xs.getD 1 0, xs.getD 2 0] ⟨p.x, p.y, p.z⟩ = leafD sizeI 1 xs p := by
  unfold leafD
  simp
set_option maxHeartbeats 1000000 in
theorem leaf_ans (k : Nat) (xs : List Nat) (hk : k ≤ 4) : ∃ f r, Ans (leafV k xs) "loop.example/g01193/impl.distance" f r ∧ ∀ (p : P3) (w : World), p.Lt → Calls Tryz.prog f #[r, vp p] w (Fn (leafD sizeI k xs p) w) := by
  rcases (by omega : k = 0 ∨ k = 1 ∨ k = 2 ∨ k = 3 ∨ k = 4) with rfl | rfl | rfl | rfl | rfl
  · exact ⟨_, _, ⟨⟨_, _, rfl, fun w => hm_ballLeaf _ w⟩, cf_ballLeaf_distance⟩, fun p w _ => ballLeaf_ok _ _ _ _ w⟩
  · exact ⟨_, _, ⟨⟨_, _, rfl, fun w => hm_boxLeaf _ _ _ w⟩, cf_boxLeaf_distance⟩, fun p w hp => (by rw [← leafD_box xs p]; exact boxLeaf_ok _ _ _ _ _ _ hp.x hp.y hp.z w)⟩
  · exact ⟨_, _, ⟨⟨_, _, rfl, fun w => hm_tubeLeaf _ _ w⟩, cf_tubeLeaf_distance⟩, fun p w _ => tubeLeaf_ok _ _ _ _ _ w⟩
  · exact ⟨_, _, ⟨⟨_, _, rfl, fun w => hm_ringLeaf _ _ w⟩, cf_ringLeaf_distance⟩, fun p w _ => ringLeaf_ok _ _ _ _ _ w⟩
  · exact ⟨_, _, ⟨⟨_, _, rfl, fun w => hm_planeLeaf _ _ _ _ w⟩, cf_planeLeaf_distance⟩, fun p w _ => planeLeaf_ok _ _ _ _ _ _ _ w⟩
theorem mix_ans (k : Nat) (xs : List Nat) (h5 : 5 ≤ k) (h8 : k ≤ 8) : ∃ f r, Ans (pairV k xs) "loop.example/g01193/impl.mix" f r ∧ ∀ (a b : Nat) (w : World), a < 4294967296 → b < 4294967296 → Calls Tryz.prog f #[r, fl a, fl b] w (Fn (mixD sizeI k xs a b) w) := by
  rcases (by omega : k = 5 ∨ k = 6 ∨ k = 7 ∨ k = 8) with rfl | rfl | rfl | rfl
  · refine ⟨_, _, ⟨⟨_, _, rfl, fun w => hx_unionPair w⟩, cf_unionPair_mix⟩, fun a b w ha hb => (unionMix_ok a b w).mono ?_⟩
    rintro e w' ⟨rfl, h⟩
    exact ⟨_, rfl, lesser_lt ha hb, Eqv.refl _ _, h⟩
  · refine ⟨_, _, ⟨⟨_, _, rfl, fun w => hx_cutPair w⟩, cf_cutPair_mix⟩, fun a b w ha hb => (cutMix_ok a b w).mono ?_⟩
    rintro e w' ⟨rfl, h⟩
    exact ⟨_, rfl, greater_lt ha hb, Eqv.refl _ _, h⟩
  · refine ⟨_, _, ⟨⟨_, _, rfl, fun w => hx_lessPair w⟩, cf_lessPair_mix⟩, fun a b w ha hb => (lessMix_ok a b hb w).mono ?_⟩
    rintro e w' ⟨rfl, h⟩
    exact ⟨_, rfl, greater_lt ha (flip32_lt hb), Eqv.refl _ _, h⟩
  · exact ⟨_, _, ⟨⟨_, _, rfl, fun w => hx_smoothPair _ w⟩, cf_smoothPair_mix⟩, fun a b w ha hb => smoothMix_ok _ a b ha hb w⟩
theorem above_ans (k ax : Nat) (xs : List Nat) (u : Value) (hu : WrapV k ax xs u) (h9 : 9 ≤ k) (h16 : k ≤ 16) : ∃ f r, Ans u "loop.example/g01193/impl.above" f r ∧ ∀ (a : Nat) (w : World), a < 4294967296 → Calls Tryz.prog f #[r, fl a] w (Fn (aboveD sizeI k xs a) w) := by
  rcases (by omega : k = 9 ∨ k = 10 ∨ k = 11 ∨ k = 12 ∨ k = 13 ∨ k = 14 ∨ k = 15 ∨ k = 16) with rfl | rfl | rfl | rfl | rfl | rfl | rfl | rfl
  · obtain rfl := hu
    exact ⟨_, _, ⟨⟨_, _, rfl, fun w => ha_moveWrap _ _ _ w⟩, cf_sameDistance_above⟩, fun a w ha => sameAbove_ok a w ha⟩
  · obtain rfl := hu
    exact ⟨_, _, ⟨⟨_, _, rfl, fun w => ha_scaleWrap _ w⟩, cf_scaleWrap_above⟩, fun a w _ => scaleAbove_ok _ a w⟩
  · obtain rfl := hu
    exact ⟨_, _, ⟨⟨_, _, rfl, fun w => ha_stretchWrap _ _ _ w⟩, cf_sameDistance_above⟩, fun a w ha => sameAbove_ok a w ha⟩
  · obtain ⟨c, s, rfl, -⟩ := hu
    exact ⟨_, _, ⟨⟨_, _, rfl, fun w => ha_turnWrap _ _ _ w⟩, cf_sameDistance_above⟩, fun a w ha => sameAbove_ok a w ha⟩
  · obtain rfl := hu
    exact ⟨_, _, ⟨⟨_, _, rfl, fun w => ha_mirrorWrap _ w⟩, cf_sameDistance_above⟩, fun a w ha => sameAbove_ok a w ha⟩
  · obtain ⟨d, rfl, -⟩ := hu
    exact ⟨_, _, ⟨⟨_, _, rfl, fun w => ha_foldWrap _ _ w⟩, cf_sameDistance_above⟩, fun a w ha => sameAbove_ok a w ha⟩
  · obtain rfl := hu
    exact ⟨_, _, ⟨⟨_, _, rfl, fun w => ha_roundWrap _ w⟩, cf_roundWrap_above⟩, fun a w _ => roundAbove_ok _ a w⟩
  · obtain rfl := hu
    exact ⟨_, _, ⟨⟨_, _, rfl, fun w => ha_shellWrap _ w⟩, cf_shellWrap_above⟩, fun a w ha => shellAbove_ok _ a ha w⟩
theorem foldN_w {sz : Nat → Nat} {d d' : Nat} (h : Eqv .f32 d d') (c : Nat) : foldN sz d c = foldN sz d' c := by
  unfold foldN quo32 mul32 sub32
  rw [fop_eqv (Eqv.refl .f32 c) h, fop_eqv h (Eqv.refl .f32 _)]
theorem below_ans (k ax : Nat) (xs : List Nat) (u : Value) (hu : WrapV k ax xs u) (h9 : 9 ≤ k) (h16 : k ≤ 16) (hax : ax ≤ 2) : ∃ f r, Ans u "loop.example/g01193/impl.below" f r ∧ ∀ (p : P3) (w : World), p.Lt → Calls Tryz.prog f #[r, vp p] w (Vp (belowD sizeI k ax xs p) w) := by
  rcases (by omega : k = 9 ∨ k = 10 ∨ k = 11 ∨ k = 12 ∨ k = 13 ∨ k = 14 ∨ k = 15 ∨ k = 16) with rfl | rfl | rfl | rfl | rfl | rfl | rfl | rfl
  · obtain rfl := hu
    exact ⟨_, _, ⟨⟨_, _, rfl, fun w => hb_moveWrap _ _ _ w⟩, cf_moveWrap_below⟩, fun p w _ => moveBelow_ok _ _ _ _ _ _ w⟩
  · obtain rfl := hu
    exact ⟨_, _, ⟨⟨_, _, rfl, fun w => hb_scaleWrap _ w⟩, cf_scaleWrap_below⟩, fun p w _ => scaleBelow_ok _ _ _ _ w⟩
  · obtain rfl := hu
    exact ⟨_, _, ⟨⟨_, _, rfl, fun w => hb_stretchWrap _ _ _ w⟩, cf_stretchWrap_below⟩, fun p w _ => stretchBelow_ok _ _ _ _ _ _ w⟩
  · obtain ⟨c, s, rfl, -, -, hc, hs⟩ := hu
    refine ⟨_, _, ⟨⟨_, _, rfl, fun w => hb_turnWrap _ _ _ w⟩, cf_turnWrap_below⟩, fun p w hp => ?_⟩
    have hE := turnP_eqv hc hs ax (P3.Eq.refl p)
    rcases (by omega : ax = 0 ∨ ax = 1 ∨ ax = 2) with rfl | rfl | rfl
    · exact (turnBelow_0 c s p.x p.y p.z hp.x hp.y hp.z w).mono fun e w' h => h.to hE.x hE.y hE.z
    · exact (turnBelow_1 c s p.x p.y p.z hp.x hp.y hp.z w).mono fun e w' h => h.to hE.x hE.y hE.z
    · exact (turnBelow_2 c s p.x p.y p.z hp.x hp.y hp.z w).mono fun e w' h => h.to hE.x hE.y hE.z
  · obtain rfl := hu
    refine ⟨_, _, ⟨⟨_, _, rfl, fun w => hb_mirrorWrap _ w⟩, cf_mirrorWrap_below⟩, fun p w hp => ?_⟩
    rcases (by omega : ax = 0 ∨ ax = 1 ∨ ax = 2) with rfl | rfl | rfl
    · exact mirrorBelow_0 p.x p.y p.z hp.x hp.y hp.z w
    · exact mirrorBelow_1 p.x p.y p.z hp.x hp.y hp.z w
    · exact mirrorBelow_2 p.x p.y p.z hp.x hp.y hp.z w
  · obtain ⟨d, rfl, -, hd⟩ := hu
    refine ⟨_, _, ⟨⟨_, _, rfl, fun w => hb_foldWrap _ _ w⟩, cf_foldWrap_below⟩, fun p w hp => ?_⟩
    have hE : belowD sizeI 14 ax xs p = setA p ax (foldN sizeI d (getA p ax)) := by rw [foldN_w hd]; rfl
    rw [hE]
    rcases (by omega : ax = 0 ∨ ax = 1 ∨ ax = 2) with rfl | rfl | rfl
    · exact foldBelow_0 d p.x p.y p.z hp.x hp.y hp.z w
    · exact foldBelow_1 d p.x p.y p.z hp.x hp.y hp.z w
    · exact foldBelow_2 d p.x p.y p.z hp.x hp.y hp.z w
  · obtain rfl := hu
    exact ⟨_, _, ⟨⟨_, _, rfl, fun w => hb_roundWrap _ w⟩, cf_samePoint_below⟩, fun p w hp => sameBelow_ok p.x p.y p.z w hp.x hp.y hp.z⟩
  · obtain rfl := hu
    exact ⟨_, _, ⟨⟨_, _, rfl, fun w => hb_shellWrap _ w⟩, cf_samePoint_below⟩, fun p w hp => sameBelow_ok p.x p.y p.z w hp.x hp.y hp.z⟩
/-- Trees of kinds that there are. -/
def TrOk : Tr → Prop
  | .leaf _ k _ => k ≤ 4
  | .one _ k ax _ t => 9 ≤ k ∧ k ≤ 16 ∧ ax ≤ 2 ∧ TrOk t
  | .two _ k _ s t => 5 ≤ k ∧ k ≤ 8 ∧ TrOk s ∧ TrOk t
/-- What answers 'distance'. -/
def DistA (t : Tr) (v : Value) : Prop := ∃ f r, Ans v "loop.example/g01193/impl.distance" f r ∧ ∀ (p : P3) (w : World), p.Lt → Calls Tryz.prog f #[r, vp p] w (Fn (dist sizeI t p) w)
set_option maxRecDepth 100000 in
theorem joined_ok (k : Nat) (xs : List Nat) (s t : Tr) (a b : Value) (h5 : 5 ≤ k) (h8 : k ≤ 8) (ha : DistA s a) (hb0 : DistA t b) (p : P3) (hp : p.Lt) (w : World) :
    Calls Tryz.prog 112 #[.agg #[pairV k xs, a, b], vp p] w (Fn (mixD sizeI k xs (dist sizeI s p) (dist sizeI t p)) w) := by
  obtain ⟨fa, ra, ⟨⟨Ta, za, rfl, hma⟩, hca⟩, HA⟩ := ha
  obtain ⟨fb, rb, ⟨⟨Tb, zb, rfl, hmb⟩, hcb⟩, HB⟩ := hb0
  obtain ⟨fm, rm, ⟨⟨Tm, zm, hzm, hmm⟩, hcm⟩, HM⟩ := mix_ans k xs h5 h8
  rw [hzm]
  have HMA := Lib.hid hma
  have HMB := Lib.hid hmb
  have HMM := Lib.hid hmm
  have HCA := Lib.hid hca
  have HCB := Lib.hid hcb
  have HCM := Lib.hid hcm
  have HHA := Lib.hid (fun w => HA p w hp)
  have HHB := Lib.hid (fun w => HB p w hp)
  have HHM := Lib.hid HM
  obtain ⟨x, y, z⟩ := p
  clear hma hmb hmm hca hcb hcm HA HB HM hp hzm
  go_enter Tryz.func112, Tryz.ntmps112
  go_wp2_with fail
  generalize hW0 : (w.alloc (.cells #[.iface Tm zm, .iface Ta za, .iface Tb zb] 66)).alloc (.cells #[.float .f32 x, .float .f32 y, .float .f32 z] 34) = W0
  have hB0 : Below w.heap.size w W0 := by subst hW0; exact by (repeat (first | exact Below.refl _ _ | assumption | refine below_drewN ?_ _ | refine Below.setCell ?_ (by first | omega | (simp <;> omega)) _ | refine Below.alloc ?_ (by first | omega | (simp <;> omega)) _))
  have hK0 : W0.heap[w.heap.size]? = some (.cells #[.iface Tm zm, .iface Ta za, .iface Tb zb] 66) := by subst hW0; exact heap_alloc2_old _ _ _
  have hK1 : W0.heap[w.heap.size + 1]? = some (.cells #[.float .f32 x, .float .f32 y, .float .f32 z] 34) := by subst hW0; exact heap_alloc2_new _ _ _
  clear hW0
  have hZ0 : w.heap.size + 1 < W0.heap.size := (Array.getElem?_eq_some_iff.1 hK1).1
  have g0_0 : W0.cell? ⟨w.heap.size, 0, none⟩ = some (.iface Tm zm) := cell_of_row W0 _ 0 _ _ _ hK0
  have f0_0 : W0.frozen? ⟨w.heap.size, 0, none⟩ = false := frozen_of_row W0 _ 0 _ _ hK0
  have g0_1 : W0.cell? ⟨w.heap.size, 1, none⟩ = some (.iface Ta za) := cell_of_row W0 _ 1 _ _ _ hK0
  have f0_1 : W0.frozen? ⟨w.heap.size, 1, none⟩ = false := frozen_of_row W0 _ 1 _ _ hK0
  have g0_2 : W0.cell? ⟨w.heap.size, 2, none⟩ = some (.iface Tb zb) := cell_of_row W0 _ 2 _ _ _ hK0
  have f0_2 : W0.frozen? ⟨w.heap.size, 2, none⟩ = false := frozen_of_row W0 _ 2 _ _ hK0
  have l0 : w.heap.size < W0.heap.size := (Array.getElem?_eq_some_iff.1 hK0).1
  have g1_0 : W0.cell? ⟨w.heap.size + 1, 0, none⟩ = some (.float .f32 x) := cell_of_row W0 _ 0 _ _ _ hK1
  have f1_0 : W0.frozen? ⟨w.heap.size + 1, 0, none⟩ = false := frozen_of_row W0 _ 0 _ _ hK1
  have g1_1 : W0.cell? ⟨w.heap.size + 1, 1, none⟩ = some (.float .f32 y) := cell_of_row W0 _ 1 _ _ _ hK1
  have f1_1 : W0.frozen? ⟨w.heap.size + 1, 1, none⟩ = false := frozen_of_row W0 _ 1 _ _ hK1
  have g1_2 : W0.cell? ⟨w.heap.size + 1, 2, none⟩ = some (.float .f32 z) := cell_of_row W0 _ 2 _ _ _ hK1
  have f1_2 : W0.frozen? ⟨w.heap.size + 1, 2, none⟩ = false := frozen_of_row W0 _ 2 _ _ hK1
  have l1 : w.heap.size + 1 < W0.heap.size := (Array.getElem?_eq_some_iff.1 hK1).1
  refine wp_region_laterO 13 (SO (QL [(10, V1 (dist sizeI s ⟨x, y, z⟩)), (14, V1 (dist sizeI t ⟨x, y, z⟩)), (17, V1 (mixD sizeI k xs (dist sizeI s ⟨x, y, z⟩) (dist sizeI t ⟨x, y, z⟩)))])) (stays_SO _) (by kernel_rfl) (by kernel_rfl) ?_
  repeat (first | (refine later_exO rfl (fun K hK => ?_); apply Exists.intro; refine ⟨fun w' hw' => ?_, ?_⟩; (obtain ⟨hcc, hff⟩ := Grew.cells hw'; clear hw'; go_simp; rfl); go_simp; refine hK _ ?_; clear hK K))
  (refine later_callO rfl (fun K hK => ?_); (have h1 := HMA.out; have h2 := HCA.out; go_simp; clear h1 h2); refine ⟨_, _, fun _ _ => ⟨rfl, rfl⟩, fun w1 hw1 => ?_, fun u y1 hx1 hu => ?_⟩)
  · refine (HHA.out _).mono ?_
    rintro e w2 ⟨r1, rfl, h1, e1, hb⟩
    exact ⟨_, rfl, ⟨r1, rfl, h1, e1⟩, hb⟩
  obtain ⟨d1, rfl, hd1, ed1⟩ : V1 (dist sizeI s ⟨x, y, z⟩) u := hu
  (refine hK _ _ hx1 ?_; clear hK K)
  repeat (first | (refine later_exO rfl (fun K hK => ?_); apply Exists.intro; refine ⟨fun w' hw' => ?_, ?_⟩; (obtain ⟨hcc, hff⟩ := Grew.cells hw'; clear hw'; go_simp; rfl); go_simp; refine hK _ ?_; clear hK K))
  (refine later_callO rfl (fun K hK => ?_); (have h1 := HMB.out; have h2 := HCB.out; go_simp; clear h1 h2); refine ⟨_, _, fun _ _ => ⟨rfl, rfl⟩, fun w1 hw1 => ?_, fun u y2 hx2 hu => ?_⟩)
  · refine (HHB.out _).mono ?_
    rintro e w2 ⟨r1, rfl, h1, e1, hb⟩
    exact ⟨_, rfl, ⟨r1, rfl, h1, e1⟩, hb⟩
  obtain ⟨d2, rfl, hd2, ed2⟩ : V1 (dist sizeI t ⟨x, y, z⟩) u := hu
  (refine hK _ _ hx2 ?_; clear hK K)
  repeat (first | (refine later_exO rfl (fun K hK => ?_); apply Exists.intro; refine ⟨fun w' hw' => ?_, ?_⟩; (obtain ⟨hcc, hff⟩ := Grew.cells hw'; clear hw'; go_simp; rfl); go_simp; refine hK _ ?_; clear hK K))
  (refine later_callO rfl (fun K hK => ?_); (have h1 := HMM.out; have h2 := HCM.out; go_simp; clear h1 h2); refine ⟨_, _, fun _ _ => ⟨rfl, rfl⟩, fun w1 hw1 => ?_, fun u y3 hx3 hu => ?_⟩)
  · refine (HHM.out _ _ _ hd1 hd2).mono ?_
    rintro e w2 ⟨r1, rfl, h1, e1, hb⟩
    exact ⟨_, rfl, ⟨r1, rfl, h1, e1.trans (mixD_eqv k xs ed1 ed2)⟩, hb⟩
  obtain ⟨d3, rfl, hd3, ed3⟩ : V1 (mixD sizeI k xs (dist sizeI s ⟨x, y, z⟩) (dist sizeI t ⟨x, y, z⟩)) u := hu
  (refine hK _ _ hx3 ?_; clear hK K)
  repeat (first | (refine later_exO rfl (fun K hK => ?_); apply Exists.intro; refine ⟨fun w' hw' => ?_, ?_⟩; (obtain ⟨hcc, hff⟩ := Grew.cells hw'; clear hw'; go_simp; rfl); go_simp; refine hK _ ?_; clear hK K))
  refine later_nilO ?_
  intro w4 hw4
  simp only [List.drop_succ_cons, List.drop_zero]
  clear g0_0 f0_0 g0_1 f0_1 g0_2 f0_2 l0 g1_0 f1_0 g1_1 f1_1 g1_2 f1_2 l1
  have hE0 : Ext W0 w4 := (((hx1).trans hx2).trans hx3).trans hw4
  have hB1 : Below w.heap.size w w4 := hB0.trans (hE0.mono hB0.size)
  replace hK0 := hE0.heap hK0
  replace hK1 := hE0.heap hK1
  have g0_0 : w4.cell? ⟨w.heap.size, 0, none⟩ = some (.iface Tm zm) := cell_of_row w4 _ 0 _ _ _ hK0
  have f0_0 : w4.frozen? ⟨w.heap.size, 0, none⟩ = false := frozen_of_row w4 _ 0 _ _ hK0
  have g0_1 : w4.cell? ⟨w.heap.size, 1, none⟩ = some (.iface Ta za) := cell_of_row w4 _ 1 _ _ _ hK0
  have f0_1 : w4.frozen? ⟨w.heap.size, 1, none⟩ = false := frozen_of_row w4 _ 1 _ _ hK0
  have g0_2 : w4.cell? ⟨w.heap.size, 2, none⟩ = some (.iface Tb zb) := cell_of_row w4 _ 2 _ _ _ hK0
  have f0_2 : w4.frozen? ⟨w.heap.size, 2, none⟩ = false := frozen_of_row w4 _ 2 _ _ hK0
  have l0 : w.heap.size < w4.heap.size := (Array.getElem?_eq_some_iff.1 hK0).1
  have g1_0 : w4.cell? ⟨w.heap.size + 1, 0, none⟩ = some (.float .f32 x) := cell_of_row w4 _ 0 _ _ _ hK1
  have f1_0 : w4.frozen? ⟨w.heap.size + 1, 0, none⟩ = false := frozen_of_row w4 _ 0 _ _ hK1
  have g1_1 : w4.cell? ⟨w.heap.size + 1, 1, none⟩ = some (.float .f32 y) := cell_of_row w4 _ 1 _ _ _ hK1
  have f1_1 : w4.frozen? ⟨w.heap.size + 1, 1, none⟩ = false := frozen_of_row w4 _ 1 _ _ hK1
  have g1_2 : w4.cell? ⟨w.heap.size + 1, 2, none⟩ = some (.float .f32 z) := cell_of_row w4 _ 2 _ _ _ hK1
  have f1_2 : w4.frozen? ⟨w.heap.size + 1, 2, none⟩ = false := frozen_of_row w4 _ 2 _ _ hK1
  have l1 : w.heap.size + 1 < w4.heap.size := (Array.getElem?_eq_some_iff.1 hK1).1
  clear hw4 hx1 hx2 hx3
  go_wp2_with fail
  go_ret
  exact ⟨_, rfl, hd3, ed3, hB1⟩
set_option maxRecDepth 100000 in
theorem wrapped_ok (k ax : Nat) (xs : List Nat) (t : Tr) (u c : Value) (hu0 : WrapV k ax xs u) (h9 : 9 ≤ k) (h16 : k ≤ 16) (hax : ax ≤ 2) (hc0 : DistA t c) (p : P3) (hp : p.Lt) (w : World) :
    Calls Tryz.prog 113 #[.agg #[u, c], vp p] w (Fn (aboveD sizeI k xs (dist sizeI t (belowD sizeI k ax xs p))) w) := by
  obtain ⟨fa, ra, ⟨⟨Ta, za, rfl, hma⟩, hca⟩, HA⟩ := hc0
  obtain ⟨fm, rm, ⟨⟨Tm, zm, hzm, hmm⟩, hcm⟩, HM⟩ := above_ans k ax xs u hu0 h9 h16
  obtain ⟨fb, rb, ⟨⟨Tb, zb, hzb, hmb⟩, hcb⟩, HB⟩ := below_ans k ax xs u hu0 h9 h16 hax
  obtain rfl := hzm
  obtain ⟨rfl, rfl⟩ : Tm = Tb ∧ zm = zb := by simpa using hzb
  have hlb := belowI_lt k ax xs hp
  have HMA := Lib.hid hma
  have HMB := Lib.hid hmb
  have HMM := Lib.hid hmm
  have HCA := Lib.hid hca
  have HCB := Lib.hid hcb
  have HCM := Lib.hid hcm
  have HHA := Lib.hid HA
  have HHB := Lib.hid (fun w => HB p w hp)
  have HHM := Lib.hid HM
  have HE := Lib.hid (fun (q r : P3) (h : P3.Eq q r) => dist_eqv (sz := sizeI) (fun _ _ => sizeI_eqv) t q r h)
  generalize hq : belowD sizeI k ax xs p = q at *
  obtain ⟨x, y, z⟩ := p
  clear hma hmb hmm hca hcb hcm HA HB HM hp hzb hu0 hq
  go_enter Tryz.func113, Tryz.ntmps113
  go_wp2_with fail
  generalize hW0 : (w.alloc (.cells #[.iface Tm zm, .iface Ta za] 72)).alloc (.cells #[.float .f32 x, .float .f32 y, .float .f32 z] 34) = W0
  have hB0 : Below w.heap.size w W0 := by subst hW0; exact by (repeat (first | exact Below.refl _ _ | assumption | refine below_drewN ?_ _ | refine Below.setCell ?_ (by first | omega | (simp <;> omega)) _ | refine Below.alloc ?_ (by first | omega | (simp <;> omega)) _))
  have hK0 : W0.heap[w.heap.size]? = some (.cells #[.iface Tm zm, .iface Ta za] 72) := by subst hW0; exact heap_alloc2_old _ _ _
  have hK1 : W0.heap[w.heap.size + 1]? = some (.cells #[.float .f32 x, .float .f32 y, .float .f32 z] 34) := by subst hW0; exact heap_alloc2_new _ _ _
  clear hW0
  have hZ0 : w.heap.size + 1 < W0.heap.size := (Array.getElem?_eq_some_iff.1 hK1).1
  have g0_0 : W0.cell? ⟨w.heap.size, 0, none⟩ = some (.iface Tm zm) := cell_of_row W0 _ 0 _ _ _ hK0
  have f0_0 : W0.frozen? ⟨w.heap.size, 0, none⟩ = false := frozen_of_row W0 _ 0 _ _ hK0
  have g0_1 : W0.cell? ⟨w.heap.size, 1, none⟩ = some (.iface Ta za) := cell_of_row W0 _ 1 _ _ _ hK0
  have f0_1 : W0.frozen? ⟨w.heap.size, 1, none⟩ = false := frozen_of_row W0 _ 1 _ _ hK0
  have l0 : w.heap.size < W0.heap.size := (Array.getElem?_eq_some_iff.1 hK0).1
  have g1_0 : W0.cell? ⟨w.heap.size + 1, 0, none⟩ = some (.float .f32 x) := cell_of_row W0 _ 0 _ _ _ hK1
  have f1_0 : W0.frozen? ⟨w.heap.size + 1, 0, none⟩ = false := frozen_of_row W0 _ 0 _ _ hK1
  have g1_1 : W0.cell? ⟨w.heap.size + 1, 1, none⟩ = some (.float .f32 y) := cell_of_row W0 _ 1 _ _ _ hK1
  have f1_1 : W0.frozen? ⟨w.heap.size + 1, 1, none⟩ = false := frozen_of_row W0 _ 1 _ _ hK1
  have g1_2 : W0.cell? ⟨w.heap.size + 1, 2, none⟩ = some (.float .f32 z) := cell_of_row W0 _ 2 _ _ _ hK1
  have f1_2 : W0.frozen? ⟨w.heap.size + 1, 2, none⟩ = false := frozen_of_row W0 _ 2 _ _ hK1
  have l1 : w.heap.size + 1 < W0.heap.size := (Array.getElem?_eq_some_iff.1 hK1).1
  refine wp_region_laterO 14 (SO (QL [(12, V3 q.x q.y q.z), (15, V1 (dist sizeI t q)), (18, V1 (aboveD sizeI k xs (dist sizeI t q)))])) (stays_SO _) (by kernel_rfl) (by kernel_rfl) ?_
  repeat (first | (refine later_exO rfl (fun K hK => ?_); apply Exists.intro; refine ⟨fun w' hw' => ?_, ?_⟩; (obtain ⟨hcc, hff⟩ := Grew.cells hw'; clear hw'; go_simp; rfl); go_simp; refine hK _ ?_; clear hK K))
  (refine later_callO rfl (fun K hK => ?_); (have h1 := HMB.out; have h2 := HCB.out; go_simp; clear h1 h2); refine ⟨_, _, fun _ _ => ⟨rfl, rfl⟩, fun w1 hw1 => ?_, fun u y1 hx1 hu => ?_⟩)
  · refine (HHB.out _).mono ?_
    rintro e w2 ⟨r1, r2, r3, rfl, h1, h2, h3, e1, e2, e3, hb⟩
    exact ⟨_, rfl, ⟨r1, r2, r3, rfl, h1, h2, h3, e1, e2, e3⟩, hb⟩
  obtain ⟨q1, q2, q3, rfl, hq1, hq2, hq3, eq1, eq2, eq3⟩ : V3 q.x q.y q.z u := hu
  (refine hK _ _ hx1 ?_; clear hK K)
  repeat (first | (refine later_exO rfl (fun K hK => ?_); apply Exists.intro; refine ⟨fun w' hw' => ?_, ?_⟩; (obtain ⟨hcc, hff⟩ := Grew.cells hw'; clear hw'; go_simp; rfl); go_simp; refine hK _ ?_; clear hK K))
  (refine later_callO rfl (fun K hK => ?_); (have h1 := HMA.out; have h2 := HCA.out; go_simp; clear h1 h2); refine ⟨_, _, fun _ _ => ⟨rfl, rfl⟩, fun w1 hw1 => ?_, fun u y2 hx2 hu => ?_⟩)
  · refine (HHA.out ⟨q1, q2, q3⟩ _ ⟨hq1, hq2, hq3⟩).mono ?_
    rintro e w2 ⟨r1, rfl, h1, e1, hb⟩
    exact ⟨_, rfl, ⟨r1, rfl, h1, e1.trans (HE.out ⟨q1, q2, q3⟩ q ⟨eq1, eq2, eq3⟩)⟩, hb⟩
  obtain ⟨d2, rfl, hd2, ed2⟩ : V1 (dist sizeI t q) u := hu
  (refine hK _ _ hx2 ?_; clear hK K)
  repeat (first | (refine later_exO rfl (fun K hK => ?_); apply Exists.intro; refine ⟨fun w' hw' => ?_, ?_⟩; (obtain ⟨hcc, hff⟩ := Grew.cells hw'; clear hw'; go_simp; rfl); go_simp; refine hK _ ?_; clear hK K))
  (refine later_callO rfl (fun K hK => ?_); (have h1 := HMM.out; have h2 := HCM.out; go_simp; clear h1 h2); refine ⟨_, _, fun _ _ => ⟨rfl, rfl⟩, fun w1 hw1 => ?_, fun u y3 hx3 hu => ?_⟩)
  · refine (HHM.out _ _ hd2).mono ?_
    rintro e w2 ⟨r1, rfl, h1, e1, hb⟩
    exact ⟨_, rfl, ⟨r1, rfl, h1, e1.trans (aboveD_eqv (fun _ _ => sizeI_eqv) k xs ed2)⟩, hb⟩
  obtain ⟨d3, rfl, hd3, ed3⟩ : V1 (aboveD sizeI k xs (dist sizeI t q)) u := hu
  (refine hK _ _ hx3 ?_; clear hK K)
  repeat (first | (refine later_exO rfl (fun K hK => ?_); apply Exists.intro; refine ⟨fun w' hw' => ?_, ?_⟩; (obtain ⟨hcc, hff⟩ := Grew.cells hw'; clear hw'; go_simp; rfl); go_simp; refine hK _ ?_; clear hK K))
  refine later_nilO ?_
  intro w4 hw4
  simp only [List.drop_succ_cons, List.drop_zero]
  clear g0_0 f0_0 g0_1 f0_1 l0 g1_0 f1_0 g1_1 f1_1 g1_2 f1_2 l1
  have hE0 : Ext W0 w4 := (((hx1).trans hx2).trans hx3).trans hw4
  have hB1 : Below w.heap.size w w4 := hB0.trans (hE0.mono hB0.size)
  replace hK0 := hE0.heap hK0
  replace hK1 := hE0.heap hK1
  have g0_0 : w4.cell? ⟨w.heap.size, 0, none⟩ = some (.iface Tm zm) := cell_of_row w4 _ 0 _ _ _ hK0
  have f0_0 : w4.frozen? ⟨w.heap.size, 0, none⟩ = false := frozen_of_row w4 _ 0 _ _ hK0
  have g0_1 : w4.cell? ⟨w.heap.size, 1, none⟩ = some (.iface Ta za) := cell_of_row w4 _ 1 _ _ _ hK0
  have f0_1 : w4.frozen? ⟨w.heap.size, 1, none⟩ = false := frozen_of_row w4 _ 1 _ _ hK0
  have l0 : w.heap.size < w4.heap.size := (Array.getElem?_eq_some_iff.1 hK0).1
  have g1_0 : w4.cell? ⟨w.heap.size + 1, 0, none⟩ = some (.float .f32 x) := cell_of_row w4 _ 0 _ _ _ hK1
  have f1_0 : w4.frozen? ⟨w.heap.size + 1, 0, none⟩ = false := frozen_of_row w4 _ 0 _ _ hK1
  have g1_1 : w4.cell? ⟨w.heap.size + 1, 1, none⟩ = some (.float .f32 y) := cell_of_row w4 _ 1 _ _ _ hK1
  have f1_1 : w4.frozen? ⟨w.heap.size + 1, 1, none⟩ = false := frozen_of_row w4 _ 1 _ _ hK1
  have g1_2 : w4.cell? ⟨w.heap.size + 1, 2, none⟩ = some (.float .f32 z) := cell_of_row w4 _ 2 _ _ _ hK1
  have f1_2 : w4.frozen? ⟨w.heap.size + 1, 2, none⟩ = false := frozen_of_row w4 _ 2 _ _ hK1
  have l1 : w.heap.size + 1 < w4.heap.size := (Array.getElem?_eq_some_iff.1 hK1).1
  clear hw4 hx1 hx2 hx3
  go_wp2_with fail
  go_ret
  exact ⟨_, rfl, hd3, ed3, hB1⟩
/-- **THE DISTANCE OF A PART IS THAT OF ITS TREE.** -/
theorem part_dist : ∀ (t : Tr) (v : Value), PartV t v → TrOk t → DistA t v
  | .leaf _ k xs, v, h, hk => by
    obtain rfl := h
    exact leaf_ans k xs hk
  | .one _ k ax xs t, v, h, hk => by
    obtain ⟨u, c, rfl, hw, hc⟩ := h
    obtain ⟨h9, h16, hax, ht⟩ := hk
    exact ⟨_, _, ⟨⟨_, _, rfl, fun w => hm_wrapped _ _ w⟩, cf_wrapped_distance⟩, fun p w hp => wrapped_ok k ax xs t u c hw h9 h16 hax (part_dist t c hc ht) p hp w⟩
  | .two _ k xs s t, v, h, hk => by
    obtain ⟨a, b, rfl, ha, hb⟩ := h
    obtain ⟨h5, h8, hs, ht⟩ := hk
    exact ⟨_, _, ⟨⟨_, _, rfl, fun w => hm_joined _ _ _ w⟩, cf_joined_distance⟩, fun p w hp => joined_ok k xs s t a b h5 h8 (part_dist s a ha hs) (part_dist t b hb ht) p hp w⟩
end Go.Proofs.YtaamfjokkphckabGreatDoor
namespace Go.Proofs.YtaamfjokkphckabGreatDoor
open Go.Proofs.FX Go.RowKit Go.Deep
theorem trOk_at (ns : List Nd) (hv : validB ns = true) : ∀ (f i : Nat), i < ns.length → TrOk (trAt ns f i)
  | 0, _, _ => Nat.zero_le _
  | f + 1, i, hi => by
    obtain ⟨hno, hkin⟩ := (validB_true hv).2 i hi
    obtain ⟨hk0, hk17⟩ := nodeOk_kind hno
    unfold trAt
    by_cases h0 : (ru (ns.getD i nd0).k.toNat).c = 0
    · rw [if_pos h0]
      have := leaf_kinds (ns.getD i nd0).k.toNat (by omega) h0
      show _ ≤ 4
      omega
    · rw [if_neg h0]
      by_cases h1 : (ru (ns.getD i nd0).k.toNat).c = 1
      · rw [if_pos h1]
        have ha := hkin (ns.getD i nd0).a (by rw [kids1 h1]; simp)
        have hax := nodeOk_ax hno h1
        exact ⟨wrap_least _ (by omega) h1, by omega, by omega, trOk_at ns hv f _ (by omega)⟩
      · rw [if_neg h1]
        have h2 := c_of hno h0 h1
        have ha := hkin (ns.getD i nd0).a (by rw [kids2 h2]; simp)
        have hb := hkin (ns.getD i nd0).b (by rw [kids2 h2]; simp)
        have := pair_kinds (ns.getD i nd0).k.toNat (by omega) h2
        exact ⟨by omega, by omega, trOk_at ns hv f _ (by omega), trOk_at ns hv f _ (by omega)⟩
/-- A method of a part, as a function. -/
def Mv (t : Tr) (w : World) (e : Ending) (w' : World) : Prop := ∃ u, e = .returned (.tuple #[.func (.method "loop.example/g01193/impl.distance") #[u] #[], .bool true]) ∧ PartV t u ∧ Below w.heap.size w w'
theorem distanceOf_no (ns : List Nd) (v : Value) (w : World) (hr : Rul w 0) (h : NSx 0 w v ns) (hv : validB ns = false) :
    Calls Tryz.prog 36 #[.agg #[v]] w fun e w' => e = .returned (.tuple #[.nilFunc, .bool false]) ∧ Below w.heap.size w w' := by
  have HV := Lib.hid (fun w' (hb : Below w.heap.size w w') => ValidShape_ok ns v w' (hr.below hb) (h.below hb))
  rw [hv] at HV
  obtain ⟨ao, cap, rfl⟩ := h.form
  clear h hv hr
  go_enter Tryz.func36, Tryz.ntmps36
  go_wp2_with fail
  refine (HV.out _ ((Below.refl _ _).alloc (Nat.le_refl _) _)).mono ?_
  rintro e w2 ⟨rfl, hb⟩
  have hBB : Below w.heap.size w w2 := Below.trans ((Below.refl _ _).alloc (Nat.le_refl _) _) (Below.mono hb (by simp <;> omega))
  clear hb
  go_wp2_with fail
  go_ret2
  exact ⟨rfl, hBB⟩
set_option maxRecDepth 100000 in
theorem distanceOf_yes (ns : List Nd) (v : Value) (w : World) (hr : Rul w 0) (h : NSx 0 w v ns) (hv : validB ns = true) :
    Calls Tryz.prog 36 #[.agg #[v]] w (Mv (trAt ns ns.length (ns.length - 1)) w) := by
  have HV := Lib.hid (fun w' (hb : Below w.heap.size w w') => ValidShape_ok ns v w' (hr.below hb) (h.below hb))
  rw [hv] at HV
  obtain ⟨⟨hn1, hn16⟩, -⟩ := validB_true hv
  obtain ⟨n1, hn⟩ : ∃ n1 : Nat, ns.length = n1 + 1 := ⟨ns.length - 1, by omega⟩
  have HPT := Lib.hid (fun w' (hb : Below w.heap.size w w') => partAt_ok ns v hv ns.length n1 w' (by omega) (by omega) (hr.below hb) (h.below hb))
  rw [show ns.length - 1 = n1 by omega]
  obtain ⟨t, ht⟩ : ∃ t, trAt ns ns.length n1 = t := ⟨_, rfl⟩
  rw [ht] at HPT ⊢
  obtain ⟨ao, cap, rfl⟩ := h.form
  have HRT := Lib.hid (fun (w' : World) => rootOf_ok ao ns.length cap w' (by omega))
  rw [show ((ns.length : Int) - 1) = (n1 : Int) by omega] at HRT
  clear h hv hr hn ht
  go_enter Tryz.func36, Tryz.ntmps36
  go_wp2_with fail
  refine (HV.out _ ((Below.refl _ _).alloc (Nat.le_refl _) _)).mono ?_
  rintro e w2 ⟨rfl, hb⟩
  have hBB : Below w.heap.size w w2 := Below.trans ((Below.refl _ _).alloc (Nat.le_refl _) _) (Below.mono hb (by simp <;> omega))
  have H20 : w2.heap[w.heap.size]? = some (.cells #[.slice ao ns.length cap] 32) := by rw [hb.block _ (by simp)]; exact Go.heap_alloc_new _ _
  have g0 : w2.cell? ⟨w.heap.size, 0, none⟩ = some (.slice ao ns.length cap) := cell_of_row w2 _ 0 _ _ _ H20
  have hs2 := Below.size hb
  simp at hs2
  have hl2 : w.heap.size < w2.heap.size := by omega
  clear hb H20
  go_wp2_with fail
  refine wp_region_laterO 6 (SO (QL [(9, Eq (Value.int .i64 (n1 : Int))), (10, PartV t)])) (stays_SO _) (by kernel_rfl) (by kernel_rfl) ?_
  repeat (first | (refine later_exO rfl (fun K hK => ?_); apply Exists.intro; refine ⟨fun w' hw' => ?_, ?_⟩; (obtain ⟨hcc, hff⟩ := Grew.cells hw'; clear hw'; go_simp; rfl); go_simp; refine hK _ ?_; clear hK K))
  (refine later_callO rfl (fun K hK => ?_); go_simp; refine ⟨_, _, fun _ _ => ⟨rfl, rfl⟩, fun w1 hw1 => ?_, fun u y1 hx1 hu => ?_⟩)
  · refine (HRT.out _).mono ?_
    rintro e w3 ⟨rfl, hb⟩
    exact ⟨_, rfl, rfl, hb⟩
  obtain rfl : Eq (Value.int .i64 (n1 : Int)) u := hu
  (refine hK _ _ hx1 ?_; clear hK K)
  repeat (first | (refine later_exO rfl (fun K hK => ?_); apply Exists.intro; refine ⟨fun w' hw' => ?_, ?_⟩; (obtain ⟨hcc, hff⟩ := Grew.cells hw'; clear hw'; go_simp; rfl); go_simp; refine hK _ ?_; clear hK K))
  (refine later_callO rfl (fun K hK => ?_); go_simp; refine ⟨_, _, fun _ _ => ⟨rfl, rfl⟩, fun w1 hw1 => ?_, fun u y2 hx2 hu => ?_⟩)
  · refine (HPT.out w1 (hBB.trans (Below.mono hw1 (by omega)))).mono ?_
    rintro e w3 ⟨x, rfl, hx, hb⟩
    exact ⟨_, rfl, hx, hb⟩
  have hu2 : PartV t u := hu
  obtain ⟨t2, z2, rfl⟩ := partV_iface _ hu2
  (refine hK _ _ hx2 ?_; clear hK K hu)
  repeat (first | (refine later_exO rfl (fun K hK => ?_); apply Exists.intro; refine ⟨fun w' hw' => ?_, ?_⟩; (obtain ⟨hcc, hff⟩ := Grew.cells hw'; clear hw'; go_simp; rfl); go_simp; refine hK _ ?_; clear hK K))
  refine later_nilO ?_
  intro w4 hw4
  simp only [List.drop_succ_cons, List.drop_zero]
  have hB4 : Below w.heap.size w w4 := hBB.trans (Below.mono ((hx1.trans hx2).trans hw4) (by omega))
  clear hx1 hx2 hw4
  go_wp2_with fail
  go_ret2
  exact ⟨_, rfl, hu2, hB4⟩
/-- A number and a truth. -/
def Fw2 (g : Nat) (b : Bool) (w : World) (e : Ending) (w' : World) : Prop := ∃ r, e = .returned (.tuple #[.float .f32 r, .bool b]) ∧ r < 4294967296 ∧ Eqv .f32 r g ∧ Below w.heap.size w w'
theorem DistanceAt_no (ns : List Nd) (v : Value) (x y z : Nat) (w : World) (hr : Rul w 0) (h : NSx 0 w v ns) (hv : validB ns = false) :
    Calls Tryz.prog 21 #[.agg #[v], vec x y z] w (Fw2 0 false w) := by
  have HD := Lib.hid (fun w' (hb : Below w.heap.size w w') => distanceOf_no ns v w' (hr.below hb) (h.below hb) hv)
  obtain ⟨ao, cap, rfl⟩ := h.form
  clear h hv hr
  go_enter Tryz.func21, Tryz.ntmps21
  go_wp2_with fail
  refine (HD.out _ (by (repeat (first | exact Below.refl _ _ | assumption | refine below_drewN ?_ _ | refine Below.setCell ?_ (by first | omega | (simp <;> omega)) _ | refine Below.alloc ?_ (by first | omega | (simp <;> omega)) _)))).mono ?_
  rintro e w2 ⟨rfl, hb⟩
  have hBB : Below w.heap.size w w2 := Below.trans (by (repeat (first | exact Below.refl _ _ | assumption | refine below_drewN ?_ _ | refine Below.setCell ?_ (by first | omega | (simp <;> omega)) _ | refine Below.alloc ?_ (by first | omega | (simp <;> omega)) _))) (Below.mono hb (by simp <;> omega))
  clear hb
  go_wp2_with fail
  go_ret2
  exact ⟨_, rfl, by decide, Eqv.refl _ _, hBB⟩
set_option maxRecDepth 100000 in
theorem DistanceAt_yes (ns : List Nd) (v : Value) (x y z : Nat) (w : World) (hr : Rul w 0) (h : NSx 0 w v ns) (hv : validB ns = true) (hp : P3.Lt ⟨x, y, z⟩) :
    Calls Tryz.prog 21 #[.agg #[v], vec x y z] w (Fw2 (dist sizeI (trAt ns ns.length (ns.length - 1)) ⟨x, y, z⟩) true w) := by
  have HD := Lib.hid (fun w' (hb : Below w.heap.size w w') => distanceOf_yes ns v w' (hr.below hb) (h.below hb) hv)
  obtain ⟨⟨hn1, hn16⟩, -⟩ := validB_true hv
  obtain ⟨t, ht⟩ : ∃ t, trAt ns ns.length (ns.length - 1) = t := ⟨_, rfl⟩
  have htk := trOk_at ns hv ns.length (ns.length - 1) (by omega)
  rw [ht] at HD htk ⊢
  obtain ⟨ao, cap, rfl⟩ := h.form
  clear h hv hr hn1 hn16 ht
  go_enter Tryz.func21, Tryz.ntmps21
  go_wp2_with fail
  generalize hW0 : (w.alloc (.cells #[.slice ao ns.length cap] 32)).alloc (.cells #[.float .f32 x, .float .f32 y, .float .f32 z] 34) = W0
  have hB0 : Below w.heap.size w W0 := by subst hW0; exact by (repeat (first | exact Below.refl _ _ | assumption | refine below_drewN ?_ _ | refine Below.setCell ?_ (by first | omega | (simp <;> omega)) _ | refine Below.alloc ?_ (by first | omega | (simp <;> omega)) _))
  have hK1 : W0.heap[w.heap.size + 1]? = some (.cells #[.float .f32 x, .float .f32 y, .float .f32 z] 34) := by subst hW0; exact heap_alloc2_new _ _ _
  clear hW0
  refine (HD.out _ hB0).mono ?_
  rintro e w2 ⟨u, rfl, hu, hb⟩
  have hE : Ext W0 w2 := hb
  have hB2 : Below w.heap.size w w2 := hB0.trans (hE.mono hB0.size)
  have hK2 := hE.heap hK1
  have g0 : w2.cell? ⟨w.heap.size + 1, 0, none⟩ = some (.float .f32 x) := cell_of_row w2 _ 0 _ _ _ hK2
  have g1 : w2.cell? ⟨w.heap.size + 1, 1, none⟩ = some (.float .f32 y) := cell_of_row w2 _ 1 _ _ _ hK2
  have g2 : w2.cell? ⟨w.heap.size + 1, 2, none⟩ = some (.float .f32 z) := cell_of_row w2 _ 2 _ _ _ hK2
  have l0 : w.heap.size + 1 < w2.heap.size := (Array.getElem?_eq_some_iff.1 hK2).1
  obtain ⟨f, r, ⟨⟨T, zz, rfl, hme⟩, hcf⟩, HF⟩ := part_dist t u hu htk
  have HFF := Lib.hid (fun w => HF ⟨x, y, z⟩ w hp)
  clear hb hK1 hK2 HF hu htk hE
  go_wp2_with fail
  refine (HFF.out _).mono ?_
  rintro e w3 ⟨q, rfl, hq, heq, hb⟩
  have hB3 : Below w.heap.size w w3 := hB2.trans (hb.mono (by omega))
  clear hb
  go_wp2_with fail
  go_ret2
  exact ⟨_, rfl, hq, heq, hB3⟩
/-- The distance at a point, of the program; 0 of a shape that is not valid. -/
def distV (ns : List Nd) (p : P3) : Nat := if validB ns then dist sizeI (trAt ns ns.length (ns.length - 1)) p else 0
theorem DistanceAt_ok (ns : List Nd) (v : Value) (x y z : Nat) (w : World) (hr : Rul w 0) (h : NSx 0 w v ns) (hp : P3.Lt ⟨x, y, z⟩) :
    Calls Tryz.prog 21 #[.agg #[v], vec x y z] w (Fw2 (distV ns ⟨x, y, z⟩) (validB ns) w) := by
  unfold distV
  cases hv : validB ns
  · exact DistanceAt_no ns v x y z w hr h hv
  · exact DistanceAt_yes ns v x y z w hr h hv hp
set_option maxRecDepth 100000 in
theorem IsInside_ok (ns : List Nd) (v : Value) (x y z : Nat) (w : World) (hr : Rul w 0) (h : NSx 0 w v ns) (hp : P3.Lt ⟨x, y, z⟩) :
    Calls Tryz.prog 10 #[.agg #[v], vec x y z] w (Bw (validB ns && flt .f32 (distV ns ⟨x, y, z⟩) 0) w) := by
  have HD := Lib.hid (fun w' (hb : Below w.heap.size w w') => DistanceAt_ok ns v x y z w' (hr.below hb) (h.below hb) hp)
  obtain ⟨ao, cap, rfl⟩ := h.form
  generalize validB ns = b at *
  generalize distV ns ⟨x, y, z⟩ = d at *
  clear h hr hp
  go_enter Tryz.func10, Tryz.ntmps10
  go_wp2_with fail
  refine (HD.out _ (by (repeat (first | exact Below.refl _ _ | assumption | refine below_drewN ?_ _ | refine Below.setCell ?_ (by first | omega | (simp <;> omega)) _ | refine Below.alloc ?_ (by first | omega | (simp <;> omega)) _)))).mono ?_
  rintro e w2 ⟨r, rfl, hr, he, hb⟩
  have hBB : Below w.heap.size w w2 := Below.trans (by (repeat (first | exact Below.refl _ _ | assumption | refine below_drewN ?_ _ | refine Below.setCell ?_ (by first | omega | (simp <;> omega)) _ | refine Below.alloc ?_ (by first | omega | (simp <;> omega)) _))) (Below.mono hb (by simp <;> omega))
  clear hb
  have hfl : (FloatKind.f32.format.order r 0 == some .lt) = flt .f32 d 0 := flt_eqv he (Eqv.refl _ _)
  cases b
  · go_wp2_with fail
    go_ret
    exact ⟨rfl, hBB⟩
  · generalize flt .f32 d 0 = c at *
    cases c
    all_goals
      go_wp2_with fail
      go_ret
      exact ⟨rfl, hBB⟩
end Go.Proofs.YtaamfjokkphckabGreatDoor
namespace Go.Proofs.YtaamfjokkphckabGreatDoor
open Go.Proofs.FX Go.RowKit Go.Deep
set_option maxRecDepth 100000 in
theorem mGreater_ok (a b : Nat) (w : World) :
    Calls Tryz.prog 60 #[.float .f32 a, .float .f32 b] w fun e w' => e = .returned (.float .f32 (greaterF a b)) ∧ w = w' := by
  unfold greaterF fgt
  cases h : (FloatKind.f32.format.order b a == some .gt) <;>
  · go_enter Tryz.func60, Tryz.ntmps60
    go_wp2_with fail
    go_ret
    exact ⟨by simp, rfl⟩
set_option maxRecDepth 100000 in
theorem mLesser_ok (a b : Nat) (w : World) :
    Calls Tryz.prog 61 #[.float .f32 a, .float .f32 b] w fun e w' => e = .returned (.float .f32 (lesserF a b)) ∧ w = w' := by
  unfold lesserF flt
  cases h : (FloatKind.f32.format.order b a == some .lt) <;>
  · go_enter Tryz.func61, Tryz.ntmps61
    go_wp2_with fail
    go_ret
    exact ⟨by simp, rfl⟩
set_option maxRecDepth 100000 in
theorem mSize_ok (x : Nat) (w : World) (hx : x < 4294967296) :
    Calls Tryz.prog 59 #[.float .f32 x] w (Fn (sizeS x) w) := by
  have hs : sizeS x = if (flt .f32 x 0 || feq .f32 x 0) = true then fop .sub .f32 0 x else x := rfl
  rw [hs]
  unfold flt feq
  cases h1 : (FloatKind.f32.format.order x 0 == some .lt) <;> cases h2 : (FloatKind.f32.format.order x 0 == some .eq)
  · simp only [Bool.or_self, Bool.false_eq_true, if_false]
    go_enter Tryz.func59, Tryz.ntmps59
    go_wp2_with (refine wpList_f32 rfl rfl rfl rfl rfl ?_; intro r n hr he)
    go_ret
    exact ⟨_, rfl, hx, Eqv.refl _ _, Below.refl _ _⟩
  all_goals
    simp only [Bool.or_self, Bool.or_true, Bool.true_or, if_true]
    go_enter Tryz.func59, Tryz.ntmps59
    go_wp2_with (refine wpList_f32 rfl rfl rfl rfl rfl ?_; intro r n hr he)
    go_ret
    exact ⟨_, rfl, hr, he, by (repeat (first | exact Below.refl _ _ | assumption | refine below_drewN ?_ _ | refine Below.setCell ?_ (by first | omega | (simp <;> omega)) _ | refine Below.alloc ?_ (by first | omega | (simp <;> omega)) _))⟩
theorem mPick_ok (x y z ax : Nat) (w : World) (hax : ax ≤ 2) :
    Calls Tryz.prog 74 #[vec x y z, .int .i64 ax] w fun e w' => e = .returned (.float .f32 (getA ⟨x, y, z⟩ ax)) ∧ Below w.heap.size w w' := by
  rcases (by omega : ax = 0 ∨ ax = 1 ∨ ax = 2) with rfl | rfl | rfl
  all_goals
    go_enter Tryz.func74, Tryz.ntmps74
    go_wp2_with fail
    go_ret
    exact ⟨rfl, by (repeat (first | exact Below.refl _ _ | assumption | refine below_drewN ?_ _ | refine Below.setCell ?_ (by first | omega | (simp <;> omega)) _ | refine Below.alloc ?_ (by first | omega | (simp <;> omega)) _))⟩
set_option maxRecDepth 100000 in
theorem mSet_0 (x y z c : Nat) (w : World) :
    Calls Tryz.prog 73 #[vec x y z, .int .i64 0, .float .f32 c] w fun e w' => e = .returned (vec c y z) ∧ Below w.heap.size w w' := by
  go_enter Tryz.func73, Tryz.ntmps73
  go_wp2_with fail
  exact bodyPost_ret (v := vec c y z) (by simp [results, Tryz.results73, go_sem]) rfl ⟨rfl, by (repeat (first | exact Below.refl _ _ | assumption | refine below_drewN ?_ _ | refine Below.setCell ?_ (by first | omega | (simp <;> omega)) _ | refine Below.alloc ?_ (by first | omega | (simp <;> omega)) _))⟩
set_option maxRecDepth 100000 in
theorem mSet_1 (x y z c : Nat) (w : World) :
    Calls Tryz.prog 73 #[vec x y z, .int .i64 1, .float .f32 c] w fun e w' => e = .returned (vec x c z) ∧ Below w.heap.size w w' := by
  go_enter Tryz.func73, Tryz.ntmps73
  go_wp2_with fail
  exact bodyPost_ret (v := vec x c z) (by simp [results, Tryz.results73, go_sem]) rfl ⟨rfl, by (repeat (first | exact Below.refl _ _ | assumption | refine below_drewN ?_ _ | refine Below.setCell ?_ (by first | omega | (simp <;> omega)) _ | refine Below.alloc ?_ (by first | omega | (simp <;> omega)) _))⟩
set_option maxRecDepth 100000 in
theorem mSet_2 (x y z c : Nat) (w : World) :
    Calls Tryz.prog 73 #[vec x y z, .int .i64 2, .float .f32 c] w fun e w' => e = .returned (vec x y c) ∧ Below w.heap.size w w' := by
  go_enter Tryz.func73, Tryz.ntmps73
  go_wp2_with fail
  exact bodyPost_ret (v := vec x y c) (by simp [results, Tryz.results73, go_sem]) rfl ⟨rfl, by (repeat (first | exact Below.refl _ _ | assumption | refine below_drewN ?_ _ | refine Below.setCell ?_ (by first | omega | (simp <;> omega)) _ | refine Below.alloc ?_ (by first | omega | (simp <;> omega)) _))⟩
theorem mSet_ok (p : P3) (ax c : Nat) (w : World) (hax : ax ≤ 2) :
    Calls Tryz.prog 73 #[vp p, .int .i64 ax, .float .f32 c] w fun e w' => e = .returned (vp (setA p ax c)) ∧ Below w.heap.size w w' := by
  rcases (by omega : ax = 0 ∨ ax = 1 ∨ ax = 2) with rfl | rfl | rfl
  · exact mSet_0 p.x p.y p.z c w
  · exact mSet_1 p.x p.y p.z c w
  · exact mSet_2 p.x p.y p.z c w
set_option maxRecDepth 100000 in
theorem mFolded_ok (c st : Nat) (w : World) :
    Calls Tryz.prog 75 #[.float .f32 c, .float .f32 st] w (Fn (foldN sizeS (mul32 1073741824 st) c) w) := by
  go_enter Tryz.func75, Tryz.ntmps75
  go_wp2_with first | (refine wpList_f32 rfl rfl rfl rfl rfl ?_; intro r n hr he) | (refine wpList_widen rfl rfl rfl Tryz.underlying25 Tryz.underlying77 ?_; intro r n hr he) | (refine upon_widen Tryz.underlying25 Tryz.underlying77 ?_; intro r n hr he) | (refine upon_rte (by assumption) ?_; intro r n hr he)
  refine upon_narrow Tryz.underlying77 Tryz.underlying25 ?_
  intro q m hq hqe
  go_simp
  rename_i r1 n1 hr1 he1 K1 hK1 r2 n2 hr2 he2 r3 n3 hr3 he3 K2 hK2
  have he2' : Eqv .f32 r2 (quo32 c (mul32 1073741824 st)) := he2.trans (by rw [fop_eqv (Eqv.refl .f32 c) he1]; exact Eqv.refl _ _)
  rw [widen_eqv he2'] at he3
  rw [rte_eqv he3] at he
  have e3 : fconv .f64 r .f32 = some (rndF (quo32 c (mul32 1073741824 st))) := (fconv_eqv he).trans (rnd_eq _ (quo_lt _ _))
  have e4 := hqe _ e3
  have he1' : Eqv .f32 r1 (mul32 1073741824 st) := he1
  clear hqe e3 he he2 he3 he2' he1
  go_wp2_with (refine wpList_f32 rfl rfl rfl rfl rfl ?_; intro r n hr he)
  rename_i r4 n4 hr4 he4 K4 hK4
  refine (mSize_ok _ _ hr).mono ?_
  rintro e w2 ⟨q2, rfl, hq2, hqe2, hb⟩
  have hBB : Below w.heap.size w w2 := Below.trans (by (repeat (first | exact Below.refl _ _ | assumption | refine below_drewN ?_ _ | refine Below.setCell ?_ (by first | omega | (simp <;> omega)) _ | refine Below.alloc ?_ (by first | omega | (simp <;> omega)) _))) (Below.mono hb (by simp <;> omega))
  clear hb
  go_wp2_with fail
  go_ret
  refine ⟨_, rfl, hq2, ?_, hBB⟩
  show Eqv .f32 q2 (sizeS (sub32 c (mul32 (mul32 1073741824 st) (rndF (quo32 c (mul32 1073741824 st))))))
  exact hqe2.trans (sizeS_eqv (he.trans (by rw [fop_eqv (Eqv.refl .f32 c) (he4.trans (by rw [fop_eqv he1' e4]; exact Eqv.refl _ _))]; exact Eqv.refl _ _)))
end Go.Proofs.YtaamfjokkphckabGreatDoor
namespace Go.Proofs.YtaamfjokkphckabGreatDoor
open Go.Proofs.FX Go.RowKit Go.Deep
set_option maxRecDepth 100000 in
theorem mMixed_5 (bn on a b : Nat) (w : World) (c0 : w.cell? ⟨bn, on, none⟩ = some (.int .i64 5)) (_ha : a < 4294967296) (_hb : b < 4294967296) :
    Calls Tryz.prog 40 #[.pointer (some ⟨bn, on, none⟩), .float .f32 a, .float .f32 b] w (Fn (lesserF a b) w) := by
  go_enter Tryz.func40, Tryz.ntmps40
  go_wp2_with fail
  refine (mLesser_ok _ _ _).mono ?_
  rintro e w2 ⟨rfl, rfl⟩
  go_wp2_with fail
  go_ret
  exact ⟨_, rfl, lesser_lt _ha _hb, Eqv.refl _ _, Below.refl _ _⟩
set_option maxRecDepth 100000 in
theorem mMixed_6 (bn on a b : Nat) (w : World) (c0 : w.cell? ⟨bn, on, none⟩ = some (.int .i64 6)) (_ha : a < 4294967296) (_hb : b < 4294967296) :
    Calls Tryz.prog 40 #[.pointer (some ⟨bn, on, none⟩), .float .f32 a, .float .f32 b] w (Fn (greaterF a b) w) := by
  go_enter Tryz.func40, Tryz.ntmps40
  go_wp2_with fail
  refine (mGreater_ok _ _ _).mono ?_
  rintro e w2 ⟨rfl, rfl⟩
  go_wp2_with fail
  go_ret
  exact ⟨_, rfl, greater_lt _ha _hb, Eqv.refl _ _, Below.refl _ _⟩
set_option maxRecDepth 100000 in
theorem mMixed_9 (bn on a b : Nat) (w : World) (c0 : w.cell? ⟨bn, on, none⟩ = some (.int .i64 9)) (_ha : a < 4294967296) (_hb : b < 4294967296) :
    Calls Tryz.prog 40 #[.pointer (some ⟨bn, on, none⟩), .float .f32 a, .float .f32 b] w (Fn (a) w) := by
  go_enter Tryz.func40, Tryz.ntmps40
  go_wp2_with fail
  go_ret
  exact ⟨_, rfl, _ha, Eqv.refl _ _, Below.refl _ _⟩
set_option maxRecDepth 100000 in
theorem mMixed_11 (bn on a b : Nat) (w : World) (c0 : w.cell? ⟨bn, on, none⟩ = some (.int .i64 11)) (_ha : a < 4294967296) (_hb : b < 4294967296) :
    Calls Tryz.prog 40 #[.pointer (some ⟨bn, on, none⟩), .float .f32 a, .float .f32 b] w (Fn (a) w) := by
  go_enter Tryz.func40, Tryz.ntmps40
  go_wp2_with fail
  go_ret
  exact ⟨_, rfl, _ha, Eqv.refl _ _, Below.refl _ _⟩
set_option maxRecDepth 100000 in
theorem mMixed_12 (bn on a b : Nat) (w : World) (c0 : w.cell? ⟨bn, on, none⟩ = some (.int .i64 12)) (_ha : a < 4294967296) (_hb : b < 4294967296) :
    Calls Tryz.prog 40 #[.pointer (some ⟨bn, on, none⟩), .float .f32 a, .float .f32 b] w (Fn (a) w) := by
  go_enter Tryz.func40, Tryz.ntmps40
  go_wp2_with fail
  go_ret
  exact ⟨_, rfl, _ha, Eqv.refl _ _, Below.refl _ _⟩
set_option maxRecDepth 100000 in
theorem mMixed_13 (bn on a b : Nat) (w : World) (c0 : w.cell? ⟨bn, on, none⟩ = some (.int .i64 13)) (_ha : a < 4294967296) (_hb : b < 4294967296) :
    Calls Tryz.prog 40 #[.pointer (some ⟨bn, on, none⟩), .float .f32 a, .float .f32 b] w (Fn (a) w) := by
  go_enter Tryz.func40, Tryz.ntmps40
  go_wp2_with fail
  go_ret
  exact ⟨_, rfl, _ha, Eqv.refl _ _, Below.refl _ _⟩
set_option maxRecDepth 100000 in
theorem mMixed_14 (bn on a b : Nat) (w : World) (c0 : w.cell? ⟨bn, on, none⟩ = some (.int .i64 14)) (_ha : a < 4294967296) (_hb : b < 4294967296) :
    Calls Tryz.prog 40 #[.pointer (some ⟨bn, on, none⟩), .float .f32 a, .float .f32 b] w (Fn (a) w) := by
  go_enter Tryz.func40, Tryz.ntmps40
  go_wp2_with fail
  go_ret
  exact ⟨_, rfl, _ha, Eqv.refl _ _, Below.refl _ _⟩
set_option maxRecDepth 100000 in
theorem mMixed_10 (bn on a b : Nat) (bx ox cx x : Nat) (w : World) (c0 : w.cell? ⟨bn, on, none⟩ = some (.int .i64 10)) (n0 : w.cell? ⟨bx, ox, none⟩ = some (.float .f32 x)) (c3 : w.cell? ⟨bn, on + 3, none⟩ = some (.slice (some ⟨bx, ox, none⟩) 1 cx)) (_lx : bx < w.heap.size) (_hc : 1 ≤ cx) (_hm : cx ≤ 9223372036854775807) (_ha : a < 4294967296) (_hb : b < 4294967296) :
    Calls Tryz.prog 40 #[.pointer (some ⟨bn, on, none⟩), .float .f32 a, .float .f32 b] w (Fn (mul32 a x) w) := by
  go_enter Tryz.func40, Tryz.ntmps40
  go_wp2_with (refine wpList_f32 rfl rfl rfl rfl rfl ?_; intro r n hr he)
  go_ret
  exact ⟨_, rfl, hr, he, by (repeat (first | exact Below.refl _ _ | assumption | refine below_drewN ?_ _ | refine Below.setCell ?_ (by first | omega | (simp <;> omega)) _ | refine Below.alloc ?_ (by first | omega | (simp <;> omega)) _))⟩
set_option maxRecDepth 100000 in
theorem mMixed_15 (bn on a b : Nat) (bx ox cx x : Nat) (w : World) (c0 : w.cell? ⟨bn, on, none⟩ = some (.int .i64 15)) (n0 : w.cell? ⟨bx, ox, none⟩ = some (.float .f32 x)) (c3 : w.cell? ⟨bn, on + 3, none⟩ = some (.slice (some ⟨bx, ox, none⟩) 1 cx)) (_lx : bx < w.heap.size) (_hc : 1 ≤ cx) (_hm : cx ≤ 9223372036854775807) (_ha : a < 4294967296) (_hb : b < 4294967296) :
    Calls Tryz.prog 40 #[.pointer (some ⟨bn, on, none⟩), .float .f32 a, .float .f32 b] w (Fn (sub32 a x) w) := by
  go_enter Tryz.func40, Tryz.ntmps40
  go_wp2_with (refine wpList_f32 rfl rfl rfl rfl rfl ?_; intro r n hr he)
  go_ret
  exact ⟨_, rfl, hr, he, by (repeat (first | exact Below.refl _ _ | assumption | refine below_drewN ?_ _ | refine Below.setCell ?_ (by first | omega | (simp <;> omega)) _ | refine Below.alloc ?_ (by first | omega | (simp <;> omega)) _))⟩
set_option maxRecDepth 100000 in
theorem mMixed_16 (bn on a b : Nat) (bx ox cx x : Nat) (w : World) (_ln : bn < w.heap.size) (c0 : w.cell? ⟨bn, on, none⟩ = some (.int .i64 16)) (n0 : w.cell? ⟨bx, ox, none⟩ = some (.float .f32 x)) (c3 : w.cell? ⟨bn, on + 3, none⟩ = some (.slice (some ⟨bx, ox, none⟩) 1 cx)) (lx : bx < w.heap.size) (_hc : 1 ≤ cx) (_hm : cx ≤ 9223372036854775807) (_ha : a < 4294967296) (_hb : b < 4294967296) :
    Calls Tryz.prog 40 #[.pointer (some ⟨bn, on, none⟩), .float .f32 a, .float .f32 b] w (Fn (sub32 (sizeS a) x) w) := by
  go_enter Tryz.func40, Tryz.ntmps40
  go_wp2_with fail
  refine wp_region_laterO 9 (SO (QL [(81, V1 (sizeS a))])) (stays_SO _) (by kernel_rfl) (by kernel_rfl) ?_
  repeat (first | (refine later_exO rfl (fun K hK => ?_); apply Exists.intro; refine ⟨fun w' hw' => ?_, ?_⟩; (obtain ⟨hcc, hff⟩ := Grew.cells hw'; clear hw'; go_simp; rfl); go_simp; refine hK _ ?_; clear hK K))
  (refine later_callO rfl (fun K hK => ?_); go_simp; refine ⟨_, _, fun _ _ => ⟨rfl, rfl⟩, fun w1 hw1 => ?_, fun u y1 hx1 hu => ?_⟩)
  · refine (mSize_ok _ _ _ha).mono ?_
    rintro e w2 ⟨r1, rfl, h1, e1, hb⟩
    exact ⟨_, rfl, ⟨r1, rfl, h1, e1⟩, hb⟩
  obtain ⟨d1, rfl, hd1, ed1⟩ : V1 (sizeS a) u := hu
  (refine hK _ _ hx1 ?_; clear hK K)
  repeat (first | (refine later_exO rfl (fun K hK => ?_); apply Exists.intro; refine ⟨fun w' hw' => ?_, ?_⟩; (obtain ⟨hcc, hff⟩ := Grew.cells hw'; clear hw'; go_simp; rfl); go_simp; refine hK _ ?_; clear hK K))
  (refine later_f32O rfl rfl rfl rfl rfl ?_; intro r2 hr2 he2)
  repeat (first | (refine later_exO rfl (fun K hK => ?_); apply Exists.intro; refine ⟨fun w' hw' => ?_, ?_⟩; (obtain ⟨hcc, hff⟩ := Grew.cells hw'; clear hw'; go_simp; rfl); go_simp; refine hK _ ?_; clear hK K))
  refine later_nilO ?_
  intro w4 hw4
  simp only [List.drop_succ_cons, List.drop_zero]
  have hB : Below w.heap.size w w4 := hx1.trans hw4
  clear hw4 hx1
  go_wp2_with fail
  go_ret
  exact ⟨_, rfl, hr2, by rw [show sub32 (sizeS a) x = fop .sub .f32 d1 x from (fop_eqv ed1 (Eqv.refl _ _)).symm]; exact he2, hB⟩
set_option maxRecDepth 100000 in
theorem mMixed_7 (bn on a b : Nat) (w : World) (c0 : w.cell? ⟨bn, on, none⟩ = some (.int .i64 7)) (_ha : a < 4294967296) (hb : b < 4294967296) :
    Calls Tryz.prog 40 #[.pointer (some ⟨bn, on, none⟩), .float .f32 a, .float .f32 b] w (Fn (greaterF a (flip32 b)) w) := by
  have hn : Op.negFloat .f32 b = flip32 b := negFloat32 b hb
  go_enter Tryz.func40, Tryz.ntmps40
  go_wp2_with fail
  refine (mGreater_ok _ _ _).mono ?_
  rintro e w2 ⟨rfl, rfl⟩
  go_wp2_with fail
  go_ret
  exact ⟨_, rfl, greater_lt _ha (flip32_lt hb), Eqv.refl _ _, Below.refl _ _⟩
end Go.Proofs.YtaamfjokkphckabGreatDoor
namespace Go.Proofs.YtaamfjokkphckabGreatDoor
open Go.Proofs.FX Go.RowKit Go.Deep
theorem upon_f32 {P : Program} {o : Oper} {a : Act} {K : Act → World → Prop} {Q : Exit → Act → World → Prop} {w : World} {op : BinOp} {t : TypeId} {x y : Nat} (hop : isArith op = true)
    (h : ∀ r n, r < 4294967296 → Eqv .f32 r (fop op .f32 x y) → K (a.put o.dst (.float .f32 r)) (w.drewN n)) : Oper.upon P o a K Q (((binOp op t (.float .f32 x) (.float .f32 y)).run P w).andThen fun v w' => .ok (.value v) w') :=
  upon_float hop fun r n hr he => h r n (by rw [width32] at hr; exact hr) he
theorem vec_eq (p : P3) : vec p.x p.y p.z = vp p := rfl

theorem _root_.Go.Proofs.FX.Ext.size' {w w' : World} (h : Ext w w') : w.heap.size ≤ w'.heap.size := h.size
set_option maxHeartbeats 4000000 in
set_option maxRecDepth 100000 in
theorem mTurned_0 (x y z t : Nat) (w : World) (hx : x < 4294967296) (hy : y < 4294967296) (hz : z < 4294967296) (ht : t < 4294967296) :
    Calls Tryz.prog 72 #[vec x y z, .int .i64 0, .float .f32 t] w (Vec (turnP (turnC t) (sineOf t) 0 ⟨x, y, z⟩).x (turnP (turnC t) (sineOf t) 0 ⟨x, y, z⟩).y (turnP (turnC t) (sineOf t) 0 ⟨x, y, z⟩).z w) := by
  go_enter Tryz.func72, Tryz.ntmps72
  go_wp2_with fail
  generalize hW0 : (w.alloc (.cells #[.float .f32 x, .float .f32 y, .float .f32 z] 34)).alloc (.cells #[.float .f32 0, .float .f32 0, .float .f32 0] 34) = W0
  have hB0 : Below w.heap.size w W0 := by subst hW0; exact by (repeat (first | exact Below.refl _ _ | assumption | refine below_drewN ?_ _ | refine Below.setCell ?_ (by first | omega | (simp <;> omega)) _ | refine Below.alloc ?_ (by first | omega | (simp <;> omega)) _))
  have hK0 : W0.heap[w.heap.size]? = some (.cells #[.float .f32 x, .float .f32 y, .float .f32 z] 34) := by subst hW0; exact heap_alloc2_old _ _ _
  have hK1 : W0.heap[w.heap.size + 1]? = some (.cells #[.float .f32 0, .float .f32 0, .float .f32 0] 34) := by subst hW0; exact heap_alloc2_new _ _ _
  clear hW0
  have hZ0 : w.heap.size + 1 < W0.heap.size := (Array.getElem?_eq_some_iff.1 hK1).1
  have g0_0 : W0.cell? ⟨w.heap.size, 0, none⟩ = some (.float .f32 x) := cell_of_row W0 _ 0 _ _ _ hK0
  have f0_0 : W0.frozen? ⟨w.heap.size, 0, none⟩ = false := frozen_of_row W0 _ 0 _ _ hK0
  have g0_1 : W0.cell? ⟨w.heap.size, 1, none⟩ = some (.float .f32 y) := cell_of_row W0 _ 1 _ _ _ hK0
  have f0_1 : W0.frozen? ⟨w.heap.size, 1, none⟩ = false := frozen_of_row W0 _ 1 _ _ hK0
  have g0_2 : W0.cell? ⟨w.heap.size, 2, none⟩ = some (.float .f32 z) := cell_of_row W0 _ 2 _ _ _ hK0
  have f0_2 : W0.frozen? ⟨w.heap.size, 2, none⟩ = false := frozen_of_row W0 _ 2 _ _ hK0
  have l0 : w.heap.size < W0.heap.size := (Array.getElem?_eq_some_iff.1 hK0).1
  have g1_0 : W0.cell? ⟨w.heap.size + 1, 0, none⟩ = some (.float .f32 0) := cell_of_row W0 _ 0 _ _ _ hK1
  have f1_0 : W0.frozen? ⟨w.heap.size + 1, 0, none⟩ = false := frozen_of_row W0 _ 0 _ _ hK1
  have g1_1 : W0.cell? ⟨w.heap.size + 1, 1, none⟩ = some (.float .f32 0) := cell_of_row W0 _ 1 _ _ _ hK1
  have f1_1 : W0.frozen? ⟨w.heap.size + 1, 1, none⟩ = false := frozen_of_row W0 _ 1 _ _ hK1
  have g1_2 : W0.cell? ⟨w.heap.size + 1, 2, none⟩ = some (.float .f32 0) := cell_of_row W0 _ 2 _ _ _ hK1
  have f1_2 : W0.frozen? ⟨w.heap.size + 1, 2, none⟩ = false := frozen_of_row W0 _ 2 _ _ hK1
  have l1 : w.heap.size + 1 < W0.heap.size := (Array.getElem?_eq_some_iff.1 hK1).1
  refine upon_f32 rfl ?_
  intro r0 nr0 hr0 er0
  go_wp2_with fail
  refine (l01Sine_ok _ _ hr0).mono ?_
  rintro e w1 ⟨c, m1, rfl, hc, ec, rfl⟩
  go_wp2_with fail
  refine (l01Sine_ok _ _ ht).mono ?_
  rintro e w2 ⟨s, m2, rfl, hs, es, rfl⟩
  generalize hv : World.drewN (World.drewN W0 (nr0 + m1)) m2 = v1
  have hx1 : Ext W0 v1 := by subst hv; exact ((Ext.refl _).drewN _).drewN _
  clear g0_0 f0_0 g0_1 f0_1 g0_2 f0_2 l0 g1_0 f1_0 g1_1 f1_1 g1_2 f1_2 l1
  have hE0 : Ext W0 v1 := hx1
  have hB1 : Below w.heap.size w v1 := hB0.trans (hE0.mono hB0.size)
  replace hK0 := hE0.heap hK0
  replace hK1 := hE0.heap hK1
  have g0_0 : v1.cell? ⟨w.heap.size, 0, none⟩ = some (.float .f32 x) := cell_of_row v1 _ 0 _ _ _ hK0
  have f0_0 : v1.frozen? ⟨w.heap.size, 0, none⟩ = false := frozen_of_row v1 _ 0 _ _ hK0
  have g0_1 : v1.cell? ⟨w.heap.size, 1, none⟩ = some (.float .f32 y) := cell_of_row v1 _ 1 _ _ _ hK0
  have f0_1 : v1.frozen? ⟨w.heap.size, 1, none⟩ = false := frozen_of_row v1 _ 1 _ _ hK0
  have g0_2 : v1.cell? ⟨w.heap.size, 2, none⟩ = some (.float .f32 z) := cell_of_row v1 _ 2 _ _ _ hK0
  have f0_2 : v1.frozen? ⟨w.heap.size, 2, none⟩ = false := frozen_of_row v1 _ 2 _ _ hK0
  have l0 : w.heap.size < v1.heap.size := (Array.getElem?_eq_some_iff.1 hK0).1
  have g1_0 : v1.cell? ⟨w.heap.size + 1, 0, none⟩ = some (.float .f32 0) := cell_of_row v1 _ 0 _ _ _ hK1
  have f1_0 : v1.frozen? ⟨w.heap.size + 1, 0, none⟩ = false := frozen_of_row v1 _ 0 _ _ hK1
  have g1_1 : v1.cell? ⟨w.heap.size + 1, 1, none⟩ = some (.float .f32 0) := cell_of_row v1 _ 1 _ _ _ hK1
  have f1_1 : v1.frozen? ⟨w.heap.size + 1, 1, none⟩ = false := frozen_of_row v1 _ 1 _ _ hK1
  have g1_2 : v1.cell? ⟨w.heap.size + 1, 2, none⟩ = some (.float .f32 0) := cell_of_row v1 _ 2 _ _ _ hK1
  have f1_2 : v1.frozen? ⟨w.heap.size + 1, 2, none⟩ = false := frozen_of_row v1 _ 2 _ _ hK1
  have l1 : w.heap.size + 1 < v1.heap.size := (Array.getElem?_eq_some_iff.1 hK1).1
  clear hv
  go_wp2_with fail
  refine (mPick_ok x y z 1 _ (by decide)).mono ?_
  rintro e v2 ⟨rfl, hb⟩
  clear g0_0 f0_0 g0_1 f0_1 g0_2 f0_2 l0 g1_0 f1_0 g1_1 f1_1 g1_2 f1_2 l1
  have hE1 : Ext v1 v2 := hb
  have hB2 : Below w.heap.size w v2 := hB1.trans (hE1.mono hB1.size)
  replace hK0 := hE1.heap hK0
  replace hK1 := hE1.heap hK1
  have g0_0 : v2.cell? ⟨w.heap.size, 0, none⟩ = some (.float .f32 x) := cell_of_row v2 _ 0 _ _ _ hK0
  have f0_0 : v2.frozen? ⟨w.heap.size, 0, none⟩ = false := frozen_of_row v2 _ 0 _ _ hK0
  have g0_1 : v2.cell? ⟨w.heap.size, 1, none⟩ = some (.float .f32 y) := cell_of_row v2 _ 1 _ _ _ hK0
  have f0_1 : v2.frozen? ⟨w.heap.size, 1, none⟩ = false := frozen_of_row v2 _ 1 _ _ hK0
  have g0_2 : v2.cell? ⟨w.heap.size, 2, none⟩ = some (.float .f32 z) := cell_of_row v2 _ 2 _ _ _ hK0
  have f0_2 : v2.frozen? ⟨w.heap.size, 2, none⟩ = false := frozen_of_row v2 _ 2 _ _ hK0
  have l0 : w.heap.size < v2.heap.size := (Array.getElem?_eq_some_iff.1 hK0).1
  have g1_0 : v2.cell? ⟨w.heap.size + 1, 0, none⟩ = some (.float .f32 0) := cell_of_row v2 _ 0 _ _ _ hK1
  have f1_0 : v2.frozen? ⟨w.heap.size + 1, 0, none⟩ = false := frozen_of_row v2 _ 0 _ _ hK1
  have g1_1 : v2.cell? ⟨w.heap.size + 1, 1, none⟩ = some (.float .f32 0) := cell_of_row v2 _ 1 _ _ _ hK1
  have f1_1 : v2.frozen? ⟨w.heap.size + 1, 1, none⟩ = false := frozen_of_row v2 _ 1 _ _ hK1
  have g1_2 : v2.cell? ⟨w.heap.size + 1, 2, none⟩ = some (.float .f32 0) := cell_of_row v2 _ 2 _ _ _ hK1
  have f1_2 : v2.frozen? ⟨w.heap.size + 1, 2, none⟩ = false := frozen_of_row v2 _ 2 _ _ hK1
  have l1 : w.heap.size + 1 < v2.heap.size := (Array.getElem?_eq_some_iff.1 hK1).1
  clear hb
  go_wp2_with fail
  refine (mPick_ok x y z 2 _ (by decide)).mono ?_
  rintro e v3 ⟨rfl, hb⟩
  clear g0_0 f0_0 g0_1 f0_1 g0_2 f0_2 l0 g1_0 f1_0 g1_1 f1_1 g1_2 f1_2 l1
  have hE2 : Ext v2 v3 := hb
  have hB3 : Below w.heap.size w v3 := hB2.trans (hE2.mono hB2.size)
  replace hK0 := hE2.heap hK0
  replace hK1 := hE2.heap hK1
  have g0_0 : v3.cell? ⟨w.heap.size, 0, none⟩ = some (.float .f32 x) := cell_of_row v3 _ 0 _ _ _ hK0
  have f0_0 : v3.frozen? ⟨w.heap.size, 0, none⟩ = false := frozen_of_row v3 _ 0 _ _ hK0
  have g0_1 : v3.cell? ⟨w.heap.size, 1, none⟩ = some (.float .f32 y) := cell_of_row v3 _ 1 _ _ _ hK0
  have f0_1 : v3.frozen? ⟨w.heap.size, 1, none⟩ = false := frozen_of_row v3 _ 1 _ _ hK0
  have g0_2 : v3.cell? ⟨w.heap.size, 2, none⟩ = some (.float .f32 z) := cell_of_row v3 _ 2 _ _ _ hK0
  have f0_2 : v3.frozen? ⟨w.heap.size, 2, none⟩ = false := frozen_of_row v3 _ 2 _ _ hK0
  have l0 : w.heap.size < v3.heap.size := (Array.getElem?_eq_some_iff.1 hK0).1
  have g1_0 : v3.cell? ⟨w.heap.size + 1, 0, none⟩ = some (.float .f32 0) := cell_of_row v3 _ 0 _ _ _ hK1
  have f1_0 : v3.frozen? ⟨w.heap.size + 1, 0, none⟩ = false := frozen_of_row v3 _ 0 _ _ hK1
  have g1_1 : v3.cell? ⟨w.heap.size + 1, 1, none⟩ = some (.float .f32 0) := cell_of_row v3 _ 1 _ _ _ hK1
  have f1_1 : v3.frozen? ⟨w.heap.size + 1, 1, none⟩ = false := frozen_of_row v3 _ 1 _ _ hK1
  have g1_2 : v3.cell? ⟨w.heap.size + 1, 2, none⟩ = some (.float .f32 0) := cell_of_row v3 _ 2 _ _ _ hK1
  have f1_2 : v3.frozen? ⟨w.heap.size + 1, 2, none⟩ = false := frozen_of_row v3 _ 2 _ _ hK1
  have l1 : w.heap.size + 1 < v3.heap.size := (Array.getElem?_eq_some_iff.1 hK1).1
  clear hb
  go_wp2_with fail
  refine upon_f32 rfl ?_
  intro a1 na1 ha1 ea1
  go_wp2_with fail
  refine upon_f32 rfl ?_
  intro a2 na2 ha2 ea2
  go_wp2_with fail
  refine upon_f32 rfl ?_
  intro a3 na3 ha3 ea3
  go_wp2_with fail
  refine upon_f32 rfl ?_
  intro b1 nb1 hb1 eb1
  go_wp2_with fail
  refine upon_f32 rfl ?_
  intro b2 nb2 hb2 eb2
  go_wp2_with fail
  refine upon_f32 rfl ?_
  intro b3 nb3 hb3 eb3
  generalize hv : World.drewN _ nb3 = v4
  have hx1 : Ext v3 v4 := by subst hv; exact ((Ext.refl _).drewN _).drewN _
  clear g0_0 f0_0 g0_1 f0_1 g0_2 f0_2 l0 g1_0 f1_0 g1_1 f1_1 g1_2 f1_2 l1
  have hE3 : Ext v3 v4 := hx1
  have hB4 : Below w.heap.size w v4 := hB3.trans (hE3.mono hB3.size)
  replace hK0 := hE3.heap hK0
  replace hK1 := hE3.heap hK1
  have g0_0 : v4.cell? ⟨w.heap.size, 0, none⟩ = some (.float .f32 x) := cell_of_row v4 _ 0 _ _ _ hK0
  have f0_0 : v4.frozen? ⟨w.heap.size, 0, none⟩ = false := frozen_of_row v4 _ 0 _ _ hK0
  have g0_1 : v4.cell? ⟨w.heap.size, 1, none⟩ = some (.float .f32 y) := cell_of_row v4 _ 1 _ _ _ hK0
  have f0_1 : v4.frozen? ⟨w.heap.size, 1, none⟩ = false := frozen_of_row v4 _ 1 _ _ hK0
  have g0_2 : v4.cell? ⟨w.heap.size, 2, none⟩ = some (.float .f32 z) := cell_of_row v4 _ 2 _ _ _ hK0
  have f0_2 : v4.frozen? ⟨w.heap.size, 2, none⟩ = false := frozen_of_row v4 _ 2 _ _ hK0
  have l0 : w.heap.size < v4.heap.size := (Array.getElem?_eq_some_iff.1 hK0).1
  have g1_0 : v4.cell? ⟨w.heap.size + 1, 0, none⟩ = some (.float .f32 0) := cell_of_row v4 _ 0 _ _ _ hK1
  have f1_0 : v4.frozen? ⟨w.heap.size + 1, 0, none⟩ = false := frozen_of_row v4 _ 0 _ _ hK1
  have g1_1 : v4.cell? ⟨w.heap.size + 1, 1, none⟩ = some (.float .f32 0) := cell_of_row v4 _ 1 _ _ _ hK1
  have f1_1 : v4.frozen? ⟨w.heap.size + 1, 1, none⟩ = false := frozen_of_row v4 _ 1 _ _ hK1
  have g1_2 : v4.cell? ⟨w.heap.size + 1, 2, none⟩ = some (.float .f32 0) := cell_of_row v4 _ 2 _ _ _ hK1
  have f1_2 : v4.frozen? ⟨w.heap.size + 1, 2, none⟩ = false := frozen_of_row v4 _ 2 _ _ hK1
  have l1 : w.heap.size + 1 < v4.heap.size := (Array.getElem?_eq_some_iff.1 hK1).1
  clear hv
  go_wp2_with fail
  refine (mSet_1 x y z a3 _).mono ?_
  rintro e v5 ⟨rfl, hb⟩
  clear g0_0 f0_0 g0_1 f0_1 g0_2 f0_2 l0 g1_0 f1_0 g1_1 f1_1 g1_2 f1_2 l1
  have hE4 : Ext v4 v5 := hb
  have hB5 : Below w.heap.size w v5 := hB4.trans (hE4.mono hB4.size)
  replace hK0 := hE4.heap hK0
  replace hK1 := hE4.heap hK1
  have g0_0 : v5.cell? ⟨w.heap.size, 0, none⟩ = some (.float .f32 x) := cell_of_row v5 _ 0 _ _ _ hK0
  have f0_0 : v5.frozen? ⟨w.heap.size, 0, none⟩ = false := frozen_of_row v5 _ 0 _ _ hK0
  have g0_1 : v5.cell? ⟨w.heap.size, 1, none⟩ = some (.float .f32 y) := cell_of_row v5 _ 1 _ _ _ hK0
  have f0_1 : v5.frozen? ⟨w.heap.size, 1, none⟩ = false := frozen_of_row v5 _ 1 _ _ hK0
  have g0_2 : v5.cell? ⟨w.heap.size, 2, none⟩ = some (.float .f32 z) := cell_of_row v5 _ 2 _ _ _ hK0
  have f0_2 : v5.frozen? ⟨w.heap.size, 2, none⟩ = false := frozen_of_row v5 _ 2 _ _ hK0
  have l0 : w.heap.size < v5.heap.size := (Array.getElem?_eq_some_iff.1 hK0).1
  have g1_0 : v5.cell? ⟨w.heap.size + 1, 0, none⟩ = some (.float .f32 0) := cell_of_row v5 _ 0 _ _ _ hK1
  have f1_0 : v5.frozen? ⟨w.heap.size + 1, 0, none⟩ = false := frozen_of_row v5 _ 0 _ _ hK1
  have g1_1 : v5.cell? ⟨w.heap.size + 1, 1, none⟩ = some (.float .f32 0) := cell_of_row v5 _ 1 _ _ _ hK1
  have f1_1 : v5.frozen? ⟨w.heap.size + 1, 1, none⟩ = false := frozen_of_row v5 _ 1 _ _ hK1
  have g1_2 : v5.cell? ⟨w.heap.size + 1, 2, none⟩ = some (.float .f32 0) := cell_of_row v5 _ 2 _ _ _ hK1
  have f1_2 : v5.frozen? ⟨w.heap.size + 1, 2, none⟩ = false := frozen_of_row v5 _ 2 _ _ hK1
  have l1 : w.heap.size + 1 < v5.heap.size := (Array.getElem?_eq_some_iff.1 hK1).1
  clear hb
  go_wp2_with fail
  refine (mSet_2 x a3 z b3 _).mono ?_
  rintro e v6 ⟨rfl, hb⟩
  clear g0_0 f0_0 g0_1 f0_1 g0_2 f0_2 l0 g1_0 f1_0 g1_1 f1_1 g1_2 f1_2 l1
  have hE5 : Ext v5 v6 := hb
  have hB6 : Below w.heap.size w v6 := hB5.trans (hE5.mono hB5.size)
  replace hK0 := hE5.heap hK0
  replace hK1 := hE5.heap hK1
  have g0_0 : v6.cell? ⟨w.heap.size, 0, none⟩ = some (.float .f32 x) := cell_of_row v6 _ 0 _ _ _ hK0
  have f0_0 : v6.frozen? ⟨w.heap.size, 0, none⟩ = false := frozen_of_row v6 _ 0 _ _ hK0
  have g0_1 : v6.cell? ⟨w.heap.size, 1, none⟩ = some (.float .f32 y) := cell_of_row v6 _ 1 _ _ _ hK0
  have f0_1 : v6.frozen? ⟨w.heap.size, 1, none⟩ = false := frozen_of_row v6 _ 1 _ _ hK0
  have g0_2 : v6.cell? ⟨w.heap.size, 2, none⟩ = some (.float .f32 z) := cell_of_row v6 _ 2 _ _ _ hK0
  have f0_2 : v6.frozen? ⟨w.heap.size, 2, none⟩ = false := frozen_of_row v6 _ 2 _ _ hK0
  have l0 : w.heap.size < v6.heap.size := (Array.getElem?_eq_some_iff.1 hK0).1
  have g1_0 : v6.cell? ⟨w.heap.size + 1, 0, none⟩ = some (.float .f32 0) := cell_of_row v6 _ 0 _ _ _ hK1
  have f1_0 : v6.frozen? ⟨w.heap.size + 1, 0, none⟩ = false := frozen_of_row v6 _ 0 _ _ hK1
  have g1_1 : v6.cell? ⟨w.heap.size + 1, 1, none⟩ = some (.float .f32 0) := cell_of_row v6 _ 1 _ _ _ hK1
  have f1_1 : v6.frozen? ⟨w.heap.size + 1, 1, none⟩ = false := frozen_of_row v6 _ 1 _ _ hK1
  have g1_2 : v6.cell? ⟨w.heap.size + 1, 2, none⟩ = some (.float .f32 0) := cell_of_row v6 _ 2 _ _ _ hK1
  have f1_2 : v6.frozen? ⟨w.heap.size + 1, 2, none⟩ = false := frozen_of_row v6 _ 2 _ _ hK1
  have l1 : w.heap.size + 1 < v6.heap.size := (Array.getElem?_eq_some_iff.1 hK1).1
  clear hb
  go_wp2_with fail
  generalize hWs : ((v6.setCell ⟨w.heap.size + 1, 0, none⟩ (.float .f32 x)).setCell ⟨w.heap.size + 1, 1, none⟩ (.float .f32 a3)).setCell ⟨w.heap.size + 1, 2, none⟩ (.float .f32 b3) = v7
  have hS : v7.heap[w.heap.size + 1]? = some (.cells #[.float .f32 x, .float .f32 a3, .float .f32 b3] 34) := by
    subst hWs
    have s0 := heap_setCell_same (v6) _ 0 _ _ (.float .f32 x) hK1
    have s1 := heap_setCell_same ((v6).setCell ⟨w.heap.size + 1, 0, none⟩ (.float .f32 x)) _ 1 _ _ (.float .f32 a3) s0
    have s2 := heap_setCell_same (((v6).setCell ⟨w.heap.size + 1, 0, none⟩ (.float .f32 x)).setCell ⟨w.heap.size + 1, 1, none⟩ (.float .f32 a3)) _ 2 _ _ (.float .f32 b3) s1
    simpa using s2
  have hO : ∀ q, q ≠ w.heap.size + 1 → v7.heap[q]? = v6.heap[q]? := fun q hq => by subst hWs; rw [heap_setCell_other _ _ _ _ hq, heap_setCell_other _ _ _ _ hq, heap_setCell_other _ _ _ _ hq]
  have hB7 : Below w.heap.size w v7 := by
    subst hWs
    have hle : w.heap.size ≤ w.heap.size + 1 := by omega
    refine Below.setCell ?_ hle _
    refine Below.setCell ?_ hle _
    refine Below.setCell ?_ hle _
    repeat (first | exact hB6 | refine below_drewN ?_ _)
  clear g0_0 f0_0 g0_1 f0_1 g0_2 f0_2 l0 g1_0 f1_0 g1_1 f1_1 g1_2 f1_2 l1
  replace hK0 := (hO _ (by omega)).trans hK0
  replace hK1 := hS
  clear hS hO hWs
  have g0_0 : v7.cell? ⟨w.heap.size, 0, none⟩ = some (.float .f32 x) := cell_of_row v7 _ 0 _ _ _ hK0
  have f0_0 : v7.frozen? ⟨w.heap.size, 0, none⟩ = false := frozen_of_row v7 _ 0 _ _ hK0
  have g0_1 : v7.cell? ⟨w.heap.size, 1, none⟩ = some (.float .f32 y) := cell_of_row v7 _ 1 _ _ _ hK0
  have f0_1 : v7.frozen? ⟨w.heap.size, 1, none⟩ = false := frozen_of_row v7 _ 1 _ _ hK0
  have g0_2 : v7.cell? ⟨w.heap.size, 2, none⟩ = some (.float .f32 z) := cell_of_row v7 _ 2 _ _ _ hK0
  have f0_2 : v7.frozen? ⟨w.heap.size, 2, none⟩ = false := frozen_of_row v7 _ 2 _ _ hK0
  have l0 : w.heap.size < v7.heap.size := (Array.getElem?_eq_some_iff.1 hK0).1
  have g1_0 : v7.cell? ⟨w.heap.size + 1, 0, none⟩ = some (.float .f32 x) := cell_of_row v7 _ 0 _ _ _ hK1
  have f1_0 : v7.frozen? ⟨w.heap.size + 1, 0, none⟩ = false := frozen_of_row v7 _ 0 _ _ hK1
  have g1_1 : v7.cell? ⟨w.heap.size + 1, 1, none⟩ = some (.float .f32 a3) := cell_of_row v7 _ 1 _ _ _ hK1
  have f1_1 : v7.frozen? ⟨w.heap.size + 1, 1, none⟩ = false := frozen_of_row v7 _ 1 _ _ hK1
  have g1_2 : v7.cell? ⟨w.heap.size + 1, 2, none⟩ = some (.float .f32 b3) := cell_of_row v7 _ 2 _ _ _ hK1
  have f1_2 : v7.frozen? ⟨w.heap.size + 1, 2, none⟩ = false := frozen_of_row v7 _ 2 _ _ hK1
  have l1 : w.heap.size + 1 < v7.heap.size := (Array.getElem?_eq_some_iff.1 hK1).1
  have er : Eqv .f32 c (turnC t) := ec.trans (by unfold turnC; rw [sineOf_eqv er0]; exact Eqv.refl _ _)
  have qa1 : Eqv .f32 a1 (mul32 (turnC t) y) := ea1.trans (by unfold mul32; rw [← fop_eqv er (Eqv.refl _ _)]; exact Eqv.refl _ _)
  have qa2 : Eqv .f32 a2 (mul32 (sineOf t) z) := ea2.trans (by unfold mul32; rw [← fop_eqv es (Eqv.refl _ _)]; exact Eqv.refl _ _)
  have qb1 : Eqv .f32 b1 (mul32 (turnC t) z) := eb1.trans (by unfold mul32; rw [← fop_eqv er (Eqv.refl _ _)]; exact Eqv.refl _ _)
  have qb2 : Eqv .f32 b2 (mul32 (sineOf t) y) := eb2.trans (by unfold mul32; rw [← fop_eqv es (Eqv.refl _ _)]; exact Eqv.refl _ _)
  have qa3 : Eqv .f32 a3 (add32 (mul32 (turnC t) y) (mul32 (sineOf t) z)) := ea3.trans (by unfold add32; rw [← fop_eqv qa1 qa2]; exact Eqv.refl _ _)
  have qb3 : Eqv .f32 b3 (sub32 (mul32 (turnC t) z) (mul32 (sineOf t) y)) := eb3.trans (by unfold sub32; rw [← fop_eqv qb1 qb2]; exact Eqv.refl _ _)
  exact bodyPost_ret (v := vec x a3 b3) (by simp [results, Tryz.results72, go_sem, g1_0, g1_1, g1_2]) rfl ⟨x, a3, b3, rfl, hx, ha3, hb3, Eqv.refl _ _, qa3, qb3, hB7⟩
set_option maxHeartbeats 4000000 in
set_option maxRecDepth 100000 in
theorem mTurned_1 (x y z t : Nat) (w : World) (hx : x < 4294967296) (hy : y < 4294967296) (hz : z < 4294967296) (ht : t < 4294967296) :
    Calls Tryz.prog 72 #[vec x y z, .int .i64 1, .float .f32 t] w (Vec (turnP (turnC t) (sineOf t) 1 ⟨x, y, z⟩).x (turnP (turnC t) (sineOf t) 1 ⟨x, y, z⟩).y (turnP (turnC t) (sineOf t) 1 ⟨x, y, z⟩).z w) := by
  go_enter Tryz.func72, Tryz.ntmps72
  go_wp2_with fail
  generalize hW0 : (w.alloc (.cells #[.float .f32 x, .float .f32 y, .float .f32 z] 34)).alloc (.cells #[.float .f32 0, .float .f32 0, .float .f32 0] 34) = W0
  have hB0 : Below w.heap.size w W0 := by subst hW0; exact by (repeat (first | exact Below.refl _ _ | assumption | refine below_drewN ?_ _ | refine Below.setCell ?_ (by first | omega | (simp <;> omega)) _ | refine Below.alloc ?_ (by first | omega | (simp <;> omega)) _))
  have hK0 : W0.heap[w.heap.size]? = some (.cells #[.float .f32 x, .float .f32 y, .float .f32 z] 34) := by subst hW0; exact heap_alloc2_old _ _ _
  have hK1 : W0.heap[w.heap.size + 1]? = some (.cells #[.float .f32 0, .float .f32 0, .float .f32 0] 34) := by subst hW0; exact heap_alloc2_new _ _ _
  clear hW0
  have hZ0 : w.heap.size + 1 < W0.heap.size := (Array.getElem?_eq_some_iff.1 hK1).1
  have g0_0 : W0.cell? ⟨w.heap.size, 0, none⟩ = some (.float .f32 x) := cell_of_row W0 _ 0 _ _ _ hK0
  have f0_0 : W0.frozen? ⟨w.heap.size, 0, none⟩ = false := frozen_of_row W0 _ 0 _ _ hK0
  have g0_1 : W0.cell? ⟨w.heap.size, 1, none⟩ = some (.float .f32 y) := cell_of_row W0 _ 1 _ _ _ hK0
  have f0_1 : W0.frozen? ⟨w.heap.size, 1, none⟩ = false := frozen_of_row W0 _ 1 _ _ hK0
  have g0_2 : W0.cell? ⟨w.heap.size, 2, none⟩ = some (.float .f32 z) := cell_of_row W0 _ 2 _ _ _ hK0
  have f0_2 : W0.frozen? ⟨w.heap.size, 2, none⟩ = false := frozen_of_row W0 _ 2 _ _ hK0
  have l0 : w.heap.size < W0.heap.size := (Array.getElem?_eq_some_iff.1 hK0).1
  have g1_0 : W0.cell? ⟨w.heap.size + 1, 0, none⟩ = some (.float .f32 0) := cell_of_row W0 _ 0 _ _ _ hK1
  have f1_0 : W0.frozen? ⟨w.heap.size + 1, 0, none⟩ = false := frozen_of_row W0 _ 0 _ _ hK1
  have g1_1 : W0.cell? ⟨w.heap.size + 1, 1, none⟩ = some (.float .f32 0) := cell_of_row W0 _ 1 _ _ _ hK1
  have f1_1 : W0.frozen? ⟨w.heap.size + 1, 1, none⟩ = false := frozen_of_row W0 _ 1 _ _ hK1
  have g1_2 : W0.cell? ⟨w.heap.size + 1, 2, none⟩ = some (.float .f32 0) := cell_of_row W0 _ 2 _ _ _ hK1
  have f1_2 : W0.frozen? ⟨w.heap.size + 1, 2, none⟩ = false := frozen_of_row W0 _ 2 _ _ hK1
  have l1 : w.heap.size + 1 < W0.heap.size := (Array.getElem?_eq_some_iff.1 hK1).1
  refine upon_f32 rfl ?_
  intro r0 nr0 hr0 er0
  go_wp2_with fail
  refine (l01Sine_ok _ _ hr0).mono ?_
  rintro e w1 ⟨c, m1, rfl, hc, ec, rfl⟩
  go_wp2_with fail
  refine (l01Sine_ok _ _ ht).mono ?_
  rintro e w2 ⟨s, m2, rfl, hs, es, rfl⟩
  generalize hv : World.drewN (World.drewN W0 (nr0 + m1)) m2 = v1
  have hx1 : Ext W0 v1 := by subst hv; exact ((Ext.refl _).drewN _).drewN _
  clear g0_0 f0_0 g0_1 f0_1 g0_2 f0_2 l0 g1_0 f1_0 g1_1 f1_1 g1_2 f1_2 l1
  have hE0 : Ext W0 v1 := hx1
  have hB1 : Below w.heap.size w v1 := hB0.trans (hE0.mono hB0.size)
  replace hK0 := hE0.heap hK0
  replace hK1 := hE0.heap hK1
  have g0_0 : v1.cell? ⟨w.heap.size, 0, none⟩ = some (.float .f32 x) := cell_of_row v1 _ 0 _ _ _ hK0
  have f0_0 : v1.frozen? ⟨w.heap.size, 0, none⟩ = false := frozen_of_row v1 _ 0 _ _ hK0
  have g0_1 : v1.cell? ⟨w.heap.size, 1, none⟩ = some (.float .f32 y) := cell_of_row v1 _ 1 _ _ _ hK0
  have f0_1 : v1.frozen? ⟨w.heap.size, 1, none⟩ = false := frozen_of_row v1 _ 1 _ _ hK0
  have g0_2 : v1.cell? ⟨w.heap.size, 2, none⟩ = some (.float .f32 z) := cell_of_row v1 _ 2 _ _ _ hK0
  have f0_2 : v1.frozen? ⟨w.heap.size, 2, none⟩ = false := frozen_of_row v1 _ 2 _ _ hK0
  have l0 : w.heap.size < v1.heap.size := (Array.getElem?_eq_some_iff.1 hK0).1
  have g1_0 : v1.cell? ⟨w.heap.size + 1, 0, none⟩ = some (.float .f32 0) := cell_of_row v1 _ 0 _ _ _ hK1
  have f1_0 : v1.frozen? ⟨w.heap.size + 1, 0, none⟩ = false := frozen_of_row v1 _ 0 _ _ hK1
  have g1_1 : v1.cell? ⟨w.heap.size + 1, 1, none⟩ = some (.float .f32 0) := cell_of_row v1 _ 1 _ _ _ hK1
  have f1_1 : v1.frozen? ⟨w.heap.size + 1, 1, none⟩ = false := frozen_of_row v1 _ 1 _ _ hK1
  have g1_2 : v1.cell? ⟨w.heap.size + 1, 2, none⟩ = some (.float .f32 0) := cell_of_row v1 _ 2 _ _ _ hK1
  have f1_2 : v1.frozen? ⟨w.heap.size + 1, 2, none⟩ = false := frozen_of_row v1 _ 2 _ _ hK1
  have l1 : w.heap.size + 1 < v1.heap.size := (Array.getElem?_eq_some_iff.1 hK1).1
  clear hv
  go_wp2_with fail
  refine (mPick_ok x y z 2 _ (by decide)).mono ?_
  rintro e v2 ⟨rfl, hb⟩
  clear g0_0 f0_0 g0_1 f0_1 g0_2 f0_2 l0 g1_0 f1_0 g1_1 f1_1 g1_2 f1_2 l1
  have hE1 : Ext v1 v2 := hb
  have hB2 : Below w.heap.size w v2 := hB1.trans (hE1.mono hB1.size)
  replace hK0 := hE1.heap hK0
  replace hK1 := hE1.heap hK1
  have g0_0 : v2.cell? ⟨w.heap.size, 0, none⟩ = some (.float .f32 x) := cell_of_row v2 _ 0 _ _ _ hK0
  have f0_0 : v2.frozen? ⟨w.heap.size, 0, none⟩ = false := frozen_of_row v2 _ 0 _ _ hK0
  have g0_1 : v2.cell? ⟨w.heap.size, 1, none⟩ = some (.float .f32 y) := cell_of_row v2 _ 1 _ _ _ hK0
  have f0_1 : v2.frozen? ⟨w.heap.size, 1, none⟩ = false := frozen_of_row v2 _ 1 _ _ hK0
  have g0_2 : v2.cell? ⟨w.heap.size, 2, none⟩ = some (.float .f32 z) := cell_of_row v2 _ 2 _ _ _ hK0
  have f0_2 : v2.frozen? ⟨w.heap.size, 2, none⟩ = false := frozen_of_row v2 _ 2 _ _ hK0
  have l0 : w.heap.size < v2.heap.size := (Array.getElem?_eq_some_iff.1 hK0).1
  have g1_0 : v2.cell? ⟨w.heap.size + 1, 0, none⟩ = some (.float .f32 0) := cell_of_row v2 _ 0 _ _ _ hK1
  have f1_0 : v2.frozen? ⟨w.heap.size + 1, 0, none⟩ = false := frozen_of_row v2 _ 0 _ _ hK1
  have g1_1 : v2.cell? ⟨w.heap.size + 1, 1, none⟩ = some (.float .f32 0) := cell_of_row v2 _ 1 _ _ _ hK1
  have f1_1 : v2.frozen? ⟨w.heap.size + 1, 1, none⟩ = false := frozen_of_row v2 _ 1 _ _ hK1
  have g1_2 : v2.cell? ⟨w.heap.size + 1, 2, none⟩ = some (.float .f32 0) := cell_of_row v2 _ 2 _ _ _ hK1
  have f1_2 : v2.frozen? ⟨w.heap.size + 1, 2, none⟩ = false := frozen_of_row v2 _ 2 _ _ hK1
  have l1 : w.heap.size + 1 < v2.heap.size := (Array.getElem?_eq_some_iff.1 hK1).1
  clear hb
  go_wp2_with fail
  refine (mPick_ok x y z 0 _ (by decide)).mono ?_
  rintro e v3 ⟨rfl, hb⟩
  clear g0_0 f0_0 g0_1 f0_1 g0_2 f0_2 l0 g1_0 f1_0 g1_1 f1_1 g1_2 f1_2 l1
  have hE2 : Ext v2 v3 := hb
  have hB3 : Below w.heap.size w v3 := hB2.trans (hE2.mono hB2.size)
  replace hK0 := hE2.heap hK0
  replace hK1 := hE2.heap hK1
  have g0_0 : v3.cell? ⟨w.heap.size, 0, none⟩ = some (.float .f32 x) := cell_of_row v3 _ 0 _ _ _ hK0
  have f0_0 : v3.frozen? ⟨w.heap.size, 0, none⟩ = false := frozen_of_row v3 _ 0 _ _ hK0
  have g0_1 : v3.cell? ⟨w.heap.size, 1, none⟩ = some (.float .f32 y) := cell_of_row v3 _ 1 _ _ _ hK0
  have f0_1 : v3.frozen? ⟨w.heap.size, 1, none⟩ = false := frozen_of_row v3 _ 1 _ _ hK0
  have g0_2 : v3.cell? ⟨w.heap.size, 2, none⟩ = some (.float .f32 z) := cell_of_row v3 _ 2 _ _ _ hK0
  have f0_2 : v3.frozen? ⟨w.heap.size, 2, none⟩ = false := frozen_of_row v3 _ 2 _ _ hK0
  have l0 : w.heap.size < v3.heap.size := (Array.getElem?_eq_some_iff.1 hK0).1
  have g1_0 : v3.cell? ⟨w.heap.size + 1, 0, none⟩ = some (.float .f32 0) := cell_of_row v3 _ 0 _ _ _ hK1
  have f1_0 : v3.frozen? ⟨w.heap.size + 1, 0, none⟩ = false := frozen_of_row v3 _ 0 _ _ hK1
  have g1_1 : v3.cell? ⟨w.heap.size + 1, 1, none⟩ = some (.float .f32 0) := cell_of_row v3 _ 1 _ _ _ hK1
  have f1_1 : v3.frozen? ⟨w.heap.size + 1, 1, none⟩ = false := frozen_of_row v3 _ 1 _ _ hK1
  have g1_2 : v3.cell? ⟨w.heap.size + 1, 2, none⟩ = some (.float .f32 0) := cell_of_row v3 _ 2 _ _ _ hK1
  have f1_2 : v3.frozen? ⟨w.heap.size + 1, 2, none⟩ = false := frozen_of_row v3 _ 2 _ _ hK1
  have l1 : w.heap.size + 1 < v3.heap.size := (Array.getElem?_eq_some_iff.1 hK1).1
  clear hb
  go_wp2_with fail
  refine upon_f32 rfl ?_
  intro a1 na1 ha1 ea1
  go_wp2_with fail
  refine upon_f32 rfl ?_
  intro a2 na2 ha2 ea2
  go_wp2_with fail
  refine upon_f32 rfl ?_
  intro a3 na3 ha3 ea3
  go_wp2_with fail
  refine upon_f32 rfl ?_
  intro b1 nb1 hb1 eb1
  go_wp2_with fail
  refine upon_f32 rfl ?_
  intro b2 nb2 hb2 eb2
  go_wp2_with fail
  refine upon_f32 rfl ?_
  intro b3 nb3 hb3 eb3
  generalize hv : World.drewN _ nb3 = v4
  have hx1 : Ext v3 v4 := by subst hv; exact ((Ext.refl _).drewN _).drewN _
  clear g0_0 f0_0 g0_1 f0_1 g0_2 f0_2 l0 g1_0 f1_0 g1_1 f1_1 g1_2 f1_2 l1
  have hE3 : Ext v3 v4 := hx1
  have hB4 : Below w.heap.size w v4 := hB3.trans (hE3.mono hB3.size)
  replace hK0 := hE3.heap hK0
  replace hK1 := hE3.heap hK1
  have g0_0 : v4.cell? ⟨w.heap.size, 0, none⟩ = some (.float .f32 x) := cell_of_row v4 _ 0 _ _ _ hK0
  have f0_0 : v4.frozen? ⟨w.heap.size, 0, none⟩ = false := frozen_of_row v4 _ 0 _ _ hK0
  have g0_1 : v4.cell? ⟨w.heap.size, 1, none⟩ = some (.float .f32 y) := cell_of_row v4 _ 1 _ _ _ hK0
  have f0_1 : v4.frozen? ⟨w.heap.size, 1, none⟩ = false := frozen_of_row v4 _ 1 _ _ hK0
  have g0_2 : v4.cell? ⟨w.heap.size, 2, none⟩ = some (.float .f32 z) := cell_of_row v4 _ 2 _ _ _ hK0
  have f0_2 : v4.frozen? ⟨w.heap.size, 2, none⟩ = false := frozen_of_row v4 _ 2 _ _ hK0
  have l0 : w.heap.size < v4.heap.size := (Array.getElem?_eq_some_iff.1 hK0).1
  have g1_0 : v4.cell? ⟨w.heap.size + 1, 0, none⟩ = some (.float .f32 0) := cell_of_row v4 _ 0 _ _ _ hK1
  have f1_0 : v4.frozen? ⟨w.heap.size + 1, 0, none⟩ = false := frozen_of_row v4 _ 0 _ _ hK1
  have g1_1 : v4.cell? ⟨w.heap.size + 1, 1, none⟩ = some (.float .f32 0) := cell_of_row v4 _ 1 _ _ _ hK1
  have f1_1 : v4.frozen? ⟨w.heap.size + 1, 1, none⟩ = false := frozen_of_row v4 _ 1 _ _ hK1
  have g1_2 : v4.cell? ⟨w.heap.size + 1, 2, none⟩ = some (.float .f32 0) := cell_of_row v4 _ 2 _ _ _ hK1
  have f1_2 : v4.frozen? ⟨w.heap.size + 1, 2, none⟩ = false := frozen_of_row v4 _ 2 _ _ hK1
  have l1 : w.heap.size + 1 < v4.heap.size := (Array.getElem?_eq_some_iff.1 hK1).1
  clear hv
  go_wp2_with fail
  refine (mSet_2 x y z a3 _).mono ?_
  rintro e v5 ⟨rfl, hb⟩
  clear g0_0 f0_0 g0_1 f0_1 g0_2 f0_2 l0 g1_0 f1_0 g1_1 f1_1 g1_2 f1_2 l1
  have hE4 : Ext v4 v5 := hb
  have hB5 : Below w.heap.size w v5 := hB4.trans (hE4.mono hB4.size)
  replace hK0 := hE4.heap hK0
  replace hK1 := hE4.heap hK1
  have g0_0 : v5.cell? ⟨w.heap.size, 0, none⟩ = some (.float .f32 x) := cell_of_row v5 _ 0 _ _ _ hK0
  have f0_0 : v5.frozen? ⟨w.heap.size, 0, none⟩ = false := frozen_of_row v5 _ 0 _ _ hK0
  have g0_1 : v5.cell? ⟨w.heap.size, 1, none⟩ = some (.float .f32 y) := cell_of_row v5 _ 1 _ _ _ hK0
  have f0_1 : v5.frozen? ⟨w.heap.size, 1, none⟩ = false := frozen_of_row v5 _ 1 _ _ hK0
  have g0_2 : v5.cell? ⟨w.heap.size, 2, none⟩ = some (.float .f32 z) := cell_of_row v5 _ 2 _ _ _ hK0
  have f0_2 : v5.frozen? ⟨w.heap.size, 2, none⟩ = false := frozen_of_row v5 _ 2 _ _ hK0
  have l0 : w.heap.size < v5.heap.size := (Array.getElem?_eq_some_iff.1 hK0).1
  have g1_0 : v5.cell? ⟨w.heap.size + 1, 0, none⟩ = some (.float .f32 0) := cell_of_row v5 _ 0 _ _ _ hK1
  have f1_0 : v5.frozen? ⟨w.heap.size + 1, 0, none⟩ = false := frozen_of_row v5 _ 0 _ _ hK1
  have g1_1 : v5.cell? ⟨w.heap.size + 1, 1, none⟩ = some (.float .f32 0) := cell_of_row v5 _ 1 _ _ _ hK1
  have f1_1 : v5.frozen? ⟨w.heap.size + 1, 1, none⟩ = false := frozen_of_row v5 _ 1 _ _ hK1
  have g1_2 : v5.cell? ⟨w.heap.size + 1, 2, none⟩ = some (.float .f32 0) := cell_of_row v5 _ 2 _ _ _ hK1
  have f1_2 : v5.frozen? ⟨w.heap.size + 1, 2, none⟩ = false := frozen_of_row v5 _ 2 _ _ hK1
  have l1 : w.heap.size + 1 < v5.heap.size := (Array.getElem?_eq_some_iff.1 hK1).1
  clear hb
  go_wp2_with fail
  refine (mSet_0 x y a3 b3 _).mono ?_
  rintro e v6 ⟨rfl, hb⟩
  clear g0_0 f0_0 g0_1 f0_1 g0_2 f0_2 l0 g1_0 f1_0 g1_1 f1_1 g1_2 f1_2 l1
  have hE5 : Ext v5 v6 := hb
  have hB6 : Below w.heap.size w v6 := hB5.trans (hE5.mono hB5.size)
  replace hK0 := hE5.heap hK0
  replace hK1 := hE5.heap hK1
  have g0_0 : v6.cell? ⟨w.heap.size, 0, none⟩ = some (.float .f32 x) := cell_of_row v6 _ 0 _ _ _ hK0
  have f0_0 : v6.frozen? ⟨w.heap.size, 0, none⟩ = false := frozen_of_row v6 _ 0 _ _ hK0
  have g0_1 : v6.cell? ⟨w.heap.size, 1, none⟩ = some (.float .f32 y) := cell_of_row v6 _ 1 _ _ _ hK0
  have f0_1 : v6.frozen? ⟨w.heap.size, 1, none⟩ = false := frozen_of_row v6 _ 1 _ _ hK0
  have g0_2 : v6.cell? ⟨w.heap.size, 2, none⟩ = some (.float .f32 z) := cell_of_row v6 _ 2 _ _ _ hK0
  have f0_2 : v6.frozen? ⟨w.heap.size, 2, none⟩ = false := frozen_of_row v6 _ 2 _ _ hK0
  have l0 : w.heap.size < v6.heap.size := (Array.getElem?_eq_some_iff.1 hK0).1
  have g1_0 : v6.cell? ⟨w.heap.size + 1, 0, none⟩ = some (.float .f32 0) := cell_of_row v6 _ 0 _ _ _ hK1
  have f1_0 : v6.frozen? ⟨w.heap.size + 1, 0, none⟩ = false := frozen_of_row v6 _ 0 _ _ hK1
  have g1_1 : v6.cell? ⟨w.heap.size + 1, 1, none⟩ = some (.float .f32 0) := cell_of_row v6 _ 1 _ _ _ hK1
  have f1_1 : v6.frozen? ⟨w.heap.size + 1, 1, none⟩ = false := frozen_of_row v6 _ 1 _ _ hK1
  have g1_2 : v6.cell? ⟨w.heap.size + 1, 2, none⟩ = some (.float .f32 0) := cell_of_row v6 _ 2 _ _ _ hK1
  have f1_2 : v6.frozen? ⟨w.heap.size + 1, 2, none⟩ = false := frozen_of_row v6 _ 2 _ _ hK1
  have l1 : w.heap.size + 1 < v6.heap.size := (Array.getElem?_eq_some_iff.1 hK1).1
  clear hb
  go_wp2_with fail
  generalize hWs : ((v6.setCell ⟨w.heap.size + 1, 0, none⟩ (.float .f32 b3)).setCell ⟨w.heap.size + 1, 1, none⟩ (.float .f32 y)).setCell ⟨w.heap.size + 1, 2, none⟩ (.float .f32 a3) = v7
  have hS : v7.heap[w.heap.size + 1]? = some (.cells #[.float .f32 b3, .float .f32 y, .float .f32 a3] 34) := by
    subst hWs
    have s0 := heap_setCell_same (v6) _ 0 _ _ (.float .f32 b3) hK1
    have s1 := heap_setCell_same ((v6).setCell ⟨w.heap.size + 1, 0, none⟩ (.float .f32 b3)) _ 1 _ _ (.float .f32 y) s0
    have s2 := heap_setCell_same (((v6).setCell ⟨w.heap.size + 1, 0, none⟩ (.float .f32 b3)).setCell ⟨w.heap.size + 1, 1, none⟩ (.float .f32 y)) _ 2 _ _ (.float .f32 a3) s1
    simpa using s2
  have hO : ∀ q, q ≠ w.heap.size + 1 → v7.heap[q]? = v6.heap[q]? := fun q hq => by subst hWs; rw [heap_setCell_other _ _ _ _ hq, heap_setCell_other _ _ _ _ hq, heap_setCell_other _ _ _ _ hq]
  have hB7 : Below w.heap.size w v7 := by
    subst hWs
    have hle : w.heap.size ≤ w.heap.size + 1 := by omega
    refine Below.setCell ?_ hle _
    refine Below.setCell ?_ hle _
    refine Below.setCell ?_ hle _
    repeat (first | exact hB6 | refine below_drewN ?_ _)
  clear g0_0 f0_0 g0_1 f0_1 g0_2 f0_2 l0 g1_0 f1_0 g1_1 f1_1 g1_2 f1_2 l1
  replace hK0 := (hO _ (by omega)).trans hK0
  replace hK1 := hS
  clear hS hO hWs
  have g0_0 : v7.cell? ⟨w.heap.size, 0, none⟩ = some (.float .f32 x) := cell_of_row v7 _ 0 _ _ _ hK0
  have f0_0 : v7.frozen? ⟨w.heap.size, 0, none⟩ = false := frozen_of_row v7 _ 0 _ _ hK0
  have g0_1 : v7.cell? ⟨w.heap.size, 1, none⟩ = some (.float .f32 y) := cell_of_row v7 _ 1 _ _ _ hK0
  have f0_1 : v7.frozen? ⟨w.heap.size, 1, none⟩ = false := frozen_of_row v7 _ 1 _ _ hK0
  have g0_2 : v7.cell? ⟨w.heap.size, 2, none⟩ = some (.float .f32 z) := cell_of_row v7 _ 2 _ _ _ hK0
  have f0_2 : v7.frozen? ⟨w.heap.size, 2, none⟩ = false := frozen_of_row v7 _ 2 _ _ hK0
  have l0 : w.heap.size < v7.heap.size := (Array.getElem?_eq_some_iff.1 hK0).1
  have g1_0 : v7.cell? ⟨w.heap.size + 1, 0, none⟩ = some (.float .f32 b3) := cell_of_row v7 _ 0 _ _ _ hK1
  have f1_0 : v7.frozen? ⟨w.heap.size + 1, 0, none⟩ = false := frozen_of_row v7 _ 0 _ _ hK1
  have g1_1 : v7.cell? ⟨w.heap.size + 1, 1, none⟩ = some (.float .f32 y) := cell_of_row v7 _ 1 _ _ _ hK1
  have f1_1 : v7.frozen? ⟨w.heap.size + 1, 1, none⟩ = false := frozen_of_row v7 _ 1 _ _ hK1
  have g1_2 : v7.cell? ⟨w.heap.size + 1, 2, none⟩ = some (.float .f32 a3) := cell_of_row v7 _ 2 _ _ _ hK1
  have f1_2 : v7.frozen? ⟨w.heap.size + 1, 2, none⟩ = false := frozen_of_row v7 _ 2 _ _ hK1
  have l1 : w.heap.size + 1 < v7.heap.size := (Array.getElem?_eq_some_iff.1 hK1).1
  have er : Eqv .f32 c (turnC t) := ec.trans (by unfold turnC; rw [sineOf_eqv er0]; exact Eqv.refl _ _)
  have qa1 : Eqv .f32 a1 (mul32 (turnC t) z) := ea1.trans (by unfold mul32; rw [← fop_eqv er (Eqv.refl _ _)]; exact Eqv.refl _ _)
  have qa2 : Eqv .f32 a2 (mul32 (sineOf t) x) := ea2.trans (by unfold mul32; rw [← fop_eqv es (Eqv.refl _ _)]; exact Eqv.refl _ _)
  have qb1 : Eqv .f32 b1 (mul32 (turnC t) x) := eb1.trans (by unfold mul32; rw [← fop_eqv er (Eqv.refl _ _)]; exact Eqv.refl _ _)
  have qb2 : Eqv .f32 b2 (mul32 (sineOf t) z) := eb2.trans (by unfold mul32; rw [← fop_eqv es (Eqv.refl _ _)]; exact Eqv.refl _ _)
  have qa3 : Eqv .f32 a3 (add32 (mul32 (turnC t) z) (mul32 (sineOf t) x)) := ea3.trans (by unfold add32; rw [← fop_eqv qa1 qa2]; exact Eqv.refl _ _)
  have qb3 : Eqv .f32 b3 (sub32 (mul32 (turnC t) x) (mul32 (sineOf t) z)) := eb3.trans (by unfold sub32; rw [← fop_eqv qb1 qb2]; exact Eqv.refl _ _)
  exact bodyPost_ret (v := vec b3 y a3) (by simp [results, Tryz.results72, go_sem, g1_0, g1_1, g1_2]) rfl ⟨b3, y, a3, rfl, hb3, hy, ha3, qb3, Eqv.refl _ _, qa3, hB7⟩
set_option maxHeartbeats 4000000 in
set_option maxRecDepth 100000 in
theorem mTurned_2 (x y z t : Nat) (w : World) (hx : x < 4294967296) (hy : y < 4294967296) (hz : z < 4294967296) (ht : t < 4294967296) :
    Calls Tryz.prog 72 #[vec x y z, .int .i64 2, .float .f32 t] w (Vec (turnP (turnC t) (sineOf t) 2 ⟨x, y, z⟩).x (turnP (turnC t) (sineOf t) 2 ⟨x, y, z⟩).y (turnP (turnC t) (sineOf t) 2 ⟨x, y, z⟩).z w) := by
  go_enter Tryz.func72, Tryz.ntmps72
  go_wp2_with fail
  generalize hW0 : (w.alloc (.cells #[.float .f32 x, .float .f32 y, .float .f32 z] 34)).alloc (.cells #[.float .f32 0, .float .f32 0, .float .f32 0] 34) = W0
  have hB0 : Below w.heap.size w W0 := by subst hW0; exact by (repeat (first | exact Below.refl _ _ | assumption | refine below_drewN ?_ _ | refine Below.setCell ?_ (by first | omega | (simp <;> omega)) _ | refine Below.alloc ?_ (by first | omega | (simp <;> omega)) _))
  have hK0 : W0.heap[w.heap.size]? = some (.cells #[.float .f32 x, .float .f32 y, .float .f32 z] 34) := by subst hW0; exact heap_alloc2_old _ _ _
  have hK1 : W0.heap[w.heap.size + 1]? = some (.cells #[.float .f32 0, .float .f32 0, .float .f32 0] 34) := by subst hW0; exact heap_alloc2_new _ _ _
  clear hW0
  have hZ0 : w.heap.size + 1 < W0.heap.size := (Array.getElem?_eq_some_iff.1 hK1).1
  have g0_0 : W0.cell? ⟨w.heap.size, 0, none⟩ = some (.float .f32 x) := cell_of_row W0 _ 0 _ _ _ hK0
  have f0_0 : W0.frozen? ⟨w.heap.size, 0, none⟩ = false := frozen_of_row W0 _ 0 _ _ hK0
  have g0_1 : W0.cell? ⟨w.heap.size, 1, none⟩ = some (.float .f32 y) := cell_of_row W0 _ 1 _ _ _ hK0
  have f0_1 : W0.frozen? ⟨w.heap.size, 1, none⟩ = false := frozen_of_row W0 _ 1 _ _ hK0
  have g0_2 : W0.cell? ⟨w.heap.size, 2, none⟩ = some (.float .f32 z) := cell_of_row W0 _ 2 _ _ _ hK0
  have f0_2 : W0.frozen? ⟨w.heap.size, 2, none⟩ = false := frozen_of_row W0 _ 2 _ _ hK0
  have l0 : w.heap.size < W0.heap.size := (Array.getElem?_eq_some_iff.1 hK0).1
  have g1_0 : W0.cell? ⟨w.heap.size + 1, 0, none⟩ = some (.float .f32 0) := cell_of_row W0 _ 0 _ _ _ hK1
  have f1_0 : W0.frozen? ⟨w.heap.size + 1, 0, none⟩ = false := frozen_of_row W0 _ 0 _ _ hK1
  have g1_1 : W0.cell? ⟨w.heap.size + 1, 1, none⟩ = some (.float .f32 0) := cell_of_row W0 _ 1 _ _ _ hK1
  have f1_1 : W0.frozen? ⟨w.heap.size + 1, 1, none⟩ = false := frozen_of_row W0 _ 1 _ _ hK1
  have g1_2 : W0.cell? ⟨w.heap.size + 1, 2, none⟩ = some (.float .f32 0) := cell_of_row W0 _ 2 _ _ _ hK1
  have f1_2 : W0.frozen? ⟨w.heap.size + 1, 2, none⟩ = false := frozen_of_row W0 _ 2 _ _ hK1
  have l1 : w.heap.size + 1 < W0.heap.size := (Array.getElem?_eq_some_iff.1 hK1).1
  refine upon_f32 rfl ?_
  intro r0 nr0 hr0 er0
  go_wp2_with fail
  refine (l01Sine_ok _ _ hr0).mono ?_
  rintro e w1 ⟨c, m1, rfl, hc, ec, rfl⟩
  go_wp2_with fail
  refine (l01Sine_ok _ _ ht).mono ?_
  rintro e w2 ⟨s, m2, rfl, hs, es, rfl⟩
  generalize hv : World.drewN (World.drewN W0 (nr0 + m1)) m2 = v1
  have hx1 : Ext W0 v1 := by subst hv; exact ((Ext.refl _).drewN _).drewN _
  clear g0_0 f0_0 g0_1 f0_1 g0_2 f0_2 l0 g1_0 f1_0 g1_1 f1_1 g1_2 f1_2 l1
  have hE0 : Ext W0 v1 := hx1
  have hB1 : Below w.heap.size w v1 := hB0.trans (hE0.mono hB0.size)
  replace hK0 := hE0.heap hK0
  replace hK1 := hE0.heap hK1
  have g0_0 : v1.cell? ⟨w.heap.size, 0, none⟩ = some (.float .f32 x) := cell_of_row v1 _ 0 _ _ _ hK0
  have f0_0 : v1.frozen? ⟨w.heap.size, 0, none⟩ = false := frozen_of_row v1 _ 0 _ _ hK0
  have g0_1 : v1.cell? ⟨w.heap.size, 1, none⟩ = some (.float .f32 y) := cell_of_row v1 _ 1 _ _ _ hK0
  have f0_1 : v1.frozen? ⟨w.heap.size, 1, none⟩ = false := frozen_of_row v1 _ 1 _ _ hK0
  have g0_2 : v1.cell? ⟨w.heap.size, 2, none⟩ = some (.float .f32 z) := cell_of_row v1 _ 2 _ _ _ hK0
  have f0_2 : v1.frozen? ⟨w.heap.size, 2, none⟩ = false := frozen_of_row v1 _ 2 _ _ hK0
  have l0 : w.heap.size < v1.heap.size := (Array.getElem?_eq_some_iff.1 hK0).1
  have g1_0 : v1.cell? ⟨w.heap.size + 1, 0, none⟩ = some (.float .f32 0) := cell_of_row v1 _ 0 _ _ _ hK1
  have f1_0 : v1.frozen? ⟨w.heap.size + 1, 0, none⟩ = false := frozen_of_row v1 _ 0 _ _ hK1
  have g1_1 : v1.cell? ⟨w.heap.size + 1, 1, none⟩ = some (.float .f32 0) := cell_of_row v1 _ 1 _ _ _ hK1
  have f1_1 : v1.frozen? ⟨w.heap.size + 1, 1, none⟩ = false := frozen_of_row v1 _ 1 _ _ hK1
  have g1_2 : v1.cell? ⟨w.heap.size + 1, 2, none⟩ = some (.float .f32 0) := cell_of_row v1 _ 2 _ _ _ hK1
  have f1_2 : v1.frozen? ⟨w.heap.size + 1, 2, none⟩ = false := frozen_of_row v1 _ 2 _ _ hK1
  have l1 : w.heap.size + 1 < v1.heap.size := (Array.getElem?_eq_some_iff.1 hK1).1
  clear hv
  go_wp2_with fail
  refine (mPick_ok x y z 0 _ (by decide)).mono ?_
  rintro e v2 ⟨rfl, hb⟩
  clear g0_0 f0_0 g0_1 f0_1 g0_2 f0_2 l0 g1_0 f1_0 g1_1 f1_1 g1_2 f1_2 l1
  have hE1 : Ext v1 v2 := hb
  have hB2 : Below w.heap.size w v2 := hB1.trans (hE1.mono hB1.size)
  replace hK0 := hE1.heap hK0
  replace hK1 := hE1.heap hK1
  have g0_0 : v2.cell? ⟨w.heap.size, 0, none⟩ = some (.float .f32 x) := cell_of_row v2 _ 0 _ _ _ hK0
  have f0_0 : v2.frozen? ⟨w.heap.size, 0, none⟩ = false := frozen_of_row v2 _ 0 _ _ hK0
  have g0_1 : v2.cell? ⟨w.heap.size, 1, none⟩ = some (.float .f32 y) := cell_of_row v2 _ 1 _ _ _ hK0
  have f0_1 : v2.frozen? ⟨w.heap.size, 1, none⟩ = false := frozen_of_row v2 _ 1 _ _ hK0
  have g0_2 : v2.cell? ⟨w.heap.size, 2, none⟩ = some (.float .f32 z) := cell_of_row v2 _ 2 _ _ _ hK0
  have f0_2 : v2.frozen? ⟨w.heap.size, 2, none⟩ = false := frozen_of_row v2 _ 2 _ _ hK0
  have l0 : w.heap.size < v2.heap.size := (Array.getElem?_eq_some_iff.1 hK0).1
  have g1_0 : v2.cell? ⟨w.heap.size + 1, 0, none⟩ = some (.float .f32 0) := cell_of_row v2 _ 0 _ _ _ hK1
  have f1_0 : v2.frozen? ⟨w.heap.size + 1, 0, none⟩ = false := frozen_of_row v2 _ 0 _ _ hK1
  have g1_1 : v2.cell? ⟨w.heap.size + 1, 1, none⟩ = some (.float .f32 0) := cell_of_row v2 _ 1 _ _ _ hK1
  have f1_1 : v2.frozen? ⟨w.heap.size + 1, 1, none⟩ = false := frozen_of_row v2 _ 1 _ _ hK1
  have g1_2 : v2.cell? ⟨w.heap.size + 1, 2, none⟩ = some (.float .f32 0) := cell_of_row v2 _ 2 _ _ _ hK1
  have f1_2 : v2.frozen? ⟨w.heap.size + 1, 2, none⟩ = false := frozen_of_row v2 _ 2 _ _ hK1
  have l1 : w.heap.size + 1 < v2.heap.size := (Array.getElem?_eq_some_iff.1 hK1).1
  clear hb
  go_wp2_with fail
  refine (mPick_ok x y z 1 _ (by decide)).mono ?_
  rintro e v3 ⟨rfl, hb⟩
  clear g0_0 f0_0 g0_1 f0_1 g0_2 f0_2 l0 g1_0 f1_0 g1_1 f1_1 g1_2 f1_2 l1
  have hE2 : Ext v2 v3 := hb
  have hB3 : Below w.heap.size w v3 := hB2.trans (hE2.mono hB2.size)
  replace hK0 := hE2.heap hK0
  replace hK1 := hE2.heap hK1
  have g0_0 : v3.cell? ⟨w.heap.size, 0, none⟩ = some (.float .f32 x) := cell_of_row v3 _ 0 _ _ _ hK0
  have f0_0 : v3.frozen? ⟨w.heap.size, 0, none⟩ = false := frozen_of_row v3 _ 0 _ _ hK0
  have g0_1 : v3.cell? ⟨w.heap.size, 1, none⟩ = some (.float .f32 y) := cell_of_row v3 _ 1 _ _ _ hK0
  have f0_1 : v3.frozen? ⟨w.heap.size, 1, none⟩ = false := frozen_of_row v3 _ 1 _ _ hK0
  have g0_2 : v3.cell? ⟨w.heap.size, 2, none⟩ = some (.float .f32 z) := cell_of_row v3 _ 2 _ _ _ hK0
  have f0_2 : v3.frozen? ⟨w.heap.size, 2, none⟩ = false := frozen_of_row v3 _ 2 _ _ hK0
  have l0 : w.heap.size < v3.heap.size := (Array.getElem?_eq_some_iff.1 hK0).1
  have g1_0 : v3.cell? ⟨w.heap.size + 1, 0, none⟩ = some (.float .f32 0) := cell_of_row v3 _ 0 _ _ _ hK1
  have f1_0 : v3.frozen? ⟨w.heap.size + 1, 0, none⟩ = false := frozen_of_row v3 _ 0 _ _ hK1
  have g1_1 : v3.cell? ⟨w.heap.size + 1, 1, none⟩ = some (.float .f32 0) := cell_of_row v3 _ 1 _ _ _ hK1
  have f1_1 : v3.frozen? ⟨w.heap.size + 1, 1, none⟩ = false := frozen_of_row v3 _ 1 _ _ hK1
  have g1_2 : v3.cell? ⟨w.heap.size + 1, 2, none⟩ = some (.float .f32 0) := cell_of_row v3 _ 2 _ _ _ hK1
  have f1_2 : v3.frozen? ⟨w.heap.size + 1, 2, none⟩ = false := frozen_of_row v3 _ 2 _ _ hK1
  have l1 : w.heap.size + 1 < v3.heap.size := (Array.getElem?_eq_some_iff.1 hK1).1
  clear hb
  go_wp2_with fail
  refine upon_f32 rfl ?_
  intro a1 na1 ha1 ea1
  go_wp2_with fail
  refine upon_f32 rfl ?_
  intro a2 na2 ha2 ea2
  go_wp2_with fail
  refine upon_f32 rfl ?_
  intro a3 na3 ha3 ea3
  go_wp2_with fail
  refine upon_f32 rfl ?_
  intro b1 nb1 hb1 eb1
  go_wp2_with fail
  refine upon_f32 rfl ?_
  intro b2 nb2 hb2 eb2
  go_wp2_with fail
  refine upon_f32 rfl ?_
  intro b3 nb3 hb3 eb3
  generalize hv : World.drewN _ nb3 = v4
  have hx1 : Ext v3 v4 := by subst hv; exact ((Ext.refl _).drewN _).drewN _
  clear g0_0 f0_0 g0_1 f0_1 g0_2 f0_2 l0 g1_0 f1_0 g1_1 f1_1 g1_2 f1_2 l1
  have hE3 : Ext v3 v4 := hx1
  have hB4 : Below w.heap.size w v4 := hB3.trans (hE3.mono hB3.size)
  replace hK0 := hE3.heap hK0
  replace hK1 := hE3.heap hK1
  have g0_0 : v4.cell? ⟨w.heap.size, 0, none⟩ = some (.float .f32 x) := cell_of_row v4 _ 0 _ _ _ hK0
  have f0_0 : v4.frozen? ⟨w.heap.size, 0, none⟩ = false := frozen_of_row v4 _ 0 _ _ hK0
  have g0_1 : v4.cell? ⟨w.heap.size, 1, none⟩ = some (.float .f32 y) := cell_of_row v4 _ 1 _ _ _ hK0
  have f0_1 : v4.frozen? ⟨w.heap.size, 1, none⟩ = false := frozen_of_row v4 _ 1 _ _ hK0
  have g0_2 : v4.cell? ⟨w.heap.size, 2, none⟩ = some (.float .f32 z) := cell_of_row v4 _ 2 _ _ _ hK0
  have f0_2 : v4.frozen? ⟨w.heap.size, 2, none⟩ = false := frozen_of_row v4 _ 2 _ _ hK0
  have l0 : w.heap.size < v4.heap.size := (Array.getElem?_eq_some_iff.1 hK0).1
  have g1_0 : v4.cell? ⟨w.heap.size + 1, 0, none⟩ = some (.float .f32 0) := cell_of_row v4 _ 0 _ _ _ hK1
  have f1_0 : v4.frozen? ⟨w.heap.size + 1, 0, none⟩ = false := frozen_of_row v4 _ 0 _ _ hK1
  have g1_1 : v4.cell? ⟨w.heap.size + 1, 1, none⟩ = some (.float .f32 0) := cell_of_row v4 _ 1 _ _ _ hK1
  have f1_1 : v4.frozen? ⟨w.heap.size + 1, 1, none⟩ = false := frozen_of_row v4 _ 1 _ _ hK1
  have g1_2 : v4.cell? ⟨w.heap.size + 1, 2, none⟩ = some (.float .f32 0) := cell_of_row v4 _ 2 _ _ _ hK1
  have f1_2 : v4.frozen? ⟨w.heap.size + 1, 2, none⟩ = false := frozen_of_row v4 _ 2 _ _ hK1
  have l1 : w.heap.size + 1 < v4.heap.size := (Array.getElem?_eq_some_iff.1 hK1).1
  clear hv
  go_wp2_with fail
  refine (mSet_0 x y z a3 _).mono ?_
  rintro e v5 ⟨rfl, hb⟩
  clear g0_0 f0_0 g0_1 f0_1 g0_2 f0_2 l0 g1_0 f1_0 g1_1 f1_1 g1_2 f1_2 l1
  have hE4 : Ext v4 v5 := hb
  have hB5 : Below w.heap.size w v5 := hB4.trans (hE4.mono hB4.size)
  replace hK0 := hE4.heap hK0
  replace hK1 := hE4.heap hK1
  have g0_0 : v5.cell? ⟨w.heap.size, 0, none⟩ = some (.float .f32 x) := cell_of_row v5 _ 0 _ _ _ hK0
  have f0_0 : v5.frozen? ⟨w.heap.size, 0, none⟩ = false := frozen_of_row v5 _ 0 _ _ hK0
  have g0_1 : v5.cell? ⟨w.heap.size, 1, none⟩ = some (.float .f32 y) := cell_of_row v5 _ 1 _ _ _ hK0
  have f0_1 : v5.frozen? ⟨w.heap.size, 1, none⟩ = false := frozen_of_row v5 _ 1 _ _ hK0
  have g0_2 : v5.cell? ⟨w.heap.size, 2, none⟩ = some (.float .f32 z) := cell_of_row v5 _ 2 _ _ _ hK0
  have f0_2 : v5.frozen? ⟨w.heap.size, 2, none⟩ = false := frozen_of_row v5 _ 2 _ _ hK0
  have l0 : w.heap.size < v5.heap.size := (Array.getElem?_eq_some_iff.1 hK0).1
  have g1_0 : v5.cell? ⟨w.heap.size + 1, 0, none⟩ = some (.float .f32 0) := cell_of_row v5 _ 0 _ _ _ hK1
  have f1_0 : v5.frozen? ⟨w.heap.size + 1, 0, none⟩ = false := frozen_of_row v5 _ 0 _ _ hK1
  have g1_1 : v5.cell? ⟨w.heap.size + 1, 1, none⟩ = some (.float .f32 0) := cell_of_row v5 _ 1 _ _ _ hK1
  have f1_1 : v5.frozen? ⟨w.heap.size + 1, 1, none⟩ = false := frozen_of_row v5 _ 1 _ _ hK1
  have g1_2 : v5.cell? ⟨w.heap.size + 1, 2, none⟩ = some (.float .f32 0) := cell_of_row v5 _ 2 _ _ _ hK1
  have f1_2 : v5.frozen? ⟨w.heap.size + 1, 2, none⟩ = false := frozen_of_row v5 _ 2 _ _ hK1
  have l1 : w.heap.size + 1 < v5.heap.size := (Array.getElem?_eq_some_iff.1 hK1).1
  clear hb
  go_wp2_with fail
  refine (mSet_1 a3 y z b3 _).mono ?_
  rintro e v6 ⟨rfl, hb⟩
  clear g0_0 f0_0 g0_1 f0_1 g0_2 f0_2 l0 g1_0 f1_0 g1_1 f1_1 g1_2 f1_2 l1
  have hE5 : Ext v5 v6 := hb
  have hB6 : Below w.heap.size w v6 := hB5.trans (hE5.mono hB5.size)
  replace hK0 := hE5.heap hK0
  replace hK1 := hE5.heap hK1
  have g0_0 : v6.cell? ⟨w.heap.size, 0, none⟩ = some (.float .f32 x) := cell_of_row v6 _ 0 _ _ _ hK0
  have f0_0 : v6.frozen? ⟨w.heap.size, 0, none⟩ = false := frozen_of_row v6 _ 0 _ _ hK0
  have g0_1 : v6.cell? ⟨w.heap.size, 1, none⟩ = some (.float .f32 y) := cell_of_row v6 _ 1 _ _ _ hK0
  have f0_1 : v6.frozen? ⟨w.heap.size, 1, none⟩ = false := frozen_of_row v6 _ 1 _ _ hK0
  have g0_2 : v6.cell? ⟨w.heap.size, 2, none⟩ = some (.float .f32 z) := cell_of_row v6 _ 2 _ _ _ hK0
  have f0_2 : v6.frozen? ⟨w.heap.size, 2, none⟩ = false := frozen_of_row v6 _ 2 _ _ hK0
  have l0 : w.heap.size < v6.heap.size := (Array.getElem?_eq_some_iff.1 hK0).1
  have g1_0 : v6.cell? ⟨w.heap.size + 1, 0, none⟩ = some (.float .f32 0) := cell_of_row v6 _ 0 _ _ _ hK1
  have f1_0 : v6.frozen? ⟨w.heap.size + 1, 0, none⟩ = false := frozen_of_row v6 _ 0 _ _ hK1
  have g1_1 : v6.cell? ⟨w.heap.size + 1, 1, none⟩ = some (.float .f32 0) := cell_of_row v6 _ 1 _ _ _ hK1
  have f1_1 : v6.frozen? ⟨w.heap.size + 1, 1, none⟩ = false := frozen_of_row v6 _ 1 _ _ hK1
  have g1_2 : v6.cell? ⟨w.heap.size + 1, 2, none⟩ = some (.float .f32 0) := cell_of_row v6 _ 2 _ _ _ hK1
  have f1_2 : v6.frozen? ⟨w.heap.size + 1, 2, none⟩ = false := frozen_of_row v6 _ 2 _ _ hK1
  have l1 : w.heap.size + 1 < v6.heap.size := (Array.getElem?_eq_some_iff.1 hK1).1
  clear hb
  go_wp2_with fail
  generalize hWs : ((v6.setCell ⟨w.heap.size + 1, 0, none⟩ (.float .f32 a3)).setCell ⟨w.heap.size + 1, 1, none⟩ (.float .f32 b3)).setCell ⟨w.heap.size + 1, 2, none⟩ (.float .f32 z) = v7
  have hS : v7.heap[w.heap.size + 1]? = some (.cells #[.float .f32 a3, .float .f32 b3, .float .f32 z] 34) := by
    subst hWs
    have s0 := heap_setCell_same (v6) _ 0 _ _ (.float .f32 a3) hK1
    have s1 := heap_setCell_same ((v6).setCell ⟨w.heap.size + 1, 0, none⟩ (.float .f32 a3)) _ 1 _ _ (.float .f32 b3) s0
    have s2 := heap_setCell_same (((v6).setCell ⟨w.heap.size + 1, 0, none⟩ (.float .f32 a3)).setCell ⟨w.heap.size + 1, 1, none⟩ (.float .f32 b3)) _ 2 _ _ (.float .f32 z) s1
    simpa using s2
  have hO : ∀ q, q ≠ w.heap.size + 1 → v7.heap[q]? = v6.heap[q]? := fun q hq => by subst hWs; rw [heap_setCell_other _ _ _ _ hq, heap_setCell_other _ _ _ _ hq, heap_setCell_other _ _ _ _ hq]
  have hB7 : Below w.heap.size w v7 := by
    subst hWs
    have hle : w.heap.size ≤ w.heap.size + 1 := by omega
    refine Below.setCell ?_ hle _
    refine Below.setCell ?_ hle _
    refine Below.setCell ?_ hle _
    repeat (first | exact hB6 | refine below_drewN ?_ _)
  clear g0_0 f0_0 g0_1 f0_1 g0_2 f0_2 l0 g1_0 f1_0 g1_1 f1_1 g1_2 f1_2 l1
  replace hK0 := (hO _ (by omega)).trans hK0
  replace hK1 := hS
  clear hS hO hWs
  have g0_0 : v7.cell? ⟨w.heap.size, 0, none⟩ = some (.float .f32 x) := cell_of_row v7 _ 0 _ _ _ hK0
  have f0_0 : v7.frozen? ⟨w.heap.size, 0, none⟩ = false := frozen_of_row v7 _ 0 _ _ hK0
  have g0_1 : v7.cell? ⟨w.heap.size, 1, none⟩ = some (.float .f32 y) := cell_of_row v7 _ 1 _ _ _ hK0
  have f0_1 : v7.frozen? ⟨w.heap.size, 1, none⟩ = false := frozen_of_row v7 _ 1 _ _ hK0
  have g0_2 : v7.cell? ⟨w.heap.size, 2, none⟩ = some (.float .f32 z) := cell_of_row v7 _ 2 _ _ _ hK0
  have f0_2 : v7.frozen? ⟨w.heap.size, 2, none⟩ = false := frozen_of_row v7 _ 2 _ _ hK0
  have l0 : w.heap.size < v7.heap.size := (Array.getElem?_eq_some_iff.1 hK0).1
  have g1_0 : v7.cell? ⟨w.heap.size + 1, 0, none⟩ = some (.float .f32 a3) := cell_of_row v7 _ 0 _ _ _ hK1
  have f1_0 : v7.frozen? ⟨w.heap.size + 1, 0, none⟩ = false := frozen_of_row v7 _ 0 _ _ hK1
  have g1_1 : v7.cell? ⟨w.heap.size + 1, 1, none⟩ = some (.float .f32 b3) := cell_of_row v7 _ 1 _ _ _ hK1
  have f1_1 : v7.frozen? ⟨w.heap.size + 1, 1, none⟩ = false := frozen_of_row v7 _ 1 _ _ hK1
  have g1_2 : v7.cell? ⟨w.heap.size + 1, 2, none⟩ = some (.float .f32 z) := cell_of_row v7 _ 2 _ _ _ hK1
  have f1_2 : v7.frozen? ⟨w.heap.size + 1, 2, none⟩ = false := frozen_of_row v7 _ 2 _ _ hK1
  have l1 : w.heap.size + 1 < v7.heap.size := (Array.getElem?_eq_some_iff.1 hK1).1
  have er : Eqv .f32 c (turnC t) := ec.trans (by unfold turnC; rw [sineOf_eqv er0]; exact Eqv.refl _ _)
  have qa1 : Eqv .f32 a1 (mul32 (turnC t) x) := ea1.trans (by unfold mul32; rw [← fop_eqv er (Eqv.refl _ _)]; exact Eqv.refl _ _)
  have qa2 : Eqv .f32 a2 (mul32 (sineOf t) y) := ea2.trans (by unfold mul32; rw [← fop_eqv es (Eqv.refl _ _)]; exact Eqv.refl _ _)
  have qb1 : Eqv .f32 b1 (mul32 (turnC t) y) := eb1.trans (by unfold mul32; rw [← fop_eqv er (Eqv.refl _ _)]; exact Eqv.refl _ _)
  have qb2 : Eqv .f32 b2 (mul32 (sineOf t) x) := eb2.trans (by unfold mul32; rw [← fop_eqv es (Eqv.refl _ _)]; exact Eqv.refl _ _)
  have qa3 : Eqv .f32 a3 (add32 (mul32 (turnC t) x) (mul32 (sineOf t) y)) := ea3.trans (by unfold add32; rw [← fop_eqv qa1 qa2]; exact Eqv.refl _ _)
  have qb3 : Eqv .f32 b3 (sub32 (mul32 (turnC t) y) (mul32 (sineOf t) x)) := eb3.trans (by unfold sub32; rw [← fop_eqv qb1 qb2]; exact Eqv.refl _ _)
  exact bodyPost_ret (v := vec a3 b3 z) (by simp [results, Tryz.results72, go_sem, g1_0, g1_1, g1_2]) rfl ⟨a3, b3, z, rfl, ha3, hb3, hz, qa3, qb3, Eqv.refl _ _, hB7⟩
set_option maxHeartbeats 4000000 in
set_option maxRecDepth 100000 in
theorem mPoint_9 (bn on : Nat) (bx ox cx : Nat) (u0 u1 u2 : Nat) (x y z : Nat) (w : World) (c0 : w.cell? ⟨bn, on, none⟩ = some (.int .i64 9)) (c3 : w.cell? ⟨bn, on + 3, none⟩ = some (.slice (some ⟨bx, ox, none⟩) 3 cx)) (n0 : w.cell? ⟨bx, ox, none⟩ = some (.float .f32 u0)) (n1 : w.cell? ⟨bx, ox + 1, none⟩ = some (.float .f32 u1)) (n2 : w.cell? ⟨bx, ox + 2, none⟩ = some (.float .f32 u2)) (ln : bn < w.heap.size) (lx : bx < w.heap.size) (_hc : 3 ≤ cx) (_hm : cx ≤ 9223372036854775807) (hx : x < 4294967296) (hy : y < 4294967296) (hz : z < 4294967296) :
    Calls Tryz.prog 57 #[.pointer (some ⟨bn, on, none⟩), vec x y z] w (Vec (sub32 x u0) (sub32 y u1) (sub32 z u2) w) := by
  go_enter Tryz.func57, Tryz.ntmps57
  go_wp2_with fail
  generalize hW0 : (w.alloc (.cells #[.float .f32 x, .float .f32 y, .float .f32 z] 34)).alloc (.cells #[.float .f32 0, .float .f32 0, .float .f32 0] 34) = W0
  have hB0 : Below w.heap.size w W0 := by subst hW0; exact by (repeat (first | exact Below.refl _ _ | assumption | refine below_drewN ?_ _ | refine Below.setCell ?_ (by first | omega | (simp <;> omega)) _ | refine Below.alloc ?_ (by first | omega | (simp <;> omega)) _))
  have hK0 : W0.heap[w.heap.size]? = some (.cells #[.float .f32 x, .float .f32 y, .float .f32 z] 34) := by subst hW0; exact heap_alloc2_old _ _ _
  have hK1 : W0.heap[w.heap.size + 1]? = some (.cells #[.float .f32 0, .float .f32 0, .float .f32 0] 34) := by subst hW0; exact heap_alloc2_new _ _ _
  clear hW0
  have hZ0 : w.heap.size + 1 < W0.heap.size := (Array.getElem?_eq_some_iff.1 hK1).1
  have g0_0 : W0.cell? ⟨w.heap.size, 0, none⟩ = some (.float .f32 x) := cell_of_row W0 _ 0 _ _ _ hK0
  have f0_0 : W0.frozen? ⟨w.heap.size, 0, none⟩ = false := frozen_of_row W0 _ 0 _ _ hK0
  have g0_1 : W0.cell? ⟨w.heap.size, 1, none⟩ = some (.float .f32 y) := cell_of_row W0 _ 1 _ _ _ hK0
  have f0_1 : W0.frozen? ⟨w.heap.size, 1, none⟩ = false := frozen_of_row W0 _ 1 _ _ hK0
  have g0_2 : W0.cell? ⟨w.heap.size, 2, none⟩ = some (.float .f32 z) := cell_of_row W0 _ 2 _ _ _ hK0
  have f0_2 : W0.frozen? ⟨w.heap.size, 2, none⟩ = false := frozen_of_row W0 _ 2 _ _ hK0
  have l0 : w.heap.size < W0.heap.size := (Array.getElem?_eq_some_iff.1 hK0).1
  have g1_0 : W0.cell? ⟨w.heap.size + 1, 0, none⟩ = some (.float .f32 0) := cell_of_row W0 _ 0 _ _ _ hK1
  have f1_0 : W0.frozen? ⟨w.heap.size + 1, 0, none⟩ = false := frozen_of_row W0 _ 0 _ _ hK1
  have g1_1 : W0.cell? ⟨w.heap.size + 1, 1, none⟩ = some (.float .f32 0) := cell_of_row W0 _ 1 _ _ _ hK1
  have f1_1 : W0.frozen? ⟨w.heap.size + 1, 1, none⟩ = false := frozen_of_row W0 _ 1 _ _ hK1
  have g1_2 : W0.cell? ⟨w.heap.size + 1, 2, none⟩ = some (.float .f32 0) := cell_of_row W0 _ 2 _ _ _ hK1
  have f1_2 : W0.frozen? ⟨w.heap.size + 1, 2, none⟩ = false := frozen_of_row W0 _ 2 _ _ hK1
  have l1 : w.heap.size + 1 < W0.heap.size := (Array.getElem?_eq_some_iff.1 hK1).1
  replace c0 : W0.cell? ⟨bn, on, none⟩ = some (.int .i64 9) := ((Ext.cell (show Ext w W0 from hB0) (o := on) ln)).trans c0
  replace c3 : W0.cell? ⟨bn, on + 3, none⟩ = some (.slice (some ⟨bx, ox, none⟩) 3 cx) := ((Ext.cell (show Ext w W0 from hB0) (o := on + 3) ln)).trans c3
  replace n0 : W0.cell? ⟨bx, ox, none⟩ = some (.float .f32 u0) := ((Ext.cell (show Ext w W0 from hB0) (o := ox) lx)).trans n0
  replace n1 : W0.cell? ⟨bx, ox + 1, none⟩ = some (.float .f32 u1) := ((Ext.cell (show Ext w W0 from hB0) (o := ox + 1) lx)).trans n1
  replace n2 : W0.cell? ⟨bx, ox + 2, none⟩ = some (.float .f32 u2) := ((Ext.cell (show Ext w W0 from hB0) (o := ox + 2) lx)).trans n2
  replace ln := Nat.lt_of_lt_of_le ln (Ext.size' (show Ext w W0 from hB0))
  replace lx := Nat.lt_of_lt_of_le lx (Ext.size' (show Ext w W0 from hB0))
  refine wp_region_laterO 21 (SO (QL [(31, V3 (sub32 x u0) (sub32 y u1) (sub32 z u2))])) (stays_SO _) (by kernel_rfl) (by kernel_rfl) ?_
  repeat (first | (refine later_exO rfl (fun K hK => ?_); apply Exists.intro; refine ⟨fun w' hw' => ?_, ?_⟩; (obtain ⟨hcc, hff⟩ := Grew.cells hw'; clear hw'; go_simp; rfl); go_simp; refine hK _ ?_; clear hK K))
  (refine later_callO rfl (fun K hK => ?_); go_simp; refine ⟨_, _, fun _ _ => ⟨rfl, rfl⟩, fun w1 hw1 => ?_, fun u y1 hx1 hu => ?_⟩)
  · refine (l01Less_ok _ _ _ _ _ _ _).mono ?_
    rintro e w2 ⟨r1, r2, r3, rfl, h1, h2, h3, e1, e2, e3, hb⟩
    exact ⟨_, rfl, ⟨r1, r2, r3, rfl, h1, h2, h3, e1, e2, e3⟩, hb⟩
  obtain ⟨p1, p2, p3, rfl, hp1, hp2, hp3, pe1, pe2, pe3⟩ : (V3 (sub32 x u0) (sub32 y u1) (sub32 z u2)) u := hu
  (refine hK _ _ hx1 ?_; clear hK K)
  repeat (first | (refine later_exO rfl (fun K hK => ?_); apply Exists.intro; refine ⟨fun w' hw' => ?_, ?_⟩; (obtain ⟨hcc, hff⟩ := Grew.cells hw'; clear hw'; go_simp; rfl); go_simp; refine hK _ ?_; clear hK K))
  refine later_nilO ?_
  intro w4 hw4
  simp only [List.drop_succ_cons, List.drop_zero]
  clear g0_0 f0_0 g0_1 f0_1 g0_2 f0_2 l0 g1_0 f1_0 g1_1 f1_1 g1_2 f1_2 l1
  have hE0 : Ext W0 w4 := (hx1).trans hw4
  have hB1 : Below w.heap.size w w4 := hB0.trans (hE0.mono hB0.size)
  replace hK0 := hE0.heap hK0
  replace hK1 := hE0.heap hK1
  have g0_0 : w4.cell? ⟨w.heap.size, 0, none⟩ = some (.float .f32 x) := cell_of_row w4 _ 0 _ _ _ hK0
  have f0_0 : w4.frozen? ⟨w.heap.size, 0, none⟩ = false := frozen_of_row w4 _ 0 _ _ hK0
  have g0_1 : w4.cell? ⟨w.heap.size, 1, none⟩ = some (.float .f32 y) := cell_of_row w4 _ 1 _ _ _ hK0
  have f0_1 : w4.frozen? ⟨w.heap.size, 1, none⟩ = false := frozen_of_row w4 _ 1 _ _ hK0
  have g0_2 : w4.cell? ⟨w.heap.size, 2, none⟩ = some (.float .f32 z) := cell_of_row w4 _ 2 _ _ _ hK0
  have f0_2 : w4.frozen? ⟨w.heap.size, 2, none⟩ = false := frozen_of_row w4 _ 2 _ _ hK0
  have l0 : w.heap.size < w4.heap.size := (Array.getElem?_eq_some_iff.1 hK0).1
  have g1_0 : w4.cell? ⟨w.heap.size + 1, 0, none⟩ = some (.float .f32 0) := cell_of_row w4 _ 0 _ _ _ hK1
  have f1_0 : w4.frozen? ⟨w.heap.size + 1, 0, none⟩ = false := frozen_of_row w4 _ 0 _ _ hK1
  have g1_1 : w4.cell? ⟨w.heap.size + 1, 1, none⟩ = some (.float .f32 0) := cell_of_row w4 _ 1 _ _ _ hK1
  have f1_1 : w4.frozen? ⟨w.heap.size + 1, 1, none⟩ = false := frozen_of_row w4 _ 1 _ _ hK1
  have g1_2 : w4.cell? ⟨w.heap.size + 1, 2, none⟩ = some (.float .f32 0) := cell_of_row w4 _ 2 _ _ _ hK1
  have f1_2 : w4.frozen? ⟨w.heap.size + 1, 2, none⟩ = false := frozen_of_row w4 _ 2 _ _ hK1
  have l1 : w.heap.size + 1 < w4.heap.size := (Array.getElem?_eq_some_iff.1 hK1).1
  replace c0 : w4.cell? ⟨bn, on, none⟩ = some (.int .i64 9) := ((Ext.cell hE0 (o := on) ln)).trans c0
  replace c3 : w4.cell? ⟨bn, on + 3, none⟩ = some (.slice (some ⟨bx, ox, none⟩) 3 cx) := ((Ext.cell hE0 (o := on + 3) ln)).trans c3
  replace n0 : w4.cell? ⟨bx, ox, none⟩ = some (.float .f32 u0) := ((Ext.cell hE0 (o := ox) lx)).trans n0
  replace n1 : w4.cell? ⟨bx, ox + 1, none⟩ = some (.float .f32 u1) := ((Ext.cell hE0 (o := ox + 1) lx)).trans n1
  replace n2 : w4.cell? ⟨bx, ox + 2, none⟩ = some (.float .f32 u2) := ((Ext.cell hE0 (o := ox + 2) lx)).trans n2
  replace ln := Nat.lt_of_lt_of_le ln (Ext.size' hE0)
  replace lx := Nat.lt_of_lt_of_le lx (Ext.size' hE0)
  clear hw4 hx1
  go_wp2_with fail
  generalize hWs : ((w4.setCell ⟨w.heap.size + 1, 0, none⟩ (.float .f32 p1)).setCell ⟨w.heap.size + 1, 1, none⟩ (.float .f32 p2)).setCell ⟨w.heap.size + 1, 2, none⟩ (.float .f32 p3) = v9
  have hS : v9.heap[w.heap.size + 1]? = some (.cells #[.float .f32 p1, .float .f32 p2, .float .f32 p3] 34) := by
    subst hWs
    have s0 := heap_setCell_same (w4) _ 0 _ _ (.float .f32 p1) hK1
    have s1 := heap_setCell_same ((w4).setCell ⟨w.heap.size + 1, 0, none⟩ (.float .f32 p1)) _ 1 _ _ (.float .f32 p2) s0
    have s2 := heap_setCell_same (((w4).setCell ⟨w.heap.size + 1, 0, none⟩ (.float .f32 p1)).setCell ⟨w.heap.size + 1, 1, none⟩ (.float .f32 p2)) _ 2 _ _ (.float .f32 p3) s1
    simpa using s2
  have hO : ∀ q, q ≠ w.heap.size + 1 → v9.heap[q]? = w4.heap[q]? := fun q hq => by subst hWs; rw [heap_setCell_other _ _ _ _ hq, heap_setCell_other _ _ _ _ hq, heap_setCell_other _ _ _ _ hq]
  have hB2 : Below w.heap.size w v9 := by
    subst hWs
    have hle : w.heap.size ≤ w.heap.size + 1 := by omega
    refine Below.setCell ?_ hle _
    refine Below.setCell ?_ hle _
    refine Below.setCell ?_ hle _
    repeat (first | exact hB1 | refine below_drewN ?_ _)
  clear g0_0 f0_0 g0_1 f0_1 g0_2 f0_2 l0 g1_0 f1_0 g1_1 f1_1 g1_2 f1_2 l1
  replace hK0 := (hO _ (by omega)).trans hK0
  replace hK1 := hS
  clear hS hO hWs
  have g0_0 : v9.cell? ⟨w.heap.size, 0, none⟩ = some (.float .f32 x) := cell_of_row v9 _ 0 _ _ _ hK0
  have f0_0 : v9.frozen? ⟨w.heap.size, 0, none⟩ = false := frozen_of_row v9 _ 0 _ _ hK0
  have g0_1 : v9.cell? ⟨w.heap.size, 1, none⟩ = some (.float .f32 y) := cell_of_row v9 _ 1 _ _ _ hK0
  have f0_1 : v9.frozen? ⟨w.heap.size, 1, none⟩ = false := frozen_of_row v9 _ 1 _ _ hK0
  have g0_2 : v9.cell? ⟨w.heap.size, 2, none⟩ = some (.float .f32 z) := cell_of_row v9 _ 2 _ _ _ hK0
  have f0_2 : v9.frozen? ⟨w.heap.size, 2, none⟩ = false := frozen_of_row v9 _ 2 _ _ hK0
  have l0 : w.heap.size < v9.heap.size := (Array.getElem?_eq_some_iff.1 hK0).1
  have g1_0 : v9.cell? ⟨w.heap.size + 1, 0, none⟩ = some (.float .f32 p1) := cell_of_row v9 _ 0 _ _ _ hK1
  have f1_0 : v9.frozen? ⟨w.heap.size + 1, 0, none⟩ = false := frozen_of_row v9 _ 0 _ _ hK1
  have g1_1 : v9.cell? ⟨w.heap.size + 1, 1, none⟩ = some (.float .f32 p2) := cell_of_row v9 _ 1 _ _ _ hK1
  have f1_1 : v9.frozen? ⟨w.heap.size + 1, 1, none⟩ = false := frozen_of_row v9 _ 1 _ _ hK1
  have g1_2 : v9.cell? ⟨w.heap.size + 1, 2, none⟩ = some (.float .f32 p3) := cell_of_row v9 _ 2 _ _ _ hK1
  have f1_2 : v9.frozen? ⟨w.heap.size + 1, 2, none⟩ = false := frozen_of_row v9 _ 2 _ _ hK1
  have l1 : w.heap.size + 1 < v9.heap.size := (Array.getElem?_eq_some_iff.1 hK1).1
  exact bodyPost_ret (v := vec p1 p2 p3) (by simp [results, Tryz.results57, go_sem, g1_0, g1_1, g1_2]) rfl ⟨p1, p2, p3, rfl, hp1, hp2, hp3, pe1, pe2, pe3, hB2⟩
set_option maxHeartbeats 4000000 in
set_option maxRecDepth 100000 in
theorem mPoint_10 (bn on : Nat) (bx ox cx : Nat) (u0 : Nat) (x y z : Nat) (w : World) (c0 : w.cell? ⟨bn, on, none⟩ = some (.int .i64 10)) (c3 : w.cell? ⟨bn, on + 3, none⟩ = some (.slice (some ⟨bx, ox, none⟩) 1 cx)) (n0 : w.cell? ⟨bx, ox, none⟩ = some (.float .f32 u0)) (ln : bn < w.heap.size) (lx : bx < w.heap.size) (_hc : 1 ≤ cx) (_hm : cx ≤ 9223372036854775807) (hx : x < 4294967296) (hy : y < 4294967296) (hz : z < 4294967296) :
    Calls Tryz.prog 57 #[.pointer (some ⟨bn, on, none⟩), vec x y z] w (Vec (quo32 x u0) (quo32 y u0) (quo32 z u0) w) := by
  go_enter Tryz.func57, Tryz.ntmps57
  go_wp2_with fail
  generalize hW0 : (w.alloc (.cells #[.float .f32 x, .float .f32 y, .float .f32 z] 34)).alloc (.cells #[.float .f32 0, .float .f32 0, .float .f32 0] 34) = W0
  have hB0 : Below w.heap.size w W0 := by subst hW0; exact by (repeat (first | exact Below.refl _ _ | assumption | refine below_drewN ?_ _ | refine Below.setCell ?_ (by first | omega | (simp <;> omega)) _ | refine Below.alloc ?_ (by first | omega | (simp <;> omega)) _))
  have hK0 : W0.heap[w.heap.size]? = some (.cells #[.float .f32 x, .float .f32 y, .float .f32 z] 34) := by subst hW0; exact heap_alloc2_old _ _ _
  have hK1 : W0.heap[w.heap.size + 1]? = some (.cells #[.float .f32 0, .float .f32 0, .float .f32 0] 34) := by subst hW0; exact heap_alloc2_new _ _ _
  clear hW0
  have hZ0 : w.heap.size + 1 < W0.heap.size := (Array.getElem?_eq_some_iff.1 hK1).1
  have g0_0 : W0.cell? ⟨w.heap.size, 0, none⟩ = some (.float .f32 x) := cell_of_row W0 _ 0 _ _ _ hK0
  have f0_0 : W0.frozen? ⟨w.heap.size, 0, none⟩ = false := frozen_of_row W0 _ 0 _ _ hK0
  have g0_1 : W0.cell? ⟨w.heap.size, 1, none⟩ = some (.float .f32 y) := cell_of_row W0 _ 1 _ _ _ hK0
  have f0_1 : W0.frozen? ⟨w.heap.size, 1, none⟩ = false := frozen_of_row W0 _ 1 _ _ hK0
  have g0_2 : W0.cell? ⟨w.heap.size, 2, none⟩ = some (.float .f32 z) := cell_of_row W0 _ 2 _ _ _ hK0
  have f0_2 : W0.frozen? ⟨w.heap.size, 2, none⟩ = false := frozen_of_row W0 _ 2 _ _ hK0
  have l0 : w.heap.size < W0.heap.size := (Array.getElem?_eq_some_iff.1 hK0).1
  have g1_0 : W0.cell? ⟨w.heap.size + 1, 0, none⟩ = some (.float .f32 0) := cell_of_row W0 _ 0 _ _ _ hK1
  have f1_0 : W0.frozen? ⟨w.heap.size + 1, 0, none⟩ = false := frozen_of_row W0 _ 0 _ _ hK1
  have g1_1 : W0.cell? ⟨w.heap.size + 1, 1, none⟩ = some (.float .f32 0) := cell_of_row W0 _ 1 _ _ _ hK1
  have f1_1 : W0.frozen? ⟨w.heap.size + 1, 1, none⟩ = false := frozen_of_row W0 _ 1 _ _ hK1
  have g1_2 : W0.cell? ⟨w.heap.size + 1, 2, none⟩ = some (.float .f32 0) := cell_of_row W0 _ 2 _ _ _ hK1
  have f1_2 : W0.frozen? ⟨w.heap.size + 1, 2, none⟩ = false := frozen_of_row W0 _ 2 _ _ hK1
  have l1 : w.heap.size + 1 < W0.heap.size := (Array.getElem?_eq_some_iff.1 hK1).1
  replace c0 : W0.cell? ⟨bn, on, none⟩ = some (.int .i64 10) := ((Ext.cell (show Ext w W0 from hB0) (o := on) ln)).trans c0
  replace c3 : W0.cell? ⟨bn, on + 3, none⟩ = some (.slice (some ⟨bx, ox, none⟩) 1 cx) := ((Ext.cell (show Ext w W0 from hB0) (o := on + 3) ln)).trans c3
  replace n0 : W0.cell? ⟨bx, ox, none⟩ = some (.float .f32 u0) := ((Ext.cell (show Ext w W0 from hB0) (o := ox) lx)).trans n0
  replace ln := Nat.lt_of_lt_of_le ln (Ext.size' (show Ext w W0 from hB0))
  replace lx := Nat.lt_of_lt_of_le lx (Ext.size' (show Ext w W0 from hB0))
  refine wp_region_laterO 28 (SO (QL [])) (stays_SO _) (by kernel_rfl) (by kernel_rfl) ?_
  repeat (first | (refine later_exO rfl (fun K hK => ?_); apply Exists.intro; refine ⟨fun w' hw' => ?_, ?_⟩; (obtain ⟨hcc, hff⟩ := Grew.cells hw'; clear hw'; go_simp; rfl); go_simp; refine hK _ ?_; clear hK K))
  (refine later_f32O rfl rfl rfl rfl rfl ?_; intro p1 hp1 pe1)
  repeat (first | (refine later_exO rfl (fun K hK => ?_); apply Exists.intro; refine ⟨fun w' hw' => ?_, ?_⟩; (obtain ⟨hcc, hff⟩ := Grew.cells hw'; clear hw'; go_simp; rfl); go_simp; refine hK _ ?_; clear hK K))
  (refine later_f32O rfl rfl rfl rfl rfl ?_; intro p2 hp2 pe2)
  repeat (first | (refine later_exO rfl (fun K hK => ?_); apply Exists.intro; refine ⟨fun w' hw' => ?_, ?_⟩; (obtain ⟨hcc, hff⟩ := Grew.cells hw'; clear hw'; go_simp; rfl); go_simp; refine hK _ ?_; clear hK K))
  (refine later_f32O rfl rfl rfl rfl rfl ?_; intro p3 hp3 pe3)
  repeat (first | (refine later_exO rfl (fun K hK => ?_); apply Exists.intro; refine ⟨fun w' hw' => ?_, ?_⟩; (obtain ⟨hcc, hff⟩ := Grew.cells hw'; clear hw'; go_simp; rfl); go_simp; refine hK _ ?_; clear hK K))
  refine later_nilO ?_
  intro w4 hw4
  simp only [List.drop_succ_cons, List.drop_zero]
  clear g0_0 f0_0 g0_1 f0_1 g0_2 f0_2 l0 g1_0 f1_0 g1_1 f1_1 g1_2 f1_2 l1
  have hE0 : Ext W0 w4 := hw4
  have hB1 : Below w.heap.size w w4 := hB0.trans (hE0.mono hB0.size)
  replace hK0 := hE0.heap hK0
  replace hK1 := hE0.heap hK1
  have g0_0 : w4.cell? ⟨w.heap.size, 0, none⟩ = some (.float .f32 x) := cell_of_row w4 _ 0 _ _ _ hK0
  have f0_0 : w4.frozen? ⟨w.heap.size, 0, none⟩ = false := frozen_of_row w4 _ 0 _ _ hK0
  have g0_1 : w4.cell? ⟨w.heap.size, 1, none⟩ = some (.float .f32 y) := cell_of_row w4 _ 1 _ _ _ hK0
  have f0_1 : w4.frozen? ⟨w.heap.size, 1, none⟩ = false := frozen_of_row w4 _ 1 _ _ hK0
  have g0_2 : w4.cell? ⟨w.heap.size, 2, none⟩ = some (.float .f32 z) := cell_of_row w4 _ 2 _ _ _ hK0
  have f0_2 : w4.frozen? ⟨w.heap.size, 2, none⟩ = false := frozen_of_row w4 _ 2 _ _ hK0
  have l0 : w.heap.size < w4.heap.size := (Array.getElem?_eq_some_iff.1 hK0).1
  have g1_0 : w4.cell? ⟨w.heap.size + 1, 0, none⟩ = some (.float .f32 0) := cell_of_row w4 _ 0 _ _ _ hK1
  have f1_0 : w4.frozen? ⟨w.heap.size + 1, 0, none⟩ = false := frozen_of_row w4 _ 0 _ _ hK1
  have g1_1 : w4.cell? ⟨w.heap.size + 1, 1, none⟩ = some (.float .f32 0) := cell_of_row w4 _ 1 _ _ _ hK1
  have f1_1 : w4.frozen? ⟨w.heap.size + 1, 1, none⟩ = false := frozen_of_row w4 _ 1 _ _ hK1
  have g1_2 : w4.cell? ⟨w.heap.size + 1, 2, none⟩ = some (.float .f32 0) := cell_of_row w4 _ 2 _ _ _ hK1
  have f1_2 : w4.frozen? ⟨w.heap.size + 1, 2, none⟩ = false := frozen_of_row w4 _ 2 _ _ hK1
  have l1 : w.heap.size + 1 < w4.heap.size := (Array.getElem?_eq_some_iff.1 hK1).1
  replace c0 : w4.cell? ⟨bn, on, none⟩ = some (.int .i64 10) := ((Ext.cell hE0 (o := on) ln)).trans c0
  replace c3 : w4.cell? ⟨bn, on + 3, none⟩ = some (.slice (some ⟨bx, ox, none⟩) 1 cx) := ((Ext.cell hE0 (o := on + 3) ln)).trans c3
  replace n0 : w4.cell? ⟨bx, ox, none⟩ = some (.float .f32 u0) := ((Ext.cell hE0 (o := ox) lx)).trans n0
  replace ln := Nat.lt_of_lt_of_le ln (Ext.size' hE0)
  replace lx := Nat.lt_of_lt_of_le lx (Ext.size' hE0)
  clear hw4 
  go_wp2_with fail
  generalize hWs : ((w4.setCell ⟨w.heap.size + 1, 0, none⟩ (.float .f32 p1)).setCell ⟨w.heap.size + 1, 1, none⟩ (.float .f32 p2)).setCell ⟨w.heap.size + 1, 2, none⟩ (.float .f32 p3) = v9
  have hS : v9.heap[w.heap.size + 1]? = some (.cells #[.float .f32 p1, .float .f32 p2, .float .f32 p3] 34) := by
    subst hWs
    have s0 := heap_setCell_same (w4) _ 0 _ _ (.float .f32 p1) hK1
    have s1 := heap_setCell_same ((w4).setCell ⟨w.heap.size + 1, 0, none⟩ (.float .f32 p1)) _ 1 _ _ (.float .f32 p2) s0
    have s2 := heap_setCell_same (((w4).setCell ⟨w.heap.size + 1, 0, none⟩ (.float .f32 p1)).setCell ⟨w.heap.size + 1, 1, none⟩ (.float .f32 p2)) _ 2 _ _ (.float .f32 p3) s1
    simpa using s2
  have hO : ∀ q, q ≠ w.heap.size + 1 → v9.heap[q]? = w4.heap[q]? := fun q hq => by subst hWs; rw [heap_setCell_other _ _ _ _ hq, heap_setCell_other _ _ _ _ hq, heap_setCell_other _ _ _ _ hq]
  have hB2 : Below w.heap.size w v9 := by
    subst hWs
    have hle : w.heap.size ≤ w.heap.size + 1 := by omega
    refine Below.setCell ?_ hle _
    refine Below.setCell ?_ hle _
    refine Below.setCell ?_ hle _
    repeat (first | exact hB1 | refine below_drewN ?_ _)
  clear g0_0 f0_0 g0_1 f0_1 g0_2 f0_2 l0 g1_0 f1_0 g1_1 f1_1 g1_2 f1_2 l1
  replace hK0 := (hO _ (by omega)).trans hK0
  replace hK1 := hS
  clear hS hO hWs
  have g0_0 : v9.cell? ⟨w.heap.size, 0, none⟩ = some (.float .f32 x) := cell_of_row v9 _ 0 _ _ _ hK0
  have f0_0 : v9.frozen? ⟨w.heap.size, 0, none⟩ = false := frozen_of_row v9 _ 0 _ _ hK0
  have g0_1 : v9.cell? ⟨w.heap.size, 1, none⟩ = some (.float .f32 y) := cell_of_row v9 _ 1 _ _ _ hK0
  have f0_1 : v9.frozen? ⟨w.heap.size, 1, none⟩ = false := frozen_of_row v9 _ 1 _ _ hK0
  have g0_2 : v9.cell? ⟨w.heap.size, 2, none⟩ = some (.float .f32 z) := cell_of_row v9 _ 2 _ _ _ hK0
  have f0_2 : v9.frozen? ⟨w.heap.size, 2, none⟩ = false := frozen_of_row v9 _ 2 _ _ hK0
  have l0 : w.heap.size < v9.heap.size := (Array.getElem?_eq_some_iff.1 hK0).1
  have g1_0 : v9.cell? ⟨w.heap.size + 1, 0, none⟩ = some (.float .f32 p1) := cell_of_row v9 _ 0 _ _ _ hK1
  have f1_0 : v9.frozen? ⟨w.heap.size + 1, 0, none⟩ = false := frozen_of_row v9 _ 0 _ _ hK1
  have g1_1 : v9.cell? ⟨w.heap.size + 1, 1, none⟩ = some (.float .f32 p2) := cell_of_row v9 _ 1 _ _ _ hK1
  have f1_1 : v9.frozen? ⟨w.heap.size + 1, 1, none⟩ = false := frozen_of_row v9 _ 1 _ _ hK1
  have g1_2 : v9.cell? ⟨w.heap.size + 1, 2, none⟩ = some (.float .f32 p3) := cell_of_row v9 _ 2 _ _ _ hK1
  have f1_2 : v9.frozen? ⟨w.heap.size + 1, 2, none⟩ = false := frozen_of_row v9 _ 2 _ _ hK1
  have l1 : w.heap.size + 1 < v9.heap.size := (Array.getElem?_eq_some_iff.1 hK1).1
  exact bodyPost_ret (v := vec p1 p2 p3) (by simp [results, Tryz.results57, go_sem, g1_0, g1_1, g1_2]) rfl ⟨p1, p2, p3, rfl, hp1, hp2, hp3, pe1, pe2, pe3, hB2⟩
set_option maxHeartbeats 4000000 in
set_option maxRecDepth 100000 in
theorem mPoint_11 (bn on : Nat) (bx ox cx : Nat) (u0 u1 u2 : Nat) (x y z : Nat) (w : World) (c0 : w.cell? ⟨bn, on, none⟩ = some (.int .i64 11)) (c3 : w.cell? ⟨bn, on + 3, none⟩ = some (.slice (some ⟨bx, ox, none⟩) 3 cx)) (n0 : w.cell? ⟨bx, ox, none⟩ = some (.float .f32 u0)) (n1 : w.cell? ⟨bx, ox + 1, none⟩ = some (.float .f32 u1)) (n2 : w.cell? ⟨bx, ox + 2, none⟩ = some (.float .f32 u2)) (ln : bn < w.heap.size) (lx : bx < w.heap.size) (_hc : 3 ≤ cx) (_hm : cx ≤ 9223372036854775807) (hx : x < 4294967296) (hy : y < 4294967296) (hz : z < 4294967296) :
    Calls Tryz.prog 57 #[.pointer (some ⟨bn, on, none⟩), vec x y z] w (Vec (quo32 x u0) (quo32 y u1) (quo32 z u2) w) := by
  go_enter Tryz.func57, Tryz.ntmps57
  go_wp2_with fail
  generalize hW0 : (w.alloc (.cells #[.float .f32 x, .float .f32 y, .float .f32 z] 34)).alloc (.cells #[.float .f32 0, .float .f32 0, .float .f32 0] 34) = W0
  have hB0 : Below w.heap.size w W0 := by subst hW0; exact by (repeat (first | exact Below.refl _ _ | assumption | refine below_drewN ?_ _ | refine Below.setCell ?_ (by first | omega | (simp <;> omega)) _ | refine Below.alloc ?_ (by first | omega | (simp <;> omega)) _))
  have hK0 : W0.heap[w.heap.size]? = some (.cells #[.float .f32 x, .float .f32 y, .float .f32 z] 34) := by subst hW0; exact heap_alloc2_old _ _ _
  have hK1 : W0.heap[w.heap.size + 1]? = some (.cells #[.float .f32 0, .float .f32 0, .float .f32 0] 34) := by subst hW0; exact heap_alloc2_new _ _ _
  clear hW0
  have hZ0 : w.heap.size + 1 < W0.heap.size := (Array.getElem?_eq_some_iff.1 hK1).1
  have g0_0 : W0.cell? ⟨w.heap.size, 0, none⟩ = some (.float .f32 x) := cell_of_row W0 _ 0 _ _ _ hK0
  have f0_0 : W0.frozen? ⟨w.heap.size, 0, none⟩ = false := frozen_of_row W0 _ 0 _ _ hK0
  have g0_1 : W0.cell? ⟨w.heap.size, 1, none⟩ = some (.float .f32 y) := cell_of_row W0 _ 1 _ _ _ hK0
  have f0_1 : W0.frozen? ⟨w.heap.size, 1, none⟩ = false := frozen_of_row W0 _ 1 _ _ hK0
  have g0_2 : W0.cell? ⟨w.heap.size, 2, none⟩ = some (.float .f32 z) := cell_of_row W0 _ 2 _ _ _ hK0
  have f0_2 : W0.frozen? ⟨w.heap.size, 2, none⟩ = false := frozen_of_row W0 _ 2 _ _ hK0
  have l0 : w.heap.size < W0.heap.size := (Array.getElem?_eq_some_iff.1 hK0).1
  have g1_0 : W0.cell? ⟨w.heap.size + 1, 0, none⟩ = some (.float .f32 0) := cell_of_row W0 _ 0 _ _ _ hK1
  have f1_0 : W0.frozen? ⟨w.heap.size + 1, 0, none⟩ = false := frozen_of_row W0 _ 0 _ _ hK1
  have g1_1 : W0.cell? ⟨w.heap.size + 1, 1, none⟩ = some (.float .f32 0) := cell_of_row W0 _ 1 _ _ _ hK1
  have f1_1 : W0.frozen? ⟨w.heap.size + 1, 1, none⟩ = false := frozen_of_row W0 _ 1 _ _ hK1
  have g1_2 : W0.cell? ⟨w.heap.size + 1, 2, none⟩ = some (.float .f32 0) := cell_of_row W0 _ 2 _ _ _ hK1
  have f1_2 : W0.frozen? ⟨w.heap.size + 1, 2, none⟩ = false := frozen_of_row W0 _ 2 _ _ hK1
  have l1 : w.heap.size + 1 < W0.heap.size := (Array.getElem?_eq_some_iff.1 hK1).1
  replace c0 : W0.cell? ⟨bn, on, none⟩ = some (.int .i64 11) := ((Ext.cell (show Ext w W0 from hB0) (o := on) ln)).trans c0
  replace c3 : W0.cell? ⟨bn, on + 3, none⟩ = some (.slice (some ⟨bx, ox, none⟩) 3 cx) := ((Ext.cell (show Ext w W0 from hB0) (o := on + 3) ln)).trans c3
  replace n0 : W0.cell? ⟨bx, ox, none⟩ = some (.float .f32 u0) := ((Ext.cell (show Ext w W0 from hB0) (o := ox) lx)).trans n0
  replace n1 : W0.cell? ⟨bx, ox + 1, none⟩ = some (.float .f32 u1) := ((Ext.cell (show Ext w W0 from hB0) (o := ox + 1) lx)).trans n1
  replace n2 : W0.cell? ⟨bx, ox + 2, none⟩ = some (.float .f32 u2) := ((Ext.cell (show Ext w W0 from hB0) (o := ox + 2) lx)).trans n2
  replace ln := Nat.lt_of_lt_of_le ln (Ext.size' (show Ext w W0 from hB0))
  replace lx := Nat.lt_of_lt_of_le lx (Ext.size' (show Ext w W0 from hB0))
  refine wp_region_laterO 28 (SO (QL [])) (stays_SO _) (by kernel_rfl) (by kernel_rfl) ?_
  repeat (first | (refine later_exO rfl (fun K hK => ?_); apply Exists.intro; refine ⟨fun w' hw' => ?_, ?_⟩; (obtain ⟨hcc, hff⟩ := Grew.cells hw'; clear hw'; go_simp; rfl); go_simp; refine hK _ ?_; clear hK K))
  (refine later_f32O rfl rfl rfl rfl rfl ?_; intro p1 hp1 pe1)
  repeat (first | (refine later_exO rfl (fun K hK => ?_); apply Exists.intro; refine ⟨fun w' hw' => ?_, ?_⟩; (obtain ⟨hcc, hff⟩ := Grew.cells hw'; clear hw'; go_simp; rfl); go_simp; refine hK _ ?_; clear hK K))
  (refine later_f32O rfl rfl rfl rfl rfl ?_; intro p2 hp2 pe2)
  repeat (first | (refine later_exO rfl (fun K hK => ?_); apply Exists.intro; refine ⟨fun w' hw' => ?_, ?_⟩; (obtain ⟨hcc, hff⟩ := Grew.cells hw'; clear hw'; go_simp; rfl); go_simp; refine hK _ ?_; clear hK K))
  (refine later_f32O rfl rfl rfl rfl rfl ?_; intro p3 hp3 pe3)
  repeat (first | (refine later_exO rfl (fun K hK => ?_); apply Exists.intro; refine ⟨fun w' hw' => ?_, ?_⟩; (obtain ⟨hcc, hff⟩ := Grew.cells hw'; clear hw'; go_simp; rfl); go_simp; refine hK _ ?_; clear hK K))
  refine later_nilO ?_
  intro w4 hw4
  simp only [List.drop_succ_cons, List.drop_zero]
  clear g0_0 f0_0 g0_1 f0_1 g0_2 f0_2 l0 g1_0 f1_0 g1_1 f1_1 g1_2 f1_2 l1
  have hE0 : Ext W0 w4 := hw4
  have hB1 : Below w.heap.size w w4 := hB0.trans (hE0.mono hB0.size)
  replace hK0 := hE0.heap hK0
  replace hK1 := hE0.heap hK1
  have g0_0 : w4.cell? ⟨w.heap.size, 0, none⟩ = some (.float .f32 x) := cell_of_row w4 _ 0 _ _ _ hK0
  have f0_0 : w4.frozen? ⟨w.heap.size, 0, none⟩ = false := frozen_of_row w4 _ 0 _ _ hK0
  have g0_1 : w4.cell? ⟨w.heap.size, 1, none⟩ = some (.float .f32 y) := cell_of_row w4 _ 1 _ _ _ hK0
  have f0_1 : w4.frozen? ⟨w.heap.size, 1, none⟩ = false := frozen_of_row w4 _ 1 _ _ hK0
  have g0_2 : w4.cell? ⟨w.heap.size, 2, none⟩ = some (.float .f32 z) := cell_of_row w4 _ 2 _ _ _ hK0
  have f0_2 : w4.frozen? ⟨w.heap.size, 2, none⟩ = false := frozen_of_row w4 _ 2 _ _ hK0
  have l0 : w.heap.size < w4.heap.size := (Array.getElem?_eq_some_iff.1 hK0).1
  have g1_0 : w4.cell? ⟨w.heap.size + 1, 0, none⟩ = some (.float .f32 0) := cell_of_row w4 _ 0 _ _ _ hK1
  have f1_0 : w4.frozen? ⟨w.heap.size + 1, 0, none⟩ = false := frozen_of_row w4 _ 0 _ _ hK1
  have g1_1 : w4.cell? ⟨w.heap.size + 1, 1, none⟩ = some (.float .f32 0) := cell_of_row w4 _ 1 _ _ _ hK1
  have f1_1 : w4.frozen? ⟨w.heap.size + 1, 1, none⟩ = false := frozen_of_row w4 _ 1 _ _ hK1
  have g1_2 : w4.cell? ⟨w.heap.size + 1, 2, none⟩ = some (.float .f32 0) := cell_of_row w4 _ 2 _ _ _ hK1
  have f1_2 : w4.frozen? ⟨w.heap.size + 1, 2, none⟩ = false := frozen_of_row w4 _ 2 _ _ hK1
  have l1 : w.heap.size + 1 < w4.heap.size := (Array.getElem?_eq_some_iff.1 hK1).1
  replace c0 : w4.cell? ⟨bn, on, none⟩ = some (.int .i64 11) := ((Ext.cell hE0 (o := on) ln)).trans c0
  replace c3 : w4.cell? ⟨bn, on + 3, none⟩ = some (.slice (some ⟨bx, ox, none⟩) 3 cx) := ((Ext.cell hE0 (o := on + 3) ln)).trans c3
  replace n0 : w4.cell? ⟨bx, ox, none⟩ = some (.float .f32 u0) := ((Ext.cell hE0 (o := ox) lx)).trans n0
  replace n1 : w4.cell? ⟨bx, ox + 1, none⟩ = some (.float .f32 u1) := ((Ext.cell hE0 (o := ox + 1) lx)).trans n1
  replace n2 : w4.cell? ⟨bx, ox + 2, none⟩ = some (.float .f32 u2) := ((Ext.cell hE0 (o := ox + 2) lx)).trans n2
  replace ln := Nat.lt_of_lt_of_le ln (Ext.size' hE0)
  replace lx := Nat.lt_of_lt_of_le lx (Ext.size' hE0)
  clear hw4 
  go_wp2_with fail
  generalize hWs : ((w4.setCell ⟨w.heap.size + 1, 0, none⟩ (.float .f32 p1)).setCell ⟨w.heap.size + 1, 1, none⟩ (.float .f32 p2)).setCell ⟨w.heap.size + 1, 2, none⟩ (.float .f32 p3) = v9
  have hS : v9.heap[w.heap.size + 1]? = some (.cells #[.float .f32 p1, .float .f32 p2, .float .f32 p3] 34) := by
    subst hWs
    have s0 := heap_setCell_same (w4) _ 0 _ _ (.float .f32 p1) hK1
    have s1 := heap_setCell_same ((w4).setCell ⟨w.heap.size + 1, 0, none⟩ (.float .f32 p1)) _ 1 _ _ (.float .f32 p2) s0
    have s2 := heap_setCell_same (((w4).setCell ⟨w.heap.size + 1, 0, none⟩ (.float .f32 p1)).setCell ⟨w.heap.size + 1, 1, none⟩ (.float .f32 p2)) _ 2 _ _ (.float .f32 p3) s1
    simpa using s2
  have hO : ∀ q, q ≠ w.heap.size + 1 → v9.heap[q]? = w4.heap[q]? := fun q hq => by subst hWs; rw [heap_setCell_other _ _ _ _ hq, heap_setCell_other _ _ _ _ hq, heap_setCell_other _ _ _ _ hq]
  have hB2 : Below w.heap.size w v9 := by
    subst hWs
    have hle : w.heap.size ≤ w.heap.size + 1 := by omega
    refine Below.setCell ?_ hle _
    refine Below.setCell ?_ hle _
    refine Below.setCell ?_ hle _
    repeat (first | exact hB1 | refine below_drewN ?_ _)
  clear g0_0 f0_0 g0_1 f0_1 g0_2 f0_2 l0 g1_0 f1_0 g1_1 f1_1 g1_2 f1_2 l1
  replace hK0 := (hO _ (by omega)).trans hK0
  replace hK1 := hS
  clear hS hO hWs
  have g0_0 : v9.cell? ⟨w.heap.size, 0, none⟩ = some (.float .f32 x) := cell_of_row v9 _ 0 _ _ _ hK0
  have f0_0 : v9.frozen? ⟨w.heap.size, 0, none⟩ = false := frozen_of_row v9 _ 0 _ _ hK0
  have g0_1 : v9.cell? ⟨w.heap.size, 1, none⟩ = some (.float .f32 y) := cell_of_row v9 _ 1 _ _ _ hK0
  have f0_1 : v9.frozen? ⟨w.heap.size, 1, none⟩ = false := frozen_of_row v9 _ 1 _ _ hK0
  have g0_2 : v9.cell? ⟨w.heap.size, 2, none⟩ = some (.float .f32 z) := cell_of_row v9 _ 2 _ _ _ hK0
  have f0_2 : v9.frozen? ⟨w.heap.size, 2, none⟩ = false := frozen_of_row v9 _ 2 _ _ hK0
  have l0 : w.heap.size < v9.heap.size := (Array.getElem?_eq_some_iff.1 hK0).1
  have g1_0 : v9.cell? ⟨w.heap.size + 1, 0, none⟩ = some (.float .f32 p1) := cell_of_row v9 _ 0 _ _ _ hK1
  have f1_0 : v9.frozen? ⟨w.heap.size + 1, 0, none⟩ = false := frozen_of_row v9 _ 0 _ _ hK1
  have g1_1 : v9.cell? ⟨w.heap.size + 1, 1, none⟩ = some (.float .f32 p2) := cell_of_row v9 _ 1 _ _ _ hK1
  have f1_1 : v9.frozen? ⟨w.heap.size + 1, 1, none⟩ = false := frozen_of_row v9 _ 1 _ _ hK1
  have g1_2 : v9.cell? ⟨w.heap.size + 1, 2, none⟩ = some (.float .f32 p3) := cell_of_row v9 _ 2 _ _ _ hK1
  have f1_2 : v9.frozen? ⟨w.heap.size + 1, 2, none⟩ = false := frozen_of_row v9 _ 2 _ _ hK1
  have l1 : w.heap.size + 1 < v9.heap.size := (Array.getElem?_eq_some_iff.1 hK1).1
  exact bodyPost_ret (v := vec p1 p2 p3) (by simp [results, Tryz.results57, go_sem, g1_0, g1_1, g1_2]) rfl ⟨p1, p2, p3, rfl, hp1, hp2, hp3, pe1, pe2, pe3, hB2⟩
set_option maxHeartbeats 4000000 in
set_option maxRecDepth 100000 in
theorem mPoint_12_0 (bn on : Nat) (bx ox cx : Nat) (u0 : Nat) (x y z : Nat) (w : World) (c0 : w.cell? ⟨bn, on, none⟩ = some (.int .i64 12)) (c2 : w.cell? ⟨bn, on + 2, none⟩ = some (.int .i64 0)) (c3 : w.cell? ⟨bn, on + 3, none⟩ = some (.slice (some ⟨bx, ox, none⟩) 1 cx)) (n0 : w.cell? ⟨bx, ox, none⟩ = some (.float .f32 u0)) (ln : bn < w.heap.size) (lx : bx < w.heap.size) (_hc : 1 ≤ cx) (_hm : cx ≤ 9223372036854775807) (hx : x < 4294967296) (hy : y < 4294967296) (hz : z < 4294967296) (hu0 : u0 < 4294967296) :
    Calls Tryz.prog 57 #[.pointer (some ⟨bn, on, none⟩), vec x y z] w (Vec (turnP (turnC u0) (sineOf u0) 0 ⟨x, y, z⟩).x (turnP (turnC u0) (sineOf u0) 0 ⟨x, y, z⟩).y (turnP (turnC u0) (sineOf u0) 0 ⟨x, y, z⟩).z w) := by
  go_enter Tryz.func57, Tryz.ntmps57
  go_wp2_with fail
  generalize hW0 : (w.alloc (.cells #[.float .f32 x, .float .f32 y, .float .f32 z] 34)).alloc (.cells #[.float .f32 0, .float .f32 0, .float .f32 0] 34) = W0
  have hB0 : Below w.heap.size w W0 := by subst hW0; exact by (repeat (first | exact Below.refl _ _ | assumption | refine below_drewN ?_ _ | refine Below.setCell ?_ (by first | omega | (simp <;> omega)) _ | refine Below.alloc ?_ (by first | omega | (simp <;> omega)) _))
  have hK0 : W0.heap[w.heap.size]? = some (.cells #[.float .f32 x, .float .f32 y, .float .f32 z] 34) := by subst hW0; exact heap_alloc2_old _ _ _
  have hK1 : W0.heap[w.heap.size + 1]? = some (.cells #[.float .f32 0, .float .f32 0, .float .f32 0] 34) := by subst hW0; exact heap_alloc2_new _ _ _
  clear hW0
  have hZ0 : w.heap.size + 1 < W0.heap.size := (Array.getElem?_eq_some_iff.1 hK1).1
  have g0_0 : W0.cell? ⟨w.heap.size, 0, none⟩ = some (.float .f32 x) := cell_of_row W0 _ 0 _ _ _ hK0
  have f0_0 : W0.frozen? ⟨w.heap.size, 0, none⟩ = false := frozen_of_row W0 _ 0 _ _ hK0
  have g0_1 : W0.cell? ⟨w.heap.size, 1, none⟩ = some (.float .f32 y) := cell_of_row W0 _ 1 _ _ _ hK0
  have f0_1 : W0.frozen? ⟨w.heap.size, 1, none⟩ = false := frozen_of_row W0 _ 1 _ _ hK0
  have g0_2 : W0.cell? ⟨w.heap.size, 2, none⟩ = some (.float .f32 z) := cell_of_row W0 _ 2 _ _ _ hK0
  have f0_2 : W0.frozen? ⟨w.heap.size, 2, none⟩ = false := frozen_of_row W0 _ 2 _ _ hK0
  have l0 : w.heap.size < W0.heap.size := (Array.getElem?_eq_some_iff.1 hK0).1
  have g1_0 : W0.cell? ⟨w.heap.size + 1, 0, none⟩ = some (.float .f32 0) := cell_of_row W0 _ 0 _ _ _ hK1
  have f1_0 : W0.frozen? ⟨w.heap.size + 1, 0, none⟩ = false := frozen_of_row W0 _ 0 _ _ hK1
  have g1_1 : W0.cell? ⟨w.heap.size + 1, 1, none⟩ = some (.float .f32 0) := cell_of_row W0 _ 1 _ _ _ hK1
  have f1_1 : W0.frozen? ⟨w.heap.size + 1, 1, none⟩ = false := frozen_of_row W0 _ 1 _ _ hK1
  have g1_2 : W0.cell? ⟨w.heap.size + 1, 2, none⟩ = some (.float .f32 0) := cell_of_row W0 _ 2 _ _ _ hK1
  have f1_2 : W0.frozen? ⟨w.heap.size + 1, 2, none⟩ = false := frozen_of_row W0 _ 2 _ _ hK1
  have l1 : w.heap.size + 1 < W0.heap.size := (Array.getElem?_eq_some_iff.1 hK1).1
  replace c0 : W0.cell? ⟨bn, on, none⟩ = some (.int .i64 12) := ((Ext.cell (show Ext w W0 from hB0) (o := on) ln)).trans c0
  replace c2 : W0.cell? ⟨bn, on + 2, none⟩ = some (.int .i64 0) := ((Ext.cell (show Ext w W0 from hB0) (o := on + 2) ln)).trans c2
  replace c3 : W0.cell? ⟨bn, on + 3, none⟩ = some (.slice (some ⟨bx, ox, none⟩) 1 cx) := ((Ext.cell (show Ext w W0 from hB0) (o := on + 3) ln)).trans c3
  replace n0 : W0.cell? ⟨bx, ox, none⟩ = some (.float .f32 u0) := ((Ext.cell (show Ext w W0 from hB0) (o := ox) lx)).trans n0
  replace ln := Nat.lt_of_lt_of_le ln (Ext.size' (show Ext w W0 from hB0))
  replace lx := Nat.lt_of_lt_of_le lx (Ext.size' (show Ext w W0 from hB0))
  refine wp_region_laterO 12 (SO (QL [(105, V3 (turnP (turnC u0) (sineOf u0) 0 ⟨x, y, z⟩).x (turnP (turnC u0) (sineOf u0) 0 ⟨x, y, z⟩).y (turnP (turnC u0) (sineOf u0) 0 ⟨x, y, z⟩).z)])) (stays_SO _) (by kernel_rfl) (by kernel_rfl) ?_
  repeat (first | (refine later_exO rfl (fun K hK => ?_); apply Exists.intro; refine ⟨fun w' hw' => ?_, ?_⟩; (obtain ⟨hcc, hff⟩ := Grew.cells hw'; clear hw'; go_simp; rfl); go_simp; refine hK _ ?_; clear hK K))
  (refine later_callO rfl (fun K hK => ?_); go_simp; refine ⟨_, _, fun _ _ => ⟨rfl, rfl⟩, fun w1 hw1 => ?_, fun u y1 hx1 hu => ?_⟩)
  · refine (mTurned_0 _ _ _ _ _ hx hy hz hu0).mono ?_
    rintro e w2 ⟨r1, r2, r3, rfl, h1, h2, h3, e1, e2, e3, hb⟩
    exact ⟨_, rfl, ⟨r1, r2, r3, rfl, h1, h2, h3, e1, e2, e3⟩, hb⟩
  obtain ⟨p1, p2, p3, rfl, hp1, hp2, hp3, pe1, pe2, pe3⟩ : (V3 (turnP (turnC u0) (sineOf u0) 0 ⟨x, y, z⟩).x (turnP (turnC u0) (sineOf u0) 0 ⟨x, y, z⟩).y (turnP (turnC u0) (sineOf u0) 0 ⟨x, y, z⟩).z) u := hu
  (refine hK _ _ hx1 ?_; clear hK K)
  repeat (first | (refine later_exO rfl (fun K hK => ?_); apply Exists.intro; refine ⟨fun w' hw' => ?_, ?_⟩; (obtain ⟨hcc, hff⟩ := Grew.cells hw'; clear hw'; go_simp; rfl); go_simp; refine hK _ ?_; clear hK K))
  refine later_nilO ?_
  intro w4 hw4
  simp only [List.drop_succ_cons, List.drop_zero]
  clear g0_0 f0_0 g0_1 f0_1 g0_2 f0_2 l0 g1_0 f1_0 g1_1 f1_1 g1_2 f1_2 l1
  have hE0 : Ext W0 w4 := (hx1).trans hw4
  have hB1 : Below w.heap.size w w4 := hB0.trans (hE0.mono hB0.size)
  replace hK0 := hE0.heap hK0
  replace hK1 := hE0.heap hK1
  have g0_0 : w4.cell? ⟨w.heap.size, 0, none⟩ = some (.float .f32 x) := cell_of_row w4 _ 0 _ _ _ hK0
  have f0_0 : w4.frozen? ⟨w.heap.size, 0, none⟩ = false := frozen_of_row w4 _ 0 _ _ hK0
  have g0_1 : w4.cell? ⟨w.heap.size, 1, none⟩ = some (.float .f32 y) := cell_of_row w4 _ 1 _ _ _ hK0
  have f0_1 : w4.frozen? ⟨w.heap.size, 1, none⟩ = false := frozen_of_row w4 _ 1 _ _ hK0
  have g0_2 : w4.cell? ⟨w.heap.size, 2, none⟩ = some (.float .f32 z) := cell_of_row w4 _ 2 _ _ _ hK0
  have f0_2 : w4.frozen? ⟨w.heap.size, 2, none⟩ = false := frozen_of_row w4 _ 2 _ _ hK0
  have l0 : w.heap.size < w4.heap.size := (Array.getElem?_eq_some_iff.1 hK0).1
  have g1_0 : w4.cell? ⟨w.heap.size + 1, 0, none⟩ = some (.float .f32 0) := cell_of_row w4 _ 0 _ _ _ hK1
  have f1_0 : w4.frozen? ⟨w.heap.size + 1, 0, none⟩ = false := frozen_of_row w4 _ 0 _ _ hK1
  have g1_1 : w4.cell? ⟨w.heap.size + 1, 1, none⟩ = some (.float .f32 0) := cell_of_row w4 _ 1 _ _ _ hK1
  have f1_1 : w4.frozen? ⟨w.heap.size + 1, 1, none⟩ = false := frozen_of_row w4 _ 1 _ _ hK1
  have g1_2 : w4.cell? ⟨w.heap.size + 1, 2, none⟩ = some (.float .f32 0) := cell_of_row w4 _ 2 _ _ _ hK1
  have f1_2 : w4.frozen? ⟨w.heap.size + 1, 2, none⟩ = false := frozen_of_row w4 _ 2 _ _ hK1
  have l1 : w.heap.size + 1 < w4.heap.size := (Array.getElem?_eq_some_iff.1 hK1).1
  replace c0 : w4.cell? ⟨bn, on, none⟩ = some (.int .i64 12) := ((Ext.cell hE0 (o := on) ln)).trans c0
  replace c2 : w4.cell? ⟨bn, on + 2, none⟩ = some (.int .i64 0) := ((Ext.cell hE0 (o := on + 2) ln)).trans c2
  replace c3 : w4.cell? ⟨bn, on + 3, none⟩ = some (.slice (some ⟨bx, ox, none⟩) 1 cx) := ((Ext.cell hE0 (o := on + 3) ln)).trans c3
  replace n0 : w4.cell? ⟨bx, ox, none⟩ = some (.float .f32 u0) := ((Ext.cell hE0 (o := ox) lx)).trans n0
  replace ln := Nat.lt_of_lt_of_le ln (Ext.size' hE0)
  replace lx := Nat.lt_of_lt_of_le lx (Ext.size' hE0)
  clear hw4 hx1
  go_wp2_with fail
  generalize hWs : ((w4.setCell ⟨w.heap.size + 1, 0, none⟩ (.float .f32 p1)).setCell ⟨w.heap.size + 1, 1, none⟩ (.float .f32 p2)).setCell ⟨w.heap.size + 1, 2, none⟩ (.float .f32 p3) = v9
  have hS : v9.heap[w.heap.size + 1]? = some (.cells #[.float .f32 p1, .float .f32 p2, .float .f32 p3] 34) := by
    subst hWs
    have s0 := heap_setCell_same (w4) _ 0 _ _ (.float .f32 p1) hK1
    have s1 := heap_setCell_same ((w4).setCell ⟨w.heap.size + 1, 0, none⟩ (.float .f32 p1)) _ 1 _ _ (.float .f32 p2) s0
    have s2 := heap_setCell_same (((w4).setCell ⟨w.heap.size + 1, 0, none⟩ (.float .f32 p1)).setCell ⟨w.heap.size + 1, 1, none⟩ (.float .f32 p2)) _ 2 _ _ (.float .f32 p3) s1
    simpa using s2
  have hO : ∀ q, q ≠ w.heap.size + 1 → v9.heap[q]? = w4.heap[q]? := fun q hq => by subst hWs; rw [heap_setCell_other _ _ _ _ hq, heap_setCell_other _ _ _ _ hq, heap_setCell_other _ _ _ _ hq]
  have hB2 : Below w.heap.size w v9 := by
    subst hWs
    have hle : w.heap.size ≤ w.heap.size + 1 := by omega
    refine Below.setCell ?_ hle _
    refine Below.setCell ?_ hle _
    refine Below.setCell ?_ hle _
    repeat (first | exact hB1 | refine below_drewN ?_ _)
  clear g0_0 f0_0 g0_1 f0_1 g0_2 f0_2 l0 g1_0 f1_0 g1_1 f1_1 g1_2 f1_2 l1
  replace hK0 := (hO _ (by omega)).trans hK0
  replace hK1 := hS
  clear hS hO hWs
  have g0_0 : v9.cell? ⟨w.heap.size, 0, none⟩ = some (.float .f32 x) := cell_of_row v9 _ 0 _ _ _ hK0
  have f0_0 : v9.frozen? ⟨w.heap.size, 0, none⟩ = false := frozen_of_row v9 _ 0 _ _ hK0
  have g0_1 : v9.cell? ⟨w.heap.size, 1, none⟩ = some (.float .f32 y) := cell_of_row v9 _ 1 _ _ _ hK0
  have f0_1 : v9.frozen? ⟨w.heap.size, 1, none⟩ = false := frozen_of_row v9 _ 1 _ _ hK0
  have g0_2 : v9.cell? ⟨w.heap.size, 2, none⟩ = some (.float .f32 z) := cell_of_row v9 _ 2 _ _ _ hK0
  have f0_2 : v9.frozen? ⟨w.heap.size, 2, none⟩ = false := frozen_of_row v9 _ 2 _ _ hK0
  have l0 : w.heap.size < v9.heap.size := (Array.getElem?_eq_some_iff.1 hK0).1
  have g1_0 : v9.cell? ⟨w.heap.size + 1, 0, none⟩ = some (.float .f32 p1) := cell_of_row v9 _ 0 _ _ _ hK1
  have f1_0 : v9.frozen? ⟨w.heap.size + 1, 0, none⟩ = false := frozen_of_row v9 _ 0 _ _ hK1
  have g1_1 : v9.cell? ⟨w.heap.size + 1, 1, none⟩ = some (.float .f32 p2) := cell_of_row v9 _ 1 _ _ _ hK1
  have f1_1 : v9.frozen? ⟨w.heap.size + 1, 1, none⟩ = false := frozen_of_row v9 _ 1 _ _ hK1
  have g1_2 : v9.cell? ⟨w.heap.size + 1, 2, none⟩ = some (.float .f32 p3) := cell_of_row v9 _ 2 _ _ _ hK1
  have f1_2 : v9.frozen? ⟨w.heap.size + 1, 2, none⟩ = false := frozen_of_row v9 _ 2 _ _ hK1
  have l1 : w.heap.size + 1 < v9.heap.size := (Array.getElem?_eq_some_iff.1 hK1).1
  exact bodyPost_ret (v := vec p1 p2 p3) (by simp [results, Tryz.results57, go_sem, g1_0, g1_1, g1_2]) rfl ⟨p1, p2, p3, rfl, hp1, hp2, hp3, pe1, pe2, pe3, hB2⟩
set_option maxHeartbeats 4000000 in
set_option maxRecDepth 100000 in
theorem mPoint_12_1 (bn on : Nat) (bx ox cx : Nat) (u0 : Nat) (x y z : Nat) (w : World) (c0 : w.cell? ⟨bn, on, none⟩ = some (.int .i64 12)) (c2 : w.cell? ⟨bn, on + 2, none⟩ = some (.int .i64 1)) (c3 : w.cell? ⟨bn, on + 3, none⟩ = some (.slice (some ⟨bx, ox, none⟩) 1 cx)) (n0 : w.cell? ⟨bx, ox, none⟩ = some (.float .f32 u0)) (ln : bn < w.heap.size) (lx : bx < w.heap.size) (_hc : 1 ≤ cx) (_hm : cx ≤ 9223372036854775807) (hx : x < 4294967296) (hy : y < 4294967296) (hz : z < 4294967296) (hu0 : u0 < 4294967296) :
    Calls Tryz.prog 57 #[.pointer (some ⟨bn, on, none⟩), vec x y z] w (Vec (turnP (turnC u0) (sineOf u0) 1 ⟨x, y, z⟩).x (turnP (turnC u0) (sineOf u0) 1 ⟨x, y, z⟩).y (turnP (turnC u0) (sineOf u0) 1 ⟨x, y, z⟩).z w) := by
  go_enter Tryz.func57, Tryz.ntmps57
  go_wp2_with fail
  generalize hW0 : (w.alloc (.cells #[.float .f32 x, .float .f32 y, .float .f32 z] 34)).alloc (.cells #[.float .f32 0, .float .f32 0, .float .f32 0] 34) = W0
  have hB0 : Below w.heap.size w W0 := by subst hW0; exact by (repeat (first | exact Below.refl _ _ | assumption | refine below_drewN ?_ _ | refine Below.setCell ?_ (by first | omega | (simp <;> omega)) _ | refine Below.alloc ?_ (by first | omega | (simp <;> omega)) _))
  have hK0 : W0.heap[w.heap.size]? = some (.cells #[.float .f32 x, .float .f32 y, .float .f32 z] 34) := by subst hW0; exact heap_alloc2_old _ _ _
  have hK1 : W0.heap[w.heap.size + 1]? = some (.cells #[.float .f32 0, .float .f32 0, .float .f32 0] 34) := by subst hW0; exact heap_alloc2_new _ _ _
  clear hW0
  have hZ0 : w.heap.size + 1 < W0.heap.size := (Array.getElem?_eq_some_iff.1 hK1).1
  have g0_0 : W0.cell? ⟨w.heap.size, 0, none⟩ = some (.float .f32 x) := cell_of_row W0 _ 0 _ _ _ hK0
  have f0_0 : W0.frozen? ⟨w.heap.size, 0, none⟩ = false := frozen_of_row W0 _ 0 _ _ hK0
  have g0_1 : W0.cell? ⟨w.heap.size, 1, none⟩ = some (.float .f32 y) := cell_of_row W0 _ 1 _ _ _ hK0
  have f0_1 : W0.frozen? ⟨w.heap.size, 1, none⟩ = false := frozen_of_row W0 _ 1 _ _ hK0
  have g0_2 : W0.cell? ⟨w.heap.size, 2, none⟩ = some (.float .f32 z) := cell_of_row W0 _ 2 _ _ _ hK0
  have f0_2 : W0.frozen? ⟨w.heap.size, 2, none⟩ = false := frozen_of_row W0 _ 2 _ _ hK0
  have l0 : w.heap.size < W0.heap.size := (Array.getElem?_eq_some_iff.1 hK0).1
  have g1_0 : W0.cell? ⟨w.heap.size + 1, 0, none⟩ = some (.float .f32 0) := cell_of_row W0 _ 0 _ _ _ hK1
  have f1_0 : W0.frozen? ⟨w.heap.size + 1, 0, none⟩ = false := frozen_of_row W0 _ 0 _ _ hK1
  have g1_1 : W0.cell? ⟨w.heap.size + 1, 1, none⟩ = some (.float .f32 0) := cell_of_row W0 _ 1 _ _ _ hK1
  have f1_1 : W0.frozen? ⟨w.heap.size + 1, 1, none⟩ = false := frozen_of_row W0 _ 1 _ _ hK1
  have g1_2 : W0.cell? ⟨w.heap.size + 1, 2, none⟩ = some (.float .f32 0) := cell_of_row W0 _ 2 _ _ _ hK1
  have f1_2 : W0.frozen? ⟨w.heap.size + 1, 2, none⟩ = false := frozen_of_row W0 _ 2 _ _ hK1
  have l1 : w.heap.size + 1 < W0.heap.size := (Array.getElem?_eq_some_iff.1 hK1).1
  replace c0 : W0.cell? ⟨bn, on, none⟩ = some (.int .i64 12) := ((Ext.cell (show Ext w W0 from hB0) (o := on) ln)).trans c0
  replace c2 : W0.cell? ⟨bn, on + 2, none⟩ = some (.int .i64 1) := ((Ext.cell (show Ext w W0 from hB0) (o := on + 2) ln)).trans c2
  replace c3 : W0.cell? ⟨bn, on + 3, none⟩ = some (.slice (some ⟨bx, ox, none⟩) 1 cx) := ((Ext.cell (show Ext w W0 from hB0) (o := on + 3) ln)).trans c3
  replace n0 : W0.cell? ⟨bx, ox, none⟩ = some (.float .f32 u0) := ((Ext.cell (show Ext w W0 from hB0) (o := ox) lx)).trans n0
  replace ln := Nat.lt_of_lt_of_le ln (Ext.size' (show Ext w W0 from hB0))
  replace lx := Nat.lt_of_lt_of_le lx (Ext.size' (show Ext w W0 from hB0))
  refine wp_region_laterO 12 (SO (QL [(105, V3 (turnP (turnC u0) (sineOf u0) 1 ⟨x, y, z⟩).x (turnP (turnC u0) (sineOf u0) 1 ⟨x, y, z⟩).y (turnP (turnC u0) (sineOf u0) 1 ⟨x, y, z⟩).z)])) (stays_SO _) (by kernel_rfl) (by kernel_rfl) ?_
  repeat (first | (refine later_exO rfl (fun K hK => ?_); apply Exists.intro; refine ⟨fun w' hw' => ?_, ?_⟩; (obtain ⟨hcc, hff⟩ := Grew.cells hw'; clear hw'; go_simp; rfl); go_simp; refine hK _ ?_; clear hK K))
  (refine later_callO rfl (fun K hK => ?_); go_simp; refine ⟨_, _, fun _ _ => ⟨rfl, rfl⟩, fun w1 hw1 => ?_, fun u y1 hx1 hu => ?_⟩)
  · refine (mTurned_1 _ _ _ _ _ hx hy hz hu0).mono ?_
    rintro e w2 ⟨r1, r2, r3, rfl, h1, h2, h3, e1, e2, e3, hb⟩
    exact ⟨_, rfl, ⟨r1, r2, r3, rfl, h1, h2, h3, e1, e2, e3⟩, hb⟩
  obtain ⟨p1, p2, p3, rfl, hp1, hp2, hp3, pe1, pe2, pe3⟩ : (V3 (turnP (turnC u0) (sineOf u0) 1 ⟨x, y, z⟩).x (turnP (turnC u0) (sineOf u0) 1 ⟨x, y, z⟩).y (turnP (turnC u0) (sineOf u0) 1 ⟨x, y, z⟩).z) u := hu
  (refine hK _ _ hx1 ?_; clear hK K)
  repeat (first | (refine later_exO rfl (fun K hK => ?_); apply Exists.intro; refine ⟨fun w' hw' => ?_, ?_⟩; (obtain ⟨hcc, hff⟩ := Grew.cells hw'; clear hw'; go_simp; rfl); go_simp; refine hK _ ?_; clear hK K))
  refine later_nilO ?_
  intro w4 hw4
  simp only [List.drop_succ_cons, List.drop_zero]
  clear g0_0 f0_0 g0_1 f0_1 g0_2 f0_2 l0 g1_0 f1_0 g1_1 f1_1 g1_2 f1_2 l1
  have hE0 : Ext W0 w4 := (hx1).trans hw4
  have hB1 : Below w.heap.size w w4 := hB0.trans (hE0.mono hB0.size)
  replace hK0 := hE0.heap hK0
  replace hK1 := hE0.heap hK1
  have g0_0 : w4.cell? ⟨w.heap.size, 0, none⟩ = some (.float .f32 x) := cell_of_row w4 _ 0 _ _ _ hK0
  have f0_0 : w4.frozen? ⟨w.heap.size, 0, none⟩ = false := frozen_of_row w4 _ 0 _ _ hK0
  have g0_1 : w4.cell? ⟨w.heap.size, 1, none⟩ = some (.float .f32 y) := cell_of_row w4 _ 1 _ _ _ hK0
  have f0_1 : w4.frozen? ⟨w.heap.size, 1, none⟩ = false := frozen_of_row w4 _ 1 _ _ hK0
  have g0_2 : w4.cell? ⟨w.heap.size, 2, none⟩ = some (.float .f32 z) := cell_of_row w4 _ 2 _ _ _ hK0
  have f0_2 : w4.frozen? ⟨w.heap.size, 2, none⟩ = false := frozen_of_row w4 _ 2 _ _ hK0
  have l0 : w.heap.size < w4.heap.size := (Array.getElem?_eq_some_iff.1 hK0).1
  have g1_0 : w4.cell? ⟨w.heap.size + 1, 0, none⟩ = some (.float .f32 0) := cell_of_row w4 _ 0 _ _ _ hK1
  have f1_0 : w4.frozen? ⟨w.heap.size + 1, 0, none⟩ = false := frozen_of_row w4 _ 0 _ _ hK1
  have g1_1 : w4.cell? ⟨w.heap.size + 1, 1, none⟩ = some (.float .f32 0) := cell_of_row w4 _ 1 _ _ _ hK1
  have f1_1 : w4.frozen? ⟨w.heap.size + 1, 1, none⟩ = false := frozen_of_row w4 _ 1 _ _ hK1
  have g1_2 : w4.cell? ⟨w.heap.size + 1, 2, none⟩ = some (.float .f32 0) := cell_of_row w4 _ 2 _ _ _ hK1
  have f1_2 : w4.frozen? ⟨w.heap.size + 1, 2, none⟩ = false := frozen_of_row w4 _ 2 _ _ hK1
  have l1 : w.heap.size + 1 < w4.heap.size := (Array.getElem?_eq_some_iff.1 hK1).1
  replace c0 : w4.cell? ⟨bn, on, none⟩ = some (.int .i64 12) := ((Ext.cell hE0 (o := on) ln)).trans c0
  replace c2 : w4.cell? ⟨bn, on + 2, none⟩ = some (.int .i64 1) := ((Ext.cell hE0 (o := on + 2) ln)).trans c2
  replace c3 : w4.cell? ⟨bn, on + 3, none⟩ = some (.slice (some ⟨bx, ox, none⟩) 1 cx) := ((Ext.cell hE0 (o := on + 3) ln)).trans c3
  replace n0 : w4.cell? ⟨bx, ox, none⟩ = some (.float .f32 u0) := ((Ext.cell hE0 (o := ox) lx)).trans n0
  replace ln := Nat.lt_of_lt_of_le ln (Ext.size' hE0)
  replace lx := Nat.lt_of_lt_of_le lx (Ext.size' hE0)
  clear hw4 hx1
  go_wp2_with fail
  generalize hWs : ((w4.setCell ⟨w.heap.size + 1, 0, none⟩ (.float .f32 p1)).setCell ⟨w.heap.size + 1, 1, none⟩ (.float .f32 p2)).setCell ⟨w.heap.size + 1, 2, none⟩ (.float .f32 p3) = v9
  have hS : v9.heap[w.heap.size + 1]? = some (.cells #[.float .f32 p1, .float .f32 p2, .float .f32 p3] 34) := by
    subst hWs
    have s0 := heap_setCell_same (w4) _ 0 _ _ (.float .f32 p1) hK1
    have s1 := heap_setCell_same ((w4).setCell ⟨w.heap.size + 1, 0, none⟩ (.float .f32 p1)) _ 1 _ _ (.float .f32 p2) s0
    have s2 := heap_setCell_same (((w4).setCell ⟨w.heap.size + 1, 0, none⟩ (.float .f32 p1)).setCell ⟨w.heap.size + 1, 1, none⟩ (.float .f32 p2)) _ 2 _ _ (.float .f32 p3) s1
    simpa using s2
  have hO : ∀ q, q ≠ w.heap.size + 1 → v9.heap[q]? = w4.heap[q]? := fun q hq => by subst hWs; rw [heap_setCell_other _ _ _ _ hq, heap_setCell_other _ _ _ _ hq, heap_setCell_other _ _ _ _ hq]
  have hB2 : Below w.heap.size w v9 := by
    subst hWs
    have hle : w.heap.size ≤ w.heap.size + 1 := by omega
    refine Below.setCell ?_ hle _
    refine Below.setCell ?_ hle _
    refine Below.setCell ?_ hle _
    repeat (first | exact hB1 | refine below_drewN ?_ _)
  clear g0_0 f0_0 g0_1 f0_1 g0_2 f0_2 l0 g1_0 f1_0 g1_1 f1_1 g1_2 f1_2 l1
  replace hK0 := (hO _ (by omega)).trans hK0
  replace hK1 := hS
  clear hS hO hWs
  have g0_0 : v9.cell? ⟨w.heap.size, 0, none⟩ = some (.float .f32 x) := cell_of_row v9 _ 0 _ _ _ hK0
  have f0_0 : v9.frozen? ⟨w.heap.size, 0, none⟩ = false := frozen_of_row v9 _ 0 _ _ hK0
  have g0_1 : v9.cell? ⟨w.heap.size, 1, none⟩ = some (.float .f32 y) := cell_of_row v9 _ 1 _ _ _ hK0
  have f0_1 : v9.frozen? ⟨w.heap.size, 1, none⟩ = false := frozen_of_row v9 _ 1 _ _ hK0
  have g0_2 : v9.cell? ⟨w.heap.size, 2, none⟩ = some (.float .f32 z) := cell_of_row v9 _ 2 _ _ _ hK0
  have f0_2 : v9.frozen? ⟨w.heap.size, 2, none⟩ = false := frozen_of_row v9 _ 2 _ _ hK0
  have l0 : w.heap.size < v9.heap.size := (Array.getElem?_eq_some_iff.1 hK0).1
  have g1_0 : v9.cell? ⟨w.heap.size + 1, 0, none⟩ = some (.float .f32 p1) := cell_of_row v9 _ 0 _ _ _ hK1
  have f1_0 : v9.frozen? ⟨w.heap.size + 1, 0, none⟩ = false := frozen_of_row v9 _ 0 _ _ hK1
  have g1_1 : v9.cell? ⟨w.heap.size + 1, 1, none⟩ = some (.float .f32 p2) := cell_of_row v9 _ 1 _ _ _ hK1
  have f1_1 : v9.frozen? ⟨w.heap.size + 1, 1, none⟩ = false := frozen_of_row v9 _ 1 _ _ hK1
  have g1_2 : v9.cell? ⟨w.heap.size + 1, 2, none⟩ = some (.float .f32 p3) := cell_of_row v9 _ 2 _ _ _ hK1
  have f1_2 : v9.frozen? ⟨w.heap.size + 1, 2, none⟩ = false := frozen_of_row v9 _ 2 _ _ hK1
  have l1 : w.heap.size + 1 < v9.heap.size := (Array.getElem?_eq_some_iff.1 hK1).1
  exact bodyPost_ret (v := vec p1 p2 p3) (by simp [results, Tryz.results57, go_sem, g1_0, g1_1, g1_2]) rfl ⟨p1, p2, p3, rfl, hp1, hp2, hp3, pe1, pe2, pe3, hB2⟩
set_option maxHeartbeats 4000000 in
set_option maxRecDepth 100000 in
theorem mPoint_12_2 (bn on : Nat) (bx ox cx : Nat) (u0 : Nat) (x y z : Nat) (w : World) (c0 : w.cell? ⟨bn, on, none⟩ = some (.int .i64 12)) (c2 : w.cell? ⟨bn, on + 2, none⟩ = some (.int .i64 2)) (c3 : w.cell? ⟨bn, on + 3, none⟩ = some (.slice (some ⟨bx, ox, none⟩) 1 cx)) (n0 : w.cell? ⟨bx, ox, none⟩ = some (.float .f32 u0)) (ln : bn < w.heap.size) (lx : bx < w.heap.size) (_hc : 1 ≤ cx) (_hm : cx ≤ 9223372036854775807) (hx : x < 4294967296) (hy : y < 4294967296) (hz : z < 4294967296) (hu0 : u0 < 4294967296) :
    Calls Tryz.prog 57 #[.pointer (some ⟨bn, on, none⟩), vec x y z] w (Vec (turnP (turnC u0) (sineOf u0) 2 ⟨x, y, z⟩).x (turnP (turnC u0) (sineOf u0) 2 ⟨x, y, z⟩).y (turnP (turnC u0) (sineOf u0) 2 ⟨x, y, z⟩).z w) := by
  go_enter Tryz.func57, Tryz.ntmps57
  go_wp2_with fail
  generalize hW0 : (w.alloc (.cells #[.float .f32 x, .float .f32 y, .float .f32 z] 34)).alloc (.cells #[.float .f32 0, .float .f32 0, .float .f32 0] 34) = W0
  have hB0 : Below w.heap.size w W0 := by subst hW0; exact by (repeat (first | exact Below.refl _ _ | assumption | refine below_drewN ?_ _ | refine Below.setCell ?_ (by first | omega | (simp <;> omega)) _ | refine Below.alloc ?_ (by first | omega | (simp <;> omega)) _))
  have hK0 : W0.heap[w.heap.size]? = some (.cells #[.float .f32 x, .float .f32 y, .float .f32 z] 34) := by subst hW0; exact heap_alloc2_old _ _ _
  have hK1 : W0.heap[w.heap.size + 1]? = some (.cells #[.float .f32 0, .float .f32 0, .float .f32 0] 34) := by subst hW0; exact heap_alloc2_new _ _ _
  clear hW0
  have hZ0 : w.heap.size + 1 < W0.heap.size := (Array.getElem?_eq_some_iff.1 hK1).1
  have g0_0 : W0.cell? ⟨w.heap.size, 0, none⟩ = some (.float .f32 x) := cell_of_row W0 _ 0 _ _ _ hK0
  have f0_0 : W0.frozen? ⟨w.heap.size, 0, none⟩ = false := frozen_of_row W0 _ 0 _ _ hK0
  have g0_1 : W0.cell? ⟨w.heap.size, 1, none⟩ = some (.float .f32 y) := cell_of_row W0 _ 1 _ _ _ hK0
  have f0_1 : W0.frozen? ⟨w.heap.size, 1, none⟩ = false := frozen_of_row W0 _ 1 _ _ hK0
  have g0_2 : W0.cell? ⟨w.heap.size, 2, none⟩ = some (.float .f32 z) := cell_of_row W0 _ 2 _ _ _ hK0
  have f0_2 : W0.frozen? ⟨w.heap.size, 2, none⟩ = false := frozen_of_row W0 _ 2 _ _ hK0
  have l0 : w.heap.size < W0.heap.size := (Array.getElem?_eq_some_iff.1 hK0).1
  have g1_0 : W0.cell? ⟨w.heap.size + 1, 0, none⟩ = some (.float .f32 0) := cell_of_row W0 _ 0 _ _ _ hK1
  have f1_0 : W0.frozen? ⟨w.heap.size + 1, 0, none⟩ = false := frozen_of_row W0 _ 0 _ _ hK1
  have g1_1 : W0.cell? ⟨w.heap.size + 1, 1, none⟩ = some (.float .f32 0) := cell_of_row W0 _ 1 _ _ _ hK1
  have f1_1 : W0.frozen? ⟨w.heap.size + 1, 1, none⟩ = false := frozen_of_row W0 _ 1 _ _ hK1
  have g1_2 : W0.cell? ⟨w.heap.size + 1, 2, none⟩ = some (.float .f32 0) := cell_of_row W0 _ 2 _ _ _ hK1
  have f1_2 : W0.frozen? ⟨w.heap.size + 1, 2, none⟩ = false := frozen_of_row W0 _ 2 _ _ hK1
  have l1 : w.heap.size + 1 < W0.heap.size := (Array.getElem?_eq_some_iff.1 hK1).1
  replace c0 : W0.cell? ⟨bn, on, none⟩ = some (.int .i64 12) := ((Ext.cell (show Ext w W0 from hB0) (o := on) ln)).trans c0
  replace c2 : W0.cell? ⟨bn, on + 2, none⟩ = some (.int .i64 2) := ((Ext.cell (show Ext w W0 from hB0) (o := on + 2) ln)).trans c2
  replace c3 : W0.cell? ⟨bn, on + 3, none⟩ = some (.slice (some ⟨bx, ox, none⟩) 1 cx) := ((Ext.cell (show Ext w W0 from hB0) (o := on + 3) ln)).trans c3
  replace n0 : W0.cell? ⟨bx, ox, none⟩ = some (.float .f32 u0) := ((Ext.cell (show Ext w W0 from hB0) (o := ox) lx)).trans n0
  replace ln := Nat.lt_of_lt_of_le ln (Ext.size' (show Ext w W0 from hB0))
  replace lx := Nat.lt_of_lt_of_le lx (Ext.size' (show Ext w W0 from hB0))
  refine wp_region_laterO 12 (SO (QL [(105, V3 (turnP (turnC u0) (sineOf u0) 2 ⟨x, y, z⟩).x (turnP (turnC u0) (sineOf u0) 2 ⟨x, y, z⟩).y (turnP (turnC u0) (sineOf u0) 2 ⟨x, y, z⟩).z)])) (stays_SO _) (by kernel_rfl) (by kernel_rfl) ?_
  repeat (first | (refine later_exO rfl (fun K hK => ?_); apply Exists.intro; refine ⟨fun w' hw' => ?_, ?_⟩; (obtain ⟨hcc, hff⟩ := Grew.cells hw'; clear hw'; go_simp; rfl); go_simp; refine hK _ ?_; clear hK K))
  (refine later_callO rfl (fun K hK => ?_); go_simp; refine ⟨_, _, fun _ _ => ⟨rfl, rfl⟩, fun w1 hw1 => ?_, fun u y1 hx1 hu => ?_⟩)
  · refine (mTurned_2 _ _ _ _ _ hx hy hz hu0).mono ?_
    rintro e w2 ⟨r1, r2, r3, rfl, h1, h2, h3, e1, e2, e3, hb⟩
    exact ⟨_, rfl, ⟨r1, r2, r3, rfl, h1, h2, h3, e1, e2, e3⟩, hb⟩
  obtain ⟨p1, p2, p3, rfl, hp1, hp2, hp3, pe1, pe2, pe3⟩ : (V3 (turnP (turnC u0) (sineOf u0) 2 ⟨x, y, z⟩).x (turnP (turnC u0) (sineOf u0) 2 ⟨x, y, z⟩).y (turnP (turnC u0) (sineOf u0) 2 ⟨x, y, z⟩).z) u := hu
  (refine hK _ _ hx1 ?_; clear hK K)
  repeat (first | (refine later_exO rfl (fun K hK => ?_); apply Exists.intro; refine ⟨fun w' hw' => ?_, ?_⟩; (obtain ⟨hcc, hff⟩ := Grew.cells hw'; clear hw'; go_simp; rfl); go_simp; refine hK _ ?_; clear hK K))
  refine later_nilO ?_
  intro w4 hw4
  simp only [List.drop_succ_cons, List.drop_zero]
  clear g0_0 f0_0 g0_1 f0_1 g0_2 f0_2 l0 g1_0 f1_0 g1_1 f1_1 g1_2 f1_2 l1
  have hE0 : Ext W0 w4 := (hx1).trans hw4
  have hB1 : Below w.heap.size w w4 := hB0.trans (hE0.mono hB0.size)
  replace hK0 := hE0.heap hK0
  replace hK1 := hE0.heap hK1
  have g0_0 : w4.cell? ⟨w.heap.size, 0, none⟩ = some (.float .f32 x) := cell_of_row w4 _ 0 _ _ _ hK0
  have f0_0 : w4.frozen? ⟨w.heap.size, 0, none⟩ = false := frozen_of_row w4 _ 0 _ _ hK0
  have g0_1 : w4.cell? ⟨w.heap.size, 1, none⟩ = some (.float .f32 y) := cell_of_row w4 _ 1 _ _ _ hK0
  have f0_1 : w4.frozen? ⟨w.heap.size, 1, none⟩ = false := frozen_of_row w4 _ 1 _ _ hK0
  have g0_2 : w4.cell? ⟨w.heap.size, 2, none⟩ = some (.float .f32 z) := cell_of_row w4 _ 2 _ _ _ hK0
  have f0_2 : w4.frozen? ⟨w.heap.size, 2, none⟩ = false := frozen_of_row w4 _ 2 _ _ hK0
  have l0 : w.heap.size < w4.heap.size := (Array.getElem?_eq_some_iff.1 hK0).1
  have g1_0 : w4.cell? ⟨w.heap.size + 1, 0, none⟩ = some (.float .f32 0) := cell_of_row w4 _ 0 _ _ _ hK1
  have f1_0 : w4.frozen? ⟨w.heap.size + 1, 0, none⟩ = false := frozen_of_row w4 _ 0 _ _ hK1
  have g1_1 : w4.cell? ⟨w.heap.size + 1, 1, none⟩ = some (.float .f32 0) := cell_of_row w4 _ 1 _ _ _ hK1
  have f1_1 : w4.frozen? ⟨w.heap.size + 1, 1, none⟩ = false := frozen_of_row w4 _ 1 _ _ hK1
  have g1_2 : w4.cell? ⟨w.heap.size + 1, 2, none⟩ = some (.float .f32 0) := cell_of_row w4 _ 2 _ _ _ hK1
  have f1_2 : w4.frozen? ⟨w.heap.size + 1, 2, none⟩ = false := frozen_of_row w4 _ 2 _ _ hK1
  have l1 : w.heap.size + 1 < w4.heap.size := (Array.getElem?_eq_some_iff.1 hK1).1
  replace c0 : w4.cell? ⟨bn, on, none⟩ = some (.int .i64 12) := ((Ext.cell hE0 (o := on) ln)).trans c0
  replace c2 : w4.cell? ⟨bn, on + 2, none⟩ = some (.int .i64 2) := ((Ext.cell hE0 (o := on + 2) ln)).trans c2
  replace c3 : w4.cell? ⟨bn, on + 3, none⟩ = some (.slice (some ⟨bx, ox, none⟩) 1 cx) := ((Ext.cell hE0 (o := on + 3) ln)).trans c3
  replace n0 : w4.cell? ⟨bx, ox, none⟩ = some (.float .f32 u0) := ((Ext.cell hE0 (o := ox) lx)).trans n0
  replace ln := Nat.lt_of_lt_of_le ln (Ext.size' hE0)
  replace lx := Nat.lt_of_lt_of_le lx (Ext.size' hE0)
  clear hw4 hx1
  go_wp2_with fail
  generalize hWs : ((w4.setCell ⟨w.heap.size + 1, 0, none⟩ (.float .f32 p1)).setCell ⟨w.heap.size + 1, 1, none⟩ (.float .f32 p2)).setCell ⟨w.heap.size + 1, 2, none⟩ (.float .f32 p3) = v9
  have hS : v9.heap[w.heap.size + 1]? = some (.cells #[.float .f32 p1, .float .f32 p2, .float .f32 p3] 34) := by
    subst hWs
    have s0 := heap_setCell_same (w4) _ 0 _ _ (.float .f32 p1) hK1
    have s1 := heap_setCell_same ((w4).setCell ⟨w.heap.size + 1, 0, none⟩ (.float .f32 p1)) _ 1 _ _ (.float .f32 p2) s0
    have s2 := heap_setCell_same (((w4).setCell ⟨w.heap.size + 1, 0, none⟩ (.float .f32 p1)).setCell ⟨w.heap.size + 1, 1, none⟩ (.float .f32 p2)) _ 2 _ _ (.float .f32 p3) s1
    simpa using s2
  have hO : ∀ q, q ≠ w.heap.size + 1 → v9.heap[q]? = w4.heap[q]? := fun q hq => by subst hWs; rw [heap_setCell_other _ _ _ _ hq, heap_setCell_other _ _ _ _ hq, heap_setCell_other _ _ _ _ hq]
  have hB2 : Below w.heap.size w v9 := by
    subst hWs
    have hle : w.heap.size ≤ w.heap.size + 1 := by omega
    refine Below.setCell ?_ hle _
    refine Below.setCell ?_ hle _
    refine Below.setCell ?_ hle _
    repeat (first | exact hB1 | refine below_drewN ?_ _)
  clear g0_0 f0_0 g0_1 f0_1 g0_2 f0_2 l0 g1_0 f1_0 g1_1 f1_1 g1_2 f1_2 l1
  replace hK0 := (hO _ (by omega)).trans hK0
  replace hK1 := hS
  clear hS hO hWs
  have g0_0 : v9.cell? ⟨w.heap.size, 0, none⟩ = some (.float .f32 x) := cell_of_row v9 _ 0 _ _ _ hK0
  have f0_0 : v9.frozen? ⟨w.heap.size, 0, none⟩ = false := frozen_of_row v9 _ 0 _ _ hK0
  have g0_1 : v9.cell? ⟨w.heap.size, 1, none⟩ = some (.float .f32 y) := cell_of_row v9 _ 1 _ _ _ hK0
  have f0_1 : v9.frozen? ⟨w.heap.size, 1, none⟩ = false := frozen_of_row v9 _ 1 _ _ hK0
  have g0_2 : v9.cell? ⟨w.heap.size, 2, none⟩ = some (.float .f32 z) := cell_of_row v9 _ 2 _ _ _ hK0
  have f0_2 : v9.frozen? ⟨w.heap.size, 2, none⟩ = false := frozen_of_row v9 _ 2 _ _ hK0
  have l0 : w.heap.size < v9.heap.size := (Array.getElem?_eq_some_iff.1 hK0).1
  have g1_0 : v9.cell? ⟨w.heap.size + 1, 0, none⟩ = some (.float .f32 p1) := cell_of_row v9 _ 0 _ _ _ hK1
  have f1_0 : v9.frozen? ⟨w.heap.size + 1, 0, none⟩ = false := frozen_of_row v9 _ 0 _ _ hK1
  have g1_1 : v9.cell? ⟨w.heap.size + 1, 1, none⟩ = some (.float .f32 p2) := cell_of_row v9 _ 1 _ _ _ hK1
  have f1_1 : v9.frozen? ⟨w.heap.size + 1, 1, none⟩ = false := frozen_of_row v9 _ 1 _ _ hK1
  have g1_2 : v9.cell? ⟨w.heap.size + 1, 2, none⟩ = some (.float .f32 p3) := cell_of_row v9 _ 2 _ _ _ hK1
  have f1_2 : v9.frozen? ⟨w.heap.size + 1, 2, none⟩ = false := frozen_of_row v9 _ 2 _ _ hK1
  have l1 : w.heap.size + 1 < v9.heap.size := (Array.getElem?_eq_some_iff.1 hK1).1
  exact bodyPost_ret (v := vec p1 p2 p3) (by simp [results, Tryz.results57, go_sem, g1_0, g1_1, g1_2]) rfl ⟨p1, p2, p3, rfl, hp1, hp2, hp3, pe1, pe2, pe3, hB2⟩
set_option maxHeartbeats 4000000 in
set_option maxRecDepth 100000 in
theorem mPoint_13_0 (bn on : Nat) (x y z : Nat) (w : World) (c0 : w.cell? ⟨bn, on, none⟩ = some (.int .i64 13)) (c2 : w.cell? ⟨bn, on + 2, none⟩ = some (.int .i64 0)) (ln : bn < w.heap.size) (hx : x < 4294967296) (hy : y < 4294967296) (hz : z < 4294967296) :
    Calls Tryz.prog 57 #[.pointer (some ⟨bn, on, none⟩), vec x y z] w (Vec (sizeS x) y z w) := by
  go_enter Tryz.func57, Tryz.ntmps57
  go_wp2_with fail
  generalize hW0 : (w.alloc (.cells #[.float .f32 x, .float .f32 y, .float .f32 z] 34)).alloc (.cells #[.float .f32 0, .float .f32 0, .float .f32 0] 34) = W0
  have hB0 : Below w.heap.size w W0 := by subst hW0; exact by (repeat (first | exact Below.refl _ _ | assumption | refine below_drewN ?_ _ | refine Below.setCell ?_ (by first | omega | (simp <;> omega)) _ | refine Below.alloc ?_ (by first | omega | (simp <;> omega)) _))
  have hK0 : W0.heap[w.heap.size]? = some (.cells #[.float .f32 x, .float .f32 y, .float .f32 z] 34) := by subst hW0; exact heap_alloc2_old _ _ _
  have hK1 : W0.heap[w.heap.size + 1]? = some (.cells #[.float .f32 0, .float .f32 0, .float .f32 0] 34) := by subst hW0; exact heap_alloc2_new _ _ _
  clear hW0
  have hZ0 : w.heap.size + 1 < W0.heap.size := (Array.getElem?_eq_some_iff.1 hK1).1
  have g0_0 : W0.cell? ⟨w.heap.size, 0, none⟩ = some (.float .f32 x) := cell_of_row W0 _ 0 _ _ _ hK0
  have f0_0 : W0.frozen? ⟨w.heap.size, 0, none⟩ = false := frozen_of_row W0 _ 0 _ _ hK0
  have g0_1 : W0.cell? ⟨w.heap.size, 1, none⟩ = some (.float .f32 y) := cell_of_row W0 _ 1 _ _ _ hK0
  have f0_1 : W0.frozen? ⟨w.heap.size, 1, none⟩ = false := frozen_of_row W0 _ 1 _ _ hK0
  have g0_2 : W0.cell? ⟨w.heap.size, 2, none⟩ = some (.float .f32 z) := cell_of_row W0 _ 2 _ _ _ hK0
  have f0_2 : W0.frozen? ⟨w.heap.size, 2, none⟩ = false := frozen_of_row W0 _ 2 _ _ hK0
  have l0 : w.heap.size < W0.heap.size := (Array.getElem?_eq_some_iff.1 hK0).1
  have g1_0 : W0.cell? ⟨w.heap.size + 1, 0, none⟩ = some (.float .f32 0) := cell_of_row W0 _ 0 _ _ _ hK1
  have f1_0 : W0.frozen? ⟨w.heap.size + 1, 0, none⟩ = false := frozen_of_row W0 _ 0 _ _ hK1
  have g1_1 : W0.cell? ⟨w.heap.size + 1, 1, none⟩ = some (.float .f32 0) := cell_of_row W0 _ 1 _ _ _ hK1
  have f1_1 : W0.frozen? ⟨w.heap.size + 1, 1, none⟩ = false := frozen_of_row W0 _ 1 _ _ hK1
  have g1_2 : W0.cell? ⟨w.heap.size + 1, 2, none⟩ = some (.float .f32 0) := cell_of_row W0 _ 2 _ _ _ hK1
  have f1_2 : W0.frozen? ⟨w.heap.size + 1, 2, none⟩ = false := frozen_of_row W0 _ 2 _ _ hK1
  have l1 : w.heap.size + 1 < W0.heap.size := (Array.getElem?_eq_some_iff.1 hK1).1
  replace c0 : W0.cell? ⟨bn, on, none⟩ = some (.int .i64 13) := ((Ext.cell (show Ext w W0 from hB0) (o := on) ln)).trans c0
  replace c2 : W0.cell? ⟨bn, on + 2, none⟩ = some (.int .i64 0) := ((Ext.cell (show Ext w W0 from hB0) (o := on + 2) ln)).trans c2
  replace ln := Nat.lt_of_lt_of_le ln (Ext.size' (show Ext w W0 from hB0))
  refine wp_region_laterO 13 (SO (QL [(118, fun u => u = Value.float .f32 x), (119, V1 (sizeS x)), (120, fun u => ∃ q, u = vec q y z ∧ q < 4294967296 ∧ Eqv .f32 q (sizeS x))])) (stays_SO _) (by kernel_rfl) (by kernel_rfl) ?_
  repeat (first | (refine later_exO rfl (fun K hK => ?_); apply Exists.intro; refine ⟨fun w' hw' => ?_, ?_⟩; (obtain ⟨hcc, hff⟩ := Grew.cells hw'; clear hw'; go_simp; rfl); go_simp; refine hK _ ?_; clear hK K))
  (refine later_callO rfl (fun K hK => ?_); go_simp; refine ⟨_, _, fun _ _ => ⟨rfl, rfl⟩, fun w1 hw1 => ?_, fun u y1 hx1 hu => ?_⟩)
  · refine (mPick_ok x y z 0 _ (by decide)).mono ?_
    rintro e w2 ⟨rfl, hb⟩
    exact ⟨_, rfl, rfl, hb⟩
  obtain rfl : (fun u => u = Value.float .f32 x) u := hu
  (refine hK _ _ hx1 ?_; clear hK K)
  repeat (first | (refine later_exO rfl (fun K hK => ?_); apply Exists.intro; refine ⟨fun w' hw' => ?_, ?_⟩; (obtain ⟨hcc, hff⟩ := Grew.cells hw'; clear hw'; go_simp; rfl); go_simp; refine hK _ ?_; clear hK K))
  (refine later_callO rfl (fun K hK => ?_); go_simp; refine ⟨_, _, fun _ _ => ⟨rfl, rfl⟩, fun w1 hw1 => ?_, fun u y2 hx2 hu => ?_⟩)
  · refine (mSize_ok _ _ hx).mono ?_
    rintro e w2 ⟨r1, rfl, h1, e1, hb⟩
    exact ⟨_, rfl, ⟨r1, rfl, h1, e1⟩, hb⟩
  obtain ⟨p, rfl, hp, pe⟩ : (V1 (sizeS x)) u := hu
  (refine hK _ _ hx2 ?_; clear hK K)
  repeat (first | (refine later_exO rfl (fun K hK => ?_); apply Exists.intro; refine ⟨fun w' hw' => ?_, ?_⟩; (obtain ⟨hcc, hff⟩ := Grew.cells hw'; clear hw'; go_simp; rfl); go_simp; refine hK _ ?_; clear hK K))
  (refine later_callO rfl (fun K hK => ?_); go_simp; refine ⟨_, _, fun _ _ => ⟨rfl, rfl⟩, fun w1 hw1 => ?_, fun u y3 hx3 hu => ?_⟩)
  · refine (mSet_0 x y z p _).mono ?_
    rintro e w2 ⟨rfl, hb⟩
    exact ⟨_, rfl, ⟨p, rfl, hp, pe⟩, hb⟩
  obtain ⟨q, rfl, hq, qe⟩ : (fun u => ∃ q, u = vec q y z ∧ q < 4294967296 ∧ Eqv .f32 q (sizeS x)) u := hu
  (refine hK _ _ hx3 ?_; clear hK K)
  repeat (first | (refine later_exO rfl (fun K hK => ?_); apply Exists.intro; refine ⟨fun w' hw' => ?_, ?_⟩; (obtain ⟨hcc, hff⟩ := Grew.cells hw'; clear hw'; go_simp; rfl); go_simp; refine hK _ ?_; clear hK K))
  refine later_nilO ?_
  intro w4 hw4
  simp only [List.drop_succ_cons, List.drop_zero]
  clear g0_0 f0_0 g0_1 f0_1 g0_2 f0_2 l0 g1_0 f1_0 g1_1 f1_1 g1_2 f1_2 l1
  have hE0 : Ext W0 w4 := (((hx1).trans hx2).trans hx3).trans hw4
  have hB1 : Below w.heap.size w w4 := hB0.trans (hE0.mono hB0.size)
  replace hK0 := hE0.heap hK0
  replace hK1 := hE0.heap hK1
  have g0_0 : w4.cell? ⟨w.heap.size, 0, none⟩ = some (.float .f32 x) := cell_of_row w4 _ 0 _ _ _ hK0
  have f0_0 : w4.frozen? ⟨w.heap.size, 0, none⟩ = false := frozen_of_row w4 _ 0 _ _ hK0
  have g0_1 : w4.cell? ⟨w.heap.size, 1, none⟩ = some (.float .f32 y) := cell_of_row w4 _ 1 _ _ _ hK0
  have f0_1 : w4.frozen? ⟨w.heap.size, 1, none⟩ = false := frozen_of_row w4 _ 1 _ _ hK0
  have g0_2 : w4.cell? ⟨w.heap.size, 2, none⟩ = some (.float .f32 z) := cell_of_row w4 _ 2 _ _ _ hK0
  have f0_2 : w4.frozen? ⟨w.heap.size, 2, none⟩ = false := frozen_of_row w4 _ 2 _ _ hK0
  have l0 : w.heap.size < w4.heap.size := (Array.getElem?_eq_some_iff.1 hK0).1
  have g1_0 : w4.cell? ⟨w.heap.size + 1, 0, none⟩ = some (.float .f32 0) := cell_of_row w4 _ 0 _ _ _ hK1
  have f1_0 : w4.frozen? ⟨w.heap.size + 1, 0, none⟩ = false := frozen_of_row w4 _ 0 _ _ hK1
  have g1_1 : w4.cell? ⟨w.heap.size + 1, 1, none⟩ = some (.float .f32 0) := cell_of_row w4 _ 1 _ _ _ hK1
  have f1_1 : w4.frozen? ⟨w.heap.size + 1, 1, none⟩ = false := frozen_of_row w4 _ 1 _ _ hK1
  have g1_2 : w4.cell? ⟨w.heap.size + 1, 2, none⟩ = some (.float .f32 0) := cell_of_row w4 _ 2 _ _ _ hK1
  have f1_2 : w4.frozen? ⟨w.heap.size + 1, 2, none⟩ = false := frozen_of_row w4 _ 2 _ _ hK1
  have l1 : w.heap.size + 1 < w4.heap.size := (Array.getElem?_eq_some_iff.1 hK1).1
  replace c0 : w4.cell? ⟨bn, on, none⟩ = some (.int .i64 13) := ((Ext.cell hE0 (o := on) ln)).trans c0
  replace c2 : w4.cell? ⟨bn, on + 2, none⟩ = some (.int .i64 0) := ((Ext.cell hE0 (o := on + 2) ln)).trans c2
  replace ln := Nat.lt_of_lt_of_le ln (Ext.size' hE0)
  clear hw4 hx1 hx2 hx3
  go_wp2_with fail
  generalize hWs : ((w4.setCell ⟨w.heap.size + 1, 0, none⟩ (.float .f32 q)).setCell ⟨w.heap.size + 1, 1, none⟩ (.float .f32 y)).setCell ⟨w.heap.size + 1, 2, none⟩ (.float .f32 z) = v9
  have hS : v9.heap[w.heap.size + 1]? = some (.cells #[.float .f32 q, .float .f32 y, .float .f32 z] 34) := by
    subst hWs
    have s0 := heap_setCell_same (w4) _ 0 _ _ (.float .f32 q) hK1
    have s1 := heap_setCell_same ((w4).setCell ⟨w.heap.size + 1, 0, none⟩ (.float .f32 q)) _ 1 _ _ (.float .f32 y) s0
    have s2 := heap_setCell_same (((w4).setCell ⟨w.heap.size + 1, 0, none⟩ (.float .f32 q)).setCell ⟨w.heap.size + 1, 1, none⟩ (.float .f32 y)) _ 2 _ _ (.float .f32 z) s1
    simpa using s2
  have hO : ∀ q, q ≠ w.heap.size + 1 → v9.heap[q]? = w4.heap[q]? := fun q hq => by subst hWs; rw [heap_setCell_other _ _ _ _ hq, heap_setCell_other _ _ _ _ hq, heap_setCell_other _ _ _ _ hq]
  have hB2 : Below w.heap.size w v9 := by
    subst hWs
    have hle : w.heap.size ≤ w.heap.size + 1 := by omega
    refine Below.setCell ?_ hle _
    refine Below.setCell ?_ hle _
    refine Below.setCell ?_ hle _
    repeat (first | exact hB1 | refine below_drewN ?_ _)
  clear g0_0 f0_0 g0_1 f0_1 g0_2 f0_2 l0 g1_0 f1_0 g1_1 f1_1 g1_2 f1_2 l1
  replace hK0 := (hO _ (by omega)).trans hK0
  replace hK1 := hS
  clear hS hO hWs
  have g0_0 : v9.cell? ⟨w.heap.size, 0, none⟩ = some (.float .f32 x) := cell_of_row v9 _ 0 _ _ _ hK0
  have f0_0 : v9.frozen? ⟨w.heap.size, 0, none⟩ = false := frozen_of_row v9 _ 0 _ _ hK0
  have g0_1 : v9.cell? ⟨w.heap.size, 1, none⟩ = some (.float .f32 y) := cell_of_row v9 _ 1 _ _ _ hK0
  have f0_1 : v9.frozen? ⟨w.heap.size, 1, none⟩ = false := frozen_of_row v9 _ 1 _ _ hK0
  have g0_2 : v9.cell? ⟨w.heap.size, 2, none⟩ = some (.float .f32 z) := cell_of_row v9 _ 2 _ _ _ hK0
  have f0_2 : v9.frozen? ⟨w.heap.size, 2, none⟩ = false := frozen_of_row v9 _ 2 _ _ hK0
  have l0 : w.heap.size < v9.heap.size := (Array.getElem?_eq_some_iff.1 hK0).1
  have g1_0 : v9.cell? ⟨w.heap.size + 1, 0, none⟩ = some (.float .f32 q) := cell_of_row v9 _ 0 _ _ _ hK1
  have f1_0 : v9.frozen? ⟨w.heap.size + 1, 0, none⟩ = false := frozen_of_row v9 _ 0 _ _ hK1
  have g1_1 : v9.cell? ⟨w.heap.size + 1, 1, none⟩ = some (.float .f32 y) := cell_of_row v9 _ 1 _ _ _ hK1
  have f1_1 : v9.frozen? ⟨w.heap.size + 1, 1, none⟩ = false := frozen_of_row v9 _ 1 _ _ hK1
  have g1_2 : v9.cell? ⟨w.heap.size + 1, 2, none⟩ = some (.float .f32 z) := cell_of_row v9 _ 2 _ _ _ hK1
  have f1_2 : v9.frozen? ⟨w.heap.size + 1, 2, none⟩ = false := frozen_of_row v9 _ 2 _ _ hK1
  have l1 : w.heap.size + 1 < v9.heap.size := (Array.getElem?_eq_some_iff.1 hK1).1
  exact bodyPost_ret (v := vec q y z) (by simp [results, Tryz.results57, go_sem, g1_0, g1_1, g1_2]) rfl ⟨q, y, z, rfl, hq, hy, hz, qe, Eqv.refl _ _, Eqv.refl _ _, hB2⟩
set_option maxHeartbeats 4000000 in
set_option maxRecDepth 100000 in
theorem mPoint_13_1 (bn on : Nat) (x y z : Nat) (w : World) (c0 : w.cell? ⟨bn, on, none⟩ = some (.int .i64 13)) (c2 : w.cell? ⟨bn, on + 2, none⟩ = some (.int .i64 1)) (ln : bn < w.heap.size) (hx : x < 4294967296) (hy : y < 4294967296) (hz : z < 4294967296) :
    Calls Tryz.prog 57 #[.pointer (some ⟨bn, on, none⟩), vec x y z] w (Vec x (sizeS y) z w) := by
  go_enter Tryz.func57, Tryz.ntmps57
  go_wp2_with fail
  generalize hW0 : (w.alloc (.cells #[.float .f32 x, .float .f32 y, .float .f32 z] 34)).alloc (.cells #[.float .f32 0, .float .f32 0, .float .f32 0] 34) = W0
  have hB0 : Below w.heap.size w W0 := by subst hW0; exact by (repeat (first | exact Below.refl _ _ | assumption | refine below_drewN ?_ _ | refine Below.setCell ?_ (by first | omega | (simp <;> omega)) _ | refine Below.alloc ?_ (by first | omega | (simp <;> omega)) _))
  have hK0 : W0.heap[w.heap.size]? = some (.cells #[.float .f32 x, .float .f32 y, .float .f32 z] 34) := by subst hW0; exact heap_alloc2_old _ _ _
  have hK1 : W0.heap[w.heap.size + 1]? = some (.cells #[.float .f32 0, .float .f32 0, .float .f32 0] 34) := by subst hW0; exact heap_alloc2_new _ _ _
  clear hW0
  have hZ0 : w.heap.size + 1 < W0.heap.size := (Array.getElem?_eq_some_iff.1 hK1).1
  have g0_0 : W0.cell? ⟨w.heap.size, 0, none⟩ = some (.float .f32 x) := cell_of_row W0 _ 0 _ _ _ hK0
  have f0_0 : W0.frozen? ⟨w.heap.size, 0, none⟩ = false := frozen_of_row W0 _ 0 _ _ hK0
  have g0_1 : W0.cell? ⟨w.heap.size, 1, none⟩ = some (.float .f32 y) := cell_of_row W0 _ 1 _ _ _ hK0
  have f0_1 : W0.frozen? ⟨w.heap.size, 1, none⟩ = false := frozen_of_row W0 _ 1 _ _ hK0
  have g0_2 : W0.cell? ⟨w.heap.size, 2, none⟩ = some (.float .f32 z) := cell_of_row W0 _ 2 _ _ _ hK0
  have f0_2 : W0.frozen? ⟨w.heap.size, 2, none⟩ = false := frozen_of_row W0 _ 2 _ _ hK0
  have l0 : w.heap.size < W0.heap.size := (Array.getElem?_eq_some_iff.1 hK0).1
  have g1_0 : W0.cell? ⟨w.heap.size + 1, 0, none⟩ = some (.float .f32 0) := cell_of_row W0 _ 0 _ _ _ hK1
  have f1_0 : W0.frozen? ⟨w.heap.size + 1, 0, none⟩ = false := frozen_of_row W0 _ 0 _ _ hK1
  have g1_1 : W0.cell? ⟨w.heap.size + 1, 1, none⟩ = some (.float .f32 0) := cell_of_row W0 _ 1 _ _ _ hK1
  have f1_1 : W0.frozen? ⟨w.heap.size + 1, 1, none⟩ = false := frozen_of_row W0 _ 1 _ _ hK1
  have g1_2 : W0.cell? ⟨w.heap.size + 1, 2, none⟩ = some (.float .f32 0) := cell_of_row W0 _ 2 _ _ _ hK1
  have f1_2 : W0.frozen? ⟨w.heap.size + 1, 2, none⟩ = false := frozen_of_row W0 _ 2 _ _ hK1
  have l1 : w.heap.size + 1 < W0.heap.size := (Array.getElem?_eq_some_iff.1 hK1).1
  replace c0 : W0.cell? ⟨bn, on, none⟩ = some (.int .i64 13) := ((Ext.cell (show Ext w W0 from hB0) (o := on) ln)).trans c0
  replace c2 : W0.cell? ⟨bn, on + 2, none⟩ = some (.int .i64 1) := ((Ext.cell (show Ext w W0 from hB0) (o := on + 2) ln)).trans c2
  replace ln := Nat.lt_of_lt_of_le ln (Ext.size' (show Ext w W0 from hB0))
  refine wp_region_laterO 13 (SO (QL [(118, fun u => u = Value.float .f32 y), (119, V1 (sizeS y)), (120, fun u => ∃ q, u = vec x q z ∧ q < 4294967296 ∧ Eqv .f32 q (sizeS y))])) (stays_SO _) (by kernel_rfl) (by kernel_rfl) ?_
  repeat (first | (refine later_exO rfl (fun K hK => ?_); apply Exists.intro; refine ⟨fun w' hw' => ?_, ?_⟩; (obtain ⟨hcc, hff⟩ := Grew.cells hw'; clear hw'; go_simp; rfl); go_simp; refine hK _ ?_; clear hK K))
  (refine later_callO rfl (fun K hK => ?_); go_simp; refine ⟨_, _, fun _ _ => ⟨rfl, rfl⟩, fun w1 hw1 => ?_, fun u y1 hx1 hu => ?_⟩)
  · refine (mPick_ok x y z 1 _ (by decide)).mono ?_
    rintro e w2 ⟨rfl, hb⟩
    exact ⟨_, rfl, rfl, hb⟩
  obtain rfl : (fun u => u = Value.float .f32 y) u := hu
  (refine hK _ _ hx1 ?_; clear hK K)
  repeat (first | (refine later_exO rfl (fun K hK => ?_); apply Exists.intro; refine ⟨fun w' hw' => ?_, ?_⟩; (obtain ⟨hcc, hff⟩ := Grew.cells hw'; clear hw'; go_simp; rfl); go_simp; refine hK _ ?_; clear hK K))
  (refine later_callO rfl (fun K hK => ?_); go_simp; refine ⟨_, _, fun _ _ => ⟨rfl, rfl⟩, fun w1 hw1 => ?_, fun u y2 hx2 hu => ?_⟩)
  · refine (mSize_ok _ _ hy).mono ?_
    rintro e w2 ⟨r1, rfl, h1, e1, hb⟩
    exact ⟨_, rfl, ⟨r1, rfl, h1, e1⟩, hb⟩
  obtain ⟨p, rfl, hp, pe⟩ : (V1 (sizeS y)) u := hu
  (refine hK _ _ hx2 ?_; clear hK K)
  repeat (first | (refine later_exO rfl (fun K hK => ?_); apply Exists.intro; refine ⟨fun w' hw' => ?_, ?_⟩; (obtain ⟨hcc, hff⟩ := Grew.cells hw'; clear hw'; go_simp; rfl); go_simp; refine hK _ ?_; clear hK K))
  (refine later_callO rfl (fun K hK => ?_); go_simp; refine ⟨_, _, fun _ _ => ⟨rfl, rfl⟩, fun w1 hw1 => ?_, fun u y3 hx3 hu => ?_⟩)
  · refine (mSet_1 x y z p _).mono ?_
    rintro e w2 ⟨rfl, hb⟩
    exact ⟨_, rfl, ⟨p, rfl, hp, pe⟩, hb⟩
  obtain ⟨q, rfl, hq, qe⟩ : (fun u => ∃ q, u = vec x q z ∧ q < 4294967296 ∧ Eqv .f32 q (sizeS y)) u := hu
  (refine hK _ _ hx3 ?_; clear hK K)
  repeat (first | (refine later_exO rfl (fun K hK => ?_); apply Exists.intro; refine ⟨fun w' hw' => ?_, ?_⟩; (obtain ⟨hcc, hff⟩ := Grew.cells hw'; clear hw'; go_simp; rfl); go_simp; refine hK _ ?_; clear hK K))
  refine later_nilO ?_
  intro w4 hw4
  simp only [List.drop_succ_cons, List.drop_zero]
  clear g0_0 f0_0 g0_1 f0_1 g0_2 f0_2 l0 g1_0 f1_0 g1_1 f1_1 g1_2 f1_2 l1
  have hE0 : Ext W0 w4 := (((hx1).trans hx2).trans hx3).trans hw4
  have hB1 : Below w.heap.size w w4 := hB0.trans (hE0.mono hB0.size)
  replace hK0 := hE0.heap hK0
  replace hK1 := hE0.heap hK1
  have g0_0 : w4.cell? ⟨w.heap.size, 0, none⟩ = some (.float .f32 x) := cell_of_row w4 _ 0 _ _ _ hK0
  have f0_0 : w4.frozen? ⟨w.heap.size, 0, none⟩ = false := frozen_of_row w4 _ 0 _ _ hK0
  have g0_1 : w4.cell? ⟨w.heap.size, 1, none⟩ = some (.float .f32 y) := cell_of_row w4 _ 1 _ _ _ hK0
  have f0_1 : w4.frozen? ⟨w.heap.size, 1, none⟩ = false := frozen_of_row w4 _ 1 _ _ hK0
  have g0_2 : w4.cell? ⟨w.heap.size, 2, none⟩ = some (.float .f32 z) := cell_of_row w4 _ 2 _ _ _ hK0
  have f0_2 : w4.frozen? ⟨w.heap.size, 2, none⟩ = false := frozen_of_row w4 _ 2 _ _ hK0
  have l0 : w.heap.size < w4.heap.size := (Array.getElem?_eq_some_iff.1 hK0).1
  have g1_0 : w4.cell? ⟨w.heap.size + 1, 0, none⟩ = some (.float .f32 0) := cell_of_row w4 _ 0 _ _ _ hK1
  have f1_0 : w4.frozen? ⟨w.heap.size + 1, 0, none⟩ = false := frozen_of_row w4 _ 0 _ _ hK1
  have g1_1 : w4.cell? ⟨w.heap.size + 1, 1, none⟩ = some (.float .f32 0) := cell_of_row w4 _ 1 _ _ _ hK1
  have f1_1 : w4.frozen? ⟨w.heap.size + 1, 1, none⟩ = false := frozen_of_row w4 _ 1 _ _ hK1
  have g1_2 : w4.cell? ⟨w.heap.size + 1, 2, none⟩ = some (.float .f32 0) := cell_of_row w4 _ 2 _ _ _ hK1
  have f1_2 : w4.frozen? ⟨w.heap.size + 1, 2, none⟩ = false := frozen_of_row w4 _ 2 _ _ hK1
  have l1 : w.heap.size + 1 < w4.heap.size := (Array.getElem?_eq_some_iff.1 hK1).1
  replace c0 : w4.cell? ⟨bn, on, none⟩ = some (.int .i64 13) := ((Ext.cell hE0 (o := on) ln)).trans c0
  replace c2 : w4.cell? ⟨bn, on + 2, none⟩ = some (.int .i64 1) := ((Ext.cell hE0 (o := on + 2) ln)).trans c2
  replace ln := Nat.lt_of_lt_of_le ln (Ext.size' hE0)
  clear hw4 hx1 hx2 hx3
  go_wp2_with fail
  generalize hWs : ((w4.setCell ⟨w.heap.size + 1, 0, none⟩ (.float .f32 x)).setCell ⟨w.heap.size + 1, 1, none⟩ (.float .f32 q)).setCell ⟨w.heap.size + 1, 2, none⟩ (.float .f32 z) = v9
  have hS : v9.heap[w.heap.size + 1]? = some (.cells #[.float .f32 x, .float .f32 q, .float .f32 z] 34) := by
    subst hWs
    have s0 := heap_setCell_same (w4) _ 0 _ _ (.float .f32 x) hK1
    have s1 := heap_setCell_same ((w4).setCell ⟨w.heap.size + 1, 0, none⟩ (.float .f32 x)) _ 1 _ _ (.float .f32 q) s0
    have s2 := heap_setCell_same (((w4).setCell ⟨w.heap.size + 1, 0, none⟩ (.float .f32 x)).setCell ⟨w.heap.size + 1, 1, none⟩ (.float .f32 q)) _ 2 _ _ (.float .f32 z) s1
    simpa using s2
  have hO : ∀ q, q ≠ w.heap.size + 1 → v9.heap[q]? = w4.heap[q]? := fun q hq => by subst hWs; rw [heap_setCell_other _ _ _ _ hq, heap_setCell_other _ _ _ _ hq, heap_setCell_other _ _ _ _ hq]
  have hB2 : Below w.heap.size w v9 := by
    subst hWs
    have hle : w.heap.size ≤ w.heap.size + 1 := by omega
    refine Below.setCell ?_ hle _
    refine Below.setCell ?_ hle _
    refine Below.setCell ?_ hle _
    repeat (first | exact hB1 | refine below_drewN ?_ _)
  clear g0_0 f0_0 g0_1 f0_1 g0_2 f0_2 l0 g1_0 f1_0 g1_1 f1_1 g1_2 f1_2 l1
  replace hK0 := (hO _ (by omega)).trans hK0
  replace hK1 := hS
  clear hS hO hWs
  have g0_0 : v9.cell? ⟨w.heap.size, 0, none⟩ = some (.float .f32 x) := cell_of_row v9 _ 0 _ _ _ hK0
  have f0_0 : v9.frozen? ⟨w.heap.size, 0, none⟩ = false := frozen_of_row v9 _ 0 _ _ hK0
  have g0_1 : v9.cell? ⟨w.heap.size, 1, none⟩ = some (.float .f32 y) := cell_of_row v9 _ 1 _ _ _ hK0
  have f0_1 : v9.frozen? ⟨w.heap.size, 1, none⟩ = false := frozen_of_row v9 _ 1 _ _ hK0
  have g0_2 : v9.cell? ⟨w.heap.size, 2, none⟩ = some (.float .f32 z) := cell_of_row v9 _ 2 _ _ _ hK0
  have f0_2 : v9.frozen? ⟨w.heap.size, 2, none⟩ = false := frozen_of_row v9 _ 2 _ _ hK0
  have l0 : w.heap.size < v9.heap.size := (Array.getElem?_eq_some_iff.1 hK0).1
  have g1_0 : v9.cell? ⟨w.heap.size + 1, 0, none⟩ = some (.float .f32 x) := cell_of_row v9 _ 0 _ _ _ hK1
  have f1_0 : v9.frozen? ⟨w.heap.size + 1, 0, none⟩ = false := frozen_of_row v9 _ 0 _ _ hK1
  have g1_1 : v9.cell? ⟨w.heap.size + 1, 1, none⟩ = some (.float .f32 q) := cell_of_row v9 _ 1 _ _ _ hK1
  have f1_1 : v9.frozen? ⟨w.heap.size + 1, 1, none⟩ = false := frozen_of_row v9 _ 1 _ _ hK1
  have g1_2 : v9.cell? ⟨w.heap.size + 1, 2, none⟩ = some (.float .f32 z) := cell_of_row v9 _ 2 _ _ _ hK1
  have f1_2 : v9.frozen? ⟨w.heap.size + 1, 2, none⟩ = false := frozen_of_row v9 _ 2 _ _ hK1
  have l1 : w.heap.size + 1 < v9.heap.size := (Array.getElem?_eq_some_iff.1 hK1).1
  exact bodyPost_ret (v := vec x q z) (by simp [results, Tryz.results57, go_sem, g1_0, g1_1, g1_2]) rfl ⟨x, q, z, rfl, hx, hq, hz, Eqv.refl _ _, qe, Eqv.refl _ _, hB2⟩
set_option maxHeartbeats 4000000 in
set_option maxRecDepth 100000 in
theorem mPoint_13_2 (bn on : Nat) (x y z : Nat) (w : World) (c0 : w.cell? ⟨bn, on, none⟩ = some (.int .i64 13)) (c2 : w.cell? ⟨bn, on + 2, none⟩ = some (.int .i64 2)) (ln : bn < w.heap.size) (hx : x < 4294967296) (hy : y < 4294967296) (hz : z < 4294967296) :
    Calls Tryz.prog 57 #[.pointer (some ⟨bn, on, none⟩), vec x y z] w (Vec x y (sizeS z) w) := by
  go_enter Tryz.func57, Tryz.ntmps57
  go_wp2_with fail
  generalize hW0 : (w.alloc (.cells #[.float .f32 x, .float .f32 y, .float .f32 z] 34)).alloc (.cells #[.float .f32 0, .float .f32 0, .float .f32 0] 34) = W0
  have hB0 : Below w.heap.size w W0 := by subst hW0; exact by (repeat (first | exact Below.refl _ _ | assumption | refine below_drewN ?_ _ | refine Below.setCell ?_ (by first | omega | (simp <;> omega)) _ | refine Below.alloc ?_ (by first | omega | (simp <;> omega)) _))
  have hK0 : W0.heap[w.heap.size]? = some (.cells #[.float .f32 x, .float .f32 y, .float .f32 z] 34) := by subst hW0; exact heap_alloc2_old _ _ _
  have hK1 : W0.heap[w.heap.size + 1]? = some (.cells #[.float .f32 0, .float .f32 0, .float .f32 0] 34) := by subst hW0; exact heap_alloc2_new _ _ _
  clear hW0
  have hZ0 : w.heap.size + 1 < W0.heap.size := (Array.getElem?_eq_some_iff.1 hK1).1
  have g0_0 : W0.cell? ⟨w.heap.size, 0, none⟩ = some (.float .f32 x) := cell_of_row W0 _ 0 _ _ _ hK0
  have f0_0 : W0.frozen? ⟨w.heap.size, 0, none⟩ = false := frozen_of_row W0 _ 0 _ _ hK0
  have g0_1 : W0.cell? ⟨w.heap.size, 1, none⟩ = some (.float .f32 y) := cell_of_row W0 _ 1 _ _ _ hK0
  have f0_1 : W0.frozen? ⟨w.heap.size, 1, none⟩ = false := frozen_of_row W0 _ 1 _ _ hK0
  have g0_2 : W0.cell? ⟨w.heap.size, 2, none⟩ = some (.float .f32 z) := cell_of_row W0 _ 2 _ _ _ hK0
  have f0_2 : W0.frozen? ⟨w.heap.size, 2, none⟩ = false := frozen_of_row W0 _ 2 _ _ hK0
  have l0 : w.heap.size < W0.heap.size := (Array.getElem?_eq_some_iff.1 hK0).1
  have g1_0 : W0.cell? ⟨w.heap.size + 1, 0, none⟩ = some (.float .f32 0) := cell_of_row W0 _ 0 _ _ _ hK1
  have f1_0 : W0.frozen? ⟨w.heap.size + 1, 0, none⟩ = false := frozen_of_row W0 _ 0 _ _ hK1
  have g1_1 : W0.cell? ⟨w.heap.size + 1, 1, none⟩ = some (.float .f32 0) := cell_of_row W0 _ 1 _ _ _ hK1
  have f1_1 : W0.frozen? ⟨w.heap.size + 1, 1, none⟩ = false := frozen_of_row W0 _ 1 _ _ hK1
  have g1_2 : W0.cell? ⟨w.heap.size + 1, 2, none⟩ = some (.float .f32 0) := cell_of_row W0 _ 2 _ _ _ hK1
  have f1_2 : W0.frozen? ⟨w.heap.size + 1, 2, none⟩ = false := frozen_of_row W0 _ 2 _ _ hK1
  have l1 : w.heap.size + 1 < W0.heap.size := (Array.getElem?_eq_some_iff.1 hK1).1
  replace c0 : W0.cell? ⟨bn, on, none⟩ = some (.int .i64 13) := ((Ext.cell (show Ext w W0 from hB0) (o := on) ln)).trans c0
  replace c2 : W0.cell? ⟨bn, on + 2, none⟩ = some (.int .i64 2) := ((Ext.cell (show Ext w W0 from hB0) (o := on + 2) ln)).trans c2
  replace ln := Nat.lt_of_lt_of_le ln (Ext.size' (show Ext w W0 from hB0))
  refine wp_region_laterO 13 (SO (QL [(118, fun u => u = Value.float .f32 z), (119, V1 (sizeS z)), (120, fun u => ∃ q, u = vec x y q ∧ q < 4294967296 ∧ Eqv .f32 q (sizeS z))])) (stays_SO _) (by kernel_rfl) (by kernel_rfl) ?_
  repeat (first | (refine later_exO rfl (fun K hK => ?_); apply Exists.intro; refine ⟨fun w' hw' => ?_, ?_⟩; (obtain ⟨hcc, hff⟩ := Grew.cells hw'; clear hw'; go_simp; rfl); go_simp; refine hK _ ?_; clear hK K))
  (refine later_callO rfl (fun K hK => ?_); go_simp; refine ⟨_, _, fun _ _ => ⟨rfl, rfl⟩, fun w1 hw1 => ?_, fun u y1 hx1 hu => ?_⟩)
  · refine (mPick_ok x y z 2 _ (by decide)).mono ?_
    rintro e w2 ⟨rfl, hb⟩
    exact ⟨_, rfl, rfl, hb⟩
  obtain rfl : (fun u => u = Value.float .f32 z) u := hu
  (refine hK _ _ hx1 ?_; clear hK K)
  repeat (first | (refine later_exO rfl (fun K hK => ?_); apply Exists.intro; refine ⟨fun w' hw' => ?_, ?_⟩; (obtain ⟨hcc, hff⟩ := Grew.cells hw'; clear hw'; go_simp; rfl); go_simp; refine hK _ ?_; clear hK K))
  (refine later_callO rfl (fun K hK => ?_); go_simp; refine ⟨_, _, fun _ _ => ⟨rfl, rfl⟩, fun w1 hw1 => ?_, fun u y2 hx2 hu => ?_⟩)
  · refine (mSize_ok _ _ hz).mono ?_
    rintro e w2 ⟨r1, rfl, h1, e1, hb⟩
    exact ⟨_, rfl, ⟨r1, rfl, h1, e1⟩, hb⟩
  obtain ⟨p, rfl, hp, pe⟩ : (V1 (sizeS z)) u := hu
  (refine hK _ _ hx2 ?_; clear hK K)
  repeat (first | (refine later_exO rfl (fun K hK => ?_); apply Exists.intro; refine ⟨fun w' hw' => ?_, ?_⟩; (obtain ⟨hcc, hff⟩ := Grew.cells hw'; clear hw'; go_simp; rfl); go_simp; refine hK _ ?_; clear hK K))
  (refine later_callO rfl (fun K hK => ?_); go_simp; refine ⟨_, _, fun _ _ => ⟨rfl, rfl⟩, fun w1 hw1 => ?_, fun u y3 hx3 hu => ?_⟩)
  · refine (mSet_2 x y z p _).mono ?_
    rintro e w2 ⟨rfl, hb⟩
    exact ⟨_, rfl, ⟨p, rfl, hp, pe⟩, hb⟩
  obtain ⟨q, rfl, hq, qe⟩ : (fun u => ∃ q, u = vec x y q ∧ q < 4294967296 ∧ Eqv .f32 q (sizeS z)) u := hu
  (refine hK _ _ hx3 ?_; clear hK K)
  repeat (first | (refine later_exO rfl (fun K hK => ?_); apply Exists.intro; refine ⟨fun w' hw' => ?_, ?_⟩; (obtain ⟨hcc, hff⟩ := Grew.cells hw'; clear hw'; go_simp; rfl); go_simp; refine hK _ ?_; clear hK K))
  refine later_nilO ?_
  intro w4 hw4
  simp only [List.drop_succ_cons, List.drop_zero]
  clear g0_0 f0_0 g0_1 f0_1 g0_2 f0_2 l0 g1_0 f1_0 g1_1 f1_1 g1_2 f1_2 l1
  have hE0 : Ext W0 w4 := (((hx1).trans hx2).trans hx3).trans hw4
  have hB1 : Below w.heap.size w w4 := hB0.trans (hE0.mono hB0.size)
  replace hK0 := hE0.heap hK0
  replace hK1 := hE0.heap hK1
  have g0_0 : w4.cell? ⟨w.heap.size, 0, none⟩ = some (.float .f32 x) := cell_of_row w4 _ 0 _ _ _ hK0
  have f0_0 : w4.frozen? ⟨w.heap.size, 0, none⟩ = false := frozen_of_row w4 _ 0 _ _ hK0
  have g0_1 : w4.cell? ⟨w.heap.size, 1, none⟩ = some (.float .f32 y) := cell_of_row w4 _ 1 _ _ _ hK0
  have f0_1 : w4.frozen? ⟨w.heap.size, 1, none⟩ = false := frozen_of_row w4 _ 1 _ _ hK0
  have g0_2 : w4.cell? ⟨w.heap.size, 2, none⟩ = some (.float .f32 z) := cell_of_row w4 _ 2 _ _ _ hK0
  have f0_2 : w4.frozen? ⟨w.heap.size, 2, none⟩ = false := frozen_of_row w4 _ 2 _ _ hK0
  have l0 : w.heap.size < w4.heap.size := (Array.getElem?_eq_some_iff.1 hK0).1
  have g1_0 : w4.cell? ⟨w.heap.size + 1, 0, none⟩ = some (.float .f32 0) := cell_of_row w4 _ 0 _ _ _ hK1
  have f1_0 : w4.frozen? ⟨w.heap.size + 1, 0, none⟩ = false := frozen_of_row w4 _ 0 _ _ hK1
  have g1_1 : w4.cell? ⟨w.heap.size + 1, 1, none⟩ = some (.float .f32 0) := cell_of_row w4 _ 1 _ _ _ hK1
  have f1_1 : w4.frozen? ⟨w.heap.size + 1, 1, none⟩ = false := frozen_of_row w4 _ 1 _ _ hK1
  have g1_2 : w4.cell? ⟨w.heap.size + 1, 2, none⟩ = some (.float .f32 0) := cell_of_row w4 _ 2 _ _ _ hK1
  have f1_2 : w4.frozen? ⟨w.heap.size + 1, 2, none⟩ = false := frozen_of_row w4 _ 2 _ _ hK1
  have l1 : w.heap.size + 1 < w4.heap.size := (Array.getElem?_eq_some_iff.1 hK1).1
  replace c0 : w4.cell? ⟨bn, on, none⟩ = some (.int .i64 13) := ((Ext.cell hE0 (o := on) ln)).trans c0
  replace c2 : w4.cell? ⟨bn, on + 2, none⟩ = some (.int .i64 2) := ((Ext.cell hE0 (o := on + 2) ln)).trans c2
  replace ln := Nat.lt_of_lt_of_le ln (Ext.size' hE0)
  clear hw4 hx1 hx2 hx3
  go_wp2_with fail
  generalize hWs : ((w4.setCell ⟨w.heap.size + 1, 0, none⟩ (.float .f32 x)).setCell ⟨w.heap.size + 1, 1, none⟩ (.float .f32 y)).setCell ⟨w.heap.size + 1, 2, none⟩ (.float .f32 q) = v9
  have hS : v9.heap[w.heap.size + 1]? = some (.cells #[.float .f32 x, .float .f32 y, .float .f32 q] 34) := by
    subst hWs
    have s0 := heap_setCell_same (w4) _ 0 _ _ (.float .f32 x) hK1
    have s1 := heap_setCell_same ((w4).setCell ⟨w.heap.size + 1, 0, none⟩ (.float .f32 x)) _ 1 _ _ (.float .f32 y) s0
    have s2 := heap_setCell_same (((w4).setCell ⟨w.heap.size + 1, 0, none⟩ (.float .f32 x)).setCell ⟨w.heap.size + 1, 1, none⟩ (.float .f32 y)) _ 2 _ _ (.float .f32 q) s1
    simpa using s2
  have hO : ∀ q, q ≠ w.heap.size + 1 → v9.heap[q]? = w4.heap[q]? := fun q hq => by subst hWs; rw [heap_setCell_other _ _ _ _ hq, heap_setCell_other _ _ _ _ hq, heap_setCell_other _ _ _ _ hq]
  have hB2 : Below w.heap.size w v9 := by
    subst hWs
    have hle : w.heap.size ≤ w.heap.size + 1 := by omega
    refine Below.setCell ?_ hle _
    refine Below.setCell ?_ hle _
    refine Below.setCell ?_ hle _
    repeat (first | exact hB1 | refine below_drewN ?_ _)
  clear g0_0 f0_0 g0_1 f0_1 g0_2 f0_2 l0 g1_0 f1_0 g1_1 f1_1 g1_2 f1_2 l1
  replace hK0 := (hO _ (by omega)).trans hK0
  replace hK1 := hS
  clear hS hO hWs
  have g0_0 : v9.cell? ⟨w.heap.size, 0, none⟩ = some (.float .f32 x) := cell_of_row v9 _ 0 _ _ _ hK0
  have f0_0 : v9.frozen? ⟨w.heap.size, 0, none⟩ = false := frozen_of_row v9 _ 0 _ _ hK0
  have g0_1 : v9.cell? ⟨w.heap.size, 1, none⟩ = some (.float .f32 y) := cell_of_row v9 _ 1 _ _ _ hK0
  have f0_1 : v9.frozen? ⟨w.heap.size, 1, none⟩ = false := frozen_of_row v9 _ 1 _ _ hK0
  have g0_2 : v9.cell? ⟨w.heap.size, 2, none⟩ = some (.float .f32 z) := cell_of_row v9 _ 2 _ _ _ hK0
  have f0_2 : v9.frozen? ⟨w.heap.size, 2, none⟩ = false := frozen_of_row v9 _ 2 _ _ hK0
  have l0 : w.heap.size < v9.heap.size := (Array.getElem?_eq_some_iff.1 hK0).1
  have g1_0 : v9.cell? ⟨w.heap.size + 1, 0, none⟩ = some (.float .f32 x) := cell_of_row v9 _ 0 _ _ _ hK1
  have f1_0 : v9.frozen? ⟨w.heap.size + 1, 0, none⟩ = false := frozen_of_row v9 _ 0 _ _ hK1
  have g1_1 : v9.cell? ⟨w.heap.size + 1, 1, none⟩ = some (.float .f32 y) := cell_of_row v9 _ 1 _ _ _ hK1
  have f1_1 : v9.frozen? ⟨w.heap.size + 1, 1, none⟩ = false := frozen_of_row v9 _ 1 _ _ hK1
  have g1_2 : v9.cell? ⟨w.heap.size + 1, 2, none⟩ = some (.float .f32 q) := cell_of_row v9 _ 2 _ _ _ hK1
  have f1_2 : v9.frozen? ⟨w.heap.size + 1, 2, none⟩ = false := frozen_of_row v9 _ 2 _ _ hK1
  have l1 : w.heap.size + 1 < v9.heap.size := (Array.getElem?_eq_some_iff.1 hK1).1
  exact bodyPost_ret (v := vec x y q) (by simp [results, Tryz.results57, go_sem, g1_0, g1_1, g1_2]) rfl ⟨x, y, q, rfl, hx, hy, hq, Eqv.refl _ _, Eqv.refl _ _, qe, hB2⟩
set_option maxHeartbeats 4000000 in
set_option maxRecDepth 100000 in
theorem mPoint_14_0 (bn on : Nat) (bx ox cx : Nat) (u0 : Nat) (x y z : Nat) (w : World) (c0 : w.cell? ⟨bn, on, none⟩ = some (.int .i64 14)) (c2 : w.cell? ⟨bn, on + 2, none⟩ = some (.int .i64 0)) (c3 : w.cell? ⟨bn, on + 3, none⟩ = some (.slice (some ⟨bx, ox, none⟩) 1 cx)) (n0 : w.cell? ⟨bx, ox, none⟩ = some (.float .f32 u0)) (ln : bn < w.heap.size) (lx : bx < w.heap.size) (_hc : 1 ≤ cx) (_hm : cx ≤ 9223372036854775807) (hx : x < 4294967296) (hy : y < 4294967296) (hz : z < 4294967296) :
    Calls Tryz.prog 57 #[.pointer (some ⟨bn, on, none⟩), vec x y z] w (Vec (foldN sizeS (mul32 1073741824 u0) x) y z w) := by
  go_enter Tryz.func57, Tryz.ntmps57
  go_wp2_with fail
  generalize hW0 : (w.alloc (.cells #[.float .f32 x, .float .f32 y, .float .f32 z] 34)).alloc (.cells #[.float .f32 0, .float .f32 0, .float .f32 0] 34) = W0
  have hB0 : Below w.heap.size w W0 := by subst hW0; exact by (repeat (first | exact Below.refl _ _ | assumption | refine below_drewN ?_ _ | refine Below.setCell ?_ (by first | omega | (simp <;> omega)) _ | refine Below.alloc ?_ (by first | omega | (simp <;> omega)) _))
  have hK0 : W0.heap[w.heap.size]? = some (.cells #[.float .f32 x, .float .f32 y, .float .f32 z] 34) := by subst hW0; exact heap_alloc2_old _ _ _
  have hK1 : W0.heap[w.heap.size + 1]? = some (.cells #[.float .f32 0, .float .f32 0, .float .f32 0] 34) := by subst hW0; exact heap_alloc2_new _ _ _
  clear hW0
  have hZ0 : w.heap.size + 1 < W0.heap.size := (Array.getElem?_eq_some_iff.1 hK1).1
  have g0_0 : W0.cell? ⟨w.heap.size, 0, none⟩ = some (.float .f32 x) := cell_of_row W0 _ 0 _ _ _ hK0
  have f0_0 : W0.frozen? ⟨w.heap.size, 0, none⟩ = false := frozen_of_row W0 _ 0 _ _ hK0
  have g0_1 : W0.cell? ⟨w.heap.size, 1, none⟩ = some (.float .f32 y) := cell_of_row W0 _ 1 _ _ _ hK0
  have f0_1 : W0.frozen? ⟨w.heap.size, 1, none⟩ = false := frozen_of_row W0 _ 1 _ _ hK0
  have g0_2 : W0.cell? ⟨w.heap.size, 2, none⟩ = some (.float .f32 z) := cell_of_row W0 _ 2 _ _ _ hK0
  have f0_2 : W0.frozen? ⟨w.heap.size, 2, none⟩ = false := frozen_of_row W0 _ 2 _ _ hK0
  have l0 : w.heap.size < W0.heap.size := (Array.getElem?_eq_some_iff.1 hK0).1
  have g1_0 : W0.cell? ⟨w.heap.size + 1, 0, none⟩ = some (.float .f32 0) := cell_of_row W0 _ 0 _ _ _ hK1
  have f1_0 : W0.frozen? ⟨w.heap.size + 1, 0, none⟩ = false := frozen_of_row W0 _ 0 _ _ hK1
  have g1_1 : W0.cell? ⟨w.heap.size + 1, 1, none⟩ = some (.float .f32 0) := cell_of_row W0 _ 1 _ _ _ hK1
  have f1_1 : W0.frozen? ⟨w.heap.size + 1, 1, none⟩ = false := frozen_of_row W0 _ 1 _ _ hK1
  have g1_2 : W0.cell? ⟨w.heap.size + 1, 2, none⟩ = some (.float .f32 0) := cell_of_row W0 _ 2 _ _ _ hK1
  have f1_2 : W0.frozen? ⟨w.heap.size + 1, 2, none⟩ = false := frozen_of_row W0 _ 2 _ _ hK1
  have l1 : w.heap.size + 1 < W0.heap.size := (Array.getElem?_eq_some_iff.1 hK1).1
  replace c0 : W0.cell? ⟨bn, on, none⟩ = some (.int .i64 14) := ((Ext.cell (show Ext w W0 from hB0) (o := on) ln)).trans c0
  replace c2 : W0.cell? ⟨bn, on + 2, none⟩ = some (.int .i64 0) := ((Ext.cell (show Ext w W0 from hB0) (o := on + 2) ln)).trans c2
  replace c3 : W0.cell? ⟨bn, on + 3, none⟩ = some (.slice (some ⟨bx, ox, none⟩) 1 cx) := ((Ext.cell (show Ext w W0 from hB0) (o := on + 3) ln)).trans c3
  replace n0 : W0.cell? ⟨bx, ox, none⟩ = some (.float .f32 u0) := ((Ext.cell (show Ext w W0 from hB0) (o := ox) lx)).trans n0
  replace ln := Nat.lt_of_lt_of_le ln (Ext.size' (show Ext w W0 from hB0))
  replace lx := Nat.lt_of_lt_of_le lx (Ext.size' (show Ext w W0 from hB0))
  refine wp_region_laterO 19 (SO (QL [(133, fun u => u = Value.float .f32 x), (140, V1 (foldN sizeS (mul32 1073741824 u0) x)), (141, fun u => ∃ q, u = vec q y z ∧ q < 4294967296 ∧ Eqv .f32 q (foldN sizeS (mul32 1073741824 u0) x))])) (stays_SO _) (by kernel_rfl) (by kernel_rfl) ?_
  repeat (first | (refine later_exO rfl (fun K hK => ?_); apply Exists.intro; refine ⟨fun w' hw' => ?_, ?_⟩; (obtain ⟨hcc, hff⟩ := Grew.cells hw'; clear hw'; go_simp; rfl); go_simp; refine hK _ ?_; clear hK K))
  (refine later_callO rfl (fun K hK => ?_); go_simp; refine ⟨_, _, fun _ _ => ⟨rfl, rfl⟩, fun w1 hw1 => ?_, fun u y1 hx1 hu => ?_⟩)
  · refine (mPick_ok x y z 0 _ (by decide)).mono ?_
    rintro e w2 ⟨rfl, hb⟩
    exact ⟨_, rfl, rfl, hb⟩
  obtain rfl : (fun u => u = Value.float .f32 x) u := hu
  (refine hK _ _ hx1 ?_; clear hK K)
  repeat (first | (refine later_exO rfl (fun K hK => ?_); apply Exists.intro; refine ⟨fun w' hw' => ?_, ?_⟩; (obtain ⟨hcc, hff⟩ := Grew.cells hw'; clear hw'; go_simp; rfl); go_simp; refine hK _ ?_; clear hK K))
  (refine later_callO rfl (fun K hK => ?_); go_simp; refine ⟨_, _, fun _ _ => ⟨rfl, rfl⟩, fun w1 hw1 => ?_, fun u y2 hx2 hu => ?_⟩)
  · refine (mFolded_ok _ _ _).mono ?_
    rintro e w2 ⟨r1, rfl, h1, e1, hb⟩
    exact ⟨_, rfl, ⟨r1, rfl, h1, e1⟩, hb⟩
  obtain ⟨p, rfl, hp, pe⟩ : (V1 (foldN sizeS (mul32 1073741824 u0) x)) u := hu
  (refine hK _ _ hx2 ?_; clear hK K)
  repeat (first | (refine later_exO rfl (fun K hK => ?_); apply Exists.intro; refine ⟨fun w' hw' => ?_, ?_⟩; (obtain ⟨hcc, hff⟩ := Grew.cells hw'; clear hw'; go_simp; rfl); go_simp; refine hK _ ?_; clear hK K))
  (refine later_callO rfl (fun K hK => ?_); go_simp; refine ⟨_, _, fun _ _ => ⟨rfl, rfl⟩, fun w1 hw1 => ?_, fun u y3 hx3 hu => ?_⟩)
  · refine (mSet_0 x y z p _).mono ?_
    rintro e w2 ⟨rfl, hb⟩
    exact ⟨_, rfl, ⟨p, rfl, hp, pe⟩, hb⟩
  obtain ⟨q, rfl, hq, qe⟩ : (fun u => ∃ q, u = vec q y z ∧ q < 4294967296 ∧ Eqv .f32 q (foldN sizeS (mul32 1073741824 u0) x)) u := hu
  (refine hK _ _ hx3 ?_; clear hK K)
  repeat (first | (refine later_exO rfl (fun K hK => ?_); apply Exists.intro; refine ⟨fun w' hw' => ?_, ?_⟩; (obtain ⟨hcc, hff⟩ := Grew.cells hw'; clear hw'; go_simp; rfl); go_simp; refine hK _ ?_; clear hK K))
  refine later_nilO ?_
  intro w4 hw4
  simp only [List.drop_succ_cons, List.drop_zero]
  clear g0_0 f0_0 g0_1 f0_1 g0_2 f0_2 l0 g1_0 f1_0 g1_1 f1_1 g1_2 f1_2 l1
  have hE0 : Ext W0 w4 := (((hx1).trans hx2).trans hx3).trans hw4
  have hB1 : Below w.heap.size w w4 := hB0.trans (hE0.mono hB0.size)
  replace hK0 := hE0.heap hK0
  replace hK1 := hE0.heap hK1
  have g0_0 : w4.cell? ⟨w.heap.size, 0, none⟩ = some (.float .f32 x) := cell_of_row w4 _ 0 _ _ _ hK0
  have f0_0 : w4.frozen? ⟨w.heap.size, 0, none⟩ = false := frozen_of_row w4 _ 0 _ _ hK0
  have g0_1 : w4.cell? ⟨w.heap.size, 1, none⟩ = some (.float .f32 y) := cell_of_row w4 _ 1 _ _ _ hK0
  have f0_1 : w4.frozen? ⟨w.heap.size, 1, none⟩ = false := frozen_of_row w4 _ 1 _ _ hK0
  have g0_2 : w4.cell? ⟨w.heap.size, 2, none⟩ = some (.float .f32 z) := cell_of_row w4 _ 2 _ _ _ hK0
  have f0_2 : w4.frozen? ⟨w.heap.size, 2, none⟩ = false := frozen_of_row w4 _ 2 _ _ hK0
  have l0 : w.heap.size < w4.heap.size := (Array.getElem?_eq_some_iff.1 hK0).1
  have g1_0 : w4.cell? ⟨w.heap.size + 1, 0, none⟩ = some (.float .f32 0) := cell_of_row w4 _ 0 _ _ _ hK1
  have f1_0 : w4.frozen? ⟨w.heap.size + 1, 0, none⟩ = false := frozen_of_row w4 _ 0 _ _ hK1
  have g1_1 : w4.cell? ⟨w.heap.size + 1, 1, none⟩ = some (.float .f32 0) := cell_of_row w4 _ 1 _ _ _ hK1
  have f1_1 : w4.frozen? ⟨w.heap.size + 1, 1, none⟩ = false := frozen_of_row w4 _ 1 _ _ hK1
  have g1_2 : w4.cell? ⟨w.heap.size + 1, 2, none⟩ = some (.float .f32 0) := cell_of_row w4 _ 2 _ _ _ hK1
  have f1_2 : w4.frozen? ⟨w.heap.size + 1, 2, none⟩ = false := frozen_of_row w4 _ 2 _ _ hK1
  have l1 : w.heap.size + 1 < w4.heap.size := (Array.getElem?_eq_some_iff.1 hK1).1
  replace c0 : w4.cell? ⟨bn, on, none⟩ = some (.int .i64 14) := ((Ext.cell hE0 (o := on) ln)).trans c0
  replace c2 : w4.cell? ⟨bn, on + 2, none⟩ = some (.int .i64 0) := ((Ext.cell hE0 (o := on + 2) ln)).trans c2
  replace c3 : w4.cell? ⟨bn, on + 3, none⟩ = some (.slice (some ⟨bx, ox, none⟩) 1 cx) := ((Ext.cell hE0 (o := on + 3) ln)).trans c3
  replace n0 : w4.cell? ⟨bx, ox, none⟩ = some (.float .f32 u0) := ((Ext.cell hE0 (o := ox) lx)).trans n0
  replace ln := Nat.lt_of_lt_of_le ln (Ext.size' hE0)
  replace lx := Nat.lt_of_lt_of_le lx (Ext.size' hE0)
  clear hw4 hx1 hx2 hx3
  go_wp2_with fail
  generalize hWs : ((w4.setCell ⟨w.heap.size + 1, 0, none⟩ (.float .f32 q)).setCell ⟨w.heap.size + 1, 1, none⟩ (.float .f32 y)).setCell ⟨w.heap.size + 1, 2, none⟩ (.float .f32 z) = v9
  have hS : v9.heap[w.heap.size + 1]? = some (.cells #[.float .f32 q, .float .f32 y, .float .f32 z] 34) := by
    subst hWs
    have s0 := heap_setCell_same (w4) _ 0 _ _ (.float .f32 q) hK1
    have s1 := heap_setCell_same ((w4).setCell ⟨w.heap.size + 1, 0, none⟩ (.float .f32 q)) _ 1 _ _ (.float .f32 y) s0
    have s2 := heap_setCell_same (((w4).setCell ⟨w.heap.size + 1, 0, none⟩ (.float .f32 q)).setCell ⟨w.heap.size + 1, 1, none⟩ (.float .f32 y)) _ 2 _ _ (.float .f32 z) s1
    simpa using s2
  have hO : ∀ q, q ≠ w.heap.size + 1 → v9.heap[q]? = w4.heap[q]? := fun q hq => by subst hWs; rw [heap_setCell_other _ _ _ _ hq, heap_setCell_other _ _ _ _ hq, heap_setCell_other _ _ _ _ hq]
  have hB2 : Below w.heap.size w v9 := by
    subst hWs
    have hle : w.heap.size ≤ w.heap.size + 1 := by omega
    refine Below.setCell ?_ hle _
    refine Below.setCell ?_ hle _
    refine Below.setCell ?_ hle _
    repeat (first | exact hB1 | refine below_drewN ?_ _)
  clear g0_0 f0_0 g0_1 f0_1 g0_2 f0_2 l0 g1_0 f1_0 g1_1 f1_1 g1_2 f1_2 l1
  replace hK0 := (hO _ (by omega)).trans hK0
  replace hK1 := hS
  clear hS hO hWs
  have g0_0 : v9.cell? ⟨w.heap.size, 0, none⟩ = some (.float .f32 x) := cell_of_row v9 _ 0 _ _ _ hK0
  have f0_0 : v9.frozen? ⟨w.heap.size, 0, none⟩ = false := frozen_of_row v9 _ 0 _ _ hK0
  have g0_1 : v9.cell? ⟨w.heap.size, 1, none⟩ = some (.float .f32 y) := cell_of_row v9 _ 1 _ _ _ hK0
  have f0_1 : v9.frozen? ⟨w.heap.size, 1, none⟩ = false := frozen_of_row v9 _ 1 _ _ hK0
  have g0_2 : v9.cell? ⟨w.heap.size, 2, none⟩ = some (.float .f32 z) := cell_of_row v9 _ 2 _ _ _ hK0
  have f0_2 : v9.frozen? ⟨w.heap.size, 2, none⟩ = false := frozen_of_row v9 _ 2 _ _ hK0
  have l0 : w.heap.size < v9.heap.size := (Array.getElem?_eq_some_iff.1 hK0).1
  have g1_0 : v9.cell? ⟨w.heap.size + 1, 0, none⟩ = some (.float .f32 q) := cell_of_row v9 _ 0 _ _ _ hK1
  have f1_0 : v9.frozen? ⟨w.heap.size + 1, 0, none⟩ = false := frozen_of_row v9 _ 0 _ _ hK1
  have g1_1 : v9.cell? ⟨w.heap.size + 1, 1, none⟩ = some (.float .f32 y) := cell_of_row v9 _ 1 _ _ _ hK1
  have f1_1 : v9.frozen? ⟨w.heap.size + 1, 1, none⟩ = false := frozen_of_row v9 _ 1 _ _ hK1
  have g1_2 : v9.cell? ⟨w.heap.size + 1, 2, none⟩ = some (.float .f32 z) := cell_of_row v9 _ 2 _ _ _ hK1
  have f1_2 : v9.frozen? ⟨w.heap.size + 1, 2, none⟩ = false := frozen_of_row v9 _ 2 _ _ hK1
  have l1 : w.heap.size + 1 < v9.heap.size := (Array.getElem?_eq_some_iff.1 hK1).1
  exact bodyPost_ret (v := vec q y z) (by simp [results, Tryz.results57, go_sem, g1_0, g1_1, g1_2]) rfl ⟨q, y, z, rfl, hq, hy, hz, qe, Eqv.refl _ _, Eqv.refl _ _, hB2⟩
set_option maxHeartbeats 4000000 in
set_option maxRecDepth 100000 in
theorem mPoint_14_1 (bn on : Nat) (bx ox cx : Nat) (u0 : Nat) (x y z : Nat) (w : World) (c0 : w.cell? ⟨bn, on, none⟩ = some (.int .i64 14)) (c2 : w.cell? ⟨bn, on + 2, none⟩ = some (.int .i64 1)) (c3 : w.cell? ⟨bn, on + 3, none⟩ = some (.slice (some ⟨bx, ox, none⟩) 1 cx)) (n0 : w.cell? ⟨bx, ox, none⟩ = some (.float .f32 u0)) (ln : bn < w.heap.size) (lx : bx < w.heap.size) (_hc : 1 ≤ cx) (_hm : cx ≤ 9223372036854775807) (hx : x < 4294967296) (hy : y < 4294967296) (hz : z < 4294967296) :
    Calls Tryz.prog 57 #[.pointer (some ⟨bn, on, none⟩), vec x y z] w (Vec x (foldN sizeS (mul32 1073741824 u0) y) z w) := by
  go_enter Tryz.func57, Tryz.ntmps57
  go_wp2_with fail
  generalize hW0 : (w.alloc (.cells #[.float .f32 x, .float .f32 y, .float .f32 z] 34)).alloc (.cells #[.float .f32 0, .float .f32 0, .float .f32 0] 34) = W0
  have hB0 : Below w.heap.size w W0 := by subst hW0; exact by (repeat (first | exact Below.refl _ _ | assumption | refine below_drewN ?_ _ | refine Below.setCell ?_ (by first | omega | (simp <;> omega)) _ | refine Below.alloc ?_ (by first | omega | (simp <;> omega)) _))
  have hK0 : W0.heap[w.heap.size]? = some (.cells #[.float .f32 x, .float .f32 y, .float .f32 z] 34) := by subst hW0; exact heap_alloc2_old _ _ _
  have hK1 : W0.heap[w.heap.size + 1]? = some (.cells #[.float .f32 0, .float .f32 0, .float .f32 0] 34) := by subst hW0; exact heap_alloc2_new _ _ _
  clear hW0
  have hZ0 : w.heap.size + 1 < W0.heap.size := (Array.getElem?_eq_some_iff.1 hK1).1
  have g0_0 : W0.cell? ⟨w.heap.size, 0, none⟩ = some (.float .f32 x) := cell_of_row W0 _ 0 _ _ _ hK0
  have f0_0 : W0.frozen? ⟨w.heap.size, 0, none⟩ = false := frozen_of_row W0 _ 0 _ _ hK0
  have g0_1 : W0.cell? ⟨w.heap.size, 1, none⟩ = some (.float .f32 y) := cell_of_row W0 _ 1 _ _ _ hK0
  have f0_1 : W0.frozen? ⟨w.heap.size, 1, none⟩ = false := frozen_of_row W0 _ 1 _ _ hK0
  have g0_2 : W0.cell? ⟨w.heap.size, 2, none⟩ = some (.float .f32 z) := cell_of_row W0 _ 2 _ _ _ hK0
  have f0_2 : W0.frozen? ⟨w.heap.size, 2, none⟩ = false := frozen_of_row W0 _ 2 _ _ hK0
  have l0 : w.heap.size < W0.heap.size := (Array.getElem?_eq_some_iff.1 hK0).1
  have g1_0 : W0.cell? ⟨w.heap.size + 1, 0, none⟩ = some (.float .f32 0) := cell_of_row W0 _ 0 _ _ _ hK1
  have f1_0 : W0.frozen? ⟨w.heap.size + 1, 0, none⟩ = false := frozen_of_row W0 _ 0 _ _ hK1
  have g1_1 : W0.cell? ⟨w.heap.size + 1, 1, none⟩ = some (.float .f32 0) := cell_of_row W0 _ 1 _ _ _ hK1
  have f1_1 : W0.frozen? ⟨w.heap.size + 1, 1, none⟩ = false := frozen_of_row W0 _ 1 _ _ hK1
  have g1_2 : W0.cell? ⟨w.heap.size + 1, 2, none⟩ = some (.float .f32 0) := cell_of_row W0 _ 2 _ _ _ hK1
  have f1_2 : W0.frozen? ⟨w.heap.size + 1, 2, none⟩ = false := frozen_of_row W0 _ 2 _ _ hK1
  have l1 : w.heap.size + 1 < W0.heap.size := (Array.getElem?_eq_some_iff.1 hK1).1
  replace c0 : W0.cell? ⟨bn, on, none⟩ = some (.int .i64 14) := ((Ext.cell (show Ext w W0 from hB0) (o := on) ln)).trans c0
  replace c2 : W0.cell? ⟨bn, on + 2, none⟩ = some (.int .i64 1) := ((Ext.cell (show Ext w W0 from hB0) (o := on + 2) ln)).trans c2
  replace c3 : W0.cell? ⟨bn, on + 3, none⟩ = some (.slice (some ⟨bx, ox, none⟩) 1 cx) := ((Ext.cell (show Ext w W0 from hB0) (o := on + 3) ln)).trans c3
  replace n0 : W0.cell? ⟨bx, ox, none⟩ = some (.float .f32 u0) := ((Ext.cell (show Ext w W0 from hB0) (o := ox) lx)).trans n0
  replace ln := Nat.lt_of_lt_of_le ln (Ext.size' (show Ext w W0 from hB0))
  replace lx := Nat.lt_of_lt_of_le lx (Ext.size' (show Ext w W0 from hB0))
  refine wp_region_laterO 19 (SO (QL [(133, fun u => u = Value.float .f32 y), (140, V1 (foldN sizeS (mul32 1073741824 u0) y)), (141, fun u => ∃ q, u = vec x q z ∧ q < 4294967296 ∧ Eqv .f32 q (foldN sizeS (mul32 1073741824 u0) y))])) (stays_SO _) (by kernel_rfl) (by kernel_rfl) ?_
  repeat (first | (refine later_exO rfl (fun K hK => ?_); apply Exists.intro; refine ⟨fun w' hw' => ?_, ?_⟩; (obtain ⟨hcc, hff⟩ := Grew.cells hw'; clear hw'; go_simp; rfl); go_simp; refine hK _ ?_; clear hK K))
  (refine later_callO rfl (fun K hK => ?_); go_simp; refine ⟨_, _, fun _ _ => ⟨rfl, rfl⟩, fun w1 hw1 => ?_, fun u y1 hx1 hu => ?_⟩)
  · refine (mPick_ok x y z 1 _ (by decide)).mono ?_
    rintro e w2 ⟨rfl, hb⟩
    exact ⟨_, rfl, rfl, hb⟩
  obtain rfl : (fun u => u = Value.float .f32 y) u := hu
  (refine hK _ _ hx1 ?_; clear hK K)
  repeat (first | (refine later_exO rfl (fun K hK => ?_); apply Exists.intro; refine ⟨fun w' hw' => ?_, ?_⟩; (obtain ⟨hcc, hff⟩ := Grew.cells hw'; clear hw'; go_simp; rfl); go_simp; refine hK _ ?_; clear hK K))
  (refine later_callO rfl (fun K hK => ?_); go_simp; refine ⟨_, _, fun _ _ => ⟨rfl, rfl⟩, fun w1 hw1 => ?_, fun u y2 hx2 hu => ?_⟩)
  · refine (mFolded_ok _ _ _).mono ?_
    rintro e w2 ⟨r1, rfl, h1, e1, hb⟩
    exact ⟨_, rfl, ⟨r1, rfl, h1, e1⟩, hb⟩
  obtain ⟨p, rfl, hp, pe⟩ : (V1 (foldN sizeS (mul32 1073741824 u0) y)) u := hu
  (refine hK _ _ hx2 ?_; clear hK K)
  repeat (first | (refine later_exO rfl (fun K hK => ?_); apply Exists.intro; refine ⟨fun w' hw' => ?_, ?_⟩; (obtain ⟨hcc, hff⟩ := Grew.cells hw'; clear hw'; go_simp; rfl); go_simp; refine hK _ ?_; clear hK K))
  (refine later_callO rfl (fun K hK => ?_); go_simp; refine ⟨_, _, fun _ _ => ⟨rfl, rfl⟩, fun w1 hw1 => ?_, fun u y3 hx3 hu => ?_⟩)
  · refine (mSet_1 x y z p _).mono ?_
    rintro e w2 ⟨rfl, hb⟩
    exact ⟨_, rfl, ⟨p, rfl, hp, pe⟩, hb⟩
  obtain ⟨q, rfl, hq, qe⟩ : (fun u => ∃ q, u = vec x q z ∧ q < 4294967296 ∧ Eqv .f32 q (foldN sizeS (mul32 1073741824 u0) y)) u := hu
  (refine hK _ _ hx3 ?_; clear hK K)
  repeat (first | (refine later_exO rfl (fun K hK => ?_); apply Exists.intro; refine ⟨fun w' hw' => ?_, ?_⟩; (obtain ⟨hcc, hff⟩ := Grew.cells hw'; clear hw'; go_simp; rfl); go_simp; refine hK _ ?_; clear hK K))
  refine later_nilO ?_
  intro w4 hw4
  simp only [List.drop_succ_cons, List.drop_zero]
  clear g0_0 f0_0 g0_1 f0_1 g0_2 f0_2 l0 g1_0 f1_0 g1_1 f1_1 g1_2 f1_2 l1
  have hE0 : Ext W0 w4 := (((hx1).trans hx2).trans hx3).trans hw4
  have hB1 : Below w.heap.size w w4 := hB0.trans (hE0.mono hB0.size)
  replace hK0 := hE0.heap hK0
  replace hK1 := hE0.heap hK1
  have g0_0 : w4.cell? ⟨w.heap.size, 0, none⟩ = some (.float .f32 x) := cell_of_row w4 _ 0 _ _ _ hK0
  have f0_0 : w4.frozen? ⟨w.heap.size, 0, none⟩ = false := frozen_of_row w4 _ 0 _ _ hK0
  have g0_1 : w4.cell? ⟨w.heap.size, 1, none⟩ = some (.float .f32 y) := cell_of_row w4 _ 1 _ _ _ hK0
  have f0_1 : w4.frozen? ⟨w.heap.size, 1, none⟩ = false := frozen_of_row w4 _ 1 _ _ hK0
  have g0_2 : w4.cell? ⟨w.heap.size, 2, none⟩ = some (.float .f32 z) := cell_of_row w4 _ 2 _ _ _ hK0
  have f0_2 : w4.frozen? ⟨w.heap.size, 2, none⟩ = false := frozen_of_row w4 _ 2 _ _ hK0
  have l0 : w.heap.size < w4.heap.size := (Array.getElem?_eq_some_iff.1 hK0).1
  have g1_0 : w4.cell? ⟨w.heap.size + 1, 0, none⟩ = some (.float .f32 0) := cell_of_row w4 _ 0 _ _ _ hK1
  have f1_0 : w4.frozen? ⟨w.heap.size + 1, 0, none⟩ = false := frozen_of_row w4 _ 0 _ _ hK1
  have g1_1 : w4.cell? ⟨w.heap.size + 1, 1, none⟩ = some (.float .f32 0) := cell_of_row w4 _ 1 _ _ _ hK1
  have f1_1 : w4.frozen? ⟨w.heap.size + 1, 1, none⟩ = false := frozen_of_row w4 _ 1 _ _ hK1
  have g1_2 : w4.cell? ⟨w.heap.size + 1, 2, none⟩ = some (.float .f32 0) := cell_of_row w4 _ 2 _ _ _ hK1
  have f1_2 : w4.frozen? ⟨w.heap.size + 1, 2, none⟩ = false := frozen_of_row w4 _ 2 _ _ hK1
  have l1 : w.heap.size + 1 < w4.heap.size := (Array.getElem?_eq_some_iff.1 hK1).1
  replace c0 : w4.cell? ⟨bn, on, none⟩ = some (.int .i64 14) := ((Ext.cell hE0 (o := on) ln)).trans c0
  replace c2 : w4.cell? ⟨bn, on + 2, none⟩ = some (.int .i64 1) := ((Ext.cell hE0 (o := on + 2) ln)).trans c2
  replace c3 : w4.cell? ⟨bn, on + 3, none⟩ = some (.slice (some ⟨bx, ox, none⟩) 1 cx) := ((Ext.cell hE0 (o := on + 3) ln)).trans c3
  replace n0 : w4.cell? ⟨bx, ox, none⟩ = some (.float .f32 u0) := ((Ext.cell hE0 (o := ox) lx)).trans n0
  replace ln := Nat.lt_of_lt_of_le ln (Ext.size' hE0)
  replace lx := Nat.lt_of_lt_of_le lx (Ext.size' hE0)
  clear hw4 hx1 hx2 hx3
  go_wp2_with fail
  generalize hWs : ((w4.setCell ⟨w.heap.size + 1, 0, none⟩ (.float .f32 x)).setCell ⟨w.heap.size + 1, 1, none⟩ (.float .f32 q)).setCell ⟨w.heap.size + 1, 2, none⟩ (.float .f32 z) = v9
  have hS : v9.heap[w.heap.size + 1]? = some (.cells #[.float .f32 x, .float .f32 q, .float .f32 z] 34) := by
    subst hWs
    have s0 := heap_setCell_same (w4) _ 0 _ _ (.float .f32 x) hK1
    have s1 := heap_setCell_same ((w4).setCell ⟨w.heap.size + 1, 0, none⟩ (.float .f32 x)) _ 1 _ _ (.float .f32 q) s0
    have s2 := heap_setCell_same (((w4).setCell ⟨w.heap.size + 1, 0, none⟩ (.float .f32 x)).setCell ⟨w.heap.size + 1, 1, none⟩ (.float .f32 q)) _ 2 _ _ (.float .f32 z) s1
    simpa using s2
  have hO : ∀ q, q ≠ w.heap.size + 1 → v9.heap[q]? = w4.heap[q]? := fun q hq => by subst hWs; rw [heap_setCell_other _ _ _ _ hq, heap_setCell_other _ _ _ _ hq, heap_setCell_other _ _ _ _ hq]
  have hB2 : Below w.heap.size w v9 := by
    subst hWs
    have hle : w.heap.size ≤ w.heap.size + 1 := by omega
    refine Below.setCell ?_ hle _
    refine Below.setCell ?_ hle _
    refine Below.setCell ?_ hle _
    repeat (first | exact hB1 | refine below_drewN ?_ _)
  clear g0_0 f0_0 g0_1 f0_1 g0_2 f0_2 l0 g1_0 f1_0 g1_1 f1_1 g1_2 f1_2 l1
  replace hK0 := (hO _ (by omega)).trans hK0
  replace hK1 := hS
  clear hS hO hWs
  have g0_0 : v9.cell? ⟨w.heap.size, 0, none⟩ = some (.float .f32 x) := cell_of_row v9 _ 0 _ _ _ hK0
  have f0_0 : v9.frozen? ⟨w.heap.size, 0, none⟩ = false := frozen_of_row v9 _ 0 _ _ hK0
  have g0_1 : v9.cell? ⟨w.heap.size, 1, none⟩ = some (.float .f32 y) := cell_of_row v9 _ 1 _ _ _ hK0
  have f0_1 : v9.frozen? ⟨w.heap.size, 1, none⟩ = false := frozen_of_row v9 _ 1 _ _ hK0
  have g0_2 : v9.cell? ⟨w.heap.size, 2, none⟩ = some (.float .f32 z) := cell_of_row v9 _ 2 _ _ _ hK0
  have f0_2 : v9.frozen? ⟨w.heap.size, 2, none⟩ = false := frozen_of_row v9 _ 2 _ _ hK0
  have l0 : w.heap.size < v9.heap.size := (Array.getElem?_eq_some_iff.1 hK0).1
  have g1_0 : v9.cell? ⟨w.heap.size + 1, 0, none⟩ = some (.float .f32 x) := cell_of_row v9 _ 0 _ _ _ hK1
  have f1_0 : v9.frozen? ⟨w.heap.size + 1, 0, none⟩ = false := frozen_of_row v9 _ 0 _ _ hK1
  have g1_1 : v9.cell? ⟨w.heap.size + 1, 1, none⟩ = some (.float .f32 q) := cell_of_row v9 _ 1 _ _ _ hK1
  have f1_1 : v9.frozen? ⟨w.heap.size + 1, 1, none⟩ = false := frozen_of_row v9 _ 1 _ _ hK1
  have g1_2 : v9.cell? ⟨w.heap.size + 1, 2, none⟩ = some (.float .f32 z) := cell_of_row v9 _ 2 _ _ _ hK1
  have f1_2 : v9.frozen? ⟨w.heap.size + 1, 2, none⟩ = false := frozen_of_row v9 _ 2 _ _ hK1
  have l1 : w.heap.size + 1 < v9.heap.size := (Array.getElem?_eq_some_iff.1 hK1).1
  exact bodyPost_ret (v := vec x q z) (by simp [results, Tryz.results57, go_sem, g1_0, g1_1, g1_2]) rfl ⟨x, q, z, rfl, hx, hq, hz, Eqv.refl _ _, qe, Eqv.refl _ _, hB2⟩
set_option maxHeartbeats 4000000 in
set_option maxRecDepth 100000 in
theorem mPoint_14_2 (bn on : Nat) (bx ox cx : Nat) (u0 : Nat) (x y z : Nat) (w : World) (c0 : w.cell? ⟨bn, on, none⟩ = some (.int .i64 14)) (c2 : w.cell? ⟨bn, on + 2, none⟩ = some (.int .i64 2)) (c3 : w.cell? ⟨bn, on + 3, none⟩ = some (.slice (some ⟨bx, ox, none⟩) 1 cx)) (n0 : w.cell? ⟨bx, ox, none⟩ = some (.float .f32 u0)) (ln : bn < w.heap.size) (lx : bx < w.heap.size) (_hc : 1 ≤ cx) (_hm : cx ≤ 9223372036854775807) (hx : x < 4294967296) (hy : y < 4294967296) (hz : z < 4294967296) :
    Calls Tryz.prog 57 #[.pointer (some ⟨bn, on, none⟩), vec x y z] w (Vec x y (foldN sizeS (mul32 1073741824 u0) z) w) := by
  go_enter Tryz.func57, Tryz.ntmps57
  go_wp2_with fail
  generalize hW0 : (w.alloc (.cells #[.float .f32 x, .float .f32 y, .float .f32 z] 34)).alloc (.cells #[.float .f32 0, .float .f32 0, .float .f32 0] 34) = W0
  have hB0 : Below w.heap.size w W0 := by subst hW0; exact by (repeat (first | exact Below.refl _ _ | assumption | refine below_drewN ?_ _ | refine Below.setCell ?_ (by first | omega | (simp <;> omega)) _ | refine Below.alloc ?_ (by first | omega | (simp <;> omega)) _))
  have hK0 : W0.heap[w.heap.size]? = some (.cells #[.float .f32 x, .float .f32 y, .float .f32 z] 34) := by subst hW0; exact heap_alloc2_old _ _ _
  have hK1 : W0.heap[w.heap.size + 1]? = some (.cells #[.float .f32 0, .float .f32 0, .float .f32 0] 34) := by subst hW0; exact heap_alloc2_new _ _ _
  clear hW0
  have hZ0 : w.heap.size + 1 < W0.heap.size := (Array.getElem?_eq_some_iff.1 hK1).1
  have g0_0 : W0.cell? ⟨w.heap.size, 0, none⟩ = some (.float .f32 x) := cell_of_row W0 _ 0 _ _ _ hK0
  have f0_0 : W0.frozen? ⟨w.heap.size, 0, none⟩ = false := frozen_of_row W0 _ 0 _ _ hK0
  have g0_1 : W0.cell? ⟨w.heap.size, 1, none⟩ = some (.float .f32 y) := cell_of_row W0 _ 1 _ _ _ hK0
  have f0_1 : W0.frozen? ⟨w.heap.size, 1, none⟩ = false := frozen_of_row W0 _ 1 _ _ hK0
  have g0_2 : W0.cell? ⟨w.heap.size, 2, none⟩ = some (.float .f32 z) := cell_of_row W0 _ 2 _ _ _ hK0
  have f0_2 : W0.frozen? ⟨w.heap.size, 2, none⟩ = false := frozen_of_row W0 _ 2 _ _ hK0
  have l0 : w.heap.size < W0.heap.size := (Array.getElem?_eq_some_iff.1 hK0).1
  have g1_0 : W0.cell? ⟨w.heap.size + 1, 0, none⟩ = some (.float .f32 0) := cell_of_row W0 _ 0 _ _ _ hK1
  have f1_0 : W0.frozen? ⟨w.heap.size + 1, 0, none⟩ = false := frozen_of_row W0 _ 0 _ _ hK1
  have g1_1 : W0.cell? ⟨w.heap.size + 1, 1, none⟩ = some (.float .f32 0) := cell_of_row W0 _ 1 _ _ _ hK1
  have f1_1 : W0.frozen? ⟨w.heap.size + 1, 1, none⟩ = false := frozen_of_row W0 _ 1 _ _ hK1
  have g1_2 : W0.cell? ⟨w.heap.size + 1, 2, none⟩ = some (.float .f32 0) := cell_of_row W0 _ 2 _ _ _ hK1
  have f1_2 : W0.frozen? ⟨w.heap.size + 1, 2, none⟩ = false := frozen_of_row W0 _ 2 _ _ hK1
  have l1 : w.heap.size + 1 < W0.heap.size := (Array.getElem?_eq_some_iff.1 hK1).1
  replace c0 : W0.cell? ⟨bn, on, none⟩ = some (.int .i64 14) := ((Ext.cell (show Ext w W0 from hB0) (o := on) ln)).trans c0
  replace c2 : W0.cell? ⟨bn, on + 2, none⟩ = some (.int .i64 2) := ((Ext.cell (show Ext w W0 from hB0) (o := on + 2) ln)).trans c2
  replace c3 : W0.cell? ⟨bn, on + 3, none⟩ = some (.slice (some ⟨bx, ox, none⟩) 1 cx) := ((Ext.cell (show Ext w W0 from hB0) (o := on + 3) ln)).trans c3
  replace n0 : W0.cell? ⟨bx, ox, none⟩ = some (.float .f32 u0) := ((Ext.cell (show Ext w W0 from hB0) (o := ox) lx)).trans n0
  replace ln := Nat.lt_of_lt_of_le ln (Ext.size' (show Ext w W0 from hB0))
  replace lx := Nat.lt_of_lt_of_le lx (Ext.size' (show Ext w W0 from hB0))
  refine wp_region_laterO 19 (SO (QL [(133, fun u => u = Value.float .f32 z), (140, V1 (foldN sizeS (mul32 1073741824 u0) z)), (141, fun u => ∃ q, u = vec x y q ∧ q < 4294967296 ∧ Eqv .f32 q (foldN sizeS (mul32 1073741824 u0) z))])) (stays_SO _) (by kernel_rfl) (by kernel_rfl) ?_
  repeat (first | (refine later_exO rfl (fun K hK => ?_); apply Exists.intro; refine ⟨fun w' hw' => ?_, ?_⟩; (obtain ⟨hcc, hff⟩ := Grew.cells hw'; clear hw'; go_simp; rfl); go_simp; refine hK _ ?_; clear hK K))
  (refine later_callO rfl (fun K hK => ?_); go_simp; refine ⟨_, _, fun _ _ => ⟨rfl, rfl⟩, fun w1 hw1 => ?_, fun u y1 hx1 hu => ?_⟩)
  · refine (mPick_ok x y z 2 _ (by decide)).mono ?_
    rintro e w2 ⟨rfl, hb⟩
    exact ⟨_, rfl, rfl, hb⟩
  obtain rfl : (fun u => u = Value.float .f32 z) u := hu
  (refine hK _ _ hx1 ?_; clear hK K)
  repeat (first | (refine later_exO rfl (fun K hK => ?_); apply Exists.intro; refine ⟨fun w' hw' => ?_, ?_⟩; (obtain ⟨hcc, hff⟩ := Grew.cells hw'; clear hw'; go_simp; rfl); go_simp; refine hK _ ?_; clear hK K))
  (refine later_callO rfl (fun K hK => ?_); go_simp; refine ⟨_, _, fun _ _ => ⟨rfl, rfl⟩, fun w1 hw1 => ?_, fun u y2 hx2 hu => ?_⟩)
  · refine (mFolded_ok _ _ _).mono ?_
    rintro e w2 ⟨r1, rfl, h1, e1, hb⟩
    exact ⟨_, rfl, ⟨r1, rfl, h1, e1⟩, hb⟩
  obtain ⟨p, rfl, hp, pe⟩ : (V1 (foldN sizeS (mul32 1073741824 u0) z)) u := hu
  (refine hK _ _ hx2 ?_; clear hK K)
  repeat (first | (refine later_exO rfl (fun K hK => ?_); apply Exists.intro; refine ⟨fun w' hw' => ?_, ?_⟩; (obtain ⟨hcc, hff⟩ := Grew.cells hw'; clear hw'; go_simp; rfl); go_simp; refine hK _ ?_; clear hK K))
  (refine later_callO rfl (fun K hK => ?_); go_simp; refine ⟨_, _, fun _ _ => ⟨rfl, rfl⟩, fun w1 hw1 => ?_, fun u y3 hx3 hu => ?_⟩)
  · refine (mSet_2 x y z p _).mono ?_
    rintro e w2 ⟨rfl, hb⟩
    exact ⟨_, rfl, ⟨p, rfl, hp, pe⟩, hb⟩
  obtain ⟨q, rfl, hq, qe⟩ : (fun u => ∃ q, u = vec x y q ∧ q < 4294967296 ∧ Eqv .f32 q (foldN sizeS (mul32 1073741824 u0) z)) u := hu
  (refine hK _ _ hx3 ?_; clear hK K)
  repeat (first | (refine later_exO rfl (fun K hK => ?_); apply Exists.intro; refine ⟨fun w' hw' => ?_, ?_⟩; (obtain ⟨hcc, hff⟩ := Grew.cells hw'; clear hw'; go_simp; rfl); go_simp; refine hK _ ?_; clear hK K))
  refine later_nilO ?_
  intro w4 hw4
  simp only [List.drop_succ_cons, List.drop_zero]
  clear g0_0 f0_0 g0_1 f0_1 g0_2 f0_2 l0 g1_0 f1_0 g1_1 f1_1 g1_2 f1_2 l1
  have hE0 : Ext W0 w4 := (((hx1).trans hx2).trans hx3).trans hw4
  have hB1 : Below w.heap.size w w4 := hB0.trans (hE0.mono hB0.size)
  replace hK0 := hE0.heap hK0
  replace hK1 := hE0.heap hK1
  have g0_0 : w4.cell? ⟨w.heap.size, 0, none⟩ = some (.float .f32 x) := cell_of_row w4 _ 0 _ _ _ hK0
  have f0_0 : w4.frozen? ⟨w.heap.size, 0, none⟩ = false := frozen_of_row w4 _ 0 _ _ hK0
  have g0_1 : w4.cell? ⟨w.heap.size, 1, none⟩ = some (.float .f32 y) := cell_of_row w4 _ 1 _ _ _ hK0
  have f0_1 : w4.frozen? ⟨w.heap.size, 1, none⟩ = false := frozen_of_row w4 _ 1 _ _ hK0
  have g0_2 : w4.cell? ⟨w.heap.size, 2, none⟩ = some (.float .f32 z) := cell_of_row w4 _ 2 _ _ _ hK0
  have f0_2 : w4.frozen? ⟨w.heap.size, 2, none⟩ = false := frozen_of_row w4 _ 2 _ _ hK0
  have l0 : w.heap.size < w4.heap.size := (Array.getElem?_eq_some_iff.1 hK0).1
  have g1_0 : w4.cell? ⟨w.heap.size + 1, 0, none⟩ = some (.float .f32 0) := cell_of_row w4 _ 0 _ _ _ hK1
  have f1_0 : w4.frozen? ⟨w.heap.size + 1, 0, none⟩ = false := frozen_of_row w4 _ 0 _ _ hK1
  have g1_1 : w4.cell? ⟨w.heap.size + 1, 1, none⟩ = some (.float .f32 0) := cell_of_row w4 _ 1 _ _ _ hK1
  have f1_1 : w4.frozen? ⟨w.heap.size + 1, 1, none⟩ = false := frozen_of_row w4 _ 1 _ _ hK1
  have g1_2 : w4.cell? ⟨w.heap.size + 1, 2, none⟩ = some (.float .f32 0) := cell_of_row w4 _ 2 _ _ _ hK1
  have f1_2 : w4.frozen? ⟨w.heap.size + 1, 2, none⟩ = false := frozen_of_row w4 _ 2 _ _ hK1
  have l1 : w.heap.size + 1 < w4.heap.size := (Array.getElem?_eq_some_iff.1 hK1).1
  replace c0 : w4.cell? ⟨bn, on, none⟩ = some (.int .i64 14) := ((Ext.cell hE0 (o := on) ln)).trans c0
  replace c2 : w4.cell? ⟨bn, on + 2, none⟩ = some (.int .i64 2) := ((Ext.cell hE0 (o := on + 2) ln)).trans c2
  replace c3 : w4.cell? ⟨bn, on + 3, none⟩ = some (.slice (some ⟨bx, ox, none⟩) 1 cx) := ((Ext.cell hE0 (o := on + 3) ln)).trans c3
  replace n0 : w4.cell? ⟨bx, ox, none⟩ = some (.float .f32 u0) := ((Ext.cell hE0 (o := ox) lx)).trans n0
  replace ln := Nat.lt_of_lt_of_le ln (Ext.size' hE0)
  replace lx := Nat.lt_of_lt_of_le lx (Ext.size' hE0)
  clear hw4 hx1 hx2 hx3
  go_wp2_with fail
  generalize hWs : ((w4.setCell ⟨w.heap.size + 1, 0, none⟩ (.float .f32 x)).setCell ⟨w.heap.size + 1, 1, none⟩ (.float .f32 y)).setCell ⟨w.heap.size + 1, 2, none⟩ (.float .f32 q) = v9
  have hS : v9.heap[w.heap.size + 1]? = some (.cells #[.float .f32 x, .float .f32 y, .float .f32 q] 34) := by
    subst hWs
    have s0 := heap_setCell_same (w4) _ 0 _ _ (.float .f32 x) hK1
    have s1 := heap_setCell_same ((w4).setCell ⟨w.heap.size + 1, 0, none⟩ (.float .f32 x)) _ 1 _ _ (.float .f32 y) s0
    have s2 := heap_setCell_same (((w4).setCell ⟨w.heap.size + 1, 0, none⟩ (.float .f32 x)).setCell ⟨w.heap.size + 1, 1, none⟩ (.float .f32 y)) _ 2 _ _ (.float .f32 q) s1
    simpa using s2
  have hO : ∀ q, q ≠ w.heap.size + 1 → v9.heap[q]? = w4.heap[q]? := fun q hq => by subst hWs; rw [heap_setCell_other _ _ _ _ hq, heap_setCell_other _ _ _ _ hq, heap_setCell_other _ _ _ _ hq]
  have hB2 : Below w.heap.size w v9 := by
    subst hWs
    have hle : w.heap.size ≤ w.heap.size + 1 := by omega
    refine Below.setCell ?_ hle _
    refine Below.setCell ?_ hle _
    refine Below.setCell ?_ hle _
    repeat (first | exact hB1 | refine below_drewN ?_ _)
  clear g0_0 f0_0 g0_1 f0_1 g0_2 f0_2 l0 g1_0 f1_0 g1_1 f1_1 g1_2 f1_2 l1
  replace hK0 := (hO _ (by omega)).trans hK0
  replace hK1 := hS
  clear hS hO hWs
  have g0_0 : v9.cell? ⟨w.heap.size, 0, none⟩ = some (.float .f32 x) := cell_of_row v9 _ 0 _ _ _ hK0
  have f0_0 : v9.frozen? ⟨w.heap.size, 0, none⟩ = false := frozen_of_row v9 _ 0 _ _ hK0
  have g0_1 : v9.cell? ⟨w.heap.size, 1, none⟩ = some (.float .f32 y) := cell_of_row v9 _ 1 _ _ _ hK0
  have f0_1 : v9.frozen? ⟨w.heap.size, 1, none⟩ = false := frozen_of_row v9 _ 1 _ _ hK0
  have g0_2 : v9.cell? ⟨w.heap.size, 2, none⟩ = some (.float .f32 z) := cell_of_row v9 _ 2 _ _ _ hK0
  have f0_2 : v9.frozen? ⟨w.heap.size, 2, none⟩ = false := frozen_of_row v9 _ 2 _ _ hK0
  have l0 : w.heap.size < v9.heap.size := (Array.getElem?_eq_some_iff.1 hK0).1
  have g1_0 : v9.cell? ⟨w.heap.size + 1, 0, none⟩ = some (.float .f32 x) := cell_of_row v9 _ 0 _ _ _ hK1
  have f1_0 : v9.frozen? ⟨w.heap.size + 1, 0, none⟩ = false := frozen_of_row v9 _ 0 _ _ hK1
  have g1_1 : v9.cell? ⟨w.heap.size + 1, 1, none⟩ = some (.float .f32 y) := cell_of_row v9 _ 1 _ _ _ hK1
  have f1_1 : v9.frozen? ⟨w.heap.size + 1, 1, none⟩ = false := frozen_of_row v9 _ 1 _ _ hK1
  have g1_2 : v9.cell? ⟨w.heap.size + 1, 2, none⟩ = some (.float .f32 q) := cell_of_row v9 _ 2 _ _ _ hK1
  have f1_2 : v9.frozen? ⟨w.heap.size + 1, 2, none⟩ = false := frozen_of_row v9 _ 2 _ _ hK1
  have l1 : w.heap.size + 1 < v9.heap.size := (Array.getElem?_eq_some_iff.1 hK1).1
  exact bodyPost_ret (v := vec x y q) (by simp [results, Tryz.results57, go_sem, g1_0, g1_1, g1_2]) rfl ⟨x, y, q, rfl, hx, hy, hq, Eqv.refl _ _, Eqv.refl _ _, qe, hB2⟩
end Go.Proofs.YtaamfjokkphckabGreatDoor
