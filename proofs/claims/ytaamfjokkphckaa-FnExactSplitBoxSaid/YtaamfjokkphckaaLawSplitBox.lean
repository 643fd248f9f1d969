/- Law FnExactSplitBox: for every input the program answers as its model. -/
import Derived.Test.YtaamfjokkphckaaRows
import Derived.Test.YtaamfjokkphckaaLaw
import Derived.Test.YtaamfjokkphckaaBoxLaw
import Derived.Test.YtaamfjokkphckaaLaw4
import Derived.Test.YtaamfjokkphckaaBox6
import Derived.Test.YtaamfjokkphckaaBox8
import Derived.ProofKit
import Derived.Outline
namespace Go.Proofs.Ytaamfjokkphckaa.lawSplitBox
open Go.Proofs.FX Go.RowKit Go.ChangeShapes Go.WideShapes Go.ChangeAt
open Go.WideMaps Go.WideElems
open Go.ChangeMaps (setBlock shut_map_nil open_string shut_string keptBut_setBlock frozen?_setBlock heap_setBlock_same)

set_option maxHeartbeats 8000000 in
set_option maxRecDepth 100000 in
theorem walkq (q : B6) (_hq : q.Lt) (w : World) :
    Calls Try.prog 8 #[q.v] w fun e w' => e = .returned (.bool true) ∧ Below w.heap.size w w' := by
  have C0 : ∀ w : World, _ := fun w => specSplitBox_ok q w _hq
  have C1 : ∀ w : World, _ := fun w => SplitBox_ok q w _hq
  go_enter Try.func8, Try.ntmps8
  go_wp2_with fail
  generalize hW0 : w.alloc (.cells #[.float .f32 q.a, .float .f32 q.b, .float .f32 q.c, .float .f32 q.x, .float .f32 q.y, .float .f32 q.z] 26) = W0
  have hB0 : Below w.heap.size w W0 := by subst hW0; exact by (repeat (first | exact Below.refl _ _ | assumption | refine below_drewN ?_ _ | refine Below.setCell ?_ (by first | omega | (simp <;> omega)) _ | refine Below.alloc ?_ (by first | omega | (simp <;> omega)) _))
  have hK0 : W0.heap[w.heap.size]? = some (.cells #[.float .f32 q.a, .float .f32 q.b, .float .f32 q.c, .float .f32 q.x, .float .f32 q.y, .float .f32 q.z] 26) := by subst hW0; exact Go.heap_alloc_new _ _
  clear hW0
  have hZ0 : w.heap.size < W0.heap.size := (Array.getElem?_eq_some_iff.1 hK0).1
  have g0_0 : W0.cell? ⟨w.heap.size, 0, none⟩ = some (.float .f32 q.a) := cell_of_row W0 _ 0 _ _ _ hK0
  have f0_0 : W0.frozen? ⟨w.heap.size, 0, none⟩ = false := frozen_of_row W0 _ 0 _ _ hK0
  have g0_1 : W0.cell? ⟨w.heap.size, 1, none⟩ = some (.float .f32 q.b) := cell_of_row W0 _ 1 _ _ _ hK0
  have f0_1 : W0.frozen? ⟨w.heap.size, 1, none⟩ = false := frozen_of_row W0 _ 1 _ _ hK0
  have g0_2 : W0.cell? ⟨w.heap.size, 2, none⟩ = some (.float .f32 q.c) := cell_of_row W0 _ 2 _ _ _ hK0
  have f0_2 : W0.frozen? ⟨w.heap.size, 2, none⟩ = false := frozen_of_row W0 _ 2 _ _ hK0
  have g0_3 : W0.cell? ⟨w.heap.size, 3, none⟩ = some (.float .f32 q.x) := cell_of_row W0 _ 3 _ _ _ hK0
  have f0_3 : W0.frozen? ⟨w.heap.size, 3, none⟩ = false := frozen_of_row W0 _ 3 _ _ hK0
  have g0_4 : W0.cell? ⟨w.heap.size, 4, none⟩ = some (.float .f32 q.y) := cell_of_row W0 _ 4 _ _ _ hK0
  have f0_4 : W0.frozen? ⟨w.heap.size, 4, none⟩ = false := frozen_of_row W0 _ 4 _ _ hK0
  have g0_5 : W0.cell? ⟨w.heap.size, 5, none⟩ = some (.float .f32 q.z) := cell_of_row W0 _ 5 _ _ _ hK0
  have f0_5 : W0.frozen? ⟨w.heap.size, 5, none⟩ = false := frozen_of_row W0 _ 5 _ _ hK0
  have l0 : w.heap.size < W0.heap.size := (Array.getElem?_eq_some_iff.1 hK0).1
  refine (toBox_ok q.a q.b q.c q.x q.y q.z _).mono ?_
  rintro e a0 ⟨rfl, hb⟩
  clear g0_0 f0_0 g0_1 f0_1 g0_2 f0_2 g0_3 f0_3 g0_4 f0_4 g0_5 f0_5 l0
  have hE0 : Ext W0 a0 := hb
  have hB1 : Below w.heap.size w a0 := hB0.trans (hE0.mono hB0.size)
  replace hK0 := hE0.heap hK0
  have g0_0 : a0.cell? ⟨w.heap.size, 0, none⟩ = some (.float .f32 q.a) := cell_of_row a0 _ 0 _ _ _ hK0
  have f0_0 : a0.frozen? ⟨w.heap.size, 0, none⟩ = false := frozen_of_row a0 _ 0 _ _ hK0
  have g0_1 : a0.cell? ⟨w.heap.size, 1, none⟩ = some (.float .f32 q.b) := cell_of_row a0 _ 1 _ _ _ hK0
  have f0_1 : a0.frozen? ⟨w.heap.size, 1, none⟩ = false := frozen_of_row a0 _ 1 _ _ hK0
  have g0_2 : a0.cell? ⟨w.heap.size, 2, none⟩ = some (.float .f32 q.c) := cell_of_row a0 _ 2 _ _ _ hK0
  have f0_2 : a0.frozen? ⟨w.heap.size, 2, none⟩ = false := frozen_of_row a0 _ 2 _ _ hK0
  have g0_3 : a0.cell? ⟨w.heap.size, 3, none⟩ = some (.float .f32 q.x) := cell_of_row a0 _ 3 _ _ _ hK0
  have f0_3 : a0.frozen? ⟨w.heap.size, 3, none⟩ = false := frozen_of_row a0 _ 3 _ _ hK0
  have g0_4 : a0.cell? ⟨w.heap.size, 4, none⟩ = some (.float .f32 q.y) := cell_of_row a0 _ 4 _ _ _ hK0
  have f0_4 : a0.frozen? ⟨w.heap.size, 4, none⟩ = false := frozen_of_row a0 _ 4 _ _ hK0
  have g0_5 : a0.cell? ⟨w.heap.size, 5, none⟩ = some (.float .f32 q.z) := cell_of_row a0 _ 5 _ _ _ hK0
  have f0_5 : a0.frozen? ⟨w.heap.size, 5, none⟩ = false := frozen_of_row a0 _ 5 _ _ hK0
  have l0 : w.heap.size < a0.heap.size := (Array.getElem?_eq_some_iff.1 hK0).1
  clear hb
  go_wp2_with fail
  refine (C0 _).mono ?_
  rintro e b0 ⟨r0, t0, rfl, hl0, hm0, he0, hf0, hb⟩
  clear g0_0 f0_0 g0_1 f0_1 g0_2 f0_2 g0_3 f0_3 g0_4 f0_4 g0_5 f0_5 l0
  have hE1 : Ext a0 b0 := hb
  have hB2 : Below w.heap.size w b0 := hB1.trans (hE1.mono hB1.size)
  replace hK0 := hE1.heap hK0
  have g0_0 : b0.cell? ⟨w.heap.size, 0, none⟩ = some (.float .f32 q.a) := cell_of_row b0 _ 0 _ _ _ hK0
  have f0_0 : b0.frozen? ⟨w.heap.size, 0, none⟩ = false := frozen_of_row b0 _ 0 _ _ hK0
  have g0_1 : b0.cell? ⟨w.heap.size, 1, none⟩ = some (.float .f32 q.b) := cell_of_row b0 _ 1 _ _ _ hK0
  have f0_1 : b0.frozen? ⟨w.heap.size, 1, none⟩ = false := frozen_of_row b0 _ 1 _ _ hK0
  have g0_2 : b0.cell? ⟨w.heap.size, 2, none⟩ = some (.float .f32 q.c) := cell_of_row b0 _ 2 _ _ _ hK0
  have f0_2 : b0.frozen? ⟨w.heap.size, 2, none⟩ = false := frozen_of_row b0 _ 2 _ _ hK0
  have g0_3 : b0.cell? ⟨w.heap.size, 3, none⟩ = some (.float .f32 q.x) := cell_of_row b0 _ 3 _ _ _ hK0
  have f0_3 : b0.frozen? ⟨w.heap.size, 3, none⟩ = false := frozen_of_row b0 _ 3 _ _ hK0
  have g0_4 : b0.cell? ⟨w.heap.size, 4, none⟩ = some (.float .f32 q.y) := cell_of_row b0 _ 4 _ _ _ hK0
  have f0_4 : b0.frozen? ⟨w.heap.size, 4, none⟩ = false := frozen_of_row b0 _ 4 _ _ hK0
  have g0_5 : b0.cell? ⟨w.heap.size, 5, none⟩ = some (.float .f32 q.z) := cell_of_row b0 _ 5 _ _ _ hK0
  have f0_5 : b0.frozen? ⟨w.heap.size, 5, none⟩ = false := frozen_of_row b0 _ 5 _ _ hK0
  have l0 : w.heap.size < b0.heap.size := (Array.getElem?_eq_some_iff.1 hK0).1
  clear hb
  go_wp2_with fail
  clear g0_0 f0_0 g0_1 f0_1 g0_2 f0_2 g0_3 f0_3 g0_4 f0_4 g0_5 f0_5 l0
  generalize hWa : (b0.alloc (.cells #[.float .f32 r0.a, .float .f32 r0.b, .float .f32 r0.c, .float .f32 r0.x, .float .f32 r0.y, .float .f32 r0.z] 30)).alloc (.cells #[.float .f32 t0.a, .float .f32 t0.b, .float .f32 t0.c, .float .f32 t0.x, .float .f32 t0.y, .float .f32 t0.z] 30) = c0
  have hE2 : Ext b0 c0 := by subst hWa; exact ((Ext.refl _).alloc _).alloc _
  have hN1 : c0.heap[b0.heap.size]? = some (.cells #[.float .f32 r0.a, .float .f32 r0.b, .float .f32 r0.c, .float .f32 r0.x, .float .f32 r0.y, .float .f32 r0.z] 30) := by subst hWa; exact heap_alloc2_old _ _ _
  have hN2 : c0.heap[b0.heap.size + 1]? = some (.cells #[.float .f32 t0.a, .float .f32 t0.b, .float .f32 t0.c, .float .f32 t0.x, .float .f32 t0.y, .float .f32 t0.z] 30) := by subst hWa; exact heap_alloc2_new _ _ _
  clear hWa
  have hB3 : Below w.heap.size w c0 := hB2.trans (hE2.mono hB2.size)
  have hs2 : w.heap.size + 1 ≤ b0.heap.size := by have := (Array.getElem?_eq_some_iff.1 hK0).1; omega
  replace hK0 := hE2.heap hK0
  have hK1 := hN1
  have hK2 := hN2
  clear hN1 hN2
  have g0_0 : c0.cell? ⟨w.heap.size, 0, none⟩ = some (.float .f32 q.a) := cell_of_row c0 _ 0 _ _ _ hK0
  have f0_0 : c0.frozen? ⟨w.heap.size, 0, none⟩ = false := frozen_of_row c0 _ 0 _ _ hK0
  have g0_1 : c0.cell? ⟨w.heap.size, 1, none⟩ = some (.float .f32 q.b) := cell_of_row c0 _ 1 _ _ _ hK0
  have f0_1 : c0.frozen? ⟨w.heap.size, 1, none⟩ = false := frozen_of_row c0 _ 1 _ _ hK0
  have g0_2 : c0.cell? ⟨w.heap.size, 2, none⟩ = some (.float .f32 q.c) := cell_of_row c0 _ 2 _ _ _ hK0
  have f0_2 : c0.frozen? ⟨w.heap.size, 2, none⟩ = false := frozen_of_row c0 _ 2 _ _ hK0
  have g0_3 : c0.cell? ⟨w.heap.size, 3, none⟩ = some (.float .f32 q.x) := cell_of_row c0 _ 3 _ _ _ hK0
  have f0_3 : c0.frozen? ⟨w.heap.size, 3, none⟩ = false := frozen_of_row c0 _ 3 _ _ hK0
  have g0_4 : c0.cell? ⟨w.heap.size, 4, none⟩ = some (.float .f32 q.y) := cell_of_row c0 _ 4 _ _ _ hK0
  have f0_4 : c0.frozen? ⟨w.heap.size, 4, none⟩ = false := frozen_of_row c0 _ 4 _ _ hK0
  have g0_5 : c0.cell? ⟨w.heap.size, 5, none⟩ = some (.float .f32 q.z) := cell_of_row c0 _ 5 _ _ _ hK0
  have f0_5 : c0.frozen? ⟨w.heap.size, 5, none⟩ = false := frozen_of_row c0 _ 5 _ _ hK0
  have l0 : w.heap.size < c0.heap.size := (Array.getElem?_eq_some_iff.1 hK0).1
  have g1_0 : c0.cell? ⟨b0.heap.size, 0, none⟩ = some (.float .f32 r0.a) := cell_of_row c0 _ 0 _ _ _ hK1
  have f1_0 : c0.frozen? ⟨b0.heap.size, 0, none⟩ = false := frozen_of_row c0 _ 0 _ _ hK1
  have g1_1 : c0.cell? ⟨b0.heap.size, 1, none⟩ = some (.float .f32 r0.b) := cell_of_row c0 _ 1 _ _ _ hK1
  have f1_1 : c0.frozen? ⟨b0.heap.size, 1, none⟩ = false := frozen_of_row c0 _ 1 _ _ hK1
  have g1_2 : c0.cell? ⟨b0.heap.size, 2, none⟩ = some (.float .f32 r0.c) := cell_of_row c0 _ 2 _ _ _ hK1
  have f1_2 : c0.frozen? ⟨b0.heap.size, 2, none⟩ = false := frozen_of_row c0 _ 2 _ _ hK1
  have g1_3 : c0.cell? ⟨b0.heap.size, 3, none⟩ = some (.float .f32 r0.x) := cell_of_row c0 _ 3 _ _ _ hK1
  have f1_3 : c0.frozen? ⟨b0.heap.size, 3, none⟩ = false := frozen_of_row c0 _ 3 _ _ hK1
  have g1_4 : c0.cell? ⟨b0.heap.size, 4, none⟩ = some (.float .f32 r0.y) := cell_of_row c0 _ 4 _ _ _ hK1
  have f1_4 : c0.frozen? ⟨b0.heap.size, 4, none⟩ = false := frozen_of_row c0 _ 4 _ _ hK1
  have g1_5 : c0.cell? ⟨b0.heap.size, 5, none⟩ = some (.float .f32 r0.z) := cell_of_row c0 _ 5 _ _ _ hK1
  have f1_5 : c0.frozen? ⟨b0.heap.size, 5, none⟩ = false := frozen_of_row c0 _ 5 _ _ hK1
  have l1 : b0.heap.size < c0.heap.size := (Array.getElem?_eq_some_iff.1 hK1).1
  have g2_0 : c0.cell? ⟨b0.heap.size + 1, 0, none⟩ = some (.float .f32 t0.a) := cell_of_row c0 _ 0 _ _ _ hK2
  have f2_0 : c0.frozen? ⟨b0.heap.size + 1, 0, none⟩ = false := frozen_of_row c0 _ 0 _ _ hK2
  have g2_1 : c0.cell? ⟨b0.heap.size + 1, 1, none⟩ = some (.float .f32 t0.b) := cell_of_row c0 _ 1 _ _ _ hK2
  have f2_1 : c0.frozen? ⟨b0.heap.size + 1, 1, none⟩ = false := frozen_of_row c0 _ 1 _ _ hK2
  have g2_2 : c0.cell? ⟨b0.heap.size + 1, 2, none⟩ = some (.float .f32 t0.c) := cell_of_row c0 _ 2 _ _ _ hK2
  have f2_2 : c0.frozen? ⟨b0.heap.size + 1, 2, none⟩ = false := frozen_of_row c0 _ 2 _ _ hK2
  have g2_3 : c0.cell? ⟨b0.heap.size + 1, 3, none⟩ = some (.float .f32 t0.x) := cell_of_row c0 _ 3 _ _ _ hK2
  have f2_3 : c0.frozen? ⟨b0.heap.size + 1, 3, none⟩ = false := frozen_of_row c0 _ 3 _ _ hK2
  have g2_4 : c0.cell? ⟨b0.heap.size + 1, 4, none⟩ = some (.float .f32 t0.y) := cell_of_row c0 _ 4 _ _ _ hK2
  have f2_4 : c0.frozen? ⟨b0.heap.size + 1, 4, none⟩ = false := frozen_of_row c0 _ 4 _ _ hK2
  have g2_5 : c0.cell? ⟨b0.heap.size + 1, 5, none⟩ = some (.float .f32 t0.z) := cell_of_row c0 _ 5 _ _ _ hK2
  have f2_5 : c0.frozen? ⟨b0.heap.size + 1, 5, none⟩ = false := frozen_of_row c0 _ 5 _ _ hK2
  have l2 : b0.heap.size + 1 < c0.heap.size := (Array.getElem?_eq_some_iff.1 hK2).1
  refine (toBox_ok q.a q.b q.c q.x q.y q.z _).mono ?_
  rintro e a1 ⟨rfl, hb⟩
  clear g0_0 f0_0 g0_1 f0_1 g0_2 f0_2 g0_3 f0_3 g0_4 f0_4 g0_5 f0_5 l0 g1_0 f1_0 g1_1 f1_1 g1_2 f1_2 g1_3 f1_3 g1_4 f1_4 g1_5 f1_5 l1 g2_0 f2_0 g2_1 f2_1 g2_2 f2_2 g2_3 f2_3 g2_4 f2_4 g2_5 f2_5 l2
  have hE3 : Ext c0 a1 := hb
  have hB4 : Below w.heap.size w a1 := hB3.trans (hE3.mono hB3.size)
  replace hK0 := hE3.heap hK0
  replace hK1 := hE3.heap hK1
  replace hK2 := hE3.heap hK2
  have g0_0 : a1.cell? ⟨w.heap.size, 0, none⟩ = some (.float .f32 q.a) := cell_of_row a1 _ 0 _ _ _ hK0
  have f0_0 : a1.frozen? ⟨w.heap.size, 0, none⟩ = false := frozen_of_row a1 _ 0 _ _ hK0
  have g0_1 : a1.cell? ⟨w.heap.size, 1, none⟩ = some (.float .f32 q.b) := cell_of_row a1 _ 1 _ _ _ hK0
  have f0_1 : a1.frozen? ⟨w.heap.size, 1, none⟩ = false := frozen_of_row a1 _ 1 _ _ hK0
  have g0_2 : a1.cell? ⟨w.heap.size, 2, none⟩ = some (.float .f32 q.c) := cell_of_row a1 _ 2 _ _ _ hK0
  have f0_2 : a1.frozen? ⟨w.heap.size, 2, none⟩ = false := frozen_of_row a1 _ 2 _ _ hK0
  have g0_3 : a1.cell? ⟨w.heap.size, 3, none⟩ = some (.float .f32 q.x) := cell_of_row a1 _ 3 _ _ _ hK0
  have f0_3 : a1.frozen? ⟨w.heap.size, 3, none⟩ = false := frozen_of_row a1 _ 3 _ _ hK0
  have g0_4 : a1.cell? ⟨w.heap.size, 4, none⟩ = some (.float .f32 q.y) := cell_of_row a1 _ 4 _ _ _ hK0
  have f0_4 : a1.frozen? ⟨w.heap.size, 4, none⟩ = false := frozen_of_row a1 _ 4 _ _ hK0
  have g0_5 : a1.cell? ⟨w.heap.size, 5, none⟩ = some (.float .f32 q.z) := cell_of_row a1 _ 5 _ _ _ hK0
  have f0_5 : a1.frozen? ⟨w.heap.size, 5, none⟩ = false := frozen_of_row a1 _ 5 _ _ hK0
  have l0 : w.heap.size < a1.heap.size := (Array.getElem?_eq_some_iff.1 hK0).1
  have g1_0 : a1.cell? ⟨b0.heap.size, 0, none⟩ = some (.float .f32 r0.a) := cell_of_row a1 _ 0 _ _ _ hK1
  have f1_0 : a1.frozen? ⟨b0.heap.size, 0, none⟩ = false := frozen_of_row a1 _ 0 _ _ hK1
  have g1_1 : a1.cell? ⟨b0.heap.size, 1, none⟩ = some (.float .f32 r0.b) := cell_of_row a1 _ 1 _ _ _ hK1
  have f1_1 : a1.frozen? ⟨b0.heap.size, 1, none⟩ = false := frozen_of_row a1 _ 1 _ _ hK1
  have g1_2 : a1.cell? ⟨b0.heap.size, 2, none⟩ = some (.float .f32 r0.c) := cell_of_row a1 _ 2 _ _ _ hK1
  have f1_2 : a1.frozen? ⟨b0.heap.size, 2, none⟩ = false := frozen_of_row a1 _ 2 _ _ hK1
  have g1_3 : a1.cell? ⟨b0.heap.size, 3, none⟩ = some (.float .f32 r0.x) := cell_of_row a1 _ 3 _ _ _ hK1
  have f1_3 : a1.frozen? ⟨b0.heap.size, 3, none⟩ = false := frozen_of_row a1 _ 3 _ _ hK1
  have g1_4 : a1.cell? ⟨b0.heap.size, 4, none⟩ = some (.float .f32 r0.y) := cell_of_row a1 _ 4 _ _ _ hK1
  have f1_4 : a1.frozen? ⟨b0.heap.size, 4, none⟩ = false := frozen_of_row a1 _ 4 _ _ hK1
  have g1_5 : a1.cell? ⟨b0.heap.size, 5, none⟩ = some (.float .f32 r0.z) := cell_of_row a1 _ 5 _ _ _ hK1
  have f1_5 : a1.frozen? ⟨b0.heap.size, 5, none⟩ = false := frozen_of_row a1 _ 5 _ _ hK1
  have l1 : b0.heap.size < a1.heap.size := (Array.getElem?_eq_some_iff.1 hK1).1
  have g2_0 : a1.cell? ⟨b0.heap.size + 1, 0, none⟩ = some (.float .f32 t0.a) := cell_of_row a1 _ 0 _ _ _ hK2
  have f2_0 : a1.frozen? ⟨b0.heap.size + 1, 0, none⟩ = false := frozen_of_row a1 _ 0 _ _ hK2
  have g2_1 : a1.cell? ⟨b0.heap.size + 1, 1, none⟩ = some (.float .f32 t0.b) := cell_of_row a1 _ 1 _ _ _ hK2
  have f2_1 : a1.frozen? ⟨b0.heap.size + 1, 1, none⟩ = false := frozen_of_row a1 _ 1 _ _ hK2
  have g2_2 : a1.cell? ⟨b0.heap.size + 1, 2, none⟩ = some (.float .f32 t0.c) := cell_of_row a1 _ 2 _ _ _ hK2
  have f2_2 : a1.frozen? ⟨b0.heap.size + 1, 2, none⟩ = false := frozen_of_row a1 _ 2 _ _ hK2
  have g2_3 : a1.cell? ⟨b0.heap.size + 1, 3, none⟩ = some (.float .f32 t0.x) := cell_of_row a1 _ 3 _ _ _ hK2
  have f2_3 : a1.frozen? ⟨b0.heap.size + 1, 3, none⟩ = false := frozen_of_row a1 _ 3 _ _ hK2
  have g2_4 : a1.cell? ⟨b0.heap.size + 1, 4, none⟩ = some (.float .f32 t0.y) := cell_of_row a1 _ 4 _ _ _ hK2
  have f2_4 : a1.frozen? ⟨b0.heap.size + 1, 4, none⟩ = false := frozen_of_row a1 _ 4 _ _ hK2
  have g2_5 : a1.cell? ⟨b0.heap.size + 1, 5, none⟩ = some (.float .f32 t0.z) := cell_of_row a1 _ 5 _ _ _ hK2
  have f2_5 : a1.frozen? ⟨b0.heap.size + 1, 5, none⟩ = false := frozen_of_row a1 _ 5 _ _ hK2
  have l2 : b0.heap.size + 1 < a1.heap.size := (Array.getElem?_eq_some_iff.1 hK2).1
  clear hb
  go_wp2_with fail
  refine (C1 _).mono ?_
  rintro e b1 ⟨r1, t1, rfl, hl1, hm1, he1, hf1, hb⟩
  clear g0_0 f0_0 g0_1 f0_1 g0_2 f0_2 g0_3 f0_3 g0_4 f0_4 g0_5 f0_5 l0 g1_0 f1_0 g1_1 f1_1 g1_2 f1_2 g1_3 f1_3 g1_4 f1_4 g1_5 f1_5 l1 g2_0 f2_0 g2_1 f2_1 g2_2 f2_2 g2_3 f2_3 g2_4 f2_4 g2_5 f2_5 l2
  have hE4 : Ext a1 b1 := hb
  have hB5 : Below w.heap.size w b1 := hB4.trans (hE4.mono hB4.size)
  replace hK0 := hE4.heap hK0
  replace hK1 := hE4.heap hK1
  replace hK2 := hE4.heap hK2
  have g0_0 : b1.cell? ⟨w.heap.size, 0, none⟩ = some (.float .f32 q.a) := cell_of_row b1 _ 0 _ _ _ hK0
  have f0_0 : b1.frozen? ⟨w.heap.size, 0, none⟩ = false := frozen_of_row b1 _ 0 _ _ hK0
  have g0_1 : b1.cell? ⟨w.heap.size, 1, none⟩ = some (.float .f32 q.b) := cell_of_row b1 _ 1 _ _ _ hK0
  have f0_1 : b1.frozen? ⟨w.heap.size, 1, none⟩ = false := frozen_of_row b1 _ 1 _ _ hK0
  have g0_2 : b1.cell? ⟨w.heap.size, 2, none⟩ = some (.float .f32 q.c) := cell_of_row b1 _ 2 _ _ _ hK0
  have f0_2 : b1.frozen? ⟨w.heap.size, 2, none⟩ = false := frozen_of_row b1 _ 2 _ _ hK0
  have g0_3 : b1.cell? ⟨w.heap.size, 3, none⟩ = some (.float .f32 q.x) := cell_of_row b1 _ 3 _ _ _ hK0
  have f0_3 : b1.frozen? ⟨w.heap.size, 3, none⟩ = false := frozen_of_row b1 _ 3 _ _ hK0
  have g0_4 : b1.cell? ⟨w.heap.size, 4, none⟩ = some (.float .f32 q.y) := cell_of_row b1 _ 4 _ _ _ hK0
  have f0_4 : b1.frozen? ⟨w.heap.size, 4, none⟩ = false := frozen_of_row b1 _ 4 _ _ hK0
  have g0_5 : b1.cell? ⟨w.heap.size, 5, none⟩ = some (.float .f32 q.z) := cell_of_row b1 _ 5 _ _ _ hK0
  have f0_5 : b1.frozen? ⟨w.heap.size, 5, none⟩ = false := frozen_of_row b1 _ 5 _ _ hK0
  have l0 : w.heap.size < b1.heap.size := (Array.getElem?_eq_some_iff.1 hK0).1
  have g1_0 : b1.cell? ⟨b0.heap.size, 0, none⟩ = some (.float .f32 r0.a) := cell_of_row b1 _ 0 _ _ _ hK1
  have f1_0 : b1.frozen? ⟨b0.heap.size, 0, none⟩ = false := frozen_of_row b1 _ 0 _ _ hK1
  have g1_1 : b1.cell? ⟨b0.heap.size, 1, none⟩ = some (.float .f32 r0.b) := cell_of_row b1 _ 1 _ _ _ hK1
  have f1_1 : b1.frozen? ⟨b0.heap.size, 1, none⟩ = false := frozen_of_row b1 _ 1 _ _ hK1
  have g1_2 : b1.cell? ⟨b0.heap.size, 2, none⟩ = some (.float .f32 r0.c) := cell_of_row b1 _ 2 _ _ _ hK1
  have f1_2 : b1.frozen? ⟨b0.heap.size, 2, none⟩ = false := frozen_of_row b1 _ 2 _ _ hK1
  have g1_3 : b1.cell? ⟨b0.heap.size, 3, none⟩ = some (.float .f32 r0.x) := cell_of_row b1 _ 3 _ _ _ hK1
  have f1_3 : b1.frozen? ⟨b0.heap.size, 3, none⟩ = false := frozen_of_row b1 _ 3 _ _ hK1
  have g1_4 : b1.cell? ⟨b0.heap.size, 4, none⟩ = some (.float .f32 r0.y) := cell_of_row b1 _ 4 _ _ _ hK1
  have f1_4 : b1.frozen? ⟨b0.heap.size, 4, none⟩ = false := frozen_of_row b1 _ 4 _ _ hK1
  have g1_5 : b1.cell? ⟨b0.heap.size, 5, none⟩ = some (.float .f32 r0.z) := cell_of_row b1 _ 5 _ _ _ hK1
  have f1_5 : b1.frozen? ⟨b0.heap.size, 5, none⟩ = false := frozen_of_row b1 _ 5 _ _ hK1
  have l1 : b0.heap.size < b1.heap.size := (Array.getElem?_eq_some_iff.1 hK1).1
  have g2_0 : b1.cell? ⟨b0.heap.size + 1, 0, none⟩ = some (.float .f32 t0.a) := cell_of_row b1 _ 0 _ _ _ hK2
  have f2_0 : b1.frozen? ⟨b0.heap.size + 1, 0, none⟩ = false := frozen_of_row b1 _ 0 _ _ hK2
  have g2_1 : b1.cell? ⟨b0.heap.size + 1, 1, none⟩ = some (.float .f32 t0.b) := cell_of_row b1 _ 1 _ _ _ hK2
  have f2_1 : b1.frozen? ⟨b0.heap.size + 1, 1, none⟩ = false := frozen_of_row b1 _ 1 _ _ hK2
  have g2_2 : b1.cell? ⟨b0.heap.size + 1, 2, none⟩ = some (.float .f32 t0.c) := cell_of_row b1 _ 2 _ _ _ hK2
  have f2_2 : b1.frozen? ⟨b0.heap.size + 1, 2, none⟩ = false := frozen_of_row b1 _ 2 _ _ hK2
  have g2_3 : b1.cell? ⟨b0.heap.size + 1, 3, none⟩ = some (.float .f32 t0.x) := cell_of_row b1 _ 3 _ _ _ hK2
  have f2_3 : b1.frozen? ⟨b0.heap.size + 1, 3, none⟩ = false := frozen_of_row b1 _ 3 _ _ hK2
  have g2_4 : b1.cell? ⟨b0.heap.size + 1, 4, none⟩ = some (.float .f32 t0.y) := cell_of_row b1 _ 4 _ _ _ hK2
  have f2_4 : b1.frozen? ⟨b0.heap.size + 1, 4, none⟩ = false := frozen_of_row b1 _ 4 _ _ hK2
  have g2_5 : b1.cell? ⟨b0.heap.size + 1, 5, none⟩ = some (.float .f32 t0.z) := cell_of_row b1 _ 5 _ _ _ hK2
  have f2_5 : b1.frozen? ⟨b0.heap.size + 1, 5, none⟩ = false := frozen_of_row b1 _ 5 _ _ hK2
  have l2 : b0.heap.size + 1 < b1.heap.size := (Array.getElem?_eq_some_iff.1 hK2).1
  clear hb
  go_wp2_with fail
  clear g0_0 f0_0 g0_1 f0_1 g0_2 f0_2 g0_3 f0_3 g0_4 f0_4 g0_5 f0_5 l0 g1_0 f1_0 g1_1 f1_1 g1_2 f1_2 g1_3 f1_3 g1_4 f1_4 g1_5 f1_5 l1 g2_0 f2_0 g2_1 f2_1 g2_2 f2_2 g2_3 f2_3 g2_4 f2_4 g2_5 f2_5 l2
  generalize hWa : (b1.alloc (.cells #[.float .f32 r1.a, .float .f32 r1.b, .float .f32 r1.c, .float .f32 r1.x, .float .f32 r1.y, .float .f32 r1.z] 30)).alloc (.cells #[.float .f32 t1.a, .float .f32 t1.b, .float .f32 t1.c, .float .f32 t1.x, .float .f32 t1.y, .float .f32 t1.z] 30) = c1
  have hE5 : Ext b1 c1 := by subst hWa; exact ((Ext.refl _).alloc _).alloc _
  have hN1 : c1.heap[b1.heap.size]? = some (.cells #[.float .f32 r1.a, .float .f32 r1.b, .float .f32 r1.c, .float .f32 r1.x, .float .f32 r1.y, .float .f32 r1.z] 30) := by subst hWa; exact heap_alloc2_old _ _ _
  have hN2 : c1.heap[b1.heap.size + 1]? = some (.cells #[.float .f32 t1.a, .float .f32 t1.b, .float .f32 t1.c, .float .f32 t1.x, .float .f32 t1.y, .float .f32 t1.z] 30) := by subst hWa; exact heap_alloc2_new _ _ _
  clear hWa
  have hB6 : Below w.heap.size w c1 := hB5.trans (hE5.mono hB5.size)
  have hs5 : w.heap.size + 3 ≤ b1.heap.size := by have := (Array.getElem?_eq_some_iff.1 hK2).1; omega
  replace hK0 := hE5.heap hK0
  replace hK1 := hE5.heap hK1
  replace hK2 := hE5.heap hK2
  have hK3 := hN1
  have hK4 := hN2
  clear hN1 hN2
  have g0_0 : c1.cell? ⟨w.heap.size, 0, none⟩ = some (.float .f32 q.a) := cell_of_row c1 _ 0 _ _ _ hK0
  have f0_0 : c1.frozen? ⟨w.heap.size, 0, none⟩ = false := frozen_of_row c1 _ 0 _ _ hK0
  have g0_1 : c1.cell? ⟨w.heap.size, 1, none⟩ = some (.float .f32 q.b) := cell_of_row c1 _ 1 _ _ _ hK0
  have f0_1 : c1.frozen? ⟨w.heap.size, 1, none⟩ = false := frozen_of_row c1 _ 1 _ _ hK0
  have g0_2 : c1.cell? ⟨w.heap.size, 2, none⟩ = some (.float .f32 q.c) := cell_of_row c1 _ 2 _ _ _ hK0
  have f0_2 : c1.frozen? ⟨w.heap.size, 2, none⟩ = false := frozen_of_row c1 _ 2 _ _ hK0
  have g0_3 : c1.cell? ⟨w.heap.size, 3, none⟩ = some (.float .f32 q.x) := cell_of_row c1 _ 3 _ _ _ hK0
  have f0_3 : c1.frozen? ⟨w.heap.size, 3, none⟩ = false := frozen_of_row c1 _ 3 _ _ hK0
  have g0_4 : c1.cell? ⟨w.heap.size, 4, none⟩ = some (.float .f32 q.y) := cell_of_row c1 _ 4 _ _ _ hK0
  have f0_4 : c1.frozen? ⟨w.heap.size, 4, none⟩ = false := frozen_of_row c1 _ 4 _ _ hK0
  have g0_5 : c1.cell? ⟨w.heap.size, 5, none⟩ = some (.float .f32 q.z) := cell_of_row c1 _ 5 _ _ _ hK0
  have f0_5 : c1.frozen? ⟨w.heap.size, 5, none⟩ = false := frozen_of_row c1 _ 5 _ _ hK0
  have l0 : w.heap.size < c1.heap.size := (Array.getElem?_eq_some_iff.1 hK0).1
  have g1_0 : c1.cell? ⟨b0.heap.size, 0, none⟩ = some (.float .f32 r0.a) := cell_of_row c1 _ 0 _ _ _ hK1
  have f1_0 : c1.frozen? ⟨b0.heap.size, 0, none⟩ = false := frozen_of_row c1 _ 0 _ _ hK1
  have g1_1 : c1.cell? ⟨b0.heap.size, 1, none⟩ = some (.float .f32 r0.b) := cell_of_row c1 _ 1 _ _ _ hK1
  have f1_1 : c1.frozen? ⟨b0.heap.size, 1, none⟩ = false := frozen_of_row c1 _ 1 _ _ hK1
  have g1_2 : c1.cell? ⟨b0.heap.size, 2, none⟩ = some (.float .f32 r0.c) := cell_of_row c1 _ 2 _ _ _ hK1
  have f1_2 : c1.frozen? ⟨b0.heap.size, 2, none⟩ = false := frozen_of_row c1 _ 2 _ _ hK1
  have g1_3 : c1.cell? ⟨b0.heap.size, 3, none⟩ = some (.float .f32 r0.x) := cell_of_row c1 _ 3 _ _ _ hK1
  have f1_3 : c1.frozen? ⟨b0.heap.size, 3, none⟩ = false := frozen_of_row c1 _ 3 _ _ hK1
  have g1_4 : c1.cell? ⟨b0.heap.size, 4, none⟩ = some (.float .f32 r0.y) := cell_of_row c1 _ 4 _ _ _ hK1
  have f1_4 : c1.frozen? ⟨b0.heap.size, 4, none⟩ = false := frozen_of_row c1 _ 4 _ _ hK1
  have g1_5 : c1.cell? ⟨b0.heap.size, 5, none⟩ = some (.float .f32 r0.z) := cell_of_row c1 _ 5 _ _ _ hK1
  have f1_5 : c1.frozen? ⟨b0.heap.size, 5, none⟩ = false := frozen_of_row c1 _ 5 _ _ hK1
  have l1 : b0.heap.size < c1.heap.size := (Array.getElem?_eq_some_iff.1 hK1).1
  have g2_0 : c1.cell? ⟨b0.heap.size + 1, 0, none⟩ = some (.float .f32 t0.a) := cell_of_row c1 _ 0 _ _ _ hK2
  have f2_0 : c1.frozen? ⟨b0.heap.size + 1, 0, none⟩ = false := frozen_of_row c1 _ 0 _ _ hK2
  have g2_1 : c1.cell? ⟨b0.heap.size + 1, 1, none⟩ = some (.float .f32 t0.b) := cell_of_row c1 _ 1 _ _ _ hK2
  have f2_1 : c1.frozen? ⟨b0.heap.size + 1, 1, none⟩ = false := frozen_of_row c1 _ 1 _ _ hK2
  have g2_2 : c1.cell? ⟨b0.heap.size + 1, 2, none⟩ = some (.float .f32 t0.c) := cell_of_row c1 _ 2 _ _ _ hK2
  have f2_2 : c1.frozen? ⟨b0.heap.size + 1, 2, none⟩ = false := frozen_of_row c1 _ 2 _ _ hK2
  have g2_3 : c1.cell? ⟨b0.heap.size + 1, 3, none⟩ = some (.float .f32 t0.x) := cell_of_row c1 _ 3 _ _ _ hK2
  have f2_3 : c1.frozen? ⟨b0.heap.size + 1, 3, none⟩ = false := frozen_of_row c1 _ 3 _ _ hK2
  have g2_4 : c1.cell? ⟨b0.heap.size + 1, 4, none⟩ = some (.float .f32 t0.y) := cell_of_row c1 _ 4 _ _ _ hK2
  have f2_4 : c1.frozen? ⟨b0.heap.size + 1, 4, none⟩ = false := frozen_of_row c1 _ 4 _ _ hK2
  have g2_5 : c1.cell? ⟨b0.heap.size + 1, 5, none⟩ = some (.float .f32 t0.z) := cell_of_row c1 _ 5 _ _ _ hK2
  have f2_5 : c1.frozen? ⟨b0.heap.size + 1, 5, none⟩ = false := frozen_of_row c1 _ 5 _ _ hK2
  have l2 : b0.heap.size + 1 < c1.heap.size := (Array.getElem?_eq_some_iff.1 hK2).1
  have g3_0 : c1.cell? ⟨b1.heap.size, 0, none⟩ = some (.float .f32 r1.a) := cell_of_row c1 _ 0 _ _ _ hK3
  have f3_0 : c1.frozen? ⟨b1.heap.size, 0, none⟩ = false := frozen_of_row c1 _ 0 _ _ hK3
  have g3_1 : c1.cell? ⟨b1.heap.size, 1, none⟩ = some (.float .f32 r1.b) := cell_of_row c1 _ 1 _ _ _ hK3
  have f3_1 : c1.frozen? ⟨b1.heap.size, 1, none⟩ = false := frozen_of_row c1 _ 1 _ _ hK3
  have g3_2 : c1.cell? ⟨b1.heap.size, 2, none⟩ = some (.float .f32 r1.c) := cell_of_row c1 _ 2 _ _ _ hK3
  have f3_2 : c1.frozen? ⟨b1.heap.size, 2, none⟩ = false := frozen_of_row c1 _ 2 _ _ hK3
  have g3_3 : c1.cell? ⟨b1.heap.size, 3, none⟩ = some (.float .f32 r1.x) := cell_of_row c1 _ 3 _ _ _ hK3
  have f3_3 : c1.frozen? ⟨b1.heap.size, 3, none⟩ = false := frozen_of_row c1 _ 3 _ _ hK3
  have g3_4 : c1.cell? ⟨b1.heap.size, 4, none⟩ = some (.float .f32 r1.y) := cell_of_row c1 _ 4 _ _ _ hK3
  have f3_4 : c1.frozen? ⟨b1.heap.size, 4, none⟩ = false := frozen_of_row c1 _ 4 _ _ hK3
  have g3_5 : c1.cell? ⟨b1.heap.size, 5, none⟩ = some (.float .f32 r1.z) := cell_of_row c1 _ 5 _ _ _ hK3
  have f3_5 : c1.frozen? ⟨b1.heap.size, 5, none⟩ = false := frozen_of_row c1 _ 5 _ _ hK3
  have l3 : b1.heap.size < c1.heap.size := (Array.getElem?_eq_some_iff.1 hK3).1
  have g4_0 : c1.cell? ⟨b1.heap.size + 1, 0, none⟩ = some (.float .f32 t1.a) := cell_of_row c1 _ 0 _ _ _ hK4
  have f4_0 : c1.frozen? ⟨b1.heap.size + 1, 0, none⟩ = false := frozen_of_row c1 _ 0 _ _ hK4
  have g4_1 : c1.cell? ⟨b1.heap.size + 1, 1, none⟩ = some (.float .f32 t1.b) := cell_of_row c1 _ 1 _ _ _ hK4
  have f4_1 : c1.frozen? ⟨b1.heap.size + 1, 1, none⟩ = false := frozen_of_row c1 _ 1 _ _ hK4
  have g4_2 : c1.cell? ⟨b1.heap.size + 1, 2, none⟩ = some (.float .f32 t1.c) := cell_of_row c1 _ 2 _ _ _ hK4
  have f4_2 : c1.frozen? ⟨b1.heap.size + 1, 2, none⟩ = false := frozen_of_row c1 _ 2 _ _ hK4
  have g4_3 : c1.cell? ⟨b1.heap.size + 1, 3, none⟩ = some (.float .f32 t1.x) := cell_of_row c1 _ 3 _ _ _ hK4
  have f4_3 : c1.frozen? ⟨b1.heap.size + 1, 3, none⟩ = false := frozen_of_row c1 _ 3 _ _ hK4
  have g4_4 : c1.cell? ⟨b1.heap.size + 1, 4, none⟩ = some (.float .f32 t1.y) := cell_of_row c1 _ 4 _ _ _ hK4
  have f4_4 : c1.frozen? ⟨b1.heap.size + 1, 4, none⟩ = false := frozen_of_row c1 _ 4 _ _ hK4
  have g4_5 : c1.cell? ⟨b1.heap.size + 1, 5, none⟩ = some (.float .f32 t1.z) := cell_of_row c1 _ 5 _ _ _ hK4
  have f4_5 : c1.frozen? ⟨b1.heap.size + 1, 5, none⟩ = false := frozen_of_row c1 _ 5 _ _ hK4
  have l4 : b1.heap.size + 1 < c1.heap.size := (Array.getElem?_eq_some_iff.1 hK4).1
  have Hr : B6.Eq r1 r0 := ⟨he1.a.trans he0.a.symm, he1.b.trans he0.b.symm, he1.c.trans he0.c.symm, he1.x.trans he0.x.symm, he1.y.trans he0.y.symm, he1.z.trans he0.z.symm⟩
  have Ht : B6.Eq t1 t0 := ⟨hf1.a.trans hf0.a.symm, hf1.b.trans hf0.b.symm, hf1.c.trans hf0.c.symm, hf1.x.trans hf0.x.symm, hf1.y.trans hf0.y.symm, hf1.z.trans hf0.z.symm⟩
  clear he0 he1 hf0 hf1
  go_wp2_with fail
  refine (eqBox_ok r1 r0 _ Hr).mono ?_
  rintro e w8 ⟨rfl, hb⟩
  clear g0_0 f0_0 g0_1 f0_1 g0_2 f0_2 g0_3 f0_3 g0_4 f0_4 g0_5 f0_5 l0 g1_0 f1_0 g1_1 f1_1 g1_2 f1_2 g1_3 f1_3 g1_4 f1_4 g1_5 f1_5 l1 g2_0 f2_0 g2_1 f2_1 g2_2 f2_2 g2_3 f2_3 g2_4 f2_4 g2_5 f2_5 l2 g3_0 f3_0 g3_1 f3_1 g3_2 f3_2 g3_3 f3_3 g3_4 f3_4 g3_5 f3_5 l3 g4_0 f4_0 g4_1 f4_1 g4_2 f4_2 g4_3 f4_3 g4_4 f4_4 g4_5 f4_5 l4
  have hE6 : Ext c1 w8 := hb
  have hB7 : Below w.heap.size w w8 := hB6.trans (hE6.mono hB6.size)
  replace hK0 := hE6.heap hK0
  replace hK1 := hE6.heap hK1
  replace hK2 := hE6.heap hK2
  replace hK3 := hE6.heap hK3
  replace hK4 := hE6.heap hK4
  have g0_0 : w8.cell? ⟨w.heap.size, 0, none⟩ = some (.float .f32 q.a) := cell_of_row w8 _ 0 _ _ _ hK0
  have f0_0 : w8.frozen? ⟨w.heap.size, 0, none⟩ = false := frozen_of_row w8 _ 0 _ _ hK0
  have g0_1 : w8.cell? ⟨w.heap.size, 1, none⟩ = some (.float .f32 q.b) := cell_of_row w8 _ 1 _ _ _ hK0
  have f0_1 : w8.frozen? ⟨w.heap.size, 1, none⟩ = false := frozen_of_row w8 _ 1 _ _ hK0
  have g0_2 : w8.cell? ⟨w.heap.size, 2, none⟩ = some (.float .f32 q.c) := cell_of_row w8 _ 2 _ _ _ hK0
  have f0_2 : w8.frozen? ⟨w.heap.size, 2, none⟩ = false := frozen_of_row w8 _ 2 _ _ hK0
  have g0_3 : w8.cell? ⟨w.heap.size, 3, none⟩ = some (.float .f32 q.x) := cell_of_row w8 _ 3 _ _ _ hK0
  have f0_3 : w8.frozen? ⟨w.heap.size, 3, none⟩ = false := frozen_of_row w8 _ 3 _ _ hK0
  have g0_4 : w8.cell? ⟨w.heap.size, 4, none⟩ = some (.float .f32 q.y) := cell_of_row w8 _ 4 _ _ _ hK0
  have f0_4 : w8.frozen? ⟨w.heap.size, 4, none⟩ = false := frozen_of_row w8 _ 4 _ _ hK0
  have g0_5 : w8.cell? ⟨w.heap.size, 5, none⟩ = some (.float .f32 q.z) := cell_of_row w8 _ 5 _ _ _ hK0
  have f0_5 : w8.frozen? ⟨w.heap.size, 5, none⟩ = false := frozen_of_row w8 _ 5 _ _ hK0
  have l0 : w.heap.size < w8.heap.size := (Array.getElem?_eq_some_iff.1 hK0).1
  have g1_0 : w8.cell? ⟨b0.heap.size, 0, none⟩ = some (.float .f32 r0.a) := cell_of_row w8 _ 0 _ _ _ hK1
  have f1_0 : w8.frozen? ⟨b0.heap.size, 0, none⟩ = false := frozen_of_row w8 _ 0 _ _ hK1
  have g1_1 : w8.cell? ⟨b0.heap.size, 1, none⟩ = some (.float .f32 r0.b) := cell_of_row w8 _ 1 _ _ _ hK1
  have f1_1 : w8.frozen? ⟨b0.heap.size, 1, none⟩ = false := frozen_of_row w8 _ 1 _ _ hK1
  have g1_2 : w8.cell? ⟨b0.heap.size, 2, none⟩ = some (.float .f32 r0.c) := cell_of_row w8 _ 2 _ _ _ hK1
  have f1_2 : w8.frozen? ⟨b0.heap.size, 2, none⟩ = false := frozen_of_row w8 _ 2 _ _ hK1
  have g1_3 : w8.cell? ⟨b0.heap.size, 3, none⟩ = some (.float .f32 r0.x) := cell_of_row w8 _ 3 _ _ _ hK1
  have f1_3 : w8.frozen? ⟨b0.heap.size, 3, none⟩ = false := frozen_of_row w8 _ 3 _ _ hK1
  have g1_4 : w8.cell? ⟨b0.heap.size, 4, none⟩ = some (.float .f32 r0.y) := cell_of_row w8 _ 4 _ _ _ hK1
  have f1_4 : w8.frozen? ⟨b0.heap.size, 4, none⟩ = false := frozen_of_row w8 _ 4 _ _ hK1
  have g1_5 : w8.cell? ⟨b0.heap.size, 5, none⟩ = some (.float .f32 r0.z) := cell_of_row w8 _ 5 _ _ _ hK1
  have f1_5 : w8.frozen? ⟨b0.heap.size, 5, none⟩ = false := frozen_of_row w8 _ 5 _ _ hK1
  have l1 : b0.heap.size < w8.heap.size := (Array.getElem?_eq_some_iff.1 hK1).1
  have g2_0 : w8.cell? ⟨b0.heap.size + 1, 0, none⟩ = some (.float .f32 t0.a) := cell_of_row w8 _ 0 _ _ _ hK2
  have f2_0 : w8.frozen? ⟨b0.heap.size + 1, 0, none⟩ = false := frozen_of_row w8 _ 0 _ _ hK2
  have g2_1 : w8.cell? ⟨b0.heap.size + 1, 1, none⟩ = some (.float .f32 t0.b) := cell_of_row w8 _ 1 _ _ _ hK2
  have f2_1 : w8.frozen? ⟨b0.heap.size + 1, 1, none⟩ = false := frozen_of_row w8 _ 1 _ _ hK2
  have g2_2 : w8.cell? ⟨b0.heap.size + 1, 2, none⟩ = some (.float .f32 t0.c) := cell_of_row w8 _ 2 _ _ _ hK2
  have f2_2 : w8.frozen? ⟨b0.heap.size + 1, 2, none⟩ = false := frozen_of_row w8 _ 2 _ _ hK2
  have g2_3 : w8.cell? ⟨b0.heap.size + 1, 3, none⟩ = some (.float .f32 t0.x) := cell_of_row w8 _ 3 _ _ _ hK2
  have f2_3 : w8.frozen? ⟨b0.heap.size + 1, 3, none⟩ = false := frozen_of_row w8 _ 3 _ _ hK2
  have g2_4 : w8.cell? ⟨b0.heap.size + 1, 4, none⟩ = some (.float .f32 t0.y) := cell_of_row w8 _ 4 _ _ _ hK2
  have f2_4 : w8.frozen? ⟨b0.heap.size + 1, 4, none⟩ = false := frozen_of_row w8 _ 4 _ _ hK2
  have g2_5 : w8.cell? ⟨b0.heap.size + 1, 5, none⟩ = some (.float .f32 t0.z) := cell_of_row w8 _ 5 _ _ _ hK2
  have f2_5 : w8.frozen? ⟨b0.heap.size + 1, 5, none⟩ = false := frozen_of_row w8 _ 5 _ _ hK2
  have l2 : b0.heap.size + 1 < w8.heap.size := (Array.getElem?_eq_some_iff.1 hK2).1
  have g3_0 : w8.cell? ⟨b1.heap.size, 0, none⟩ = some (.float .f32 r1.a) := cell_of_row w8 _ 0 _ _ _ hK3
  have f3_0 : w8.frozen? ⟨b1.heap.size, 0, none⟩ = false := frozen_of_row w8 _ 0 _ _ hK3
  have g3_1 : w8.cell? ⟨b1.heap.size, 1, none⟩ = some (.float .f32 r1.b) := cell_of_row w8 _ 1 _ _ _ hK3
  have f3_1 : w8.frozen? ⟨b1.heap.size, 1, none⟩ = false := frozen_of_row w8 _ 1 _ _ hK3
  have g3_2 : w8.cell? ⟨b1.heap.size, 2, none⟩ = some (.float .f32 r1.c) := cell_of_row w8 _ 2 _ _ _ hK3
  have f3_2 : w8.frozen? ⟨b1.heap.size, 2, none⟩ = false := frozen_of_row w8 _ 2 _ _ hK3
  have g3_3 : w8.cell? ⟨b1.heap.size, 3, none⟩ = some (.float .f32 r1.x) := cell_of_row w8 _ 3 _ _ _ hK3
  have f3_3 : w8.frozen? ⟨b1.heap.size, 3, none⟩ = false := frozen_of_row w8 _ 3 _ _ hK3
  have g3_4 : w8.cell? ⟨b1.heap.size, 4, none⟩ = some (.float .f32 r1.y) := cell_of_row w8 _ 4 _ _ _ hK3
  have f3_4 : w8.frozen? ⟨b1.heap.size, 4, none⟩ = false := frozen_of_row w8 _ 4 _ _ hK3
  have g3_5 : w8.cell? ⟨b1.heap.size, 5, none⟩ = some (.float .f32 r1.z) := cell_of_row w8 _ 5 _ _ _ hK3
  have f3_5 : w8.frozen? ⟨b1.heap.size, 5, none⟩ = false := frozen_of_row w8 _ 5 _ _ hK3
  have l3 : b1.heap.size < w8.heap.size := (Array.getElem?_eq_some_iff.1 hK3).1
  have g4_0 : w8.cell? ⟨b1.heap.size + 1, 0, none⟩ = some (.float .f32 t1.a) := cell_of_row w8 _ 0 _ _ _ hK4
  have f4_0 : w8.frozen? ⟨b1.heap.size + 1, 0, none⟩ = false := frozen_of_row w8 _ 0 _ _ hK4
  have g4_1 : w8.cell? ⟨b1.heap.size + 1, 1, none⟩ = some (.float .f32 t1.b) := cell_of_row w8 _ 1 _ _ _ hK4
  have f4_1 : w8.frozen? ⟨b1.heap.size + 1, 1, none⟩ = false := frozen_of_row w8 _ 1 _ _ hK4
  have g4_2 : w8.cell? ⟨b1.heap.size + 1, 2, none⟩ = some (.float .f32 t1.c) := cell_of_row w8 _ 2 _ _ _ hK4
  have f4_2 : w8.frozen? ⟨b1.heap.size + 1, 2, none⟩ = false := frozen_of_row w8 _ 2 _ _ hK4
  have g4_3 : w8.cell? ⟨b1.heap.size + 1, 3, none⟩ = some (.float .f32 t1.x) := cell_of_row w8 _ 3 _ _ _ hK4
  have f4_3 : w8.frozen? ⟨b1.heap.size + 1, 3, none⟩ = false := frozen_of_row w8 _ 3 _ _ hK4
  have g4_4 : w8.cell? ⟨b1.heap.size + 1, 4, none⟩ = some (.float .f32 t1.y) := cell_of_row w8 _ 4 _ _ _ hK4
  have f4_4 : w8.frozen? ⟨b1.heap.size + 1, 4, none⟩ = false := frozen_of_row w8 _ 4 _ _ hK4
  have g4_5 : w8.cell? ⟨b1.heap.size + 1, 5, none⟩ = some (.float .f32 t1.z) := cell_of_row w8 _ 5 _ _ _ hK4
  have f4_5 : w8.frozen? ⟨b1.heap.size + 1, 5, none⟩ = false := frozen_of_row w8 _ 5 _ _ hK4
  have l4 : b1.heap.size + 1 < w8.heap.size := (Array.getElem?_eq_some_iff.1 hK4).1
  clear hb
  go_wp2_with fail
  refine (eqBox_ok t1 t0 _ Ht).mono ?_
  rintro e w9 ⟨rfl, hb9⟩
  have hB9 : Below w.heap.size w w9 := hB7.trans (hb9.mono hB7.size)
  clear hb9 g0_0 f0_0 g0_1 f0_1 g0_2 f0_2 g0_3 f0_3 g0_4 f0_4 g0_5 f0_5 l0 g1_0 f1_0 g1_1 f1_1 g1_2 f1_2 g1_3 f1_3 g1_4 f1_4 g1_5 f1_5 l1 g2_0 f2_0 g2_1 f2_1 g2_2 f2_2 g2_3 f2_3 g2_4 f2_4 g2_5 f2_5 l2 g3_0 f3_0 g3_1 f3_1 g3_2 f3_2 g3_3 f3_3 g3_4 f3_4 g3_5 f3_5 l3 g4_0 f4_0 g4_1 f4_1 g4_2 f4_2 g4_3 f4_3 g4_4 f4_4 g4_5 f4_5 l4
  cases splT q <;>
  · go_wp2_with fail
    go_ret
    exact ⟨rfl, hB9⟩
theorem walk (qa qb qc : Nat) (hq1 : qa < 4294967296 ∧ qb < 4294967296 ∧ qc < 4294967296) (qx qy qz : Nat) (hq2 : qx < 4294967296 ∧ qy < 4294967296 ∧ qz < 4294967296) (w : World) :
    Calls Try.prog 8 #[.agg #[.float .f32 qa, .float .f32 qb, .float .f32 qc, .float .f32 qx, .float .f32 qy, .float .f32 qz]] w fun e w' => e = .returned (.bool true) ∧ Below w.heap.size w w' :=
  walkq ⟨qa, qb, qc, qx, qy, qz⟩ ⟨hq1.1, hq1.2.1, hq1.2.2, hq2.1, hq2.2.1, hq2.2.2⟩ w

theorem own : ownKnob Try.prog.godebug = none := by kernel_rfl
set_option maxRecDepth 100000 in
theorem lifted (os : Os) (started : os.Started) (H : Type) (enc : TypeId × Value → H) :
    ReturnsInHanded {} Try.checked os 8 .any (Rows.fnExactSplitBoxSpec.pre6 enc Try.prog Try.f8 [] false) (Rows.fnExactSplitBoxSpec.post enc Try.prog Try.f8 false true false false) := by
  refine law_lifted (C := Try.checked) (tb := 4) own started (by kernel_rfl) Try.func8
    (ChangeSpec.witness6 (enc := enc) (C := Try.checked) false ⟨#[], #[.agg #[.float .f32 0, .float .f32 0, .float .f32 0, .float .f32 0, .float .f32 0, .float .f32 0]], []⟩ 8 (by kernel_rfl) (by kernel_rfl) (by kernel_rfl) (by kernel_rfl))
    (by kernel_rfl) ?_ rfl rfl Try.underlying4 ?_ ?_
  · rw [Try.params8]
    intro t ht
    simp only [List.mem_cons, List.not_mem_nil, or_false] at ht
    subst ht; exact ⟨by kernel_rfl, of_decide_eq_true (by kernel_rfl)⟩
  · intro ds hds
    have hn : Try.f8.params.size = 1 := by kernel_rfl
    rw [hn] at hds
    match ds, hds with
    | [_], _ => rfl
  intro W base args ds p hval hA hlt hsz
  rw [Try.params8] at hA hval
  obtain ⟨v0, vs0, d0, ds0, p0, q0, hargs, rfl, rfl, h0, r0⟩ := trodAll_cons hA
  obtain ⟨rfl, rfl, rfl⟩ := trodAll_nil r0
  obtain rfl : args = #[v0] := by cases args; simp_all
  obtain ⟨a0, b0, c0, x0, y0, z0, rfl, w0, wx0⟩ := open_ray Try.underlying26 (by kernel_rfl) rfl rfl (by kernel_rfl) (by kernel_rfl) Try.underlying24 Try.underlying24 (by kernel_rfl) Try.underlying22 Try.underlying22 Try.underlying22 (hval 0 26 v0 rfl rfl) h0
  exact walk a0 b0 c0 w0 x0 y0 z0 wx0 W

theorem proved : Rows.FnExactSplitBoxSaid :=
  OpenClaim.holds_of_wide 8 Try.f8 rfl rfl rfl rfl rfl rfl rfl ⟨rfl, rfl, rfl, rfl, rfl⟩ rfl rfl rfl rfl rfl (by kernel_rfl) Try.func8 (by kernel_rfl)
    (of_decide_eq_true (by kernel_rfl)) (by unfold Func.isWrapper; rw [if_neg (of_decide_eq_false (by kernel_rfl))]; exact ⟨rfl, rfl⟩)
    (fun os started H enc _ => lifted os started H enc)
end Go.Proofs.Ytaamfjokkphckaa.lawSplitBox
