/- Law FnExactCutBoxes: for every input the program answers as its model. -/
import Derived.Test.YtaamfjokkphckaaRows
import Derived.Test.YtaamfjokkphckaaLaw
import Derived.Test.YtaamfjokkphckaaBoxLaw
import Derived.Test.YtaamfjokkphckaaLaw4
import Derived.ProofKit
import Derived.Outline
namespace Go.Proofs.Ytaamfjokkphckaa.lawCutBoxes
open Go.Proofs.FX Go.RowKit Go.ChangeShapes Go.WideShapes Go.ChangeAt
open Go.WideMaps Go.WideElems
open Go.ChangeMaps (setBlock shut_map_nil open_string shut_string keptBut_setBlock frozen?_setBlock heap_setBlock_same)

set_option maxHeartbeats 8000000 in
set_option maxRecDepth 100000 in
theorem walkq (p : B6) (_hp : p.Lt) (q : B6) (_hq : q.Lt) (w : World) :
    Calls Try.prog 9 #[p.v, q.v] w fun e w' => e = .returned (.bool true) ∧ Below w.heap.size w w' := by
  obtain ⟨v, hv⟩ : ∃ v : Bool, v = (boxB p && boxB q && boxB (cutM p q)) := ⟨_, rfl⟩
  have C0 : ∀ w : World, _ := fun w => specCutBoxes_ok p q w
  rw [← hv] at C0
  have C1 : ∀ w : World, _ := fun w => CutBoxes_ok p q w
  rw [← hv] at C1
  clear hv
  go_enter Try.func9, Try.ntmps9
  go_wp2_with fail
  generalize hW0 : (w.alloc (.cells #[.float .f32 p.a, .float .f32 p.b, .float .f32 p.c, .float .f32 p.x, .float .f32 p.y, .float .f32 p.z] 26)).alloc (.cells #[.float .f32 q.a, .float .f32 q.b, .float .f32 q.c, .float .f32 q.x, .float .f32 q.y, .float .f32 q.z] 26) = W0
  have hB0 : Below w.heap.size w W0 := by subst hW0; exact by (repeat (first | exact Below.refl _ _ | assumption | refine below_drewN ?_ _ | refine Below.setCell ?_ (by first | omega | (simp <;> omega)) _ | refine Below.alloc ?_ (by first | omega | (simp <;> omega)) _))
  have hK0 : W0.heap[w.heap.size]? = some (.cells #[.float .f32 p.a, .float .f32 p.b, .float .f32 p.c, .float .f32 p.x, .float .f32 p.y, .float .f32 p.z] 26) := by subst hW0; exact heap_alloc2_old _ _ _
  have hK1 : W0.heap[w.heap.size + 1]? = some (.cells #[.float .f32 q.a, .float .f32 q.b, .float .f32 q.c, .float .f32 q.x, .float .f32 q.y, .float .f32 q.z] 26) := by subst hW0; exact heap_alloc2_new _ _ _
  clear hW0
  have hZ0 : w.heap.size + 1 < W0.heap.size := (Array.getElem?_eq_some_iff.1 hK1).1
  have g0_0 : W0.cell? ⟨w.heap.size, 0, none⟩ = some (.float .f32 p.a) := cell_of_row W0 _ 0 _ _ _ hK0
  have f0_0 : W0.frozen? ⟨w.heap.size, 0, none⟩ = false := frozen_of_row W0 _ 0 _ _ hK0
  have g0_1 : W0.cell? ⟨w.heap.size, 1, none⟩ = some (.float .f32 p.b) := cell_of_row W0 _ 1 _ _ _ hK0
  have f0_1 : W0.frozen? ⟨w.heap.size, 1, none⟩ = false := frozen_of_row W0 _ 1 _ _ hK0
  have g0_2 : W0.cell? ⟨w.heap.size, 2, none⟩ = some (.float .f32 p.c) := cell_of_row W0 _ 2 _ _ _ hK0
  have f0_2 : W0.frozen? ⟨w.heap.size, 2, none⟩ = false := frozen_of_row W0 _ 2 _ _ hK0
  have g0_3 : W0.cell? ⟨w.heap.size, 3, none⟩ = some (.float .f32 p.x) := cell_of_row W0 _ 3 _ _ _ hK0
  have f0_3 : W0.frozen? ⟨w.heap.size, 3, none⟩ = false := frozen_of_row W0 _ 3 _ _ hK0
  have g0_4 : W0.cell? ⟨w.heap.size, 4, none⟩ = some (.float .f32 p.y) := cell_of_row W0 _ 4 _ _ _ hK0
  have f0_4 : W0.frozen? ⟨w.heap.size, 4, none⟩ = false := frozen_of_row W0 _ 4 _ _ hK0
  have g0_5 : W0.cell? ⟨w.heap.size, 5, none⟩ = some (.float .f32 p.z) := cell_of_row W0 _ 5 _ _ _ hK0
  have f0_5 : W0.frozen? ⟨w.heap.size, 5, none⟩ = false := frozen_of_row W0 _ 5 _ _ hK0
  have l0 : w.heap.size < W0.heap.size := (Array.getElem?_eq_some_iff.1 hK0).1
  have g1_0 : W0.cell? ⟨w.heap.size + 1, 0, none⟩ = some (.float .f32 q.a) := cell_of_row W0 _ 0 _ _ _ hK1
  have f1_0 : W0.frozen? ⟨w.heap.size + 1, 0, none⟩ = false := frozen_of_row W0 _ 0 _ _ hK1
  have g1_1 : W0.cell? ⟨w.heap.size + 1, 1, none⟩ = some (.float .f32 q.b) := cell_of_row W0 _ 1 _ _ _ hK1
  have f1_1 : W0.frozen? ⟨w.heap.size + 1, 1, none⟩ = false := frozen_of_row W0 _ 1 _ _ hK1
  have g1_2 : W0.cell? ⟨w.heap.size + 1, 2, none⟩ = some (.float .f32 q.c) := cell_of_row W0 _ 2 _ _ _ hK1
  have f1_2 : W0.frozen? ⟨w.heap.size + 1, 2, none⟩ = false := frozen_of_row W0 _ 2 _ _ hK1
  have g1_3 : W0.cell? ⟨w.heap.size + 1, 3, none⟩ = some (.float .f32 q.x) := cell_of_row W0 _ 3 _ _ _ hK1
  have f1_3 : W0.frozen? ⟨w.heap.size + 1, 3, none⟩ = false := frozen_of_row W0 _ 3 _ _ hK1
  have g1_4 : W0.cell? ⟨w.heap.size + 1, 4, none⟩ = some (.float .f32 q.y) := cell_of_row W0 _ 4 _ _ _ hK1
  have f1_4 : W0.frozen? ⟨w.heap.size + 1, 4, none⟩ = false := frozen_of_row W0 _ 4 _ _ hK1
  have g1_5 : W0.cell? ⟨w.heap.size + 1, 5, none⟩ = some (.float .f32 q.z) := cell_of_row W0 _ 5 _ _ _ hK1
  have f1_5 : W0.frozen? ⟨w.heap.size + 1, 5, none⟩ = false := frozen_of_row W0 _ 5 _ _ hK1
  have l1 : w.heap.size + 1 < W0.heap.size := (Array.getElem?_eq_some_iff.1 hK1).1
  refine wp_region_flexP 9 7 (fun _ => true) (SB 28 (Value.tuple #[(onlyIf (boxB p && boxB q) (cutM p q)).v, .bool v])) (stays_SB _ _) (by kernel_rfl) rfl rfl rfl rfl (by kernel_rfl) ?_
  repeat (first | (refine flex_ex rfl rfl (fun K hK => ?_); apply Exists.intro; refine ⟨fun w' hw' => ?_, ?_⟩; (obtain ⟨hcc, hff⟩ := Grew.cells hw'; clear hw'; go_simp; rfl); refine hK _ ?_; clear hK K))
  (refine flex_call rfl rfl (fun K hK => ?_); go_simp; refine ⟨_, _, fun _ _ => ⟨rfl, rfl⟩, fun w1 hw1 => ?_, fun u y0 hx0 hu => ?_⟩)
  · refine (toBox_ok p.a p.b p.c p.x p.y p.z _).mono ?_
    rintro e w2 ⟨rfl, hb⟩
    exact ⟨_, rfl, by unfold SB; rw [if_neg (by decide)]; rfl, hb⟩
  obtain rfl : u = p.v := by unfold SB at hu; rw [if_neg (by decide)] at hu; exact hu
  (refine hK _ _ hx0 ?_; clear hK K hu)
  repeat (first | (refine flex_ex rfl rfl (fun K hK => ?_); apply Exists.intro; refine ⟨fun w' hw' => ?_, ?_⟩; (obtain ⟨hcc, hff⟩ := Grew.cells hw'; clear hw'; go_simp; rfl); refine hK _ ?_; clear hK K))
  (refine flex_call rfl rfl (fun K hK => ?_); go_simp; refine ⟨_, _, fun _ _ => ⟨rfl, rfl⟩, fun w1 hw1 => ?_, fun u y1 hx1 hu => ?_⟩)
  · refine (toBox_ok q.a q.b q.c q.x q.y q.z _).mono ?_
    rintro e w2 ⟨rfl, hb⟩
    exact ⟨_, rfl, by unfold SB; rw [if_neg (by decide)]; rfl, hb⟩
  obtain rfl : u = q.v := by unfold SB at hu; rw [if_neg (by decide)] at hu; exact hu
  (refine hK _ _ hx1 ?_; clear hK K hu)
  repeat (first | (refine flex_ex rfl rfl (fun K hK => ?_); apply Exists.intro; refine ⟨fun w' hw' => ?_, ?_⟩; (obtain ⟨hcc, hff⟩ := Grew.cells hw'; clear hw'; go_simp; rfl); refine hK _ ?_; clear hK K))
  (refine flex_call rfl rfl (fun K hK => ?_); go_simp; refine ⟨_, _, fun _ _ => ⟨rfl, rfl⟩, fun w1 hw1 => ?_, fun u y2 hx2 hu => ?_⟩)
  · refine (C0 _).mono ?_
    rintro e w2 ⟨rfl, hb⟩
    exact ⟨_, rfl, by unfold SB; rw [if_pos rfl], hb⟩
  obtain rfl : u = Value.tuple #[(onlyIf (boxB p && boxB q) (cutM p q)).v, .bool v] := by unfold SB at hu; rw [if_pos rfl] at hu; exact hu
  (refine hK _ _ hx2 ?_; clear hK K hu)
  repeat (first | (refine flex_ex rfl rfl (fun K hK => ?_); apply Exists.intro; refine ⟨fun w' hw' => ?_, ?_⟩; (obtain ⟨hcc, hff⟩ := Grew.cells hw'; clear hw'; go_simp; rfl); refine hK _ ?_; clear hK K))
  refine flex_alloc rfl rfl #[.float .f32 0, .float .f32 0, .float .f32 0, .float .f32 0, .float .f32 0, .float .f32 0] 30 (fun w1 hw1 => by go_simp) (fun R0 yd hyd hR0 hh0 => ?_)
  repeat (first | (refine flex_ex rfl rfl (fun K hK => ?_); apply Exists.intro; refine ⟨fun w' hw' => ?_, ?_⟩; (obtain ⟨hcc, hff⟩ := Grew.cells hw'; clear hw'; go_simp; rfl); refine hK _ ?_; clear hK K))
  refine flex_nil ?_
  intro b0 hw4
  clear g0_0 f0_0 g0_1 f0_1 g0_2 f0_2 g0_3 f0_3 g0_4 f0_4 g0_5 f0_5 l0 g1_0 f1_0 g1_1 f1_1 g1_2 f1_2 g1_3 f1_3 g1_4 f1_4 g1_5 f1_5 l1
  have hE0 : Ext W0 b0 := ((((hx0).trans hx1).trans hx2).trans hyd).trans hw4
  have hB1 : Below w.heap.size w b0 := hB0.trans (hE0.mono hB0.size)
  replace hK0 := hE0.heap hK0
  replace hK1 := hE0.heap hK1
  have g0_0 : b0.cell? ⟨w.heap.size, 0, none⟩ = some (.float .f32 p.a) := cell_of_row b0 _ 0 _ _ _ hK0
  have f0_0 : b0.frozen? ⟨w.heap.size, 0, none⟩ = false := frozen_of_row b0 _ 0 _ _ hK0
  have g0_1 : b0.cell? ⟨w.heap.size, 1, none⟩ = some (.float .f32 p.b) := cell_of_row b0 _ 1 _ _ _ hK0
  have f0_1 : b0.frozen? ⟨w.heap.size, 1, none⟩ = false := frozen_of_row b0 _ 1 _ _ hK0
  have g0_2 : b0.cell? ⟨w.heap.size, 2, none⟩ = some (.float .f32 p.c) := cell_of_row b0 _ 2 _ _ _ hK0
  have f0_2 : b0.frozen? ⟨w.heap.size, 2, none⟩ = false := frozen_of_row b0 _ 2 _ _ hK0
  have g0_3 : b0.cell? ⟨w.heap.size, 3, none⟩ = some (.float .f32 p.x) := cell_of_row b0 _ 3 _ _ _ hK0
  have f0_3 : b0.frozen? ⟨w.heap.size, 3, none⟩ = false := frozen_of_row b0 _ 3 _ _ hK0
  have g0_4 : b0.cell? ⟨w.heap.size, 4, none⟩ = some (.float .f32 p.y) := cell_of_row b0 _ 4 _ _ _ hK0
  have f0_4 : b0.frozen? ⟨w.heap.size, 4, none⟩ = false := frozen_of_row b0 _ 4 _ _ hK0
  have g0_5 : b0.cell? ⟨w.heap.size, 5, none⟩ = some (.float .f32 p.z) := cell_of_row b0 _ 5 _ _ _ hK0
  have f0_5 : b0.frozen? ⟨w.heap.size, 5, none⟩ = false := frozen_of_row b0 _ 5 _ _ hK0
  have l0 : w.heap.size < b0.heap.size := (Array.getElem?_eq_some_iff.1 hK0).1
  have g1_0 : b0.cell? ⟨w.heap.size + 1, 0, none⟩ = some (.float .f32 q.a) := cell_of_row b0 _ 0 _ _ _ hK1
  have f1_0 : b0.frozen? ⟨w.heap.size + 1, 0, none⟩ = false := frozen_of_row b0 _ 0 _ _ hK1
  have g1_1 : b0.cell? ⟨w.heap.size + 1, 1, none⟩ = some (.float .f32 q.b) := cell_of_row b0 _ 1 _ _ _ hK1
  have f1_1 : b0.frozen? ⟨w.heap.size + 1, 1, none⟩ = false := frozen_of_row b0 _ 1 _ _ hK1
  have g1_2 : b0.cell? ⟨w.heap.size + 1, 2, none⟩ = some (.float .f32 q.c) := cell_of_row b0 _ 2 _ _ _ hK1
  have f1_2 : b0.frozen? ⟨w.heap.size + 1, 2, none⟩ = false := frozen_of_row b0 _ 2 _ _ hK1
  have g1_3 : b0.cell? ⟨w.heap.size + 1, 3, none⟩ = some (.float .f32 q.x) := cell_of_row b0 _ 3 _ _ _ hK1
  have f1_3 : b0.frozen? ⟨w.heap.size + 1, 3, none⟩ = false := frozen_of_row b0 _ 3 _ _ hK1
  have g1_4 : b0.cell? ⟨w.heap.size + 1, 4, none⟩ = some (.float .f32 q.y) := cell_of_row b0 _ 4 _ _ _ hK1
  have f1_4 : b0.frozen? ⟨w.heap.size + 1, 4, none⟩ = false := frozen_of_row b0 _ 4 _ _ hK1
  have g1_5 : b0.cell? ⟨w.heap.size + 1, 5, none⟩ = some (.float .f32 q.z) := cell_of_row b0 _ 5 _ _ _ hK1
  have f1_5 : b0.frozen? ⟨w.heap.size + 1, 5, none⟩ = false := frozen_of_row b0 _ 5 _ _ hK1
  have l1 : w.heap.size + 1 < b0.heap.size := (Array.getElem?_eq_some_iff.1 hK1).1
  have hk0 := hw4.heap hh0
  clear hh0 hw4 hx0 hx1 hx2 hyd
  have hg0 : w.heap.size + 2 ≤ R0 := by omega
  clear g0_0 f0_0 g0_1 f0_1 g0_2 f0_2 g0_3 f0_3 g0_4 f0_4 g0_5 f0_5 l0 g1_0 f1_0 g1_1 f1_1 g1_2 f1_2 g1_3 f1_3 g1_4 f1_4 g1_5 f1_5 l1
  have hK2 : b0.heap[R0]? = some (.cells #[.float .f32 0, .float .f32 0, .float .f32 0, .float .f32 0, .float .f32 0, .float .f32 0] 30) := hk0
  have g0_0 : b0.cell? ⟨w.heap.size, 0, none⟩ = some (.float .f32 p.a) := cell_of_row b0 _ 0 _ _ _ hK0
  have f0_0 : b0.frozen? ⟨w.heap.size, 0, none⟩ = false := frozen_of_row b0 _ 0 _ _ hK0
  have g0_1 : b0.cell? ⟨w.heap.size, 1, none⟩ = some (.float .f32 p.b) := cell_of_row b0 _ 1 _ _ _ hK0
  have f0_1 : b0.frozen? ⟨w.heap.size, 1, none⟩ = false := frozen_of_row b0 _ 1 _ _ hK0
  have g0_2 : b0.cell? ⟨w.heap.size, 2, none⟩ = some (.float .f32 p.c) := cell_of_row b0 _ 2 _ _ _ hK0
  have f0_2 : b0.frozen? ⟨w.heap.size, 2, none⟩ = false := frozen_of_row b0 _ 2 _ _ hK0
  have g0_3 : b0.cell? ⟨w.heap.size, 3, none⟩ = some (.float .f32 p.x) := cell_of_row b0 _ 3 _ _ _ hK0
  have f0_3 : b0.frozen? ⟨w.heap.size, 3, none⟩ = false := frozen_of_row b0 _ 3 _ _ hK0
  have g0_4 : b0.cell? ⟨w.heap.size, 4, none⟩ = some (.float .f32 p.y) := cell_of_row b0 _ 4 _ _ _ hK0
  have f0_4 : b0.frozen? ⟨w.heap.size, 4, none⟩ = false := frozen_of_row b0 _ 4 _ _ hK0
  have g0_5 : b0.cell? ⟨w.heap.size, 5, none⟩ = some (.float .f32 p.z) := cell_of_row b0 _ 5 _ _ _ hK0
  have f0_5 : b0.frozen? ⟨w.heap.size, 5, none⟩ = false := frozen_of_row b0 _ 5 _ _ hK0
  have l0 : w.heap.size < b0.heap.size := (Array.getElem?_eq_some_iff.1 hK0).1
  have g1_0 : b0.cell? ⟨w.heap.size + 1, 0, none⟩ = some (.float .f32 q.a) := cell_of_row b0 _ 0 _ _ _ hK1
  have f1_0 : b0.frozen? ⟨w.heap.size + 1, 0, none⟩ = false := frozen_of_row b0 _ 0 _ _ hK1
  have g1_1 : b0.cell? ⟨w.heap.size + 1, 1, none⟩ = some (.float .f32 q.b) := cell_of_row b0 _ 1 _ _ _ hK1
  have f1_1 : b0.frozen? ⟨w.heap.size + 1, 1, none⟩ = false := frozen_of_row b0 _ 1 _ _ hK1
  have g1_2 : b0.cell? ⟨w.heap.size + 1, 2, none⟩ = some (.float .f32 q.c) := cell_of_row b0 _ 2 _ _ _ hK1
  have f1_2 : b0.frozen? ⟨w.heap.size + 1, 2, none⟩ = false := frozen_of_row b0 _ 2 _ _ hK1
  have g1_3 : b0.cell? ⟨w.heap.size + 1, 3, none⟩ = some (.float .f32 q.x) := cell_of_row b0 _ 3 _ _ _ hK1
  have f1_3 : b0.frozen? ⟨w.heap.size + 1, 3, none⟩ = false := frozen_of_row b0 _ 3 _ _ hK1
  have g1_4 : b0.cell? ⟨w.heap.size + 1, 4, none⟩ = some (.float .f32 q.y) := cell_of_row b0 _ 4 _ _ _ hK1
  have f1_4 : b0.frozen? ⟨w.heap.size + 1, 4, none⟩ = false := frozen_of_row b0 _ 4 _ _ hK1
  have g1_5 : b0.cell? ⟨w.heap.size + 1, 5, none⟩ = some (.float .f32 q.z) := cell_of_row b0 _ 5 _ _ _ hK1
  have f1_5 : b0.frozen? ⟨w.heap.size + 1, 5, none⟩ = false := frozen_of_row b0 _ 5 _ _ hK1
  have l1 : w.heap.size + 1 < b0.heap.size := (Array.getElem?_eq_some_iff.1 hK1).1
  have g2_0 : b0.cell? ⟨R0, 0, none⟩ = some (.float .f32 0) := cell_of_row b0 _ 0 _ _ _ hK2
  have f2_0 : b0.frozen? ⟨R0, 0, none⟩ = false := frozen_of_row b0 _ 0 _ _ hK2
  have g2_1 : b0.cell? ⟨R0, 1, none⟩ = some (.float .f32 0) := cell_of_row b0 _ 1 _ _ _ hK2
  have f2_1 : b0.frozen? ⟨R0, 1, none⟩ = false := frozen_of_row b0 _ 1 _ _ hK2
  have g2_2 : b0.cell? ⟨R0, 2, none⟩ = some (.float .f32 0) := cell_of_row b0 _ 2 _ _ _ hK2
  have f2_2 : b0.frozen? ⟨R0, 2, none⟩ = false := frozen_of_row b0 _ 2 _ _ hK2
  have g2_3 : b0.cell? ⟨R0, 3, none⟩ = some (.float .f32 0) := cell_of_row b0 _ 3 _ _ _ hK2
  have f2_3 : b0.frozen? ⟨R0, 3, none⟩ = false := frozen_of_row b0 _ 3 _ _ hK2
  have g2_4 : b0.cell? ⟨R0, 4, none⟩ = some (.float .f32 0) := cell_of_row b0 _ 4 _ _ _ hK2
  have f2_4 : b0.frozen? ⟨R0, 4, none⟩ = false := frozen_of_row b0 _ 4 _ _ hK2
  have g2_5 : b0.cell? ⟨R0, 5, none⟩ = some (.float .f32 0) := cell_of_row b0 _ 5 _ _ _ hK2
  have f2_5 : b0.frozen? ⟨R0, 5, none⟩ = false := frozen_of_row b0 _ 5 _ _ hK2
  have l2 : R0 < b0.heap.size := (Array.getElem?_eq_some_iff.1 hK2).1
  refine ⟨(by simp [Region.wanted]), ?_⟩
  apply Exists.intro
  refine ⟨(by go_simp; rfl), ?_⟩
  simp only [List.drop_succ_cons, List.drop_zero]
  generalize hWs : (((((b0.setCell ⟨R0, 0, none⟩ (.float .f32 (onlyIf (boxB p && boxB q) (cutM p q)).a)).setCell ⟨R0, 1, none⟩ (.float .f32 (onlyIf (boxB p && boxB q) (cutM p q)).b)).setCell ⟨R0, 2, none⟩ (.float .f32 (onlyIf (boxB p && boxB q) (cutM p q)).c)).setCell ⟨R0, 3, none⟩ (.float .f32 (onlyIf (boxB p && boxB q) (cutM p q)).x)).setCell ⟨R0, 4, none⟩ (.float .f32 (onlyIf (boxB p && boxB q) (cutM p q)).y)).setCell ⟨R0, 5, none⟩ (.float .f32 (onlyIf (boxB p && boxB q) (cutM p q)).z) = c0
  have hS : c0.heap[R0]? = some (.cells #[.float .f32 (onlyIf (boxB p && boxB q) (cutM p q)).a, .float .f32 (onlyIf (boxB p && boxB q) (cutM p q)).b, .float .f32 (onlyIf (boxB p && boxB q) (cutM p q)).c, .float .f32 (onlyIf (boxB p && boxB q) (cutM p q)).x, .float .f32 (onlyIf (boxB p && boxB q) (cutM p q)).y, .float .f32 (onlyIf (boxB p && boxB q) (cutM p q)).z] 30) := by
    subst hWs
    have s0 := heap_setCell_same (b0) _ 0 _ _ (.float .f32 (onlyIf (boxB p && boxB q) (cutM p q)).a) hK2
    have s1 := heap_setCell_same ((b0).setCell ⟨R0, 0, none⟩ (.float .f32 (onlyIf (boxB p && boxB q) (cutM p q)).a)) _ 1 _ _ (.float .f32 (onlyIf (boxB p && boxB q) (cutM p q)).b) s0
    have s2 := heap_setCell_same (((b0).setCell ⟨R0, 0, none⟩ (.float .f32 (onlyIf (boxB p && boxB q) (cutM p q)).a)).setCell ⟨R0, 1, none⟩ (.float .f32 (onlyIf (boxB p && boxB q) (cutM p q)).b)) _ 2 _ _ (.float .f32 (onlyIf (boxB p && boxB q) (cutM p q)).c) s1
    have s3 := heap_setCell_same ((((b0).setCell ⟨R0, 0, none⟩ (.float .f32 (onlyIf (boxB p && boxB q) (cutM p q)).a)).setCell ⟨R0, 1, none⟩ (.float .f32 (onlyIf (boxB p && boxB q) (cutM p q)).b)).setCell ⟨R0, 2, none⟩ (.float .f32 (onlyIf (boxB p && boxB q) (cutM p q)).c)) _ 3 _ _ (.float .f32 (onlyIf (boxB p && boxB q) (cutM p q)).x) s2
    have s4 := heap_setCell_same (((((b0).setCell ⟨R0, 0, none⟩ (.float .f32 (onlyIf (boxB p && boxB q) (cutM p q)).a)).setCell ⟨R0, 1, none⟩ (.float .f32 (onlyIf (boxB p && boxB q) (cutM p q)).b)).setCell ⟨R0, 2, none⟩ (.float .f32 (onlyIf (boxB p && boxB q) (cutM p q)).c)).setCell ⟨R0, 3, none⟩ (.float .f32 (onlyIf (boxB p && boxB q) (cutM p q)).x)) _ 4 _ _ (.float .f32 (onlyIf (boxB p && boxB q) (cutM p q)).y) s3
    have s5 := heap_setCell_same ((((((b0).setCell ⟨R0, 0, none⟩ (.float .f32 (onlyIf (boxB p && boxB q) (cutM p q)).a)).setCell ⟨R0, 1, none⟩ (.float .f32 (onlyIf (boxB p && boxB q) (cutM p q)).b)).setCell ⟨R0, 2, none⟩ (.float .f32 (onlyIf (boxB p && boxB q) (cutM p q)).c)).setCell ⟨R0, 3, none⟩ (.float .f32 (onlyIf (boxB p && boxB q) (cutM p q)).x)).setCell ⟨R0, 4, none⟩ (.float .f32 (onlyIf (boxB p && boxB q) (cutM p q)).y)) _ 5 _ _ (.float .f32 (onlyIf (boxB p && boxB q) (cutM p q)).z) s4
    simpa using s5
  have hO : ∀ q, q ≠ R0 → c0.heap[q]? = b0.heap[q]? := fun q hq => by subst hWs; rw [heap_setCell_other _ _ _ _ hq, heap_setCell_other _ _ _ _ hq, heap_setCell_other _ _ _ _ hq, heap_setCell_other _ _ _ _ hq, heap_setCell_other _ _ _ _ hq, heap_setCell_other _ _ _ _ hq]
  have hB2 : Below w.heap.size w c0 := by
    subst hWs
    have hle : w.heap.size ≤ R0 := by omega
    refine Below.setCell ?_ hle _
    refine Below.setCell ?_ hle _
    refine Below.setCell ?_ hle _
    refine Below.setCell ?_ hle _
    refine Below.setCell ?_ hle _
    refine Below.setCell ?_ hle _
    repeat (first | exact hB1 | refine below_drewN ?_ _)
  clear g0_0 f0_0 g0_1 f0_1 g0_2 f0_2 g0_3 f0_3 g0_4 f0_4 g0_5 f0_5 l0 g1_0 f1_0 g1_1 f1_1 g1_2 f1_2 g1_3 f1_3 g1_4 f1_4 g1_5 f1_5 l1 g2_0 f2_0 g2_1 f2_1 g2_2 f2_2 g2_3 f2_3 g2_4 f2_4 g2_5 f2_5 l2
  replace hK0 := (hO _ (by omega)).trans hK0
  replace hK1 := (hO _ (by omega)).trans hK1
  replace hK2 := hS
  clear hS hO hWs
  have g0_0 : c0.cell? ⟨w.heap.size, 0, none⟩ = some (.float .f32 p.a) := cell_of_row c0 _ 0 _ _ _ hK0
  have f0_0 : c0.frozen? ⟨w.heap.size, 0, none⟩ = false := frozen_of_row c0 _ 0 _ _ hK0
  have g0_1 : c0.cell? ⟨w.heap.size, 1, none⟩ = some (.float .f32 p.b) := cell_of_row c0 _ 1 _ _ _ hK0
  have f0_1 : c0.frozen? ⟨w.heap.size, 1, none⟩ = false := frozen_of_row c0 _ 1 _ _ hK0
  have g0_2 : c0.cell? ⟨w.heap.size, 2, none⟩ = some (.float .f32 p.c) := cell_of_row c0 _ 2 _ _ _ hK0
  have f0_2 : c0.frozen? ⟨w.heap.size, 2, none⟩ = false := frozen_of_row c0 _ 2 _ _ hK0
  have g0_3 : c0.cell? ⟨w.heap.size, 3, none⟩ = some (.float .f32 p.x) := cell_of_row c0 _ 3 _ _ _ hK0
  have f0_3 : c0.frozen? ⟨w.heap.size, 3, none⟩ = false := frozen_of_row c0 _ 3 _ _ hK0
  have g0_4 : c0.cell? ⟨w.heap.size, 4, none⟩ = some (.float .f32 p.y) := cell_of_row c0 _ 4 _ _ _ hK0
  have f0_4 : c0.frozen? ⟨w.heap.size, 4, none⟩ = false := frozen_of_row c0 _ 4 _ _ hK0
  have g0_5 : c0.cell? ⟨w.heap.size, 5, none⟩ = some (.float .f32 p.z) := cell_of_row c0 _ 5 _ _ _ hK0
  have f0_5 : c0.frozen? ⟨w.heap.size, 5, none⟩ = false := frozen_of_row c0 _ 5 _ _ hK0
  have l0 : w.heap.size < c0.heap.size := (Array.getElem?_eq_some_iff.1 hK0).1
  have g1_0 : c0.cell? ⟨w.heap.size + 1, 0, none⟩ = some (.float .f32 q.a) := cell_of_row c0 _ 0 _ _ _ hK1
  have f1_0 : c0.frozen? ⟨w.heap.size + 1, 0, none⟩ = false := frozen_of_row c0 _ 0 _ _ hK1
  have g1_1 : c0.cell? ⟨w.heap.size + 1, 1, none⟩ = some (.float .f32 q.b) := cell_of_row c0 _ 1 _ _ _ hK1
  have f1_1 : c0.frozen? ⟨w.heap.size + 1, 1, none⟩ = false := frozen_of_row c0 _ 1 _ _ hK1
  have g1_2 : c0.cell? ⟨w.heap.size + 1, 2, none⟩ = some (.float .f32 q.c) := cell_of_row c0 _ 2 _ _ _ hK1
  have f1_2 : c0.frozen? ⟨w.heap.size + 1, 2, none⟩ = false := frozen_of_row c0 _ 2 _ _ hK1
  have g1_3 : c0.cell? ⟨w.heap.size + 1, 3, none⟩ = some (.float .f32 q.x) := cell_of_row c0 _ 3 _ _ _ hK1
  have f1_3 : c0.frozen? ⟨w.heap.size + 1, 3, none⟩ = false := frozen_of_row c0 _ 3 _ _ hK1
  have g1_4 : c0.cell? ⟨w.heap.size + 1, 4, none⟩ = some (.float .f32 q.y) := cell_of_row c0 _ 4 _ _ _ hK1
  have f1_4 : c0.frozen? ⟨w.heap.size + 1, 4, none⟩ = false := frozen_of_row c0 _ 4 _ _ hK1
  have g1_5 : c0.cell? ⟨w.heap.size + 1, 5, none⟩ = some (.float .f32 q.z) := cell_of_row c0 _ 5 _ _ _ hK1
  have f1_5 : c0.frozen? ⟨w.heap.size + 1, 5, none⟩ = false := frozen_of_row c0 _ 5 _ _ hK1
  have l1 : w.heap.size + 1 < c0.heap.size := (Array.getElem?_eq_some_iff.1 hK1).1
  have g2_0 : c0.cell? ⟨R0, 0, none⟩ = some (.float .f32 (onlyIf (boxB p && boxB q) (cutM p q)).a) := cell_of_row c0 _ 0 _ _ _ hK2
  have f2_0 : c0.frozen? ⟨R0, 0, none⟩ = false := frozen_of_row c0 _ 0 _ _ hK2
  have g2_1 : c0.cell? ⟨R0, 1, none⟩ = some (.float .f32 (onlyIf (boxB p && boxB q) (cutM p q)).b) := cell_of_row c0 _ 1 _ _ _ hK2
  have f2_1 : c0.frozen? ⟨R0, 1, none⟩ = false := frozen_of_row c0 _ 1 _ _ hK2
  have g2_2 : c0.cell? ⟨R0, 2, none⟩ = some (.float .f32 (onlyIf (boxB p && boxB q) (cutM p q)).c) := cell_of_row c0 _ 2 _ _ _ hK2
  have f2_2 : c0.frozen? ⟨R0, 2, none⟩ = false := frozen_of_row c0 _ 2 _ _ hK2
  have g2_3 : c0.cell? ⟨R0, 3, none⟩ = some (.float .f32 (onlyIf (boxB p && boxB q) (cutM p q)).x) := cell_of_row c0 _ 3 _ _ _ hK2
  have f2_3 : c0.frozen? ⟨R0, 3, none⟩ = false := frozen_of_row c0 _ 3 _ _ hK2
  have g2_4 : c0.cell? ⟨R0, 4, none⟩ = some (.float .f32 (onlyIf (boxB p && boxB q) (cutM p q)).y) := cell_of_row c0 _ 4 _ _ _ hK2
  have f2_4 : c0.frozen? ⟨R0, 4, none⟩ = false := frozen_of_row c0 _ 4 _ _ hK2
  have g2_5 : c0.cell? ⟨R0, 5, none⟩ = some (.float .f32 (onlyIf (boxB p && boxB q) (cutM p q)).z) := cell_of_row c0 _ 5 _ _ _ hK2
  have f2_5 : c0.frozen? ⟨R0, 5, none⟩ = false := frozen_of_row c0 _ 5 _ _ hK2
  have l2 : R0 < c0.heap.size := (Array.getElem?_eq_some_iff.1 hK2).1
  go_wp2_with fail
  have hz0 : R0 < c0.heap.size := l2
  refine wp_region_flexP 9 7 (fun _ => true) (SB 29 (Value.tuple #[(onlyIf (boxB p && boxB q) (cutM p q)).v, .bool v])) (stays_SB _ _) (by kernel_rfl) rfl rfl rfl rfl (by kernel_rfl) ?_
  repeat (first | (refine flex_ex rfl rfl (fun K hK => ?_); apply Exists.intro; refine ⟨fun w' hw' => ?_, ?_⟩; (obtain ⟨hcc, hff⟩ := Grew.cells hw'; clear hw'; go_simp; rfl); refine hK _ ?_; clear hK K))
  (refine flex_call rfl rfl (fun K hK => ?_); go_simp; refine ⟨_, _, fun _ _ => ⟨rfl, rfl⟩, fun w1 hw1 => ?_, fun u y0 hx0 hu => ?_⟩)
  · refine (toBox_ok p.a p.b p.c p.x p.y p.z _).mono ?_
    rintro e w2 ⟨rfl, hb⟩
    exact ⟨_, rfl, by unfold SB; rw [if_neg (by decide)]; rfl, hb⟩
  obtain rfl : u = p.v := by unfold SB at hu; rw [if_neg (by decide)] at hu; exact hu
  (refine hK _ _ hx0 ?_; clear hK K hu)
  repeat (first | (refine flex_ex rfl rfl (fun K hK => ?_); apply Exists.intro; refine ⟨fun w' hw' => ?_, ?_⟩; (obtain ⟨hcc, hff⟩ := Grew.cells hw'; clear hw'; go_simp; rfl); refine hK _ ?_; clear hK K))
  (refine flex_call rfl rfl (fun K hK => ?_); go_simp; refine ⟨_, _, fun _ _ => ⟨rfl, rfl⟩, fun w1 hw1 => ?_, fun u y1 hx1 hu => ?_⟩)
  · refine (toBox_ok q.a q.b q.c q.x q.y q.z _).mono ?_
    rintro e w2 ⟨rfl, hb⟩
    exact ⟨_, rfl, by unfold SB; rw [if_neg (by decide)]; rfl, hb⟩
  obtain rfl : u = q.v := by unfold SB at hu; rw [if_neg (by decide)] at hu; exact hu
  (refine hK _ _ hx1 ?_; clear hK K hu)
  repeat (first | (refine flex_ex rfl rfl (fun K hK => ?_); apply Exists.intro; refine ⟨fun w' hw' => ?_, ?_⟩; (obtain ⟨hcc, hff⟩ := Grew.cells hw'; clear hw'; go_simp; rfl); refine hK _ ?_; clear hK K))
  (refine flex_call rfl rfl (fun K hK => ?_); go_simp; refine ⟨_, _, fun _ _ => ⟨rfl, rfl⟩, fun w1 hw1 => ?_, fun u y2 hx2 hu => ?_⟩)
  · refine (C1 _).mono ?_
    rintro e w2 ⟨rfl, hb⟩
    exact ⟨_, rfl, by unfold SB; rw [if_pos rfl], hb⟩
  obtain rfl : u = Value.tuple #[(onlyIf (boxB p && boxB q) (cutM p q)).v, .bool v] := by unfold SB at hu; rw [if_pos rfl] at hu; exact hu
  (refine hK _ _ hx2 ?_; clear hK K hu)
  repeat (first | (refine flex_ex rfl rfl (fun K hK => ?_); apply Exists.intro; refine ⟨fun w' hw' => ?_, ?_⟩; (obtain ⟨hcc, hff⟩ := Grew.cells hw'; clear hw'; go_simp; rfl); refine hK _ ?_; clear hK K))
  refine flex_alloc rfl rfl #[.float .f32 0, .float .f32 0, .float .f32 0, .float .f32 0, .float .f32 0, .float .f32 0] 30 (fun w1 hw1 => by go_simp) (fun R1 yd hyd hR1 hh1 => ?_)
  repeat (first | (refine flex_ex rfl rfl (fun K hK => ?_); apply Exists.intro; refine ⟨fun w' hw' => ?_, ?_⟩; (obtain ⟨hcc, hff⟩ := Grew.cells hw'; clear hw'; go_simp; rfl); refine hK _ ?_; clear hK K))
  refine flex_nil ?_
  intro b1 hw4
  clear g0_0 f0_0 g0_1 f0_1 g0_2 f0_2 g0_3 f0_3 g0_4 f0_4 g0_5 f0_5 l0 g1_0 f1_0 g1_1 f1_1 g1_2 f1_2 g1_3 f1_3 g1_4 f1_4 g1_5 f1_5 l1 g2_0 f2_0 g2_1 f2_1 g2_2 f2_2 g2_3 f2_3 g2_4 f2_4 g2_5 f2_5 l2
  have hE2 : Ext c0 b1 := ((((hx0).trans hx1).trans hx2).trans hyd).trans hw4
  have hB3 : Below w.heap.size w b1 := hB2.trans (hE2.mono hB2.size)
  replace hK0 := hE2.heap hK0
  replace hK1 := hE2.heap hK1
  replace hK2 := hE2.heap hK2
  have g0_0 : b1.cell? ⟨w.heap.size, 0, none⟩ = some (.float .f32 p.a) := cell_of_row b1 _ 0 _ _ _ hK0
  have f0_0 : b1.frozen? ⟨w.heap.size, 0, none⟩ = false := frozen_of_row b1 _ 0 _ _ hK0
  have g0_1 : b1.cell? ⟨w.heap.size, 1, none⟩ = some (.float .f32 p.b) := cell_of_row b1 _ 1 _ _ _ hK0
  have f0_1 : b1.frozen? ⟨w.heap.size, 1, none⟩ = false := frozen_of_row b1 _ 1 _ _ hK0
  have g0_2 : b1.cell? ⟨w.heap.size, 2, none⟩ = some (.float .f32 p.c) := cell_of_row b1 _ 2 _ _ _ hK0
  have f0_2 : b1.frozen? ⟨w.heap.size, 2, none⟩ = false := frozen_of_row b1 _ 2 _ _ hK0
  have g0_3 : b1.cell? ⟨w.heap.size, 3, none⟩ = some (.float .f32 p.x) := cell_of_row b1 _ 3 _ _ _ hK0
  have f0_3 : b1.frozen? ⟨w.heap.size, 3, none⟩ = false := frozen_of_row b1 _ 3 _ _ hK0
  have g0_4 : b1.cell? ⟨w.heap.size, 4, none⟩ = some (.float .f32 p.y) := cell_of_row b1 _ 4 _ _ _ hK0
  have f0_4 : b1.frozen? ⟨w.heap.size, 4, none⟩ = false := frozen_of_row b1 _ 4 _ _ hK0
  have g0_5 : b1.cell? ⟨w.heap.size, 5, none⟩ = some (.float .f32 p.z) := cell_of_row b1 _ 5 _ _ _ hK0
  have f0_5 : b1.frozen? ⟨w.heap.size, 5, none⟩ = false := frozen_of_row b1 _ 5 _ _ hK0
  have l0 : w.heap.size < b1.heap.size := (Array.getElem?_eq_some_iff.1 hK0).1
  have g1_0 : b1.cell? ⟨w.heap.size + 1, 0, none⟩ = some (.float .f32 q.a) := cell_of_row b1 _ 0 _ _ _ hK1
  have f1_0 : b1.frozen? ⟨w.heap.size + 1, 0, none⟩ = false := frozen_of_row b1 _ 0 _ _ hK1
  have g1_1 : b1.cell? ⟨w.heap.size + 1, 1, none⟩ = some (.float .f32 q.b) := cell_of_row b1 _ 1 _ _ _ hK1
  have f1_1 : b1.frozen? ⟨w.heap.size + 1, 1, none⟩ = false := frozen_of_row b1 _ 1 _ _ hK1
  have g1_2 : b1.cell? ⟨w.heap.size + 1, 2, none⟩ = some (.float .f32 q.c) := cell_of_row b1 _ 2 _ _ _ hK1
  have f1_2 : b1.frozen? ⟨w.heap.size + 1, 2, none⟩ = false := frozen_of_row b1 _ 2 _ _ hK1
  have g1_3 : b1.cell? ⟨w.heap.size + 1, 3, none⟩ = some (.float .f32 q.x) := cell_of_row b1 _ 3 _ _ _ hK1
  have f1_3 : b1.frozen? ⟨w.heap.size + 1, 3, none⟩ = false := frozen_of_row b1 _ 3 _ _ hK1
  have g1_4 : b1.cell? ⟨w.heap.size + 1, 4, none⟩ = some (.float .f32 q.y) := cell_of_row b1 _ 4 _ _ _ hK1
  have f1_4 : b1.frozen? ⟨w.heap.size + 1, 4, none⟩ = false := frozen_of_row b1 _ 4 _ _ hK1
  have g1_5 : b1.cell? ⟨w.heap.size + 1, 5, none⟩ = some (.float .f32 q.z) := cell_of_row b1 _ 5 _ _ _ hK1
  have f1_5 : b1.frozen? ⟨w.heap.size + 1, 5, none⟩ = false := frozen_of_row b1 _ 5 _ _ hK1
  have l1 : w.heap.size + 1 < b1.heap.size := (Array.getElem?_eq_some_iff.1 hK1).1
  have g2_0 : b1.cell? ⟨R0, 0, none⟩ = some (.float .f32 (onlyIf (boxB p && boxB q) (cutM p q)).a) := cell_of_row b1 _ 0 _ _ _ hK2
  have f2_0 : b1.frozen? ⟨R0, 0, none⟩ = false := frozen_of_row b1 _ 0 _ _ hK2
  have g2_1 : b1.cell? ⟨R0, 1, none⟩ = some (.float .f32 (onlyIf (boxB p && boxB q) (cutM p q)).b) := cell_of_row b1 _ 1 _ _ _ hK2
  have f2_1 : b1.frozen? ⟨R0, 1, none⟩ = false := frozen_of_row b1 _ 1 _ _ hK2
  have g2_2 : b1.cell? ⟨R0, 2, none⟩ = some (.float .f32 (onlyIf (boxB p && boxB q) (cutM p q)).c) := cell_of_row b1 _ 2 _ _ _ hK2
  have f2_2 : b1.frozen? ⟨R0, 2, none⟩ = false := frozen_of_row b1 _ 2 _ _ hK2
  have g2_3 : b1.cell? ⟨R0, 3, none⟩ = some (.float .f32 (onlyIf (boxB p && boxB q) (cutM p q)).x) := cell_of_row b1 _ 3 _ _ _ hK2
  have f2_3 : b1.frozen? ⟨R0, 3, none⟩ = false := frozen_of_row b1 _ 3 _ _ hK2
  have g2_4 : b1.cell? ⟨R0, 4, none⟩ = some (.float .f32 (onlyIf (boxB p && boxB q) (cutM p q)).y) := cell_of_row b1 _ 4 _ _ _ hK2
  have f2_4 : b1.frozen? ⟨R0, 4, none⟩ = false := frozen_of_row b1 _ 4 _ _ hK2
  have g2_5 : b1.cell? ⟨R0, 5, none⟩ = some (.float .f32 (onlyIf (boxB p && boxB q) (cutM p q)).z) := cell_of_row b1 _ 5 _ _ _ hK2
  have f2_5 : b1.frozen? ⟨R0, 5, none⟩ = false := frozen_of_row b1 _ 5 _ _ hK2
  have l2 : R0 < b1.heap.size := (Array.getElem?_eq_some_iff.1 hK2).1
  have hk1 := hw4.heap hh1
  clear hh1 hw4 hx0 hx1 hx2 hyd
  have hg1 : w.heap.size + 2 ≤ R1 := by omega
  have hd1 : ¬ R0 = R1 := by omega
  have hd1' : ¬ R1 = R0 := by omega
  clear g0_0 f0_0 g0_1 f0_1 g0_2 f0_2 g0_3 f0_3 g0_4 f0_4 g0_5 f0_5 l0 g1_0 f1_0 g1_1 f1_1 g1_2 f1_2 g1_3 f1_3 g1_4 f1_4 g1_5 f1_5 l1 g2_0 f2_0 g2_1 f2_1 g2_2 f2_2 g2_3 f2_3 g2_4 f2_4 g2_5 f2_5 l2
  have hK3 : b1.heap[R1]? = some (.cells #[.float .f32 0, .float .f32 0, .float .f32 0, .float .f32 0, .float .f32 0, .float .f32 0] 30) := hk1
  have g0_0 : b1.cell? ⟨w.heap.size, 0, none⟩ = some (.float .f32 p.a) := cell_of_row b1 _ 0 _ _ _ hK0
  have f0_0 : b1.frozen? ⟨w.heap.size, 0, none⟩ = false := frozen_of_row b1 _ 0 _ _ hK0
  have g0_1 : b1.cell? ⟨w.heap.size, 1, none⟩ = some (.float .f32 p.b) := cell_of_row b1 _ 1 _ _ _ hK0
  have f0_1 : b1.frozen? ⟨w.heap.size, 1, none⟩ = false := frozen_of_row b1 _ 1 _ _ hK0
  have g0_2 : b1.cell? ⟨w.heap.size, 2, none⟩ = some (.float .f32 p.c) := cell_of_row b1 _ 2 _ _ _ hK0
  have f0_2 : b1.frozen? ⟨w.heap.size, 2, none⟩ = false := frozen_of_row b1 _ 2 _ _ hK0
  have g0_3 : b1.cell? ⟨w.heap.size, 3, none⟩ = some (.float .f32 p.x) := cell_of_row b1 _ 3 _ _ _ hK0
  have f0_3 : b1.frozen? ⟨w.heap.size, 3, none⟩ = false := frozen_of_row b1 _ 3 _ _ hK0
  have g0_4 : b1.cell? ⟨w.heap.size, 4, none⟩ = some (.float .f32 p.y) := cell_of_row b1 _ 4 _ _ _ hK0
  have f0_4 : b1.frozen? ⟨w.heap.size, 4, none⟩ = false := frozen_of_row b1 _ 4 _ _ hK0
  have g0_5 : b1.cell? ⟨w.heap.size, 5, none⟩ = some (.float .f32 p.z) := cell_of_row b1 _ 5 _ _ _ hK0
  have f0_5 : b1.frozen? ⟨w.heap.size, 5, none⟩ = false := frozen_of_row b1 _ 5 _ _ hK0
  have l0 : w.heap.size < b1.heap.size := (Array.getElem?_eq_some_iff.1 hK0).1
  have g1_0 : b1.cell? ⟨w.heap.size + 1, 0, none⟩ = some (.float .f32 q.a) := cell_of_row b1 _ 0 _ _ _ hK1
  have f1_0 : b1.frozen? ⟨w.heap.size + 1, 0, none⟩ = false := frozen_of_row b1 _ 0 _ _ hK1
  have g1_1 : b1.cell? ⟨w.heap.size + 1, 1, none⟩ = some (.float .f32 q.b) := cell_of_row b1 _ 1 _ _ _ hK1
  have f1_1 : b1.frozen? ⟨w.heap.size + 1, 1, none⟩ = false := frozen_of_row b1 _ 1 _ _ hK1
  have g1_2 : b1.cell? ⟨w.heap.size + 1, 2, none⟩ = some (.float .f32 q.c) := cell_of_row b1 _ 2 _ _ _ hK1
  have f1_2 : b1.frozen? ⟨w.heap.size + 1, 2, none⟩ = false := frozen_of_row b1 _ 2 _ _ hK1
  have g1_3 : b1.cell? ⟨w.heap.size + 1, 3, none⟩ = some (.float .f32 q.x) := cell_of_row b1 _ 3 _ _ _ hK1
  have f1_3 : b1.frozen? ⟨w.heap.size + 1, 3, none⟩ = false := frozen_of_row b1 _ 3 _ _ hK1
  have g1_4 : b1.cell? ⟨w.heap.size + 1, 4, none⟩ = some (.float .f32 q.y) := cell_of_row b1 _ 4 _ _ _ hK1
  have f1_4 : b1.frozen? ⟨w.heap.size + 1, 4, none⟩ = false := frozen_of_row b1 _ 4 _ _ hK1
  have g1_5 : b1.cell? ⟨w.heap.size + 1, 5, none⟩ = some (.float .f32 q.z) := cell_of_row b1 _ 5 _ _ _ hK1
  have f1_5 : b1.frozen? ⟨w.heap.size + 1, 5, none⟩ = false := frozen_of_row b1 _ 5 _ _ hK1
  have l1 : w.heap.size + 1 < b1.heap.size := (Array.getElem?_eq_some_iff.1 hK1).1
  have g2_0 : b1.cell? ⟨R0, 0, none⟩ = some (.float .f32 (onlyIf (boxB p && boxB q) (cutM p q)).a) := cell_of_row b1 _ 0 _ _ _ hK2
  have f2_0 : b1.frozen? ⟨R0, 0, none⟩ = false := frozen_of_row b1 _ 0 _ _ hK2
  have g2_1 : b1.cell? ⟨R0, 1, none⟩ = some (.float .f32 (onlyIf (boxB p && boxB q) (cutM p q)).b) := cell_of_row b1 _ 1 _ _ _ hK2
  have f2_1 : b1.frozen? ⟨R0, 1, none⟩ = false := frozen_of_row b1 _ 1 _ _ hK2
  have g2_2 : b1.cell? ⟨R0, 2, none⟩ = some (.float .f32 (onlyIf (boxB p && boxB q) (cutM p q)).c) := cell_of_row b1 _ 2 _ _ _ hK2
  have f2_2 : b1.frozen? ⟨R0, 2, none⟩ = false := frozen_of_row b1 _ 2 _ _ hK2
  have g2_3 : b1.cell? ⟨R0, 3, none⟩ = some (.float .f32 (onlyIf (boxB p && boxB q) (cutM p q)).x) := cell_of_row b1 _ 3 _ _ _ hK2
  have f2_3 : b1.frozen? ⟨R0, 3, none⟩ = false := frozen_of_row b1 _ 3 _ _ hK2
  have g2_4 : b1.cell? ⟨R0, 4, none⟩ = some (.float .f32 (onlyIf (boxB p && boxB q) (cutM p q)).y) := cell_of_row b1 _ 4 _ _ _ hK2
  have f2_4 : b1.frozen? ⟨R0, 4, none⟩ = false := frozen_of_row b1 _ 4 _ _ hK2
  have g2_5 : b1.cell? ⟨R0, 5, none⟩ = some (.float .f32 (onlyIf (boxB p && boxB q) (cutM p q)).z) := cell_of_row b1 _ 5 _ _ _ hK2
  have f2_5 : b1.frozen? ⟨R0, 5, none⟩ = false := frozen_of_row b1 _ 5 _ _ hK2
  have l2 : R0 < b1.heap.size := (Array.getElem?_eq_some_iff.1 hK2).1
  have g3_0 : b1.cell? ⟨R1, 0, none⟩ = some (.float .f32 0) := cell_of_row b1 _ 0 _ _ _ hK3
  have f3_0 : b1.frozen? ⟨R1, 0, none⟩ = false := frozen_of_row b1 _ 0 _ _ hK3
  have g3_1 : b1.cell? ⟨R1, 1, none⟩ = some (.float .f32 0) := cell_of_row b1 _ 1 _ _ _ hK3
  have f3_1 : b1.frozen? ⟨R1, 1, none⟩ = false := frozen_of_row b1 _ 1 _ _ hK3
  have g3_2 : b1.cell? ⟨R1, 2, none⟩ = some (.float .f32 0) := cell_of_row b1 _ 2 _ _ _ hK3
  have f3_2 : b1.frozen? ⟨R1, 2, none⟩ = false := frozen_of_row b1 _ 2 _ _ hK3
  have g3_3 : b1.cell? ⟨R1, 3, none⟩ = some (.float .f32 0) := cell_of_row b1 _ 3 _ _ _ hK3
  have f3_3 : b1.frozen? ⟨R1, 3, none⟩ = false := frozen_of_row b1 _ 3 _ _ hK3
  have g3_4 : b1.cell? ⟨R1, 4, none⟩ = some (.float .f32 0) := cell_of_row b1 _ 4 _ _ _ hK3
  have f3_4 : b1.frozen? ⟨R1, 4, none⟩ = false := frozen_of_row b1 _ 4 _ _ hK3
  have g3_5 : b1.cell? ⟨R1, 5, none⟩ = some (.float .f32 0) := cell_of_row b1 _ 5 _ _ _ hK3
  have f3_5 : b1.frozen? ⟨R1, 5, none⟩ = false := frozen_of_row b1 _ 5 _ _ hK3
  have l3 : R1 < b1.heap.size := (Array.getElem?_eq_some_iff.1 hK3).1
  refine ⟨(by simp [Region.wanted]), ?_⟩
  apply Exists.intro
  refine ⟨(by go_simp; rfl), ?_⟩
  simp only [List.drop_succ_cons, List.drop_zero]
  generalize hWs : (((((b1.setCell ⟨R1, 0, none⟩ (.float .f32 (onlyIf (boxB p && boxB q) (cutM p q)).a)).setCell ⟨R1, 1, none⟩ (.float .f32 (onlyIf (boxB p && boxB q) (cutM p q)).b)).setCell ⟨R1, 2, none⟩ (.float .f32 (onlyIf (boxB p && boxB q) (cutM p q)).c)).setCell ⟨R1, 3, none⟩ (.float .f32 (onlyIf (boxB p && boxB q) (cutM p q)).x)).setCell ⟨R1, 4, none⟩ (.float .f32 (onlyIf (boxB p && boxB q) (cutM p q)).y)).setCell ⟨R1, 5, none⟩ (.float .f32 (onlyIf (boxB p && boxB q) (cutM p q)).z) = c1
  have hS : c1.heap[R1]? = some (.cells #[.float .f32 (onlyIf (boxB p && boxB q) (cutM p q)).a, .float .f32 (onlyIf (boxB p && boxB q) (cutM p q)).b, .float .f32 (onlyIf (boxB p && boxB q) (cutM p q)).c, .float .f32 (onlyIf (boxB p && boxB q) (cutM p q)).x, .float .f32 (onlyIf (boxB p && boxB q) (cutM p q)).y, .float .f32 (onlyIf (boxB p && boxB q) (cutM p q)).z] 30) := by
    subst hWs
    have s0 := heap_setCell_same (b1) _ 0 _ _ (.float .f32 (onlyIf (boxB p && boxB q) (cutM p q)).a) hK3
    have s1 := heap_setCell_same ((b1).setCell ⟨R1, 0, none⟩ (.float .f32 (onlyIf (boxB p && boxB q) (cutM p q)).a)) _ 1 _ _ (.float .f32 (onlyIf (boxB p && boxB q) (cutM p q)).b) s0
    have s2 := heap_setCell_same (((b1).setCell ⟨R1, 0, none⟩ (.float .f32 (onlyIf (boxB p && boxB q) (cutM p q)).a)).setCell ⟨R1, 1, none⟩ (.float .f32 (onlyIf (boxB p && boxB q) (cutM p q)).b)) _ 2 _ _ (.float .f32 (onlyIf (boxB p && boxB q) (cutM p q)).c) s1
    have s3 := heap_setCell_same ((((b1).setCell ⟨R1, 0, none⟩ (.float .f32 (onlyIf (boxB p && boxB q) (cutM p q)).a)).setCell ⟨R1, 1, none⟩ (.float .f32 (onlyIf (boxB p && boxB q) (cutM p q)).b)).setCell ⟨R1, 2, none⟩ (.float .f32 (onlyIf (boxB p && boxB q) (cutM p q)).c)) _ 3 _ _ (.float .f32 (onlyIf (boxB p && boxB q) (cutM p q)).x) s2
    have s4 := heap_setCell_same (((((b1).setCell ⟨R1, 0, none⟩ (.float .f32 (onlyIf (boxB p && boxB q) (cutM p q)).a)).setCell ⟨R1, 1, none⟩ (.float .f32 (onlyIf (boxB p && boxB q) (cutM p q)).b)).setCell ⟨R1, 2, none⟩ (.float .f32 (onlyIf (boxB p && boxB q) (cutM p q)).c)).setCell ⟨R1, 3, none⟩ (.float .f32 (onlyIf (boxB p && boxB q) (cutM p q)).x)) _ 4 _ _ (.float .f32 (onlyIf (boxB p && boxB q) (cutM p q)).y) s3
    have s5 := heap_setCell_same ((((((b1).setCell ⟨R1, 0, none⟩ (.float .f32 (onlyIf (boxB p && boxB q) (cutM p q)).a)).setCell ⟨R1, 1, none⟩ (.float .f32 (onlyIf (boxB p && boxB q) (cutM p q)).b)).setCell ⟨R1, 2, none⟩ (.float .f32 (onlyIf (boxB p && boxB q) (cutM p q)).c)).setCell ⟨R1, 3, none⟩ (.float .f32 (onlyIf (boxB p && boxB q) (cutM p q)).x)).setCell ⟨R1, 4, none⟩ (.float .f32 (onlyIf (boxB p && boxB q) (cutM p q)).y)) _ 5 _ _ (.float .f32 (onlyIf (boxB p && boxB q) (cutM p q)).z) s4
    simpa using s5
  have hO : ∀ q, q ≠ R1 → c1.heap[q]? = b1.heap[q]? := fun q hq => by subst hWs; rw [heap_setCell_other _ _ _ _ hq, heap_setCell_other _ _ _ _ hq, heap_setCell_other _ _ _ _ hq, heap_setCell_other _ _ _ _ hq, heap_setCell_other _ _ _ _ hq, heap_setCell_other _ _ _ _ hq]
  have hB4 : Below w.heap.size w c1 := by
    subst hWs
    have hle : w.heap.size ≤ R1 := by omega
    refine Below.setCell ?_ hle _
    refine Below.setCell ?_ hle _
    refine Below.setCell ?_ hle _
    refine Below.setCell ?_ hle _
    refine Below.setCell ?_ hle _
    refine Below.setCell ?_ hle _
    repeat (first | exact hB3 | refine below_drewN ?_ _)
  clear g0_0 f0_0 g0_1 f0_1 g0_2 f0_2 g0_3 f0_3 g0_4 f0_4 g0_5 f0_5 l0 g1_0 f1_0 g1_1 f1_1 g1_2 f1_2 g1_3 f1_3 g1_4 f1_4 g1_5 f1_5 l1 g2_0 f2_0 g2_1 f2_1 g2_2 f2_2 g2_3 f2_3 g2_4 f2_4 g2_5 f2_5 l2 g3_0 f3_0 g3_1 f3_1 g3_2 f3_2 g3_3 f3_3 g3_4 f3_4 g3_5 f3_5 l3
  replace hK0 := (hO _ (by omega)).trans hK0
  replace hK1 := (hO _ (by omega)).trans hK1
  replace hK2 := (hO _ (by omega)).trans hK2
  replace hK3 := hS
  clear hS hO hWs
  have g0_0 : c1.cell? ⟨w.heap.size, 0, none⟩ = some (.float .f32 p.a) := cell_of_row c1 _ 0 _ _ _ hK0
  have f0_0 : c1.frozen? ⟨w.heap.size, 0, none⟩ = false := frozen_of_row c1 _ 0 _ _ hK0
  have g0_1 : c1.cell? ⟨w.heap.size, 1, none⟩ = some (.float .f32 p.b) := cell_of_row c1 _ 1 _ _ _ hK0
  have f0_1 : c1.frozen? ⟨w.heap.size, 1, none⟩ = false := frozen_of_row c1 _ 1 _ _ hK0
  have g0_2 : c1.cell? ⟨w.heap.size, 2, none⟩ = some (.float .f32 p.c) := cell_of_row c1 _ 2 _ _ _ hK0
  have f0_2 : c1.frozen? ⟨w.heap.size, 2, none⟩ = false := frozen_of_row c1 _ 2 _ _ hK0
  have g0_3 : c1.cell? ⟨w.heap.size, 3, none⟩ = some (.float .f32 p.x) := cell_of_row c1 _ 3 _ _ _ hK0
  have f0_3 : c1.frozen? ⟨w.heap.size, 3, none⟩ = false := frozen_of_row c1 _ 3 _ _ hK0
  have g0_4 : c1.cell? ⟨w.heap.size, 4, none⟩ = some (.float .f32 p.y) := cell_of_row c1 _ 4 _ _ _ hK0
  have f0_4 : c1.frozen? ⟨w.heap.size, 4, none⟩ = false := frozen_of_row c1 _ 4 _ _ hK0
  have g0_5 : c1.cell? ⟨w.heap.size, 5, none⟩ = some (.float .f32 p.z) := cell_of_row c1 _ 5 _ _ _ hK0
  have f0_5 : c1.frozen? ⟨w.heap.size, 5, none⟩ = false := frozen_of_row c1 _ 5 _ _ hK0
  have l0 : w.heap.size < c1.heap.size := (Array.getElem?_eq_some_iff.1 hK0).1
  have g1_0 : c1.cell? ⟨w.heap.size + 1, 0, none⟩ = some (.float .f32 q.a) := cell_of_row c1 _ 0 _ _ _ hK1
  have f1_0 : c1.frozen? ⟨w.heap.size + 1, 0, none⟩ = false := frozen_of_row c1 _ 0 _ _ hK1
  have g1_1 : c1.cell? ⟨w.heap.size + 1, 1, none⟩ = some (.float .f32 q.b) := cell_of_row c1 _ 1 _ _ _ hK1
  have f1_1 : c1.frozen? ⟨w.heap.size + 1, 1, none⟩ = false := frozen_of_row c1 _ 1 _ _ hK1
  have g1_2 : c1.cell? ⟨w.heap.size + 1, 2, none⟩ = some (.float .f32 q.c) := cell_of_row c1 _ 2 _ _ _ hK1
  have f1_2 : c1.frozen? ⟨w.heap.size + 1, 2, none⟩ = false := frozen_of_row c1 _ 2 _ _ hK1
  have g1_3 : c1.cell? ⟨w.heap.size + 1, 3, none⟩ = some (.float .f32 q.x) := cell_of_row c1 _ 3 _ _ _ hK1
  have f1_3 : c1.frozen? ⟨w.heap.size + 1, 3, none⟩ = false := frozen_of_row c1 _ 3 _ _ hK1
  have g1_4 : c1.cell? ⟨w.heap.size + 1, 4, none⟩ = some (.float .f32 q.y) := cell_of_row c1 _ 4 _ _ _ hK1
  have f1_4 : c1.frozen? ⟨w.heap.size + 1, 4, none⟩ = false := frozen_of_row c1 _ 4 _ _ hK1
  have g1_5 : c1.cell? ⟨w.heap.size + 1, 5, none⟩ = some (.float .f32 q.z) := cell_of_row c1 _ 5 _ _ _ hK1
  have f1_5 : c1.frozen? ⟨w.heap.size + 1, 5, none⟩ = false := frozen_of_row c1 _ 5 _ _ hK1
  have l1 : w.heap.size + 1 < c1.heap.size := (Array.getElem?_eq_some_iff.1 hK1).1
  have g2_0 : c1.cell? ⟨R0, 0, none⟩ = some (.float .f32 (onlyIf (boxB p && boxB q) (cutM p q)).a) := cell_of_row c1 _ 0 _ _ _ hK2
  have f2_0 : c1.frozen? ⟨R0, 0, none⟩ = false := frozen_of_row c1 _ 0 _ _ hK2
  have g2_1 : c1.cell? ⟨R0, 1, none⟩ = some (.float .f32 (onlyIf (boxB p && boxB q) (cutM p q)).b) := cell_of_row c1 _ 1 _ _ _ hK2
  have f2_1 : c1.frozen? ⟨R0, 1, none⟩ = false := frozen_of_row c1 _ 1 _ _ hK2
  have g2_2 : c1.cell? ⟨R0, 2, none⟩ = some (.float .f32 (onlyIf (boxB p && boxB q) (cutM p q)).c) := cell_of_row c1 _ 2 _ _ _ hK2
  have f2_2 : c1.frozen? ⟨R0, 2, none⟩ = false := frozen_of_row c1 _ 2 _ _ hK2
  have g2_3 : c1.cell? ⟨R0, 3, none⟩ = some (.float .f32 (onlyIf (boxB p && boxB q) (cutM p q)).x) := cell_of_row c1 _ 3 _ _ _ hK2
  have f2_3 : c1.frozen? ⟨R0, 3, none⟩ = false := frozen_of_row c1 _ 3 _ _ hK2
  have g2_4 : c1.cell? ⟨R0, 4, none⟩ = some (.float .f32 (onlyIf (boxB p && boxB q) (cutM p q)).y) := cell_of_row c1 _ 4 _ _ _ hK2
  have f2_4 : c1.frozen? ⟨R0, 4, none⟩ = false := frozen_of_row c1 _ 4 _ _ hK2
  have g2_5 : c1.cell? ⟨R0, 5, none⟩ = some (.float .f32 (onlyIf (boxB p && boxB q) (cutM p q)).z) := cell_of_row c1 _ 5 _ _ _ hK2
  have f2_5 : c1.frozen? ⟨R0, 5, none⟩ = false := frozen_of_row c1 _ 5 _ _ hK2
  have l2 : R0 < c1.heap.size := (Array.getElem?_eq_some_iff.1 hK2).1
  have g3_0 : c1.cell? ⟨R1, 0, none⟩ = some (.float .f32 (onlyIf (boxB p && boxB q) (cutM p q)).a) := cell_of_row c1 _ 0 _ _ _ hK3
  have f3_0 : c1.frozen? ⟨R1, 0, none⟩ = false := frozen_of_row c1 _ 0 _ _ hK3
  have g3_1 : c1.cell? ⟨R1, 1, none⟩ = some (.float .f32 (onlyIf (boxB p && boxB q) (cutM p q)).b) := cell_of_row c1 _ 1 _ _ _ hK3
  have f3_1 : c1.frozen? ⟨R1, 1, none⟩ = false := frozen_of_row c1 _ 1 _ _ hK3
  have g3_2 : c1.cell? ⟨R1, 2, none⟩ = some (.float .f32 (onlyIf (boxB p && boxB q) (cutM p q)).c) := cell_of_row c1 _ 2 _ _ _ hK3
  have f3_2 : c1.frozen? ⟨R1, 2, none⟩ = false := frozen_of_row c1 _ 2 _ _ hK3
  have g3_3 : c1.cell? ⟨R1, 3, none⟩ = some (.float .f32 (onlyIf (boxB p && boxB q) (cutM p q)).x) := cell_of_row c1 _ 3 _ _ _ hK3
  have f3_3 : c1.frozen? ⟨R1, 3, none⟩ = false := frozen_of_row c1 _ 3 _ _ hK3
  have g3_4 : c1.cell? ⟨R1, 4, none⟩ = some (.float .f32 (onlyIf (boxB p && boxB q) (cutM p q)).y) := cell_of_row c1 _ 4 _ _ _ hK3
  have f3_4 : c1.frozen? ⟨R1, 4, none⟩ = false := frozen_of_row c1 _ 4 _ _ hK3
  have g3_5 : c1.cell? ⟨R1, 5, none⟩ = some (.float .f32 (onlyIf (boxB p && boxB q) (cutM p q)).z) := cell_of_row c1 _ 5 _ _ _ hK3
  have f3_5 : c1.frozen? ⟨R1, 5, none⟩ = false := frozen_of_row c1 _ 5 _ _ hK3
  have l3 : R1 < c1.heap.size := (Array.getElem?_eq_some_iff.1 hK3).1
  go_wp2_with fail
  refine (eqBox_ok (onlyIf (boxB p && boxB q) (cutM p q)) (onlyIf (boxB p && boxB q) (cutM p q)) _ (B6.Eq.refl _)).mono ?_
  rintro e w9 ⟨rfl, hb9⟩
  have hB9 : Below w.heap.size w w9 := hB4.trans (hb9.mono hB4.size)
  clear hb9 g0_0 f0_0 g0_1 f0_1 g0_2 f0_2 g0_3 f0_3 g0_4 f0_4 g0_5 f0_5 l0 g1_0 f1_0 g1_1 f1_1 g1_2 f1_2 g1_3 f1_3 g1_4 f1_4 g1_5 f1_5 l1 g2_0 f2_0 g2_1 f2_1 g2_2 f2_2 g2_3 f2_3 g2_4 f2_4 g2_5 f2_5 l2 g3_0 f3_0 g3_1 f3_1 g3_2 f3_2 g3_3 f3_3 g3_4 f3_4 g3_5 f3_5 l3
  cases v <;>
  · go_wp2_with fail
    go_ret
    exact ⟨rfl, hB9⟩
theorem walk (pa pb pc : Nat) (hp1 : pa < 4294967296 ∧ pb < 4294967296 ∧ pc < 4294967296) (px py pz : Nat) (hp2 : px < 4294967296 ∧ py < 4294967296 ∧ pz < 4294967296) (qa qb qc : Nat) (hq1 : qa < 4294967296 ∧ qb < 4294967296 ∧ qc < 4294967296) (qx qy qz : Nat) (hq2 : qx < 4294967296 ∧ qy < 4294967296 ∧ qz < 4294967296) (w : World) :
    Calls Try.prog 9 #[.agg #[.float .f32 pa, .float .f32 pb, .float .f32 pc, .float .f32 px, .float .f32 py, .float .f32 pz], .agg #[.float .f32 qa, .float .f32 qb, .float .f32 qc, .float .f32 qx, .float .f32 qy, .float .f32 qz]] w fun e w' => e = .returned (.bool true) ∧ Below w.heap.size w w' :=
  walkq ⟨pa, pb, pc, px, py, pz⟩ ⟨hp1.1, hp1.2.1, hp1.2.2, hp2.1, hp2.2.1, hp2.2.2⟩ ⟨qa, qb, qc, qx, qy, qz⟩ ⟨hq1.1, hq1.2.1, hq1.2.2, hq2.1, hq2.2.1, hq2.2.2⟩ w

theorem own : ownKnob Try.prog.godebug = none := by kernel_rfl
set_option maxRecDepth 100000 in
theorem lifted (os : Os) (started : os.Started) (H : Type) (enc : TypeId × Value → H) :
    ReturnsInHanded {} Try.checked os 9 .any (Rows.fnExactCutBoxesSpec.pre6 enc Try.prog Try.f9 [] false) (Rows.fnExactCutBoxesSpec.post enc Try.prog Try.f9 false true false false) := by
  refine law_lifted (C := Try.checked) (tb := 4) own started (by kernel_rfl) Try.func9
    (ChangeSpec.witness6 (enc := enc) (C := Try.checked) false ⟨#[], #[.agg #[.float .f32 0, .float .f32 0, .float .f32 0, .float .f32 0, .float .f32 0, .float .f32 0], .agg #[.float .f32 0, .float .f32 0, .float .f32 0, .float .f32 0, .float .f32 0, .float .f32 0]], []⟩ 8 (by kernel_rfl) (by kernel_rfl) (by kernel_rfl) (by kernel_rfl))
    (by kernel_rfl) ?_ rfl rfl Try.underlying4 ?_ ?_
  · rw [Try.params9]
    intro t ht
    simp only [List.mem_cons, List.not_mem_nil, or_false] at ht
    rcases ht with rfl | rfl <;> exact ⟨by kernel_rfl, of_decide_eq_true (by kernel_rfl)⟩
  · intro ds hds
    have hn : Try.f9.params.size = 2 := by kernel_rfl
    rw [hn] at hds
    match ds, hds with
    | [_, _], _ => rfl
  intro W base args ds p hval hA hlt hsz
  rw [Try.params9] at hA hval
  obtain ⟨v0, vs0, d0, ds0, p0, q0, hargs, rfl, rfl, h0, r0⟩ := trodAll_cons hA
  obtain ⟨v1, vs1, d1, ds1, p1, q1, rfl, rfl, rfl, h1, r1⟩ := trodAll_cons r0
  obtain ⟨rfl, rfl, rfl⟩ := trodAll_nil r1
  obtain rfl : args = #[v0, v1] := by cases args; simp_all
  obtain ⟨a0, b0, c0, x0, y0, z0, rfl, w0, wx0⟩ := open_ray Try.underlying26 (by kernel_rfl) rfl rfl (by kernel_rfl) (by kernel_rfl) Try.underlying24 Try.underlying24 (by kernel_rfl) Try.underlying22 Try.underlying22 Try.underlying22 (hval 0 26 v0 rfl rfl) h0
  obtain ⟨a1, b1, c1, x1, y1, z1, rfl, w1, wx1⟩ := open_ray Try.underlying26 (by kernel_rfl) rfl rfl (by kernel_rfl) (by kernel_rfl) Try.underlying24 Try.underlying24 (by kernel_rfl) Try.underlying22 Try.underlying22 Try.underlying22 (hval 1 26 v1 rfl rfl) h1
  exact walk a0 b0 c0 w0 x0 y0 z0 wx0 a1 b1 c1 w1 x1 y1 z1 wx1 W

theorem proved : Rows.FnExactCutBoxesSaid :=
  OpenClaim.holds_of_wide 9 Try.f9 rfl rfl rfl rfl rfl rfl rfl ⟨rfl, rfl, rfl, rfl, rfl⟩ rfl rfl rfl rfl rfl (by kernel_rfl) Try.func9 (by kernel_rfl)
    (of_decide_eq_true (by kernel_rfl)) (by unfold Func.isWrapper; rw [if_neg (of_decide_eq_false (by kernel_rfl))]; exact ⟨rfl, rfl⟩)
    (fun os started H enc _ => lifted os started H enc)
end Go.Proofs.Ytaamfjokkphckaa.lawCutBoxes
