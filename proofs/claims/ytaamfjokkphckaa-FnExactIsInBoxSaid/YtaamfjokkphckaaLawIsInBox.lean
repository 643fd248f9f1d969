/- Law FnExactIsInBox: for every input the program answers as its model. -/
import Derived.Test.YtaamfjokkphckaaRows
import Derived.Test.YtaamfjokkphckaaLaw
import Derived.Test.YtaamfjokkphckaaBoxLaw
import Derived.Test.YtaamfjokkphckaaLaw4
import Derived.ProofKit
import Derived.Outline
namespace Go.Proofs.Ytaamfjokkphckaa.lawIsInBox
open Go.Proofs.FX Go.RowKit Go.ChangeShapes Go.WideShapes Go.ChangeAt
open Go.WideMaps Go.WideElems
open Go.ChangeMaps (setBlock shut_map_nil open_string shut_string keptBut_setBlock frozen?_setBlock heap_setBlock_same)

set_option maxHeartbeats 8000000 in
set_option maxRecDepth 100000 in
theorem walkq (q : B6) (_hq : q.Lt) (x y z : Nat) (_hx : x < 4294967296 ∧ y < 4294967296 ∧ z < 4294967296) (w : World) :
    Calls Try.prog 4 #[q.v, vec x y z] w fun e w' => e = .returned (.bool true) ∧ Below w.heap.size w w' := by
  obtain ⟨v, hv⟩ : ∃ v : Bool, v = (boxB q && holdsB q x y z) := ⟨_, rfl⟩
  have C0 : ∀ w : World, _ := fun w => specIsInBox_ok q x y z w
  rw [← hv] at C0
  have C1 : ∀ w : World, _ := fun w => IsInBox_ok q x y z w
  rw [← hv] at C1
  clear hv
  go_enter Try.func4, Try.ntmps4
  go_wp2_with fail
  generalize hW0 : (w.alloc (.cells #[.float .f32 q.a, .float .f32 q.b, .float .f32 q.c, .float .f32 q.x, .float .f32 q.y, .float .f32 q.z] 26)).alloc (.cells #[.float .f32 x, .float .f32 y, .float .f32 z] 24) = W0
  have hB0 : Below w.heap.size w W0 := by subst hW0; exact by (repeat (first | exact Below.refl _ _ | assumption | refine below_drewN ?_ _ | refine Below.setCell ?_ (by first | omega | (simp <;> omega)) _ | refine Below.alloc ?_ (by first | omega | (simp <;> omega)) _))
  have hK0 : W0.heap[w.heap.size]? = some (.cells #[.float .f32 q.a, .float .f32 q.b, .float .f32 q.c, .float .f32 q.x, .float .f32 q.y, .float .f32 q.z] 26) := by subst hW0; exact heap_alloc2_old _ _ _
  have hK1 : W0.heap[w.heap.size + 1]? = some (.cells #[.float .f32 x, .float .f32 y, .float .f32 z] 24) := by subst hW0; exact heap_alloc2_new _ _ _
  clear hW0
  have hZ0 : w.heap.size + 1 < W0.heap.size := (Array.getElem?_eq_some_iff.1 hK1).1
  have g0_0 : W0.cell? ⟨w.heap.size, 0, none⟩ = some (.float .f32 q.a) := cell_of_row W0 _ 0 _ _ _ hK0
  have f0_0 : W0.frozen? ⟨w.heap.size, 0, none⟩ = false := frozen_of_row W0 _ 0 _ _ hK0
  have g0_1 : W0.cell? ⟨w.heap.size, 1, none⟩ = some (.float .f32 q.b) := cell_of_row W0 _ 1 _ _ _ hK0
  have f0_1 : W0.frozen? ⟨w.heap.size, 1, none⟩ = false := frozen_of_row W0 _ 1 _ _ hK0
  have g0_2 : W0.cell? ⟨w.heap.size, 2, none⟩ = some (.float .f32 q.c) := cell_of_row W0 _ 2 _ _ _ hK0
  have f0_2 : W0.frozen? ⟨w.heap.size, 2, none⟩ = false := frozen_of_row W0 _ 2 _ _ hK0
  have g0_3 : W0.cell? ⟨w.heap.size, 3, none⟩ = some (.float .f32 q.x) := cell_of_row W0 _ 3 _ _ _ hK0
  have f0_3 : W0.frozen? ⟨w.heap.size, 3, none⟩ = false := frozen_of_row W0 _ 3 _ _ hK0
  have g0_4 : W0.cell? ⟨w.heap.size, 4, none⟩ = some (.float .f32 q.y) := cell_of_row W0 _ 4 _ _ _ hK0
  have f0_4 : W0.frozen? ⟨w.heap.size, 4, none⟩ = false := frozen_of_row W0 _ 4 _ _ hK0
  have g0_5 : W0.cell? ⟨w.heap.size, 5, none⟩ = some (.float .f32 q.z) := cell_of_row W0 _ 5 _ _ _ hK0
  have f0_5 : W0.frozen? ⟨w.heap.size, 5, none⟩ = false := frozen_of_row W0 _ 5 _ _ hK0
  have l0 : w.heap.size < W0.heap.size := (Array.getElem?_eq_some_iff.1 hK0).1
  have g1_0 : W0.cell? ⟨w.heap.size + 1, 0, none⟩ = some (.float .f32 x) := cell_of_row W0 _ 0 _ _ _ hK1
  have f1_0 : W0.frozen? ⟨w.heap.size + 1, 0, none⟩ = false := frozen_of_row W0 _ 0 _ _ hK1
  have g1_1 : W0.cell? ⟨w.heap.size + 1, 1, none⟩ = some (.float .f32 y) := cell_of_row W0 _ 1 _ _ _ hK1
  have f1_1 : W0.frozen? ⟨w.heap.size + 1, 1, none⟩ = false := frozen_of_row W0 _ 1 _ _ hK1
  have g1_2 : W0.cell? ⟨w.heap.size + 1, 2, none⟩ = some (.float .f32 z) := cell_of_row W0 _ 2 _ _ _ hK1
  have f1_2 : W0.frozen? ⟨w.heap.size + 1, 2, none⟩ = false := frozen_of_row W0 _ 2 _ _ hK1
  have l1 : w.heap.size + 1 < W0.heap.size := (Array.getElem?_eq_some_iff.1 hK1).1
  refine wp_region_laterO 5 (SO (QL [(8, fun u => u = q.v), (10, fun u => u = vec x y z), (11, fun u => u = Value.bool v)])) (stays_SO _) (by kernel_rfl) (by kernel_rfl) ?_
  repeat (first | (refine later_exO rfl (fun K hK => ?_); apply Exists.intro; refine ⟨fun w' hw' => ?_, ?_⟩; (obtain ⟨hcc, hff⟩ := Grew.cells hw'; clear hw'; go_simp; rfl); go_simp; refine hK _ ?_; clear hK K))
  (refine later_callO rfl (fun K hK => ?_); go_simp; refine ⟨_, _, fun _ _ => ⟨rfl, rfl⟩, fun w1 hw1 => ?_, fun u y1 hx1 hu => ?_⟩)
  · refine (toBox_ok q.a q.b q.c q.x q.y q.z _).mono ?_
    rintro e w2 ⟨rfl, hb⟩
    exact ⟨_, rfl, rfl, hb⟩
  obtain rfl : (fun u => u = q.v) u := hu
  (refine hK _ _ hx1 ?_; clear hK K)
  repeat (first | (refine later_exO rfl (fun K hK => ?_); apply Exists.intro; refine ⟨fun w' hw' => ?_, ?_⟩; (obtain ⟨hcc, hff⟩ := Grew.cells hw'; clear hw'; go_simp; rfl); go_simp; refine hK _ ?_; clear hK K))
  (refine later_callO rfl (fun K hK => ?_); go_simp; refine ⟨_, _, fun _ _ => ⟨rfl, rfl⟩, fun w1 hw1 => ?_, fun u y2 hx2 hu => ?_⟩)
  · refine (toVector_ok x y z _).mono ?_
    rintro e w2 ⟨rfl, hb⟩
    exact ⟨_, rfl, rfl, hb⟩
  obtain rfl : (fun u => u = vec x y z) u := hu
  (refine hK _ _ hx2 ?_; clear hK K)
  repeat (first | (refine later_exO rfl (fun K hK => ?_); apply Exists.intro; refine ⟨fun w' hw' => ?_, ?_⟩; (obtain ⟨hcc, hff⟩ := Grew.cells hw'; clear hw'; go_simp; rfl); go_simp; refine hK _ ?_; clear hK K))
  (refine later_callO rfl (fun K hK => ?_); go_simp; refine ⟨_, _, fun _ _ => ⟨rfl, rfl⟩, fun w1 hw1 => ?_, fun u y3 hx3 hu => ?_⟩)
  · refine (C0 _).mono ?_
    rintro e w2 ⟨rfl, hb⟩
    exact ⟨_, rfl, rfl, hb⟩
  obtain rfl : (fun u => u = Value.bool v) u := hu
  (refine hK _ _ hx3 ?_; clear hK K)
  repeat (first | (refine later_exO rfl (fun K hK => ?_); apply Exists.intro; refine ⟨fun w' hw' => ?_, ?_⟩; (obtain ⟨hcc, hff⟩ := Grew.cells hw'; clear hw'; go_simp; rfl); go_simp; refine hK _ ?_; clear hK K))
  refine later_nilO ?_
  intro b0 hw4
  simp only [List.drop_succ_cons, List.drop_zero]
  clear g0_0 f0_0 g0_1 f0_1 g0_2 f0_2 g0_3 f0_3 g0_4 f0_4 g0_5 f0_5 l0 g1_0 f1_0 g1_1 f1_1 g1_2 f1_2 l1
  have hE0 : Ext W0 b0 := (((hx1).trans hx2).trans hx3).trans hw4
  have hB1 : Below w.heap.size w b0 := hB0.trans (hE0.mono hB0.size)
  replace hK0 := hE0.heap hK0
  replace hK1 := hE0.heap hK1
  have g0_0 : b0.cell? ⟨w.heap.size, 0, none⟩ = some (.float .f32 q.a) := cell_of_row b0 _ 0 _ _ _ hK0
  have f0_0 : b0.frozen? ⟨w.heap.size, 0, none⟩ = false := frozen_of_row b0 _ 0 _ _ hK0
  have g0_1 : b0.cell? ⟨w.heap.size, 1, none⟩ = some (.float .f32 q.b) := cell_of_row b0 _ 1 _ _ _ hK0
  have f0_1 : b0.frozen? ⟨w.heap.size, 1, none⟩ = false := frozen_of_row b0 _ 1 _ _ hK0
  have g0_2 : b0.cell? ⟨w.heap.size, 2, none⟩ = some (.float .f32 q.c) := cell_of_row b0 _ 2 _ _ _ hK0
  have f0_2 : b0.frozen? ⟨w.heap.size, 2, none⟩ = false := frozen_of_row b0 _ 2 _ _ hK0
  have g0_3 : b0.cell? ⟨w.heap.size, 3, none⟩ = some (.float .f32 q.x) := cell_of_row b0 _ 3 _ _ _ hK0
  have f0_3 : b0.frozen? ⟨w.heap.size, 3, none⟩ = false := frozen_of_row b0 _ 3 _ _ hK0
  have g0_4 : b0.cell? ⟨w.heap.size, 4, none⟩ = some (.float .f32 q.y) := cell_of_row b0 _ 4 _ _ _ hK0
  have f0_4 : b0.frozen? ⟨w.heap.size, 4, none⟩ = false := frozen_of_row b0 _ 4 _ _ hK0
  have g0_5 : b0.cell? ⟨w.heap.size, 5, none⟩ = some (.float .f32 q.z) := cell_of_row b0 _ 5 _ _ _ hK0
  have f0_5 : b0.frozen? ⟨w.heap.size, 5, none⟩ = false := frozen_of_row b0 _ 5 _ _ hK0
  have l0 : w.heap.size < b0.heap.size := (Array.getElem?_eq_some_iff.1 hK0).1
  have g1_0 : b0.cell? ⟨w.heap.size + 1, 0, none⟩ = some (.float .f32 x) := cell_of_row b0 _ 0 _ _ _ hK1
  have f1_0 : b0.frozen? ⟨w.heap.size + 1, 0, none⟩ = false := frozen_of_row b0 _ 0 _ _ hK1
  have g1_1 : b0.cell? ⟨w.heap.size + 1, 1, none⟩ = some (.float .f32 y) := cell_of_row b0 _ 1 _ _ _ hK1
  have f1_1 : b0.frozen? ⟨w.heap.size + 1, 1, none⟩ = false := frozen_of_row b0 _ 1 _ _ hK1
  have g1_2 : b0.cell? ⟨w.heap.size + 1, 2, none⟩ = some (.float .f32 z) := cell_of_row b0 _ 2 _ _ _ hK1
  have f1_2 : b0.frozen? ⟨w.heap.size + 1, 2, none⟩ = false := frozen_of_row b0 _ 2 _ _ hK1
  have l1 : w.heap.size + 1 < b0.heap.size := (Array.getElem?_eq_some_iff.1 hK1).1
  clear hw4 hx1 hx2 hx3
  go_wp2_with fail
  refine wp_region_laterO 5 (SO (QL [(13, fun u => u = q.v), (15, fun u => u = vec x y z), (16, fun u => u = Value.bool v)])) (stays_SO _) (by kernel_rfl) (by kernel_rfl) ?_
  repeat (first | (refine later_exO rfl (fun K hK => ?_); apply Exists.intro; refine ⟨fun w' hw' => ?_, ?_⟩; (obtain ⟨hcc, hff⟩ := Grew.cells hw'; clear hw'; go_simp; rfl); go_simp; refine hK _ ?_; clear hK K))
  (refine later_callO rfl (fun K hK => ?_); go_simp; refine ⟨_, _, fun _ _ => ⟨rfl, rfl⟩, fun w1 hw1 => ?_, fun u y1 hx1 hu => ?_⟩)
  · refine (toBox_ok q.a q.b q.c q.x q.y q.z _).mono ?_
    rintro e w2 ⟨rfl, hb⟩
    exact ⟨_, rfl, rfl, hb⟩
  obtain rfl : (fun u => u = q.v) u := hu
  (refine hK _ _ hx1 ?_; clear hK K)
  repeat (first | (refine later_exO rfl (fun K hK => ?_); apply Exists.intro; refine ⟨fun w' hw' => ?_, ?_⟩; (obtain ⟨hcc, hff⟩ := Grew.cells hw'; clear hw'; go_simp; rfl); go_simp; refine hK _ ?_; clear hK K))
  (refine later_callO rfl (fun K hK => ?_); go_simp; refine ⟨_, _, fun _ _ => ⟨rfl, rfl⟩, fun w1 hw1 => ?_, fun u y2 hx2 hu => ?_⟩)
  · refine (toVector_ok x y z _).mono ?_
    rintro e w2 ⟨rfl, hb⟩
    exact ⟨_, rfl, rfl, hb⟩
  obtain rfl : (fun u => u = vec x y z) u := hu
  (refine hK _ _ hx2 ?_; clear hK K)
  repeat (first | (refine later_exO rfl (fun K hK => ?_); apply Exists.intro; refine ⟨fun w' hw' => ?_, ?_⟩; (obtain ⟨hcc, hff⟩ := Grew.cells hw'; clear hw'; go_simp; rfl); go_simp; refine hK _ ?_; clear hK K))
  (refine later_callO rfl (fun K hK => ?_); go_simp; refine ⟨_, _, fun _ _ => ⟨rfl, rfl⟩, fun w1 hw1 => ?_, fun u y3 hx3 hu => ?_⟩)
  · refine (C1 _).mono ?_
    rintro e w2 ⟨rfl, hb⟩
    exact ⟨_, rfl, rfl, hb⟩
  obtain rfl : (fun u => u = Value.bool v) u := hu
  (refine hK _ _ hx3 ?_; clear hK K)
  repeat (first | (refine later_exO rfl (fun K hK => ?_); apply Exists.intro; refine ⟨fun w' hw' => ?_, ?_⟩; (obtain ⟨hcc, hff⟩ := Grew.cells hw'; clear hw'; go_simp; rfl); go_simp; refine hK _ ?_; clear hK K))
  refine later_nilO ?_
  intro b1 hw4
  simp only [List.drop_succ_cons, List.drop_zero]
  clear g0_0 f0_0 g0_1 f0_1 g0_2 f0_2 g0_3 f0_3 g0_4 f0_4 g0_5 f0_5 l0 g1_0 f1_0 g1_1 f1_1 g1_2 f1_2 l1
  have hE1 : Ext b0 b1 := (((hx1).trans hx2).trans hx3).trans hw4
  have hB2 : Below w.heap.size w b1 := hB1.trans (hE1.mono hB1.size)
  replace hK0 := hE1.heap hK0
  replace hK1 := hE1.heap hK1
  have g0_0 : b1.cell? ⟨w.heap.size, 0, none⟩ = some (.float .f32 q.a) := cell_of_row b1 _ 0 _ _ _ hK0
  have f0_0 : b1.frozen? ⟨w.heap.size, 0, none⟩ = false := frozen_of_row b1 _ 0 _ _ hK0
  have g0_1 : b1.cell? ⟨w.heap.size, 1, none⟩ = some (.float .f32 q.b) := cell_of_row b1 _ 1 _ _ _ hK0
  have f0_1 : b1.frozen? ⟨w.heap.size, 1, none⟩ = false := frozen_of_row b1 _ 1 _ _ hK0
  have g0_2 : b1.cell? ⟨w.heap.size, 2, none⟩ = some (.float .f32 q.c) := cell_of_row b1 _ 2 _ _ _ hK0
  have f0_2 : b1.frozen? ⟨w.heap.size, 2, none⟩ = false := frozen_of_row b1 _ 2 _ _ hK0
  have g0_3 : b1.cell? ⟨w.heap.size, 3, none⟩ = some (.float .f32 q.x) := cell_of_row b1 _ 3 _ _ _ hK0
  have f0_3 : b1.frozen? ⟨w.heap.size, 3, none⟩ = false := frozen_of_row b1 _ 3 _ _ hK0
  have g0_4 : b1.cell? ⟨w.heap.size, 4, none⟩ = some (.float .f32 q.y) := cell_of_row b1 _ 4 _ _ _ hK0
  have f0_4 : b1.frozen? ⟨w.heap.size, 4, none⟩ = false := frozen_of_row b1 _ 4 _ _ hK0
  have g0_5 : b1.cell? ⟨w.heap.size, 5, none⟩ = some (.float .f32 q.z) := cell_of_row b1 _ 5 _ _ _ hK0
  have f0_5 : b1.frozen? ⟨w.heap.size, 5, none⟩ = false := frozen_of_row b1 _ 5 _ _ hK0
  have l0 : w.heap.size < b1.heap.size := (Array.getElem?_eq_some_iff.1 hK0).1
  have g1_0 : b1.cell? ⟨w.heap.size + 1, 0, none⟩ = some (.float .f32 x) := cell_of_row b1 _ 0 _ _ _ hK1
  have f1_0 : b1.frozen? ⟨w.heap.size + 1, 0, none⟩ = false := frozen_of_row b1 _ 0 _ _ hK1
  have g1_1 : b1.cell? ⟨w.heap.size + 1, 1, none⟩ = some (.float .f32 y) := cell_of_row b1 _ 1 _ _ _ hK1
  have f1_1 : b1.frozen? ⟨w.heap.size + 1, 1, none⟩ = false := frozen_of_row b1 _ 1 _ _ hK1
  have g1_2 : b1.cell? ⟨w.heap.size + 1, 2, none⟩ = some (.float .f32 z) := cell_of_row b1 _ 2 _ _ _ hK1
  have f1_2 : b1.frozen? ⟨w.heap.size + 1, 2, none⟩ = false := frozen_of_row b1 _ 2 _ _ hK1
  have l1 : w.heap.size + 1 < b1.heap.size := (Array.getElem?_eq_some_iff.1 hK1).1
  clear hw4 hx1 hx2 hx3
  go_wp2_with fail
  cases v <;>
  · go_wp2_with fail
    go_ret
    exact ⟨rfl, hB2⟩
theorem walk (qa qb qc : Nat) (hq1 : qa < 4294967296 ∧ qb < 4294967296 ∧ qc < 4294967296) (qx qy qz : Nat) (hq2 : qx < 4294967296 ∧ qy < 4294967296 ∧ qz < 4294967296) (x y z : Nat) (hx : x < 4294967296 ∧ y < 4294967296 ∧ z < 4294967296) (w : World) :
    Calls Try.prog 4 #[.agg #[.float .f32 qa, .float .f32 qb, .float .f32 qc, .float .f32 qx, .float .f32 qy, .float .f32 qz], vec x y z] w fun e w' => e = .returned (.bool true) ∧ Below w.heap.size w w' :=
  walkq ⟨qa, qb, qc, qx, qy, qz⟩ ⟨hq1.1, hq1.2.1, hq1.2.2, hq2.1, hq2.2.1, hq2.2.2⟩ x y z hx w

theorem own : ownKnob Try.prog.godebug = none := by kernel_rfl
set_option maxRecDepth 100000 in
theorem lifted (os : Os) (started : os.Started) (H : Type) (enc : TypeId × Value → H) :
    ReturnsInHanded {} Try.checked os 4 .any (Rows.fnExactIsInBoxSpec.pre6 enc Try.prog Try.f4 [] false) (Rows.fnExactIsInBoxSpec.post enc Try.prog Try.f4 false true false false) := by
  refine law_lifted (C := Try.checked) (tb := 4) own started (by kernel_rfl) Try.func4
    (ChangeSpec.witness6 (enc := enc) (C := Try.checked) false ⟨#[], #[.agg #[.float .f32 0, .float .f32 0, .float .f32 0, .float .f32 0, .float .f32 0, .float .f32 0], .agg #[.float .f32 0, .float .f32 0, .float .f32 0]], []⟩ 8 (by kernel_rfl) (by kernel_rfl) (by kernel_rfl) (by kernel_rfl))
    (by kernel_rfl) ?_ rfl rfl Try.underlying4 ?_ ?_
  · rw [Try.params4]
    intro t ht
    simp only [List.mem_cons, List.not_mem_nil, or_false] at ht
    rcases ht with rfl | rfl <;> exact ⟨by kernel_rfl, of_decide_eq_true (by kernel_rfl)⟩
  · intro ds hds
    have hn : Try.f4.params.size = 2 := by kernel_rfl
    rw [hn] at hds
    match ds, hds with
    | [_, _], _ => rfl
  intro W base args ds p hval hA hlt hsz
  rw [Try.params4] at hA hval
  obtain ⟨v0, vs0, d0, ds0, p0, q0, hargs, rfl, rfl, h0, r0⟩ := trodAll_cons hA
  obtain ⟨v1, vs1, d1, ds1, p1, q1, rfl, rfl, rfl, h1, r1⟩ := trodAll_cons r0
  obtain ⟨rfl, rfl, rfl⟩ := trodAll_nil r1
  obtain rfl : args = #[v0, v1] := by cases args; simp_all
  obtain ⟨a0, b0, c0, x0, y0, z0, rfl, w0, wx0⟩ := open_ray Try.underlying26 (by kernel_rfl) rfl rfl (by kernel_rfl) (by kernel_rfl) Try.underlying24 Try.underlying24 (by kernel_rfl) Try.underlying22 Try.underlying22 Try.underlying22 (hval 0 26 v0 rfl rfl) h0
  obtain ⟨a1, b1, c1, rfl, w1⟩ := open_vec Try.underlying24 (by kernel_rfl) (by kernel_rfl) Try.underlying22 Try.underlying22 Try.underlying22 (hval 1 24 v1 rfl rfl) h1
  exact walk a0 b0 c0 w0 x0 y0 z0 wx0 a1 b1 c1 w1 W

theorem proved : Rows.FnExactIsInBoxSaid :=
  OpenClaim.holds_of_wide 4 Try.f4 rfl rfl rfl rfl rfl rfl rfl ⟨rfl, rfl, rfl, rfl, rfl⟩ rfl rfl rfl rfl rfl (by kernel_rfl) Try.func4 (by kernel_rfl)
    (of_decide_eq_true (by kernel_rfl)) (by unfold Func.isWrapper; rw [if_neg (of_decide_eq_false (by kernel_rfl))]; exact ⟨rfl, rfl⟩)
    (fun os started H enc _ => lifted os started H enc)
end Go.Proofs.Ytaamfjokkphckaa.lawIsInBox
