/- Law FnExactValidBox: for every input the program answers as its model. -/
import Derived.Test.YtaamfjokkphckaaRows
import Derived.Test.YtaamfjokkphckaaLaw
import Derived.Test.YtaamfjokkphckaaBoxLaw
import Derived.Test.YtaamfjokkphckaaLaw4
import Derived.ProofKit
import Derived.Outline
namespace Go.Proofs.Ytaamfjokkphckaa.lawValidBox
open Go.Proofs.FX Go.RowKit Go.ChangeShapes Go.WideShapes Go.ChangeAt
open Go.WideMaps Go.WideElems
open Go.ChangeMaps (setBlock shut_map_nil open_string shut_string keptBut_setBlock frozen?_setBlock heap_setBlock_same)

set_option maxHeartbeats 8000000 in
set_option maxRecDepth 100000 in
theorem walkq (q : B6) (_hq : q.Lt) (w : World) :
    Calls Try.prog 3 #[q.v] w fun e w' => e = .returned (.bool true) ∧ Below w.heap.size w w' := by
  obtain ⟨v, hv⟩ : ∃ v : Bool, v = (boxB q) := ⟨_, rfl⟩
  have C0 : ∀ w : World, _ := fun w => specValidBox_ok q w
  rw [← hv] at C0
  have C1 : ∀ w : World, _ := fun w => ValidBox_ok q w
  rw [← hv] at C1
  clear hv
  go_enter Try.func3, Try.ntmps3
  go_wp2_with fail
  generalize hW0 : w.alloc (.cells #[.float .f32 q.a, .float .f32 q.b, .float .f32 q.c, .float .f32 q.x, .float .f32 q.y, .float .f32 q.z] 26) = W0
  have hB0 : Below w.heap.size w W0 := by subst hW0; exact by (repeat (first | exact Below.refl _ _ | assumption | refine below_drewN ?_ _ | refine Below.setCell ?_ (by first | omega | (simp <;> omega)) _ | refine Below.alloc ?_ (by first | omega | (simp <;> omega)) _))
  have hK0 : W0.heap[w.heap.size]? = some (.cells #[.float .f32 q.a, .float .f32 q.b, .float .f32 q.c, .float .f32 q.x, .float .f32 q.y, .float .f32 q.z] 26) := by subst hW0; exact Go.heap_alloc_new _ _
  clear hW0
  have hZ0 : w.heap.size < W0.heap.size := (Array.getElem?_eq_some_iff.1 hK0).1
  have g0_0 : W0.cell? ⟨w.heap.size, 0, none⟩ = some (.float .f32 q.a) := cell_of_row W0 _ 0 _ _ _ hK0
  have f0_0 : W0.frozen? ⟨w.heap.size, 0, none⟩ = false := frozen_of_row W0 _ 0 _ _ hK0
  have g0_1 : W0.cell? ⟨w.heap.size, 1, none⟩ = some (.float .f32 q.b) := cell_of_row W0 _ 1 _ _ _ hK0
  have f0_1 : W0.frozen? ⟨w.heap.size, 1, none⟩ = false := frozen_of_row W0 _ 1 _ _ hK0
  have g0_2 : W0.cell? ⟨w.heap.size, 2, none⟩ = some (.float .f32 q.c) := cell_of_row W0 _ 2 _ _ _ hK0
  have f0_2 : W0.frozen? ⟨w.heap.size, 2, none⟩ = false := frozen_of_row W0 _ 2 _ _ hK0
  have g0_3 : W0.cell? ⟨w.heap.size, 3, none⟩ = some (.float .f32 q.x) := cell_of_row W0 _ 3 _ _ _ hK0
  have f0_3 : W0.frozen? ⟨w.heap.size, 3, none⟩ = false := frozen_of_row W0 _ 3 _ _ hK0
  have g0_4 : W0.cell? ⟨w.heap.size, 4, none⟩ = some (.float .f32 q.y) := cell_of_row W0 _ 4 _ _ _ hK0
  have f0_4 : W0.frozen? ⟨w.heap.size, 4, none⟩ = false := frozen_of_row W0 _ 4 _ _ hK0
  have g0_5 : W0.cell? ⟨w.heap.size, 5, none⟩ = some (.float .f32 q.z) := cell_of_row W0 _ 5 _ _ _ hK0
  have f0_5 : W0.frozen? ⟨w.heap.size, 5, none⟩ = false := frozen_of_row W0 _ 5 _ _ hK0
  have l0 : w.heap.size < W0.heap.size := (Array.getElem?_eq_some_iff.1 hK0).1
  refine (toBox_ok q.a q.b q.c q.x q.y q.z _).mono ?_
  rintro e a0 ⟨rfl, hb⟩
  clear g0_0 f0_0 g0_1 f0_1 g0_2 f0_2 g0_3 f0_3 g0_4 f0_4 g0_5 f0_5 l0
  have hE0 : Ext W0 a0 := hb
  have hB1 : Below w.heap.size w a0 := hB0.trans (hE0.mono hB0.size)
  replace hK0 := hE0.heap hK0
  have g0_0 : a0.cell? ⟨w.heap.size, 0, none⟩ = some (.float .f32 q.a) := cell_of_row a0 _ 0 _ _ _ hK0
  have f0_0 : a0.frozen? ⟨w.heap.size, 0, none⟩ = false := frozen_of_row a0 _ 0 _ _ hK0
  have g0_1 : a0.cell? ⟨w.heap.size, 1, none⟩ = some (.float .f32 q.b) := cell_of_row a0 _ 1 _ _ _ hK0
  have f0_1 : a0.frozen? ⟨w.heap.size, 1, none⟩ = false := frozen_of_row a0 _ 1 _ _ hK0
  have g0_2 : a0.cell? ⟨w.heap.size, 2, none⟩ = some (.float .f32 q.c) := cell_of_row a0 _ 2 _ _ _ hK0
  have f0_2 : a0.frozen? ⟨w.heap.size, 2, none⟩ = false := frozen_of_row a0 _ 2 _ _ hK0
  have g0_3 : a0.cell? ⟨w.heap.size, 3, none⟩ = some (.float .f32 q.x) := cell_of_row a0 _ 3 _ _ _ hK0
  have f0_3 : a0.frozen? ⟨w.heap.size, 3, none⟩ = false := frozen_of_row a0 _ 3 _ _ hK0
  have g0_4 : a0.cell? ⟨w.heap.size, 4, none⟩ = some (.float .f32 q.y) := cell_of_row a0 _ 4 _ _ _ hK0
  have f0_4 : a0.frozen? ⟨w.heap.size, 4, none⟩ = false := frozen_of_row a0 _ 4 _ _ hK0
  have g0_5 : a0.cell? ⟨w.heap.size, 5, none⟩ = some (.float .f32 q.z) := cell_of_row a0 _ 5 _ _ _ hK0
  have f0_5 : a0.frozen? ⟨w.heap.size, 5, none⟩ = false := frozen_of_row a0 _ 5 _ _ hK0
  have l0 : w.heap.size < a0.heap.size := (Array.getElem?_eq_some_iff.1 hK0).1
  clear hb
  go_wp2_with fail
  refine (C0 _).mono ?_
  rintro e b0 ⟨rfl, hb⟩
  clear g0_0 f0_0 g0_1 f0_1 g0_2 f0_2 g0_3 f0_3 g0_4 f0_4 g0_5 f0_5 l0
  have hE1 : Ext a0 b0 := hb
  have hB2 : Below w.heap.size w b0 := hB1.trans (hE1.mono hB1.size)
  replace hK0 := hE1.heap hK0
  have g0_0 : b0.cell? ⟨w.heap.size, 0, none⟩ = some (.float .f32 q.a) := cell_of_row b0 _ 0 _ _ _ hK0
  have f0_0 : b0.frozen? ⟨w.heap.size, 0, none⟩ = false := frozen_of_row b0 _ 0 _ _ hK0
  have g0_1 : b0.cell? ⟨w.heap.size, 1, none⟩ = some (.float .f32 q.b) := cell_of_row b0 _ 1 _ _ _ hK0
  have f0_1 : b0.frozen? ⟨w.heap.size, 1, none⟩ = false := frozen_of_row b0 _ 1 _ _ hK0
  have g0_2 : b0.cell? ⟨w.heap.size, 2, none⟩ = some (.float .f32 q.c) := cell_of_row b0 _ 2 _ _ _ hK0
  have f0_2 : b0.frozen? ⟨w.heap.size, 2, none⟩ = false := frozen_of_row b0 _ 2 _ _ hK0
  have g0_3 : b0.cell? ⟨w.heap.size, 3, none⟩ = some (.float .f32 q.x) := cell_of_row b0 _ 3 _ _ _ hK0
  have f0_3 : b0.frozen? ⟨w.heap.size, 3, none⟩ = false := frozen_of_row b0 _ 3 _ _ hK0
  have g0_4 : b0.cell? ⟨w.heap.size, 4, none⟩ = some (.float .f32 q.y) := cell_of_row b0 _ 4 _ _ _ hK0
  have f0_4 : b0.frozen? ⟨w.heap.size, 4, none⟩ = false := frozen_of_row b0 _ 4 _ _ hK0
  have g0_5 : b0.cell? ⟨w.heap.size, 5, none⟩ = some (.float .f32 q.z) := cell_of_row b0 _ 5 _ _ _ hK0
  have f0_5 : b0.frozen? ⟨w.heap.size, 5, none⟩ = false := frozen_of_row b0 _ 5 _ _ hK0
  have l0 : w.heap.size < b0.heap.size := (Array.getElem?_eq_some_iff.1 hK0).1
  clear hb
  go_wp2_with fail
  refine (toBox_ok q.a q.b q.c q.x q.y q.z _).mono ?_
  rintro e a1 ⟨rfl, hb⟩
  clear g0_0 f0_0 g0_1 f0_1 g0_2 f0_2 g0_3 f0_3 g0_4 f0_4 g0_5 f0_5 l0
  have hE2 : Ext b0 a1 := hb
  have hB3 : Below w.heap.size w a1 := hB2.trans (hE2.mono hB2.size)
  replace hK0 := hE2.heap hK0
  have g0_0 : a1.cell? ⟨w.heap.size, 0, none⟩ = some (.float .f32 q.a) := cell_of_row a1 _ 0 _ _ _ hK0
  have f0_0 : a1.frozen? ⟨w.heap.size, 0, none⟩ = false := frozen_of_row a1 _ 0 _ _ hK0
  have g0_1 : a1.cell? ⟨w.heap.size, 1, none⟩ = some (.float .f32 q.b) := cell_of_row a1 _ 1 _ _ _ hK0
  have f0_1 : a1.frozen? ⟨w.heap.size, 1, none⟩ = false := frozen_of_row a1 _ 1 _ _ hK0
  have g0_2 : a1.cell? ⟨w.heap.size, 2, none⟩ = some (.float .f32 q.c) := cell_of_row a1 _ 2 _ _ _ hK0
  have f0_2 : a1.frozen? ⟨w.heap.size, 2, none⟩ = false := frozen_of_row a1 _ 2 _ _ hK0
  have g0_3 : a1.cell? ⟨w.heap.size, 3, none⟩ = some (.float .f32 q.x) := cell_of_row a1 _ 3 _ _ _ hK0
  have f0_3 : a1.frozen? ⟨w.heap.size, 3, none⟩ = false := frozen_of_row a1 _ 3 _ _ hK0
  have g0_4 : a1.cell? ⟨w.heap.size, 4, none⟩ = some (.float .f32 q.y) := cell_of_row a1 _ 4 _ _ _ hK0
  have f0_4 : a1.frozen? ⟨w.heap.size, 4, none⟩ = false := frozen_of_row a1 _ 4 _ _ hK0
  have g0_5 : a1.cell? ⟨w.heap.size, 5, none⟩ = some (.float .f32 q.z) := cell_of_row a1 _ 5 _ _ _ hK0
  have f0_5 : a1.frozen? ⟨w.heap.size, 5, none⟩ = false := frozen_of_row a1 _ 5 _ _ hK0
  have l0 : w.heap.size < a1.heap.size := (Array.getElem?_eq_some_iff.1 hK0).1
  clear hb
  go_wp2_with fail
  refine (C1 _).mono ?_
  rintro e b1 ⟨rfl, hb⟩
  clear g0_0 f0_0 g0_1 f0_1 g0_2 f0_2 g0_3 f0_3 g0_4 f0_4 g0_5 f0_5 l0
  have hE3 : Ext a1 b1 := hb
  have hB4 : Below w.heap.size w b1 := hB3.trans (hE3.mono hB3.size)
  replace hK0 := hE3.heap hK0
  have g0_0 : b1.cell? ⟨w.heap.size, 0, none⟩ = some (.float .f32 q.a) := cell_of_row b1 _ 0 _ _ _ hK0
  have f0_0 : b1.frozen? ⟨w.heap.size, 0, none⟩ = false := frozen_of_row b1 _ 0 _ _ hK0
  have g0_1 : b1.cell? ⟨w.heap.size, 1, none⟩ = some (.float .f32 q.b) := cell_of_row b1 _ 1 _ _ _ hK0
  have f0_1 : b1.frozen? ⟨w.heap.size, 1, none⟩ = false := frozen_of_row b1 _ 1 _ _ hK0
  have g0_2 : b1.cell? ⟨w.heap.size, 2, none⟩ = some (.float .f32 q.c) := cell_of_row b1 _ 2 _ _ _ hK0
  have f0_2 : b1.frozen? ⟨w.heap.size, 2, none⟩ = false := frozen_of_row b1 _ 2 _ _ hK0
  have g0_3 : b1.cell? ⟨w.heap.size, 3, none⟩ = some (.float .f32 q.x) := cell_of_row b1 _ 3 _ _ _ hK0
  have f0_3 : b1.frozen? ⟨w.heap.size, 3, none⟩ = false := frozen_of_row b1 _ 3 _ _ hK0
  have g0_4 : b1.cell? ⟨w.heap.size, 4, none⟩ = some (.float .f32 q.y) := cell_of_row b1 _ 4 _ _ _ hK0
  have f0_4 : b1.frozen? ⟨w.heap.size, 4, none⟩ = false := frozen_of_row b1 _ 4 _ _ hK0
  have g0_5 : b1.cell? ⟨w.heap.size, 5, none⟩ = some (.float .f32 q.z) := cell_of_row b1 _ 5 _ _ _ hK0
  have f0_5 : b1.frozen? ⟨w.heap.size, 5, none⟩ = false := frozen_of_row b1 _ 5 _ _ hK0
  have l0 : w.heap.size < b1.heap.size := (Array.getElem?_eq_some_iff.1 hK0).1
  clear hb
  go_wp2_with fail
  cases v <;>
  · go_wp2_with fail
    go_ret
    exact ⟨rfl, hB4⟩
theorem walk (qa qb qc : Nat) (hq1 : qa < 4294967296 ∧ qb < 4294967296 ∧ qc < 4294967296) (qx qy qz : Nat) (hq2 : qx < 4294967296 ∧ qy < 4294967296 ∧ qz < 4294967296) (w : World) :
    Calls Try.prog 3 #[.agg #[.float .f32 qa, .float .f32 qb, .float .f32 qc, .float .f32 qx, .float .f32 qy, .float .f32 qz]] w fun e w' => e = .returned (.bool true) ∧ Below w.heap.size w w' :=
  walkq ⟨qa, qb, qc, qx, qy, qz⟩ ⟨hq1.1, hq1.2.1, hq1.2.2, hq2.1, hq2.2.1, hq2.2.2⟩ w

theorem own : ownKnob Try.prog.godebug = none := by kernel_rfl
set_option maxRecDepth 100000 in
theorem lifted (os : Os) (started : os.Started) (H : Type) (enc : TypeId × Value → H) :
    ReturnsInHanded {} Try.checked os 3 .any (Rows.fnExactValidBoxSpec.pre6 enc Try.prog Try.f3 [] false) (Rows.fnExactValidBoxSpec.post enc Try.prog Try.f3 false true false false) := by
  refine law_lifted (C := Try.checked) (tb := 4) own started (by kernel_rfl) Try.func3
    (ChangeSpec.witness6 (enc := enc) (C := Try.checked) false ⟨#[], #[.agg #[.float .f32 0, .float .f32 0, .float .f32 0, .float .f32 0, .float .f32 0, .float .f32 0]], []⟩ 8 (by kernel_rfl) (by kernel_rfl) (by kernel_rfl) (by kernel_rfl))
    (by kernel_rfl) ?_ rfl rfl Try.underlying4 ?_ ?_
  · rw [Try.params3]
    intro t ht
    simp only [List.mem_cons, List.not_mem_nil, or_false] at ht
    subst ht; exact ⟨by kernel_rfl, of_decide_eq_true (by kernel_rfl)⟩
  · intro ds hds
    have hn : Try.f3.params.size = 1 := by kernel_rfl
    rw [hn] at hds
    match ds, hds with
    | [_], _ => rfl
  intro W base args ds p hval hA hlt hsz
  rw [Try.params3] at hA hval
  obtain ⟨v0, vs0, d0, ds0, p0, q0, hargs, rfl, rfl, h0, r0⟩ := trodAll_cons hA
  obtain ⟨rfl, rfl, rfl⟩ := trodAll_nil r0
  obtain rfl : args = #[v0] := by cases args; simp_all
  obtain ⟨a0, b0, c0, x0, y0, z0, rfl, w0, wx0⟩ := open_ray Try.underlying26 (by kernel_rfl) rfl rfl (by kernel_rfl) (by kernel_rfl) Try.underlying24 Try.underlying24 (by kernel_rfl) Try.underlying22 Try.underlying22 Try.underlying22 (hval 0 26 v0 rfl rfl) h0
  exact walk a0 b0 c0 w0 x0 y0 z0 wx0 W

theorem proved : Rows.FnExactValidBoxSaid :=
  OpenClaim.holds_of_wide 3 Try.f3 rfl rfl rfl rfl rfl rfl rfl ⟨rfl, rfl, rfl, rfl, rfl⟩ rfl rfl rfl rfl rfl (by kernel_rfl) Try.func3 (by kernel_rfl)
    (of_decide_eq_true (by kernel_rfl)) (by unfold Func.isWrapper; rw [if_neg (of_decide_eq_false (by kernel_rfl))]; exact ⟨rfl, rfl⟩)
    (fun os started H enc _ => lifted os started H enc)
end Go.Proofs.Ytaamfjokkphckaa.lawValidBox
