/- Law FnExactSizeRange: for every input the program answers as its model. -/
import Derived.Test.YtaamfjokkphckaaRows
import Derived.Test.YtaamfjokkphckaaLaw
import Derived.Test.YtaamfjokkphckaaBoxLaw
import Derived.Test.YtaamfjokkphckaaLaw4
import Derived.Test.YtaamfjokkphckaaBox4
import Derived.ProofKit
import Derived.Outline
namespace Go.Proofs.Ytaamfjokkphckaa.lawSizeRange
open Go.Proofs.FX Go.RowKit Go.ChangeShapes Go.WideShapes Go.ChangeAt
open Go.WideMaps Go.WideElems
open Go.ChangeMaps (setBlock shut_map_nil open_string shut_string keptBut_setBlock frozen?_setBlock heap_setBlock_same)

set_option maxHeartbeats 8000000 in
set_option maxRecDepth 100000 in
theorem walkq (a : Nat) (_ha : a < 4294967296) (b : Nat) (_hb : b < 4294967296) (w : World) :
    Calls Try.prog 5 #[rng a b] w fun e w' => e = .returned (.bool true) ∧ Below w.heap.size w w' := by
  have C0 : ∀ w : World, _ := fun w => specSizeRange_ok a b w _ha _hb
  have C1 : ∀ w : World, _ := fun w => SizeRange_ok a b w _ha _hb
  go_enter Try.func5, Try.ntmps5
  go_wp2_with fail
  generalize hW0 : w.alloc (.cells #[.float .f32 a, .float .f32 b] 37) = W0
  have hB0 : Below w.heap.size w W0 := by subst hW0; exact by (repeat (first | exact Below.refl _ _ | assumption | refine below_drewN ?_ _ | refine Below.setCell ?_ (by first | omega | (simp <;> omega)) _ | refine Below.alloc ?_ (by first | omega | (simp <;> omega)) _))
  have hK0 : W0.heap[w.heap.size]? = some (.cells #[.float .f32 a, .float .f32 b] 37) := by subst hW0; exact Go.heap_alloc_new _ _
  clear hW0
  have hZ0 : w.heap.size < W0.heap.size := (Array.getElem?_eq_some_iff.1 hK0).1
  have g0_0 : W0.cell? ⟨w.heap.size, 0, none⟩ = some (.float .f32 a) := cell_of_row W0 _ 0 _ _ _ hK0
  have f0_0 : W0.frozen? ⟨w.heap.size, 0, none⟩ = false := frozen_of_row W0 _ 0 _ _ hK0
  have g0_1 : W0.cell? ⟨w.heap.size, 1, none⟩ = some (.float .f32 b) := cell_of_row W0 _ 1 _ _ _ hK0
  have f0_1 : W0.frozen? ⟨w.heap.size, 1, none⟩ = false := frozen_of_row W0 _ 1 _ _ hK0
  have l0 : w.heap.size < W0.heap.size := (Array.getElem?_eq_some_iff.1 hK0).1
  refine (toRange_ok a b _).mono ?_
  rintro e a0 ⟨rfl, hb⟩
  clear g0_0 f0_0 g0_1 f0_1 l0
  have hE0 : Ext W0 a0 := hb
  have hB1 : Below w.heap.size w a0 := hB0.trans (hE0.mono hB0.size)
  replace hK0 := hE0.heap hK0
  have g0_0 : a0.cell? ⟨w.heap.size, 0, none⟩ = some (.float .f32 a) := cell_of_row a0 _ 0 _ _ _ hK0
  have f0_0 : a0.frozen? ⟨w.heap.size, 0, none⟩ = false := frozen_of_row a0 _ 0 _ _ hK0
  have g0_1 : a0.cell? ⟨w.heap.size, 1, none⟩ = some (.float .f32 b) := cell_of_row a0 _ 1 _ _ _ hK0
  have f0_1 : a0.frozen? ⟨w.heap.size, 1, none⟩ = false := frozen_of_row a0 _ 1 _ _ hK0
  have l0 : w.heap.size < a0.heap.size := (Array.getElem?_eq_some_iff.1 hK0).1
  clear hb
  go_wp2_with fail
  refine (C0 _).mono ?_
  rintro e b0 ⟨rfl, hb⟩
  clear g0_0 f0_0 g0_1 f0_1 l0
  have hE1 : Ext a0 b0 := hb
  have hB2 : Below w.heap.size w b0 := hB1.trans (hE1.mono hB1.size)
  replace hK0 := hE1.heap hK0
  have g0_0 : b0.cell? ⟨w.heap.size, 0, none⟩ = some (.float .f32 a) := cell_of_row b0 _ 0 _ _ _ hK0
  have f0_0 : b0.frozen? ⟨w.heap.size, 0, none⟩ = false := frozen_of_row b0 _ 0 _ _ hK0
  have g0_1 : b0.cell? ⟨w.heap.size, 1, none⟩ = some (.float .f32 b) := cell_of_row b0 _ 1 _ _ _ hK0
  have f0_1 : b0.frozen? ⟨w.heap.size, 1, none⟩ = false := frozen_of_row b0 _ 1 _ _ hK0
  have l0 : w.heap.size < b0.heap.size := (Array.getElem?_eq_some_iff.1 hK0).1
  clear hb
  go_wp2_with fail
  clear g0_0 f0_0 g0_1 f0_1 l0
  generalize hWa : b0.alloc (.cells #[.float .f32 (sizeLo a b), .float .f32 (sizeHi a b)] 38) = c0
  have hE2 : Ext b0 c0 := by subst hWa; exact (Ext.refl _).alloc _
  have hN : c0.heap[b0.heap.size]? = some (.cells #[.float .f32 (sizeLo a b), .float .f32 (sizeHi a b)] 38) := by subst hWa; exact Go.heap_alloc_new _ _
  clear hWa
  have hB3 : Below w.heap.size w c0 := hB2.trans (hE2.mono hB2.size)
  have hs2 : w.heap.size + 1 ≤ b0.heap.size := by have := (Array.getElem?_eq_some_iff.1 hK0).1; omega
  replace hK0 := hE2.heap hK0
  have hK1 := hN
  clear hN
  have g0_0 : c0.cell? ⟨w.heap.size, 0, none⟩ = some (.float .f32 a) := cell_of_row c0 _ 0 _ _ _ hK0
  have f0_0 : c0.frozen? ⟨w.heap.size, 0, none⟩ = false := frozen_of_row c0 _ 0 _ _ hK0
  have g0_1 : c0.cell? ⟨w.heap.size, 1, none⟩ = some (.float .f32 b) := cell_of_row c0 _ 1 _ _ _ hK0
  have f0_1 : c0.frozen? ⟨w.heap.size, 1, none⟩ = false := frozen_of_row c0 _ 1 _ _ hK0
  have l0 : w.heap.size < c0.heap.size := (Array.getElem?_eq_some_iff.1 hK0).1
  have g1_0 : c0.cell? ⟨b0.heap.size, 0, none⟩ = some (.float .f32 (sizeLo a b)) := cell_of_row c0 _ 0 _ _ _ hK1
  have f1_0 : c0.frozen? ⟨b0.heap.size, 0, none⟩ = false := frozen_of_row c0 _ 0 _ _ hK1
  have g1_1 : c0.cell? ⟨b0.heap.size, 1, none⟩ = some (.float .f32 (sizeHi a b)) := cell_of_row c0 _ 1 _ _ _ hK1
  have f1_1 : c0.frozen? ⟨b0.heap.size, 1, none⟩ = false := frozen_of_row c0 _ 1 _ _ hK1
  have l1 : b0.heap.size < c0.heap.size := (Array.getElem?_eq_some_iff.1 hK1).1
  refine (toRange_ok a b _).mono ?_
  rintro e a1 ⟨rfl, hb⟩
  clear g0_0 f0_0 g0_1 f0_1 l0 g1_0 f1_0 g1_1 f1_1 l1
  have hE3 : Ext c0 a1 := hb
  have hB4 : Below w.heap.size w a1 := hB3.trans (hE3.mono hB3.size)
  replace hK0 := hE3.heap hK0
  replace hK1 := hE3.heap hK1
  have g0_0 : a1.cell? ⟨w.heap.size, 0, none⟩ = some (.float .f32 a) := cell_of_row a1 _ 0 _ _ _ hK0
  have f0_0 : a1.frozen? ⟨w.heap.size, 0, none⟩ = false := frozen_of_row a1 _ 0 _ _ hK0
  have g0_1 : a1.cell? ⟨w.heap.size, 1, none⟩ = some (.float .f32 b) := cell_of_row a1 _ 1 _ _ _ hK0
  have f0_1 : a1.frozen? ⟨w.heap.size, 1, none⟩ = false := frozen_of_row a1 _ 1 _ _ hK0
  have l0 : w.heap.size < a1.heap.size := (Array.getElem?_eq_some_iff.1 hK0).1
  have g1_0 : a1.cell? ⟨b0.heap.size, 0, none⟩ = some (.float .f32 (sizeLo a b)) := cell_of_row a1 _ 0 _ _ _ hK1
  have f1_0 : a1.frozen? ⟨b0.heap.size, 0, none⟩ = false := frozen_of_row a1 _ 0 _ _ hK1
  have g1_1 : a1.cell? ⟨b0.heap.size, 1, none⟩ = some (.float .f32 (sizeHi a b)) := cell_of_row a1 _ 1 _ _ _ hK1
  have f1_1 : a1.frozen? ⟨b0.heap.size, 1, none⟩ = false := frozen_of_row a1 _ 1 _ _ hK1
  have l1 : b0.heap.size < a1.heap.size := (Array.getElem?_eq_some_iff.1 hK1).1
  clear hb
  go_wp2_with fail
  refine (C1 _).mono ?_
  rintro e b1 ⟨rfl, hb⟩
  clear g0_0 f0_0 g0_1 f0_1 l0 g1_0 f1_0 g1_1 f1_1 l1
  have hE4 : Ext a1 b1 := hb
  have hB5 : Below w.heap.size w b1 := hB4.trans (hE4.mono hB4.size)
  replace hK0 := hE4.heap hK0
  replace hK1 := hE4.heap hK1
  have g0_0 : b1.cell? ⟨w.heap.size, 0, none⟩ = some (.float .f32 a) := cell_of_row b1 _ 0 _ _ _ hK0
  have f0_0 : b1.frozen? ⟨w.heap.size, 0, none⟩ = false := frozen_of_row b1 _ 0 _ _ hK0
  have g0_1 : b1.cell? ⟨w.heap.size, 1, none⟩ = some (.float .f32 b) := cell_of_row b1 _ 1 _ _ _ hK0
  have f0_1 : b1.frozen? ⟨w.heap.size, 1, none⟩ = false := frozen_of_row b1 _ 1 _ _ hK0
  have l0 : w.heap.size < b1.heap.size := (Array.getElem?_eq_some_iff.1 hK0).1
  have g1_0 : b1.cell? ⟨b0.heap.size, 0, none⟩ = some (.float .f32 (sizeLo a b)) := cell_of_row b1 _ 0 _ _ _ hK1
  have f1_0 : b1.frozen? ⟨b0.heap.size, 0, none⟩ = false := frozen_of_row b1 _ 0 _ _ hK1
  have g1_1 : b1.cell? ⟨b0.heap.size, 1, none⟩ = some (.float .f32 (sizeHi a b)) := cell_of_row b1 _ 1 _ _ _ hK1
  have f1_1 : b1.frozen? ⟨b0.heap.size, 1, none⟩ = false := frozen_of_row b1 _ 1 _ _ hK1
  have l1 : b0.heap.size < b1.heap.size := (Array.getElem?_eq_some_iff.1 hK1).1
  clear hb
  go_wp2_with fail
  clear g0_0 f0_0 g0_1 f0_1 l0 g1_0 f1_0 g1_1 f1_1 l1
  generalize hWa : b1.alloc (.cells #[.float .f32 (sizeLo a b), .float .f32 (sizeHi a b)] 38) = c1
  have hE5 : Ext b1 c1 := by subst hWa; exact (Ext.refl _).alloc _
  have hN : c1.heap[b1.heap.size]? = some (.cells #[.float .f32 (sizeLo a b), .float .f32 (sizeHi a b)] 38) := by subst hWa; exact Go.heap_alloc_new _ _
  clear hWa
  have hB6 : Below w.heap.size w c1 := hB5.trans (hE5.mono hB5.size)
  have hs5 : w.heap.size + 2 ≤ b1.heap.size := by have := (Array.getElem?_eq_some_iff.1 hK1).1; omega
  replace hK0 := hE5.heap hK0
  replace hK1 := hE5.heap hK1
  have hK2 := hN
  clear hN
  have g0_0 : c1.cell? ⟨w.heap.size, 0, none⟩ = some (.float .f32 a) := cell_of_row c1 _ 0 _ _ _ hK0
  have f0_0 : c1.frozen? ⟨w.heap.size, 0, none⟩ = false := frozen_of_row c1 _ 0 _ _ hK0
  have g0_1 : c1.cell? ⟨w.heap.size, 1, none⟩ = some (.float .f32 b) := cell_of_row c1 _ 1 _ _ _ hK0
  have f0_1 : c1.frozen? ⟨w.heap.size, 1, none⟩ = false := frozen_of_row c1 _ 1 _ _ hK0
  have l0 : w.heap.size < c1.heap.size := (Array.getElem?_eq_some_iff.1 hK0).1
  have g1_0 : c1.cell? ⟨b0.heap.size, 0, none⟩ = some (.float .f32 (sizeLo a b)) := cell_of_row c1 _ 0 _ _ _ hK1
  have f1_0 : c1.frozen? ⟨b0.heap.size, 0, none⟩ = false := frozen_of_row c1 _ 0 _ _ hK1
  have g1_1 : c1.cell? ⟨b0.heap.size, 1, none⟩ = some (.float .f32 (sizeHi a b)) := cell_of_row c1 _ 1 _ _ _ hK1
  have f1_1 : c1.frozen? ⟨b0.heap.size, 1, none⟩ = false := frozen_of_row c1 _ 1 _ _ hK1
  have l1 : b0.heap.size < c1.heap.size := (Array.getElem?_eq_some_iff.1 hK1).1
  have g2_0 : c1.cell? ⟨b1.heap.size, 0, none⟩ = some (.float .f32 (sizeLo a b)) := cell_of_row c1 _ 0 _ _ _ hK2
  have f2_0 : c1.frozen? ⟨b1.heap.size, 0, none⟩ = false := frozen_of_row c1 _ 0 _ _ hK2
  have g2_1 : c1.cell? ⟨b1.heap.size, 1, none⟩ = some (.float .f32 (sizeHi a b)) := cell_of_row c1 _ 1 _ _ _ hK2
  have f2_1 : c1.frozen? ⟨b1.heap.size, 1, none⟩ = false := frozen_of_row c1 _ 1 _ _ hK2
  have l2 : b1.heap.size < c1.heap.size := (Array.getElem?_eq_some_iff.1 hK2).1
  go_wp2_with fail
  refine (eqRange_ok _ _ _ _ _ rfl rfl).mono ?_
  rintro e w9 ⟨rfl, hb9⟩
  have hB9 : Below w.heap.size w w9 := hB6.trans (hb9.mono hB6.size)
  clear hb9 g0_0 f0_0 g0_1 f0_1 l0 g1_0 f1_0 g1_1 f1_1 l1 g2_0 f2_0 g2_1 f2_1 l2
  go_wp2_with fail
  go_ret
  exact ⟨rfl, hB9⟩
theorem walk (a : Nat) (ha : a < 4294967296) (b : Nat) (hb : b < 4294967296) (w : World) :
    Calls Try.prog 5 #[rng a b] w fun e w' => e = .returned (.bool true) ∧ Below w.heap.size w w' :=
  walkq a ha b hb w

theorem own : ownKnob Try.prog.godebug = none := by kernel_rfl
set_option maxRecDepth 100000 in
theorem lifted (os : Os) (started : os.Started) (H : Type) (enc : TypeId × Value → H) :
    ReturnsInHanded {} Try.checked os 5 .any (Rows.fnExactSizeRangeSpec.pre6 enc Try.prog Try.f5 [] false) (Rows.fnExactSizeRangeSpec.post enc Try.prog Try.f5 false true false false) := by
  refine law_lifted (C := Try.checked) (tb := 4) own started (by kernel_rfl) Try.func5
    (ChangeSpec.witness6 (enc := enc) (C := Try.checked) false ⟨#[], #[.agg #[.float .f32 0, .float .f32 0]], []⟩ 8 (by kernel_rfl) (by kernel_rfl) (by kernel_rfl) (by kernel_rfl))
    (by kernel_rfl) ?_ rfl rfl Try.underlying4 ?_ ?_
  · rw [Try.params5]
    intro t ht
    simp only [List.mem_cons, List.not_mem_nil, or_false] at ht
    subst ht; exact ⟨by kernel_rfl, of_decide_eq_true (by kernel_rfl)⟩
  · intro ds hds
    have hn : Try.f5.params.size = 1 := by kernel_rfl
    rw [hn] at hds
    match ds, hds with
    | [_], _ => rfl
  intro W base args ds p hval hA hlt hsz
  rw [Try.params5] at hA hval
  obtain ⟨v0, vs0, d0, ds0, p0, q0, hargs, rfl, rfl, h0, r0⟩ := trodAll_cons hA
  obtain ⟨rfl, rfl, rfl⟩ := trodAll_nil r0
  obtain rfl : args = #[v0] := by cases args; simp_all
  obtain ⟨a0, b0, rfl, wa0, wb0⟩ := open_rng Try.underlying37 (by kernel_rfl) (by kernel_rfl) Try.underlying22 Try.underlying22 (hval 0 37 v0 rfl rfl) h0
  exact walk a0 wa0 b0 wb0 W

theorem proved : Rows.FnExactSizeRangeSaid :=
  OpenClaim.holds_of_wide 5 Try.f5 rfl rfl rfl rfl rfl rfl rfl ⟨rfl, rfl, rfl, rfl, rfl⟩ rfl rfl rfl rfl rfl (by kernel_rfl) Try.func5 (by kernel_rfl)
    (of_decide_eq_true (by kernel_rfl)) (by unfold Func.isWrapper; rw [if_neg (of_decide_eq_false (by kernel_rfl))]; exact ⟨rfl, rfl⟩)
    (fun os started H enc _ => lifted os started H enc)
end Go.Proofs.Ytaamfjokkphckaa.lawSizeRange
