/- Chapter 4: what the laws do with boxes and ranges. -/
import Derived.Test.YtaamfjokkphckaaBox3
import Derived.Test.YtaamfjokkphckaaFlexP
namespace Go.Proofs.Ytaamfjokkphckaa
open Go.Proofs.FX Go.RowKit
/-- What is told of copies, and of a result, in a law's region. -/
def SB (fc : FuncId) (R : Value) : FuncId → Array Value → Value → World → Prop := fun f args u _ => if f = fc then u = R else u = args.getD 0 (.bool false)
theorem stays_SB (fc : FuncId) (R : Value) : Stays (SB fc R) := fun _ _ _ _ _ h _ => h
abbrev rng (a b : Nat) : Value := .agg #[.float .f32 a, .float .f32 b]
set_option maxHeartbeats 2000000 in
set_option maxRecDepth 100000 in
theorem toBox_ok (a b c x y z : Nat) (w : World) :
    Calls Try.prog 12 #[ray a b c x y z] w fun e w' => e = .returned (ray a b c x y z) ∧ Below w.heap.size w w' := by
  go_enter Try.func12, Try.ntmps12
  go_wp2_with fail
  generalize hW0 : ((w.alloc (.cells (rayC a b c x y z) 26)).alloc (.cells (rayC 0 0 0 0 0 0) 30)).alloc (.cells (rayC 0 0 0 0 0 0) 30) = W0
  have hB0 : Below w.heap.size w W0 := by subst hW0; exact by (repeat (first | exact Below.refl _ _ | assumption | refine below_drewN ?_ _ | refine Below.setCell ?_ (by first | omega | (simp <;> omega)) _ | refine Below.alloc ?_ (by first | omega | (simp <;> omega)) _))
  have hZ0 : w.heap.size + 2 < W0.heap.size := by subst hW0; simp
  have hA : W0.heap[w.heap.size]? = some (.cells (rayC a b c x y z) 26) := by subst hW0; rw [Go.RowKit.Below.heap_alloc _ _ _ (by simp; omega)]; exact heap_alloc2_old _ _ _
  have hM : W0.heap[w.heap.size + 1]? = some (.cells (rayC 0 0 0 0 0 0) 30) := by subst hW0; rw [Go.RowKit.Below.heap_alloc _ _ _ (by simp)]; exact heap_alloc2_new _ _ _
  have hR : W0.heap[w.heap.size + 1 + 1]? = some (.cells (rayC 0 0 0 0 0 0) 30) := by
    subst hW0
    have := Go.heap_alloc_new ((w.alloc (.cells (rayC a b c x y z) 26)).alloc (.cells (rayC 0 0 0 0 0 0) 30)) (.cells (rayC 0 0 0 0 0 0) 30)
    simpa using this
  clear hW0
  refine (toVector_ok _ _ _ _).mono ?_
  rintro e w1 ⟨rfl, hb⟩
  have hx1 : Ext W0 w1 := hb
  have hR1 := hx1.heap hR
  have hA1 := hx1.heap hA
  have hM1 := hx1.heap hM
  obtain ⟨⟨g0, g1, g2, g3, g4, g5⟩, -⟩ := cells6 hA1
  obtain ⟨⟨q0, q1, q2, q3, q4, q5⟩, f0, f1, f2, f3, f4, f5⟩ := cells6 hR1
  have hl0 : w.heap.size < w1.heap.size := by have := hx1.size; omega
  have hl2 : w.heap.size + 1 + 1 < w1.heap.size := by have := hx1.size; omega
  clear hb
  go_wp2_with fail
  generalize hW1 : ((w1.setCell ⟨w.heap.size + 1 + 1, 0, none⟩ (.float .f32 a)).setCell ⟨w.heap.size + 1 + 1, 1, none⟩ (.float .f32 b)).setCell ⟨w.heap.size + 1 + 1, 2, none⟩ (.float .f32 c) = W1
  obtain ⟨hS1, hO1, hL1⟩ := put3 (o := 0) _ _ _ hR1 hW1
  have hB1 : Below w.heap.size w W1 := (hB0.trans (hx1.mono hB0.size)).trans (hL1.mono (by omega))
  have hA2 := (hO1 w.heap.size (by omega)).trans hA1
  have hM2 := (hO1 (w.heap.size + 1) (by omega)).trans hM1
  have hs1 := hL1.size
  obtain ⟨⟨g0', g1', g2', g3', g4', g5'⟩, -⟩ := cells6 hA2
  have hl4 : w.heap.size < W1.heap.size := by omega
  clear hW1 hO1 hL1 hR1 hA1 hM1 g0 g1 g2 g3 g4 g5 q0 q1 q2 q3 q4 q5 f0 f1 f2 f3 f4 f5
  refine (toVector_ok _ _ _ _).mono ?_
  rintro e w2 ⟨rfl, hb⟩
  have hx2 : Ext W1 w2 := hb
  have hR2 := hx2.heap hS1
  have hM3 := hx2.heap hM2
  obtain ⟨⟨m0, m1, m2, m3, m4, m5⟩, n0, n1, n2, n3, n4, n5⟩ := cells6 hM3
  have hl5 : w.heap.size + 1 < w2.heap.size := by have := hx2.size; omega
  obtain ⟨⟨q0, q1, q2, q3, q4, q5⟩, f0, f1, f2, f3, f4, f5⟩ := cells6 hR2
  have hl3 : w.heap.size + 1 + 1 < w2.heap.size := by have := hx2.size; omega
  have hB2 : Below w.heap.size w w2 := hB1.trans (hx2.mono hB1.size)
  have h12 : w.heap.size ≤ w.heap.size + 1 + 1 := by omega
  have h11 : w.heap.size ≤ w.heap.size + 1 := by omega
  clear hb
  go_wp2_with fail
  exact bodyPost_ret (v := ray a b c x y z) (by simp [results, Try.results12, go_sem, m0, m1, m2, m3, m4, m5]) rfl ⟨rfl, by (iterate 9 (refine Below.setCell ?_ (by first | exact h12 | exact h11) _)); exact hB2⟩
set_option maxRecDepth 100000 in
theorem eqBox_ok (p q : B6) (w : World) (h : B6.Eq p q) :
    Calls Try.prog 25 #[p.v, q.v] w (Bn true w) := by
  go_enter Try.func25, Try.ntmps25
  go_wp2_with fail
  generalize hW0 : (w.alloc (.cells #[.float .f32 p.a, .float .f32 p.b, .float .f32 p.c, .float .f32 p.x, .float .f32 p.y, .float .f32 p.z] 30)).alloc (.cells #[.float .f32 q.a, .float .f32 q.b, .float .f32 q.c, .float .f32 q.x, .float .f32 q.y, .float .f32 q.z] 30) = W0
  have hB0 : Below w.heap.size w W0 := by subst hW0; exact by (repeat (first | exact Below.refl _ _ | assumption | refine below_drewN ?_ _ | refine Below.setCell ?_ (by first | omega | (simp <;> omega)) _ | refine Below.alloc ?_ (by first | omega | (simp <;> omega)) _))
  have hK0 : W0.heap[w.heap.size]? = some (.cells #[.float .f32 p.a, .float .f32 p.b, .float .f32 p.c, .float .f32 p.x, .float .f32 p.y, .float .f32 p.z] 30) := by subst hW0; exact heap_alloc2_old _ _ _
  have hK1 : W0.heap[w.heap.size + 1]? = some (.cells #[.float .f32 q.a, .float .f32 q.b, .float .f32 q.c, .float .f32 q.x, .float .f32 q.y, .float .f32 q.z] 30) := by subst hW0; exact heap_alloc2_new _ _ _
  clear hW0
  have hZ0 : w.heap.size + 1 < W0.heap.size := (Array.getElem?_eq_some_iff.1 hK1).1
  have g0_0 : W0.cell? ⟨w.heap.size, 0, none⟩ = some (.float .f32 p.a) := cell_of_row W0 _ 0 _ _ _ hK0
  have f0_0 : W0.frozen? ⟨w.heap.size, 0, none⟩ = false := frozen_of_row W0 _ 0 _ _ hK0
  have g0_1 : W0.cell? ⟨w.heap.size, 1, none⟩ = some (.float .f32 p.b) := cell_of_row W0 _ 1 _ _ _ hK0
  have f0_1 : W0.frozen? ⟨w.heap.size, 1, none⟩ = false := frozen_of_row W0 _ 1 _ _ hK0
  have g0_2 : W0.cell? ⟨w.heap.size, 2, none⟩ = some (.float .f32 p.c) := cell_of_row W0 _ 2 _ _ _ hK0
  have f0_2 : W0.frozen? ⟨w.heap.size, 2, none⟩ = false := frozen_of_row W0 _ 2 _ _ hK0
  have g0_3 : W0.cell? ⟨w.heap.size, 3, none⟩ = some (.float .f32 p.x) := cell_of_row W0 _ 3 _ _ _ hK0
  have f0_3 : W0.frozen? ⟨w.heap.size, 3, none⟩ = false := frozen_of_row W0 _ 3 _ _ hK0
  have g0_4 : W0.cell? ⟨w.heap.size, 4, none⟩ = some (.float .f32 p.y) := cell_of_row W0 _ 4 _ _ _ hK0
  have f0_4 : W0.frozen? ⟨w.heap.size, 4, none⟩ = false := frozen_of_row W0 _ 4 _ _ hK0
  have g0_5 : W0.cell? ⟨w.heap.size, 5, none⟩ = some (.float .f32 p.z) := cell_of_row W0 _ 5 _ _ _ hK0
  have f0_5 : W0.frozen? ⟨w.heap.size, 5, none⟩ = false := frozen_of_row W0 _ 5 _ _ hK0
  have l0 : w.heap.size < W0.heap.size := (Array.getElem?_eq_some_iff.1 hK0).1
  have g1_0 : W0.cell? ⟨w.heap.size + 1, 0, none⟩ = some (.float .f32 q.a) := cell_of_row W0 _ 0 _ _ _ hK1
  have f1_0 : W0.frozen? ⟨w.heap.size + 1, 0, none⟩ = false := frozen_of_row W0 _ 0 _ _ hK1
  have g1_1 : W0.cell? ⟨w.heap.size + 1, 1, none⟩ = some (.float .f32 q.b) := cell_of_row W0 _ 1 _ _ _ hK1
  have f1_1 : W0.frozen? ⟨w.heap.size + 1, 1, none⟩ = false := frozen_of_row W0 _ 1 _ _ hK1
  have g1_2 : W0.cell? ⟨w.heap.size + 1, 2, none⟩ = some (.float .f32 q.c) := cell_of_row W0 _ 2 _ _ _ hK1
  have f1_2 : W0.frozen? ⟨w.heap.size + 1, 2, none⟩ = false := frozen_of_row W0 _ 2 _ _ hK1
  have g1_3 : W0.cell? ⟨w.heap.size + 1, 3, none⟩ = some (.float .f32 q.x) := cell_of_row W0 _ 3 _ _ _ hK1
  have f1_3 : W0.frozen? ⟨w.heap.size + 1, 3, none⟩ = false := frozen_of_row W0 _ 3 _ _ hK1
  have g1_4 : W0.cell? ⟨w.heap.size + 1, 4, none⟩ = some (.float .f32 q.y) := cell_of_row W0 _ 4 _ _ _ hK1
  have f1_4 : W0.frozen? ⟨w.heap.size + 1, 4, none⟩ = false := frozen_of_row W0 _ 4 _ _ hK1
  have g1_5 : W0.cell? ⟨w.heap.size + 1, 5, none⟩ = some (.float .f32 q.z) := cell_of_row W0 _ 5 _ _ _ hK1
  have f1_5 : W0.frozen? ⟨w.heap.size + 1, 5, none⟩ = false := frozen_of_row W0 _ 5 _ _ hK1
  have l1 : w.heap.size + 1 < W0.heap.size := (Array.getElem?_eq_some_iff.1 hK1).1
  refine (eqVector_ok _ _ _ _ _ _ _ (widen_eqv h.a) (widen_eqv h.b) (widen_eqv h.c)).mono ?_
  rintro e w1 ⟨rfl, hb⟩
  clear g0_0 f0_0 g0_1 f0_1 g0_2 f0_2 g0_3 f0_3 g0_4 f0_4 g0_5 f0_5 l0 g1_0 f1_0 g1_1 f1_1 g1_2 f1_2 g1_3 f1_3 g1_4 f1_4 g1_5 f1_5 l1
  have hE0 : Ext W0 w1 := hb
  have hB1 : Below w.heap.size w w1 := hB0.trans (hE0.mono hB0.size)
  replace hK0 := hE0.heap hK0
  replace hK1 := hE0.heap hK1
  have g0_0 : w1.cell? ⟨w.heap.size, 0, none⟩ = some (.float .f32 p.a) := cell_of_row w1 _ 0 _ _ _ hK0
  have f0_0 : w1.frozen? ⟨w.heap.size, 0, none⟩ = false := frozen_of_row w1 _ 0 _ _ hK0
  have g0_1 : w1.cell? ⟨w.heap.size, 1, none⟩ = some (.float .f32 p.b) := cell_of_row w1 _ 1 _ _ _ hK0
  have f0_1 : w1.frozen? ⟨w.heap.size, 1, none⟩ = false := frozen_of_row w1 _ 1 _ _ hK0
  have g0_2 : w1.cell? ⟨w.heap.size, 2, none⟩ = some (.float .f32 p.c) := cell_of_row w1 _ 2 _ _ _ hK0
  have f0_2 : w1.frozen? ⟨w.heap.size, 2, none⟩ = false := frozen_of_row w1 _ 2 _ _ hK0
  have g0_3 : w1.cell? ⟨w.heap.size, 3, none⟩ = some (.float .f32 p.x) := cell_of_row w1 _ 3 _ _ _ hK0
  have f0_3 : w1.frozen? ⟨w.heap.size, 3, none⟩ = false := frozen_of_row w1 _ 3 _ _ hK0
  have g0_4 : w1.cell? ⟨w.heap.size, 4, none⟩ = some (.float .f32 p.y) := cell_of_row w1 _ 4 _ _ _ hK0
  have f0_4 : w1.frozen? ⟨w.heap.size, 4, none⟩ = false := frozen_of_row w1 _ 4 _ _ hK0
  have g0_5 : w1.cell? ⟨w.heap.size, 5, none⟩ = some (.float .f32 p.z) := cell_of_row w1 _ 5 _ _ _ hK0
  have f0_5 : w1.frozen? ⟨w.heap.size, 5, none⟩ = false := frozen_of_row w1 _ 5 _ _ hK0
  have l0 : w.heap.size < w1.heap.size := (Array.getElem?_eq_some_iff.1 hK0).1
  have g1_0 : w1.cell? ⟨w.heap.size + 1, 0, none⟩ = some (.float .f32 q.a) := cell_of_row w1 _ 0 _ _ _ hK1
  have f1_0 : w1.frozen? ⟨w.heap.size + 1, 0, none⟩ = false := frozen_of_row w1 _ 0 _ _ hK1
  have g1_1 : w1.cell? ⟨w.heap.size + 1, 1, none⟩ = some (.float .f32 q.b) := cell_of_row w1 _ 1 _ _ _ hK1
  have f1_1 : w1.frozen? ⟨w.heap.size + 1, 1, none⟩ = false := frozen_of_row w1 _ 1 _ _ hK1
  have g1_2 : w1.cell? ⟨w.heap.size + 1, 2, none⟩ = some (.float .f32 q.c) := cell_of_row w1 _ 2 _ _ _ hK1
  have f1_2 : w1.frozen? ⟨w.heap.size + 1, 2, none⟩ = false := frozen_of_row w1 _ 2 _ _ hK1
  have g1_3 : w1.cell? ⟨w.heap.size + 1, 3, none⟩ = some (.float .f32 q.x) := cell_of_row w1 _ 3 _ _ _ hK1
  have f1_3 : w1.frozen? ⟨w.heap.size + 1, 3, none⟩ = false := frozen_of_row w1 _ 3 _ _ hK1
  have g1_4 : w1.cell? ⟨w.heap.size + 1, 4, none⟩ = some (.float .f32 q.y) := cell_of_row w1 _ 4 _ _ _ hK1
  have f1_4 : w1.frozen? ⟨w.heap.size + 1, 4, none⟩ = false := frozen_of_row w1 _ 4 _ _ hK1
  have g1_5 : w1.cell? ⟨w.heap.size + 1, 5, none⟩ = some (.float .f32 q.z) := cell_of_row w1 _ 5 _ _ _ hK1
  have f1_5 : w1.frozen? ⟨w.heap.size + 1, 5, none⟩ = false := frozen_of_row w1 _ 5 _ _ hK1
  have l1 : w.heap.size + 1 < w1.heap.size := (Array.getElem?_eq_some_iff.1 hK1).1
  clear hb
  go_wp2_with fail
  refine (eqVector_ok _ _ _ _ _ _ _ (widen_eqv h.x) (widen_eqv h.y) (widen_eqv h.z)).mono ?_
  rintro e w2 ⟨rfl, hb⟩
  clear g0_0 f0_0 g0_1 f0_1 g0_2 f0_2 g0_3 f0_3 g0_4 f0_4 g0_5 f0_5 l0 g1_0 f1_0 g1_1 f1_1 g1_2 f1_2 g1_3 f1_3 g1_4 f1_4 g1_5 f1_5 l1
  have hE1 : Ext w1 w2 := hb
  have hB2 : Below w.heap.size w w2 := hB1.trans (hE1.mono hB1.size)
  replace hK0 := hE1.heap hK0
  replace hK1 := hE1.heap hK1
  have g0_0 : w2.cell? ⟨w.heap.size, 0, none⟩ = some (.float .f32 p.a) := cell_of_row w2 _ 0 _ _ _ hK0
  have f0_0 : w2.frozen? ⟨w.heap.size, 0, none⟩ = false := frozen_of_row w2 _ 0 _ _ hK0
  have g0_1 : w2.cell? ⟨w.heap.size, 1, none⟩ = some (.float .f32 p.b) := cell_of_row w2 _ 1 _ _ _ hK0
  have f0_1 : w2.frozen? ⟨w.heap.size, 1, none⟩ = false := frozen_of_row w2 _ 1 _ _ hK0
  have g0_2 : w2.cell? ⟨w.heap.size, 2, none⟩ = some (.float .f32 p.c) := cell_of_row w2 _ 2 _ _ _ hK0
  have f0_2 : w2.frozen? ⟨w.heap.size, 2, none⟩ = false := frozen_of_row w2 _ 2 _ _ hK0
  have g0_3 : w2.cell? ⟨w.heap.size, 3, none⟩ = some (.float .f32 p.x) := cell_of_row w2 _ 3 _ _ _ hK0
  have f0_3 : w2.frozen? ⟨w.heap.size, 3, none⟩ = false := frozen_of_row w2 _ 3 _ _ hK0
  have g0_4 : w2.cell? ⟨w.heap.size, 4, none⟩ = some (.float .f32 p.y) := cell_of_row w2 _ 4 _ _ _ hK0
  have f0_4 : w2.frozen? ⟨w.heap.size, 4, none⟩ = false := frozen_of_row w2 _ 4 _ _ hK0
  have g0_5 : w2.cell? ⟨w.heap.size, 5, none⟩ = some (.float .f32 p.z) := cell_of_row w2 _ 5 _ _ _ hK0
  have f0_5 : w2.frozen? ⟨w.heap.size, 5, none⟩ = false := frozen_of_row w2 _ 5 _ _ hK0
  have l0 : w.heap.size < w2.heap.size := (Array.getElem?_eq_some_iff.1 hK0).1
  have g1_0 : w2.cell? ⟨w.heap.size + 1, 0, none⟩ = some (.float .f32 q.a) := cell_of_row w2 _ 0 _ _ _ hK1
  have f1_0 : w2.frozen? ⟨w.heap.size + 1, 0, none⟩ = false := frozen_of_row w2 _ 0 _ _ hK1
  have g1_1 : w2.cell? ⟨w.heap.size + 1, 1, none⟩ = some (.float .f32 q.b) := cell_of_row w2 _ 1 _ _ _ hK1
  have f1_1 : w2.frozen? ⟨w.heap.size + 1, 1, none⟩ = false := frozen_of_row w2 _ 1 _ _ hK1
  have g1_2 : w2.cell? ⟨w.heap.size + 1, 2, none⟩ = some (.float .f32 q.c) := cell_of_row w2 _ 2 _ _ _ hK1
  have f1_2 : w2.frozen? ⟨w.heap.size + 1, 2, none⟩ = false := frozen_of_row w2 _ 2 _ _ hK1
  have g1_3 : w2.cell? ⟨w.heap.size + 1, 3, none⟩ = some (.float .f32 q.x) := cell_of_row w2 _ 3 _ _ _ hK1
  have f1_3 : w2.frozen? ⟨w.heap.size + 1, 3, none⟩ = false := frozen_of_row w2 _ 3 _ _ hK1
  have g1_4 : w2.cell? ⟨w.heap.size + 1, 4, none⟩ = some (.float .f32 q.y) := cell_of_row w2 _ 4 _ _ _ hK1
  have f1_4 : w2.frozen? ⟨w.heap.size + 1, 4, none⟩ = false := frozen_of_row w2 _ 4 _ _ hK1
  have g1_5 : w2.cell? ⟨w.heap.size + 1, 5, none⟩ = some (.float .f32 q.z) := cell_of_row w2 _ 5 _ _ _ hK1
  have f1_5 : w2.frozen? ⟨w.heap.size + 1, 5, none⟩ = false := frozen_of_row w2 _ 5 _ _ hK1
  have l1 : w.heap.size + 1 < w2.heap.size := (Array.getElem?_eq_some_iff.1 hK1).1
  clear hb
  go_wp2_with fail
  go_ret
  exact ⟨rfl, hB2⟩
set_option maxRecDepth 100000 in
theorem toRange_ok (a b : Nat) (w : World) :
    Calls Try.prog 18 #[rng a b] w fun e w' => e = .returned (rng a b) ∧ Below w.heap.size w w' := by
  go_enter Try.func18, Try.ntmps18
  go_wp2_with fail
  exact bodyPost_ret (v := rng a b) (by simp [results, Try.results18, go_sem]) rfl ⟨rfl, by (repeat (first | exact Below.refl _ _ | assumption | refine below_drewN ?_ _ | refine Below.setCell ?_ (by first | omega | (simp <;> omega)) _ | refine Below.alloc ?_ (by first | omega | (simp <;> omega)) _))⟩
set_option maxRecDepth 100000 in
theorem eqRange_ok (a b x y : Nat) (w : World) (h1 : widen a = widen x) (h2 : widen b = widen y) :
    Calls Try.prog 20 #[rng a b, rng x y] w (Bn true w) := by
  have H1 := Lib.hid h1
  have H2 := Lib.hid h2
  clear h1 h2
  go_enter Try.func20, Try.ntmps20
  go_wp2_with first | (refine wpList_widen rfl rfl rfl Try.underlying22 Try.underlying66 ?_; intro r n hr he) | (refine upon_widen Try.underlying22 Try.underlying66 ?_; intro r n hr he) | (go_at_call 42; (first | refine (sameFloat_ok _ _ _ (eqv_mid (by assumption) (by assumption) H1.out)).mono ?_ | refine (sameFloat_ok _ _ _ (eqv_mid (by assumption) (by assumption) H2.out)).mono ?_); rintro e w' ⟨n, rfl, rfl⟩)
  go_ret
  exact ⟨rfl, by (repeat (first | exact Below.refl _ _ | assumption | refine below_drewN ?_ _ | refine Below.setCell ?_ (by first | omega | (simp <;> omega)) _ | refine Below.alloc ?_ (by first | omega | (simp <;> omega)) _))⟩
end Go.Proofs.Ytaamfjokkphckaa
