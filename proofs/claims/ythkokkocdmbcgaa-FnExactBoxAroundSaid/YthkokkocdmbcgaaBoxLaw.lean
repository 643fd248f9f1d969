/- Chapter 4: what the laws do with boxes and ranges. -/
import Derived.Test.YthkokkocdmbcgaaBox3
import Derived.Test.YthkokkocdmbcgaaFlexP
namespace Go.Proofs.Ythkokkocdmbcgaa
open Go.Proofs.FX Go.RowKit
/-- What is told of copies, and of a result, in a law's region. -/
def SB (fc : FuncId) (R : Value) : FuncId → Array Value → Value → World → Prop := fun f args u _ => if f = fc then u = R else u = args.getD 0 (.bool false)
theorem stays_SB (fc : FuncId) (R : Value) : Stays (SB fc R) := fun _ _ _ _ _ h _ => h
abbrev rng (a b : Nat) : Value := .agg #[.float .f32 a, .float .f32 b]
set_option maxRecDepth 100000 in
theorem eqBox_ok (p q : B6) (w : World) (h : B6.Eq p q) :
    Calls Try.prog 9 #[p.v, q.v] w (Bn true w) := by
  go_enter Try.func9, Try.ntmps9
  go_wp2_with fail
  generalize hW0 : (w.alloc (.cells #[.float .f32 p.a, .float .f32 p.b, .float .f32 p.c, .float .f32 p.x, .float .f32 p.y, .float .f32 p.z] 28)).alloc (.cells #[.float .f32 q.a, .float .f32 q.b, .float .f32 q.c, .float .f32 q.x, .float .f32 q.y, .float .f32 q.z] 28) = W0
  have hB0 : Below w.heap.size w W0 := by subst hW0; exact by (repeat (first | exact Below.refl _ _ | assumption | refine below_drewN ?_ _ | refine Below.setCell ?_ (by first | omega | (simp <;> omega)) _ | refine Below.alloc ?_ (by first | omega | (simp <;> omega)) _))
  have hK0 : W0.heap[w.heap.size]? = some (.cells #[.float .f32 p.a, .float .f32 p.b, .float .f32 p.c, .float .f32 p.x, .float .f32 p.y, .float .f32 p.z] 28) := by subst hW0; exact heap_alloc2_old _ _ _
  have hK1 : W0.heap[w.heap.size + 1]? = some (.cells #[.float .f32 q.a, .float .f32 q.b, .float .f32 q.c, .float .f32 q.x, .float .f32 q.y, .float .f32 q.z] 28) := by subst hW0; exact heap_alloc2_new _ _ _
  clear hW0
  have hZ0 : w.heap.size + 1 < W0.heap.size := (Array.getElem?_eq_some_iff.1 hK1).1
  have g0_0 : W0.cell? ⟨w.heap.size, 0, none⟩ = some (.float .f32 p.a) := cell_of_row W0 _ 0 _ _ _ hK0
  have f0_0 : W0.frozen? ⟨w.heap.size, 0, none⟩ = false := frozen_of_row W0 _ 0 _ _ hK0
  have g0_1 : W0.cell? ⟨w.heap.size, 1, none⟩ = some (.float .f32 p.b) := cell_of_row W0 _ 1 _ _ _ hK0
  have f0_1 : W0.frozen? ⟨w.heap.size, 1, none⟩ = false := frozen_of_row W0 _ 1 _ _ hK0
  have g0_2 : W0.cell? ⟨w.heap.size, 2, none⟩ = some (.float .f32 p.c) := cell_of_row W0 _ 2 _ _ _ hK0
  have f0_2 : W0.frozen? ⟨w.heap.size, 2, none⟩ = false := frozen_of_row W0 _ 2 _ _ hK0
  have g0_3 : W0.cell? ⟨w.heap.size, 3, none⟩ = some (.float .f32 p.x) := cell_of_row W0 _ 3 _ _ _ hK0
  have f0_3 : W0.frozen? ⟨w.heap.size, 3, none⟩ = false := frozen_of_row W0 _ 3 _ _ hK0
  have g0_4 : W0.cell? ⟨w.heap.size, 4, none⟩ = some (.float .f32 p.y) := cell_of_row W0 _ 4 _ _ _ hK0
  have f0_4 : W0.frozen? ⟨w.heap.size, 4, none⟩ = false := frozen_of_row W0 _ 4 _ _ hK0
  have g0_5 : W0.cell? ⟨w.heap.size, 5, none⟩ = some (.float .f32 p.z) := cell_of_row W0 _ 5 _ _ _ hK0
  have f0_5 : W0.frozen? ⟨w.heap.size, 5, none⟩ = false := frozen_of_row W0 _ 5 _ _ hK0
  have l0 : w.heap.size < W0.heap.size := (Array.getElem?_eq_some_iff.1 hK0).1
  have g1_0 : W0.cell? ⟨w.heap.size + 1, 0, none⟩ = some (.float .f32 q.a) := cell_of_row W0 _ 0 _ _ _ hK1
  have f1_0 : W0.frozen? ⟨w.heap.size + 1, 0, none⟩ = false := frozen_of_row W0 _ 0 _ _ hK1
  have g1_1 : W0.cell? ⟨w.heap.size + 1, 1, none⟩ = some (.float .f32 q.b) := cell_of_row W0 _ 1 _ _ _ hK1
  have f1_1 : W0.frozen? ⟨w.heap.size + 1, 1, none⟩ = false := frozen_of_row W0 _ 1 _ _ hK1
  have g1_2 : W0.cell? ⟨w.heap.size + 1, 2, none⟩ = some (.float .f32 q.c) := cell_of_row W0 _ 2 _ _ _ hK1
  have f1_2 : W0.frozen? ⟨w.heap.size + 1, 2, none⟩ = false := frozen_of_row W0 _ 2 _ _ hK1
  have g1_3 : W0.cell? ⟨w.heap.size + 1, 3, none⟩ = some (.float .f32 q.x) := cell_of_row W0 _ 3 _ _ _ hK1
  have f1_3 : W0.frozen? ⟨w.heap.size + 1, 3, none⟩ = false := frozen_of_row W0 _ 3 _ _ hK1
  have g1_4 : W0.cell? ⟨w.heap.size + 1, 4, none⟩ = some (.float .f32 q.y) := cell_of_row W0 _ 4 _ _ _ hK1
  have f1_4 : W0.frozen? ⟨w.heap.size + 1, 4, none⟩ = false := frozen_of_row W0 _ 4 _ _ hK1
  have g1_5 : W0.cell? ⟨w.heap.size + 1, 5, none⟩ = some (.float .f32 q.z) := cell_of_row W0 _ 5 _ _ _ hK1
  have f1_5 : W0.frozen? ⟨w.heap.size + 1, 5, none⟩ = false := frozen_of_row W0 _ 5 _ _ hK1
  have l1 : w.heap.size + 1 < W0.heap.size := (Array.getElem?_eq_some_iff.1 hK1).1
  refine (eqVector_ok _ _ _ _ _ _ _ (widen_eqv h.a) (widen_eqv h.b) (widen_eqv h.c)).mono ?_
  rintro e w1 ⟨rfl, hb⟩
  clear g0_0 f0_0 g0_1 f0_1 g0_2 f0_2 g0_3 f0_3 g0_4 f0_4 g0_5 f0_5 l0 g1_0 f1_0 g1_1 f1_1 g1_2 f1_2 g1_3 f1_3 g1_4 f1_4 g1_5 f1_5 l1
  have hE0 : Ext W0 w1 := hb
  have hB1 : Below w.heap.size w w1 := hB0.trans (hE0.mono hB0.size)
  replace hK0 := hE0.heap hK0
  replace hK1 := hE0.heap hK1
  have g0_0 : w1.cell? ⟨w.heap.size, 0, none⟩ = some (.float .f32 p.a) := cell_of_row w1 _ 0 _ _ _ hK0
  have f0_0 : w1.frozen? ⟨w.heap.size, 0, none⟩ = false := frozen_of_row w1 _ 0 _ _ hK0
  have g0_1 : w1.cell? ⟨w.heap.size, 1, none⟩ = some (.float .f32 p.b) := cell_of_row w1 _ 1 _ _ _ hK0
  have f0_1 : w1.frozen? ⟨w.heap.size, 1, none⟩ = false := frozen_of_row w1 _ 1 _ _ hK0
  have g0_2 : w1.cell? ⟨w.heap.size, 2, none⟩ = some (.float .f32 p.c) := cell_of_row w1 _ 2 _ _ _ hK0
  have f0_2 : w1.frozen? ⟨w.heap.size, 2, none⟩ = false := frozen_of_row w1 _ 2 _ _ hK0
  have g0_3 : w1.cell? ⟨w.heap.size, 3, none⟩ = some (.float .f32 p.x) := cell_of_row w1 _ 3 _ _ _ hK0
  have f0_3 : w1.frozen? ⟨w.heap.size, 3, none⟩ = false := frozen_of_row w1 _ 3 _ _ hK0
  have g0_4 : w1.cell? ⟨w.heap.size, 4, none⟩ = some (.float .f32 p.y) := cell_of_row w1 _ 4 _ _ _ hK0
  have f0_4 : w1.frozen? ⟨w.heap.size, 4, none⟩ = false := frozen_of_row w1 _ 4 _ _ hK0
  have g0_5 : w1.cell? ⟨w.heap.size, 5, none⟩ = some (.float .f32 p.z) := cell_of_row w1 _ 5 _ _ _ hK0
  have f0_5 : w1.frozen? ⟨w.heap.size, 5, none⟩ = false := frozen_of_row w1 _ 5 _ _ hK0
  have l0 : w.heap.size < w1.heap.size := (Array.getElem?_eq_some_iff.1 hK0).1
  have g1_0 : w1.cell? ⟨w.heap.size + 1, 0, none⟩ = some (.float .f32 q.a) := cell_of_row w1 _ 0 _ _ _ hK1
  have f1_0 : w1.frozen? ⟨w.heap.size + 1, 0, none⟩ = false := frozen_of_row w1 _ 0 _ _ hK1
  have g1_1 : w1.cell? ⟨w.heap.size + 1, 1, none⟩ = some (.float .f32 q.b) := cell_of_row w1 _ 1 _ _ _ hK1
  have f1_1 : w1.frozen? ⟨w.heap.size + 1, 1, none⟩ = false := frozen_of_row w1 _ 1 _ _ hK1
  have g1_2 : w1.cell? ⟨w.heap.size + 1, 2, none⟩ = some (.float .f32 q.c) := cell_of_row w1 _ 2 _ _ _ hK1
  have f1_2 : w1.frozen? ⟨w.heap.size + 1, 2, none⟩ = false := frozen_of_row w1 _ 2 _ _ hK1
  have g1_3 : w1.cell? ⟨w.heap.size + 1, 3, none⟩ = some (.float .f32 q.x) := cell_of_row w1 _ 3 _ _ _ hK1
  have f1_3 : w1.frozen? ⟨w.heap.size + 1, 3, none⟩ = false := frozen_of_row w1 _ 3 _ _ hK1
  have g1_4 : w1.cell? ⟨w.heap.size + 1, 4, none⟩ = some (.float .f32 q.y) := cell_of_row w1 _ 4 _ _ _ hK1
  have f1_4 : w1.frozen? ⟨w.heap.size + 1, 4, none⟩ = false := frozen_of_row w1 _ 4 _ _ hK1
  have g1_5 : w1.cell? ⟨w.heap.size + 1, 5, none⟩ = some (.float .f32 q.z) := cell_of_row w1 _ 5 _ _ _ hK1
  have f1_5 : w1.frozen? ⟨w.heap.size + 1, 5, none⟩ = false := frozen_of_row w1 _ 5 _ _ hK1
  have l1 : w.heap.size + 1 < w1.heap.size := (Array.getElem?_eq_some_iff.1 hK1).1
  clear hb
  go_wp2_with fail
  refine (eqVector_ok _ _ _ _ _ _ _ (widen_eqv h.x) (widen_eqv h.y) (widen_eqv h.z)).mono ?_
  rintro e w2 ⟨rfl, hb⟩
  clear g0_0 f0_0 g0_1 f0_1 g0_2 f0_2 g0_3 f0_3 g0_4 f0_4 g0_5 f0_5 l0 g1_0 f1_0 g1_1 f1_1 g1_2 f1_2 g1_3 f1_3 g1_4 f1_4 g1_5 f1_5 l1
  have hE1 : Ext w1 w2 := hb
  have hB2 : Below w.heap.size w w2 := hB1.trans (hE1.mono hB1.size)
  replace hK0 := hE1.heap hK0
  replace hK1 := hE1.heap hK1
  have g0_0 : w2.cell? ⟨w.heap.size, 0, none⟩ = some (.float .f32 p.a) := cell_of_row w2 _ 0 _ _ _ hK0
  have f0_0 : w2.frozen? ⟨w.heap.size, 0, none⟩ = false := frozen_of_row w2 _ 0 _ _ hK0
  have g0_1 : w2.cell? ⟨w.heap.size, 1, none⟩ = some (.float .f32 p.b) := cell_of_row w2 _ 1 _ _ _ hK0
  have f0_1 : w2.frozen? ⟨w.heap.size, 1, none⟩ = false := frozen_of_row w2 _ 1 _ _ hK0
  have g0_2 : w2.cell? ⟨w.heap.size, 2, none⟩ = some (.float .f32 p.c) := cell_of_row w2 _ 2 _ _ _ hK0
  have f0_2 : w2.frozen? ⟨w.heap.size, 2, none⟩ = false := frozen_of_row w2 _ 2 _ _ hK0
  have g0_3 : w2.cell? ⟨w.heap.size, 3, none⟩ = some (.float .f32 p.x) := cell_of_row w2 _ 3 _ _ _ hK0
  have f0_3 : w2.frozen? ⟨w.heap.size, 3, none⟩ = false := frozen_of_row w2 _ 3 _ _ hK0
  have g0_4 : w2.cell? ⟨w.heap.size, 4, none⟩ = some (.float .f32 p.y) := cell_of_row w2 _ 4 _ _ _ hK0
  have f0_4 : w2.frozen? ⟨w.heap.size, 4, none⟩ = false := frozen_of_row w2 _ 4 _ _ hK0
  have g0_5 : w2.cell? ⟨w.heap.size, 5, none⟩ = some (.float .f32 p.z) := cell_of_row w2 _ 5 _ _ _ hK0
  have f0_5 : w2.frozen? ⟨w.heap.size, 5, none⟩ = false := frozen_of_row w2 _ 5 _ _ hK0
  have l0 : w.heap.size < w2.heap.size := (Array.getElem?_eq_some_iff.1 hK0).1
  have g1_0 : w2.cell? ⟨w.heap.size + 1, 0, none⟩ = some (.float .f32 q.a) := cell_of_row w2 _ 0 _ _ _ hK1
  have f1_0 : w2.frozen? ⟨w.heap.size + 1, 0, none⟩ = false := frozen_of_row w2 _ 0 _ _ hK1
  have g1_1 : w2.cell? ⟨w.heap.size + 1, 1, none⟩ = some (.float .f32 q.b) := cell_of_row w2 _ 1 _ _ _ hK1
  have f1_1 : w2.frozen? ⟨w.heap.size + 1, 1, none⟩ = false := frozen_of_row w2 _ 1 _ _ hK1
  have g1_2 : w2.cell? ⟨w.heap.size + 1, 2, none⟩ = some (.float .f32 q.c) := cell_of_row w2 _ 2 _ _ _ hK1
  have f1_2 : w2.frozen? ⟨w.heap.size + 1, 2, none⟩ = false := frozen_of_row w2 _ 2 _ _ hK1
  have g1_3 : w2.cell? ⟨w.heap.size + 1, 3, none⟩ = some (.float .f32 q.x) := cell_of_row w2 _ 3 _ _ _ hK1
  have f1_3 : w2.frozen? ⟨w.heap.size + 1, 3, none⟩ = false := frozen_of_row w2 _ 3 _ _ hK1
  have g1_4 : w2.cell? ⟨w.heap.size + 1, 4, none⟩ = some (.float .f32 q.y) := cell_of_row w2 _ 4 _ _ _ hK1
  have f1_4 : w2.frozen? ⟨w.heap.size + 1, 4, none⟩ = false := frozen_of_row w2 _ 4 _ _ hK1
  have g1_5 : w2.cell? ⟨w.heap.size + 1, 5, none⟩ = some (.float .f32 q.z) := cell_of_row w2 _ 5 _ _ _ hK1
  have f1_5 : w2.frozen? ⟨w.heap.size + 1, 5, none⟩ = false := frozen_of_row w2 _ 5 _ _ hK1
  have l1 : w.heap.size + 1 < w2.heap.size := (Array.getElem?_eq_some_iff.1 hK1).1
  clear hb
  go_wp2_with fail
  go_ret
  exact ⟨rfl, hB2⟩
end Go.Proofs.Ythkokkocdmbcgaa
