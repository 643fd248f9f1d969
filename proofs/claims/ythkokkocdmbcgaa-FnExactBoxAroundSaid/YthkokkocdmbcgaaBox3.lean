/- Chapter 4: greater boxes, cuts of boxes. -/
import Derived.Test.YthkokkocdmbcgaaBox2
import Derived.Test.YthkokkocdmbcgaaZero
namespace Go.Proofs.Ythkokkocdmbcgaa
open Go.Proofs.FX Go.RowKit
def okB (r : B6) : B6 := if boxB r then r else z6
def growM (q : B6) (s : Nat) : B6 := ⟨fop .sub .f32 q.a s, fop .sub .f32 q.b s, fop .sub .f32 q.c s, fop .add .f32 q.x s, fop .add .f32 q.y s, fop .add .f32 q.z s⟩
def cutM (p q : B6) : B6 := ⟨greaterF p.a q.a, greaterF p.b q.b, greaterF p.c q.c, lesserF p.x q.x, lesserF p.y q.y, lesserF p.z q.z⟩
def onlyIf (v : Bool) (r : B6) : B6 := if v then okB r else z6
/-- A box whose numbers are the same as these, and a truth. -/
def BxV (q : B6) (v : Bool) (w : World) (e : Ending) (w' : World) : Prop := ∃ r : B6, e = .returned (.tuple #[r.v, .bool v]) ∧ r.Lt ∧ B6.Eq r q ∧ Below w.heap.size w w'
/-- A box that is given if it is valid. -/
def TB (q : B6) (u : Value) : Prop := ∃ r : B6, u = .tuple #[(okB r).v, .bool (boxB r)] ∧ r.Lt ∧ B6.Eq r q
theorem z6_lt : z6.Lt := ⟨by decide, by decide, by decide, by decide, by decide, by decide⟩
theorem okB_lt {r : B6} (h : r.Lt) : (okB r).Lt := by unfold okB; split; exact h; exact z6_lt
theorem okB_eq {r q : B6} (h : B6.Eq r q) : B6.Eq (okB r) (okB q) := by unfold okB; rw [boxB_eqv h]; split; exact h; exact B6.Eq.refl _
theorem cutM_lt {p q : B6} (hp : p.Lt) (hq : q.Lt) : (cutM p q).Lt := ⟨greater_lt hp.a hq.a, greater_lt hp.b hq.b, greater_lt hp.c hq.c, lesser_lt hp.x hq.x, lesser_lt hp.y hq.y, lesser_lt hp.z hq.z⟩

set_option maxRecDepth 100000 in
theorem greater_ok (a b : Nat) (w : World) :
    Calls Try.prog 23 #[.float .f32 a, .float .f32 b] w fun e w' => e = .returned (.float .f32 (greaterF a b)) ∧ w = w' := by
  unfold greaterF fgt
  cases h : (FloatKind.f32.format.order b a == some .gt) <;>
  · go_enter Try.func23, Try.ntmps23
    go_wp2_with fail
    go_ret
    exact ⟨by simp, rfl⟩
set_option maxRecDepth 100000 in
theorem lesser_ok (a b : Nat) (w : World) :
    Calls Try.prog 22 #[.float .f32 a, .float .f32 b] w fun e w' => e = .returned (.float .f32 (lesserF a b)) ∧ w = w' := by
  unfold lesserF flt
  cases h : (FloatKind.f32.format.order b a == some .lt) <;>
  · go_enter Try.func22, Try.ntmps22
    go_wp2_with fail
    go_ret
    exact ⟨by simp, rfl⟩
set_option maxRecDepth 100000 in
theorem mGreater_ok (a b : Nat) (w : World) :
    Calls Try.prog 33 #[.float .f32 a, .float .f32 b] w fun e w' => e = .returned (.float .f32 (greaterF a b)) ∧ w = w' := by
  unfold greaterF fgt
  cases h : (FloatKind.f32.format.order b a == some .gt) <;>
  · go_enter Try.func33, Try.ntmps33
    go_wp2_with fail
    go_ret
    exact ⟨by simp, rfl⟩
set_option maxRecDepth 100000 in
theorem mLesser_ok (a b : Nat) (w : World) :
    Calls Try.prog 32 #[.float .f32 a, .float .f32 b] w fun e w' => e = .returned (.float .f32 (lesserF a b)) ∧ w = w' := by
  unfold lesserF flt
  cases h : (FloatKind.f32.format.order b a == some .lt) <;>
  · go_enter Try.func32, Try.ntmps32
    go_wp2_with fail
    go_ret
    exact ⟨by simp, rfl⟩
set_option maxHeartbeats 1000000 in
set_option maxRecDepth 100000 in
theorem byGreater_ok (a b c x y z : Nat) (w : World) :
    Calls Try.prog 21 #[.func (.func 23) #[] #[], vec a b c, vec x y z] w fun e w' => e = .returned (vec (greaterF a x) (greaterF b y) (greaterF c z)) ∧ Below w.heap.size w w' := by
  go_enter Try.func21, Try.ntmps21
  go_wp2_with fail
  generalize hW0 : ((w.alloc (.cells #[.float .f32 a, .float .f32 b, .float .f32 c] 26)).alloc (.cells #[.float .f32 x, .float .f32 y, .float .f32 z] 26)).alloc (.cells #[.float .f32 0, .float .f32 0, .float .f32 0] 26) = W0
  have hB0 : Below w.heap.size w W0 := by subst hW0; exact by (repeat (first | exact Below.refl _ _ | assumption | refine below_drewN ?_ _ | refine Below.setCell ?_ (by first | omega | (simp <;> omega)) _ | refine Below.alloc ?_ (by first | omega | (simp <;> omega)) _))
  have hK0 : W0.heap[w.heap.size]? = some (.cells #[.float .f32 a, .float .f32 b, .float .f32 c] 26) := by subst hW0; rw [Go.RowKit.Below.heap_alloc _ _ _ (by simp; omega)]; exact heap_alloc2_old _ _ _
  have hK1 : W0.heap[w.heap.size + 1]? = some (.cells #[.float .f32 x, .float .f32 y, .float .f32 z] 26) := by subst hW0; rw [Go.RowKit.Below.heap_alloc _ _ _ (by simp)]; exact heap_alloc2_new _ _ _
  have hK2 : W0.heap[w.heap.size + 1 + 1]? = some (.cells #[.float .f32 0, .float .f32 0, .float .f32 0] 26) := by 
    subst hW0
    have := Go.heap_alloc_new ((w.alloc (.cells #[.float .f32 a, .float .f32 b, .float .f32 c] 26)).alloc (.cells #[.float .f32 x, .float .f32 y, .float .f32 z] 26)) (.cells #[.float .f32 0, .float .f32 0, .float .f32 0] 26)
    simpa using this
  clear hW0
  have hZ0 : w.heap.size + 1 + 1 < W0.heap.size := (Array.getElem?_eq_some_iff.1 hK2).1
  have g0_0 : W0.cell? ⟨w.heap.size, 0, none⟩ = some (.float .f32 a) := cell_of_row W0 _ 0 _ _ _ hK0
  have f0_0 : W0.frozen? ⟨w.heap.size, 0, none⟩ = false := frozen_of_row W0 _ 0 _ _ hK0
  have g0_1 : W0.cell? ⟨w.heap.size, 1, none⟩ = some (.float .f32 b) := cell_of_row W0 _ 1 _ _ _ hK0
  have f0_1 : W0.frozen? ⟨w.heap.size, 1, none⟩ = false := frozen_of_row W0 _ 1 _ _ hK0
  have g0_2 : W0.cell? ⟨w.heap.size, 2, none⟩ = some (.float .f32 c) := cell_of_row W0 _ 2 _ _ _ hK0
  have f0_2 : W0.frozen? ⟨w.heap.size, 2, none⟩ = false := frozen_of_row W0 _ 2 _ _ hK0
  have l0 : w.heap.size < W0.heap.size := (Array.getElem?_eq_some_iff.1 hK0).1
  have g1_0 : W0.cell? ⟨w.heap.size + 1, 0, none⟩ = some (.float .f32 x) := cell_of_row W0 _ 0 _ _ _ hK1
  have f1_0 : W0.frozen? ⟨w.heap.size + 1, 0, none⟩ = false := frozen_of_row W0 _ 0 _ _ hK1
  have g1_1 : W0.cell? ⟨w.heap.size + 1, 1, none⟩ = some (.float .f32 y) := cell_of_row W0 _ 1 _ _ _ hK1
  have f1_1 : W0.frozen? ⟨w.heap.size + 1, 1, none⟩ = false := frozen_of_row W0 _ 1 _ _ hK1
  have g1_2 : W0.cell? ⟨w.heap.size + 1, 2, none⟩ = some (.float .f32 z) := cell_of_row W0 _ 2 _ _ _ hK1
  have f1_2 : W0.frozen? ⟨w.heap.size + 1, 2, none⟩ = false := frozen_of_row W0 _ 2 _ _ hK1
  have l1 : w.heap.size + 1 < W0.heap.size := (Array.getElem?_eq_some_iff.1 hK1).1
  have g2_0 : W0.cell? ⟨w.heap.size + 1 + 1, 0, none⟩ = some (.float .f32 0) := cell_of_row W0 _ 0 _ _ _ hK2
  have f2_0 : W0.frozen? ⟨w.heap.size + 1 + 1, 0, none⟩ = false := frozen_of_row W0 _ 0 _ _ hK2
  have g2_1 : W0.cell? ⟨w.heap.size + 1 + 1, 1, none⟩ = some (.float .f32 0) := cell_of_row W0 _ 1 _ _ _ hK2
  have f2_1 : W0.frozen? ⟨w.heap.size + 1 + 1, 1, none⟩ = false := frozen_of_row W0 _ 1 _ _ hK2
  have g2_2 : W0.cell? ⟨w.heap.size + 1 + 1, 2, none⟩ = some (.float .f32 0) := cell_of_row W0 _ 2 _ _ _ hK2
  have f2_2 : W0.frozen? ⟨w.heap.size + 1 + 1, 2, none⟩ = false := frozen_of_row W0 _ 2 _ _ hK2
  have l2 : w.heap.size + 1 + 1 < W0.heap.size := (Array.getElem?_eq_some_iff.1 hK2).1
  refine wp_region_laterO 19 (SO (QL [(12, fun u => u = Value.float .f32 (greaterF a x)), (18, fun u => u = Value.float .f32 (greaterF b y)), (24, fun u => u = Value.float .f32 (greaterF c z))])) (stays_SO _) (by kernel_rfl) (by kernel_rfl) ?_
  repeat (first | (refine later_exO rfl (fun K hK => ?_); apply Exists.intro; refine ⟨fun w' hw' => ?_, ?_⟩; (obtain ⟨hcc, hff⟩ := Grew.cells hw'; clear hw'; go_simp; rfl); go_simp; refine hK _ ?_; clear hK K))
  (refine later_callO rfl (fun K hK => ?_); go_simp; refine ⟨_, _, fun _ _ => ⟨rfl, rfl⟩, fun w1 hw1 => ?_, fun u y1 hx1 hu => ?_⟩)
  · refine (greater_ok _ _ _).mono ?_
    rintro e w2 ⟨rfl, rfl⟩
    exact ⟨_, rfl, rfl, Ext.refl _⟩
  obtain rfl : (fun u => u = Value.float .f32 (greaterF a x)) u := hu
  (refine hK _ _ hx1 ?_; clear hK K)
  repeat (first | (refine later_exO rfl (fun K hK => ?_); apply Exists.intro; refine ⟨fun w' hw' => ?_, ?_⟩; (obtain ⟨hcc, hff⟩ := Grew.cells hw'; clear hw'; go_simp; rfl); go_simp; refine hK _ ?_; clear hK K))
  (refine later_callO rfl (fun K hK => ?_); go_simp; refine ⟨_, _, fun _ _ => ⟨rfl, rfl⟩, fun w1 hw1 => ?_, fun u y2 hx2 hu => ?_⟩)
  · refine (greater_ok _ _ _).mono ?_
    rintro e w2 ⟨rfl, rfl⟩
    exact ⟨_, rfl, rfl, Ext.refl _⟩
  obtain rfl : (fun u => u = Value.float .f32 (greaterF b y)) u := hu
  (refine hK _ _ hx2 ?_; clear hK K)
  repeat (first | (refine later_exO rfl (fun K hK => ?_); apply Exists.intro; refine ⟨fun w' hw' => ?_, ?_⟩; (obtain ⟨hcc, hff⟩ := Grew.cells hw'; clear hw'; go_simp; rfl); go_simp; refine hK _ ?_; clear hK K))
  (refine later_callO rfl (fun K hK => ?_); go_simp; refine ⟨_, _, fun _ _ => ⟨rfl, rfl⟩, fun w1 hw1 => ?_, fun u y3 hx3 hu => ?_⟩)
  · refine (greater_ok _ _ _).mono ?_
    rintro e w2 ⟨rfl, rfl⟩
    exact ⟨_, rfl, rfl, Ext.refl _⟩
  obtain rfl : (fun u => u = Value.float .f32 (greaterF c z)) u := hu
  (refine hK _ _ hx3 ?_; clear hK K)
  repeat (first | (refine later_exO rfl (fun K hK => ?_); apply Exists.intro; refine ⟨fun w' hw' => ?_, ?_⟩; (obtain ⟨hcc, hff⟩ := Grew.cells hw'; clear hw'; go_simp; rfl); go_simp; refine hK _ ?_; clear hK K))
  refine later_nilO ?_
  intro w4 hw4
  simp only [List.drop_succ_cons, List.drop_zero]
  clear g0_0 f0_0 g0_1 f0_1 g0_2 f0_2 l0 g1_0 f1_0 g1_1 f1_1 g1_2 f1_2 l1 g2_0 f2_0 g2_1 f2_1 g2_2 f2_2 l2
  have hE0 : Ext W0 w4 := (((hx1).trans hx2).trans hx3).trans hw4
  have hB1 : Below w.heap.size w w4 := hB0.trans (hE0.mono hB0.size)
  replace hK0 := hE0.heap hK0
  replace hK1 := hE0.heap hK1
  replace hK2 := hE0.heap hK2
  have g0_0 : w4.cell? ⟨w.heap.size, 0, none⟩ = some (.float .f32 a) := cell_of_row w4 _ 0 _ _ _ hK0
  have f0_0 : w4.frozen? ⟨w.heap.size, 0, none⟩ = false := frozen_of_row w4 _ 0 _ _ hK0
  have g0_1 : w4.cell? ⟨w.heap.size, 1, none⟩ = some (.float .f32 b) := cell_of_row w4 _ 1 _ _ _ hK0
  have f0_1 : w4.frozen? ⟨w.heap.size, 1, none⟩ = false := frozen_of_row w4 _ 1 _ _ hK0
  have g0_2 : w4.cell? ⟨w.heap.size, 2, none⟩ = some (.float .f32 c) := cell_of_row w4 _ 2 _ _ _ hK0
  have f0_2 : w4.frozen? ⟨w.heap.size, 2, none⟩ = false := frozen_of_row w4 _ 2 _ _ hK0
  have l0 : w.heap.size < w4.heap.size := (Array.getElem?_eq_some_iff.1 hK0).1
  have g1_0 : w4.cell? ⟨w.heap.size + 1, 0, none⟩ = some (.float .f32 x) := cell_of_row w4 _ 0 _ _ _ hK1
  have f1_0 : w4.frozen? ⟨w.heap.size + 1, 0, none⟩ = false := frozen_of_row w4 _ 0 _ _ hK1
  have g1_1 : w4.cell? ⟨w.heap.size + 1, 1, none⟩ = some (.float .f32 y) := cell_of_row w4 _ 1 _ _ _ hK1
  have f1_1 : w4.frozen? ⟨w.heap.size + 1, 1, none⟩ = false := frozen_of_row w4 _ 1 _ _ hK1
  have g1_2 : w4.cell? ⟨w.heap.size + 1, 2, none⟩ = some (.float .f32 z) := cell_of_row w4 _ 2 _ _ _ hK1
  have f1_2 : w4.frozen? ⟨w.heap.size + 1, 2, none⟩ = false := frozen_of_row w4 _ 2 _ _ hK1
  have l1 : w.heap.size + 1 < w4.heap.size := (Array.getElem?_eq_some_iff.1 hK1).1
  have g2_0 : w4.cell? ⟨w.heap.size + 1 + 1, 0, none⟩ = some (.float .f32 0) := cell_of_row w4 _ 0 _ _ _ hK2
  have f2_0 : w4.frozen? ⟨w.heap.size + 1 + 1, 0, none⟩ = false := frozen_of_row w4 _ 0 _ _ hK2
  have g2_1 : w4.cell? ⟨w.heap.size + 1 + 1, 1, none⟩ = some (.float .f32 0) := cell_of_row w4 _ 1 _ _ _ hK2
  have f2_1 : w4.frozen? ⟨w.heap.size + 1 + 1, 1, none⟩ = false := frozen_of_row w4 _ 1 _ _ hK2
  have g2_2 : w4.cell? ⟨w.heap.size + 1 + 1, 2, none⟩ = some (.float .f32 0) := cell_of_row w4 _ 2 _ _ _ hK2
  have f2_2 : w4.frozen? ⟨w.heap.size + 1 + 1, 2, none⟩ = false := frozen_of_row w4 _ 2 _ _ hK2
  have l2 : w.heap.size + 1 + 1 < w4.heap.size := (Array.getElem?_eq_some_iff.1 hK2).1
  clear hw4 hx1 hx2 hx3
  go_wp2_with fail
  generalize hWs : ((w4.setCell ⟨w.heap.size + 1 + 1, 0, none⟩ (.float .f32 (greaterF a x))).setCell ⟨w.heap.size + 1 + 1, 1, none⟩ (.float .f32 (greaterF b y))).setCell ⟨w.heap.size + 1 + 1, 2, none⟩ (.float .f32 (greaterF c z)) = w5
  have hS : w5.heap[w.heap.size + 1 + 1]? = some (.cells #[.float .f32 (greaterF a x), .float .f32 (greaterF b y), .float .f32 (greaterF c z)] 26) := by
    subst hWs
    have s0 := heap_setCell_same (w4) _ 0 _ _ (.float .f32 (greaterF a x)) hK2
    have s1 := heap_setCell_same ((w4).setCell ⟨w.heap.size + 1 + 1, 0, none⟩ (.float .f32 (greaterF a x))) _ 1 _ _ (.float .f32 (greaterF b y)) s0
    have s2 := heap_setCell_same (((w4).setCell ⟨w.heap.size + 1 + 1, 0, none⟩ (.float .f32 (greaterF a x))).setCell ⟨w.heap.size + 1 + 1, 1, none⟩ (.float .f32 (greaterF b y))) _ 2 _ _ (.float .f32 (greaterF c z)) s1
    simpa using s2
  have hO : ∀ q, q ≠ w.heap.size + 1 + 1 → w5.heap[q]? = w4.heap[q]? := fun q hq => by subst hWs; rw [heap_setCell_other _ _ _ _ hq, heap_setCell_other _ _ _ _ hq, heap_setCell_other _ _ _ _ hq]
  have hB2 : Below w.heap.size w w5 := by
    subst hWs
    have hle : w.heap.size ≤ w.heap.size + 1 + 1 := by omega
    refine Below.setCell ?_ hle _
    refine Below.setCell ?_ hle _
    refine Below.setCell ?_ hle _
    repeat (first | exact hB1 | refine below_drewN ?_ _)
  clear g0_0 f0_0 g0_1 f0_1 g0_2 f0_2 l0 g1_0 f1_0 g1_1 f1_1 g1_2 f1_2 l1 g2_0 f2_0 g2_1 f2_1 g2_2 f2_2 l2
  replace hK0 := (hO _ (by omega)).trans hK0
  replace hK1 := (hO _ (by omega)).trans hK1
  replace hK2 := hS
  clear hS hO hWs
  have g0_0 : w5.cell? ⟨w.heap.size, 0, none⟩ = some (.float .f32 a) := cell_of_row w5 _ 0 _ _ _ hK0
  have f0_0 : w5.frozen? ⟨w.heap.size, 0, none⟩ = false := frozen_of_row w5 _ 0 _ _ hK0
  have g0_1 : w5.cell? ⟨w.heap.size, 1, none⟩ = some (.float .f32 b) := cell_of_row w5 _ 1 _ _ _ hK0
  have f0_1 : w5.frozen? ⟨w.heap.size, 1, none⟩ = false := frozen_of_row w5 _ 1 _ _ hK0
  have g0_2 : w5.cell? ⟨w.heap.size, 2, none⟩ = some (.float .f32 c) := cell_of_row w5 _ 2 _ _ _ hK0
  have f0_2 : w5.frozen? ⟨w.heap.size, 2, none⟩ = false := frozen_of_row w5 _ 2 _ _ hK0
  have l0 : w.heap.size < w5.heap.size := (Array.getElem?_eq_some_iff.1 hK0).1
  have g1_0 : w5.cell? ⟨w.heap.size + 1, 0, none⟩ = some (.float .f32 x) := cell_of_row w5 _ 0 _ _ _ hK1
  have f1_0 : w5.frozen? ⟨w.heap.size + 1, 0, none⟩ = false := frozen_of_row w5 _ 0 _ _ hK1
  have g1_1 : w5.cell? ⟨w.heap.size + 1, 1, none⟩ = some (.float .f32 y) := cell_of_row w5 _ 1 _ _ _ hK1
  have f1_1 : w5.frozen? ⟨w.heap.size + 1, 1, none⟩ = false := frozen_of_row w5 _ 1 _ _ hK1
  have g1_2 : w5.cell? ⟨w.heap.size + 1, 2, none⟩ = some (.float .f32 z) := cell_of_row w5 _ 2 _ _ _ hK1
  have f1_2 : w5.frozen? ⟨w.heap.size + 1, 2, none⟩ = false := frozen_of_row w5 _ 2 _ _ hK1
  have l1 : w.heap.size + 1 < w5.heap.size := (Array.getElem?_eq_some_iff.1 hK1).1
  have g2_0 : w5.cell? ⟨w.heap.size + 1 + 1, 0, none⟩ = some (.float .f32 (greaterF a x)) := cell_of_row w5 _ 0 _ _ _ hK2
  have f2_0 : w5.frozen? ⟨w.heap.size + 1 + 1, 0, none⟩ = false := frozen_of_row w5 _ 0 _ _ hK2
  have g2_1 : w5.cell? ⟨w.heap.size + 1 + 1, 1, none⟩ = some (.float .f32 (greaterF b y)) := cell_of_row w5 _ 1 _ _ _ hK2
  have f2_1 : w5.frozen? ⟨w.heap.size + 1 + 1, 1, none⟩ = false := frozen_of_row w5 _ 1 _ _ hK2
  have g2_2 : w5.cell? ⟨w.heap.size + 1 + 1, 2, none⟩ = some (.float .f32 (greaterF c z)) := cell_of_row w5 _ 2 _ _ _ hK2
  have f2_2 : w5.frozen? ⟨w.heap.size + 1 + 1, 2, none⟩ = false := frozen_of_row w5 _ 2 _ _ hK2
  have l2 : w.heap.size + 1 + 1 < w5.heap.size := (Array.getElem?_eq_some_iff.1 hK2).1
  exact bodyPost_ret (v := vec (greaterF a x) (greaterF b y) (greaterF c z)) (by simp [results, Try.results21, go_sem, g2_0, g2_1, g2_2]) rfl ⟨rfl, hB2⟩
set_option maxHeartbeats 1000000 in
set_option maxRecDepth 100000 in
theorem byLesser_ok (a b c x y z : Nat) (w : World) :
    Calls Try.prog 21 #[.func (.func 22) #[] #[], vec a b c, vec x y z] w fun e w' => e = .returned (vec (lesserF a x) (lesserF b y) (lesserF c z)) ∧ Below w.heap.size w w' := by
  go_enter Try.func21, Try.ntmps21
  go_wp2_with fail
  generalize hW0 : ((w.alloc (.cells #[.float .f32 a, .float .f32 b, .float .f32 c] 26)).alloc (.cells #[.float .f32 x, .float .f32 y, .float .f32 z] 26)).alloc (.cells #[.float .f32 0, .float .f32 0, .float .f32 0] 26) = W0
  have hB0 : Below w.heap.size w W0 := by subst hW0; exact by (repeat (first | exact Below.refl _ _ | assumption | refine below_drewN ?_ _ | refine Below.setCell ?_ (by first | omega | (simp <;> omega)) _ | refine Below.alloc ?_ (by first | omega | (simp <;> omega)) _))
  have hK0 : W0.heap[w.heap.size]? = some (.cells #[.float .f32 a, .float .f32 b, .float .f32 c] 26) := by subst hW0; rw [Go.RowKit.Below.heap_alloc _ _ _ (by simp; omega)]; exact heap_alloc2_old _ _ _
  have hK1 : W0.heap[w.heap.size + 1]? = some (.cells #[.float .f32 x, .float .f32 y, .float .f32 z] 26) := by subst hW0; rw [Go.RowKit.Below.heap_alloc _ _ _ (by simp)]; exact heap_alloc2_new _ _ _
  have hK2 : W0.heap[w.heap.size + 1 + 1]? = some (.cells #[.float .f32 0, .float .f32 0, .float .f32 0] 26) := by 
    subst hW0
    have := Go.heap_alloc_new ((w.alloc (.cells #[.float .f32 a, .float .f32 b, .float .f32 c] 26)).alloc (.cells #[.float .f32 x, .float .f32 y, .float .f32 z] 26)) (.cells #[.float .f32 0, .float .f32 0, .float .f32 0] 26)
    simpa using this
  clear hW0
  have hZ0 : w.heap.size + 1 + 1 < W0.heap.size := (Array.getElem?_eq_some_iff.1 hK2).1
  have g0_0 : W0.cell? ⟨w.heap.size, 0, none⟩ = some (.float .f32 a) := cell_of_row W0 _ 0 _ _ _ hK0
  have f0_0 : W0.frozen? ⟨w.heap.size, 0, none⟩ = false := frozen_of_row W0 _ 0 _ _ hK0
  have g0_1 : W0.cell? ⟨w.heap.size, 1, none⟩ = some (.float .f32 b) := cell_of_row W0 _ 1 _ _ _ hK0
  have f0_1 : W0.frozen? ⟨w.heap.size, 1, none⟩ = false := frozen_of_row W0 _ 1 _ _ hK0
  have g0_2 : W0.cell? ⟨w.heap.size, 2, none⟩ = some (.float .f32 c) := cell_of_row W0 _ 2 _ _ _ hK0
  have f0_2 : W0.frozen? ⟨w.heap.size, 2, none⟩ = false := frozen_of_row W0 _ 2 _ _ hK0
  have l0 : w.heap.size < W0.heap.size := (Array.getElem?_eq_some_iff.1 hK0).1
  have g1_0 : W0.cell? ⟨w.heap.size + 1, 0, none⟩ = some (.float .f32 x) := cell_of_row W0 _ 0 _ _ _ hK1
  have f1_0 : W0.frozen? ⟨w.heap.size + 1, 0, none⟩ = false := frozen_of_row W0 _ 0 _ _ hK1
  have g1_1 : W0.cell? ⟨w.heap.size + 1, 1, none⟩ = some (.float .f32 y) := cell_of_row W0 _ 1 _ _ _ hK1
  have f1_1 : W0.frozen? ⟨w.heap.size + 1, 1, none⟩ = false := frozen_of_row W0 _ 1 _ _ hK1
  have g1_2 : W0.cell? ⟨w.heap.size + 1, 2, none⟩ = some (.float .f32 z) := cell_of_row W0 _ 2 _ _ _ hK1
  have f1_2 : W0.frozen? ⟨w.heap.size + 1, 2, none⟩ = false := frozen_of_row W0 _ 2 _ _ hK1
  have l1 : w.heap.size + 1 < W0.heap.size := (Array.getElem?_eq_some_iff.1 hK1).1
  have g2_0 : W0.cell? ⟨w.heap.size + 1 + 1, 0, none⟩ = some (.float .f32 0) := cell_of_row W0 _ 0 _ _ _ hK2
  have f2_0 : W0.frozen? ⟨w.heap.size + 1 + 1, 0, none⟩ = false := frozen_of_row W0 _ 0 _ _ hK2
  have g2_1 : W0.cell? ⟨w.heap.size + 1 + 1, 1, none⟩ = some (.float .f32 0) := cell_of_row W0 _ 1 _ _ _ hK2
  have f2_1 : W0.frozen? ⟨w.heap.size + 1 + 1, 1, none⟩ = false := frozen_of_row W0 _ 1 _ _ hK2
  have g2_2 : W0.cell? ⟨w.heap.size + 1 + 1, 2, none⟩ = some (.float .f32 0) := cell_of_row W0 _ 2 _ _ _ hK2
  have f2_2 : W0.frozen? ⟨w.heap.size + 1 + 1, 2, none⟩ = false := frozen_of_row W0 _ 2 _ _ hK2
  have l2 : w.heap.size + 1 + 1 < W0.heap.size := (Array.getElem?_eq_some_iff.1 hK2).1
  refine wp_region_laterO 19 (SO (QL [(12, fun u => u = Value.float .f32 (lesserF a x)), (18, fun u => u = Value.float .f32 (lesserF b y)), (24, fun u => u = Value.float .f32 (lesserF c z))])) (stays_SO _) (by kernel_rfl) (by kernel_rfl) ?_
  repeat (first | (refine later_exO rfl (fun K hK => ?_); apply Exists.intro; refine ⟨fun w' hw' => ?_, ?_⟩; (obtain ⟨hcc, hff⟩ := Grew.cells hw'; clear hw'; go_simp; rfl); go_simp; refine hK _ ?_; clear hK K))
  (refine later_callO rfl (fun K hK => ?_); go_simp; refine ⟨_, _, fun _ _ => ⟨rfl, rfl⟩, fun w1 hw1 => ?_, fun u y1 hx1 hu => ?_⟩)
  · refine (lesser_ok _ _ _).mono ?_
    rintro e w2 ⟨rfl, rfl⟩
    exact ⟨_, rfl, rfl, Ext.refl _⟩
  obtain rfl : (fun u => u = Value.float .f32 (lesserF a x)) u := hu
  (refine hK _ _ hx1 ?_; clear hK K)
  repeat (first | (refine later_exO rfl (fun K hK => ?_); apply Exists.intro; refine ⟨fun w' hw' => ?_, ?_⟩; (obtain ⟨hcc, hff⟩ := Grew.cells hw'; clear hw'; go_simp; rfl); go_simp; refine hK _ ?_; clear hK K))
  (refine later_callO rfl (fun K hK => ?_); go_simp; refine ⟨_, _, fun _ _ => ⟨rfl, rfl⟩, fun w1 hw1 => ?_, fun u y2 hx2 hu => ?_⟩)
  · refine (lesser_ok _ _ _).mono ?_
    rintro e w2 ⟨rfl, rfl⟩
    exact ⟨_, rfl, rfl, Ext.refl _⟩
  obtain rfl : (fun u => u = Value.float .f32 (lesserF b y)) u := hu
  (refine hK _ _ hx2 ?_; clear hK K)
  repeat (first | (refine later_exO rfl (fun K hK => ?_); apply Exists.intro; refine ⟨fun w' hw' => ?_, ?_⟩; (obtain ⟨hcc, hff⟩ := Grew.cells hw'; clear hw'; go_simp; rfl); go_simp; refine hK _ ?_; clear hK K))
  (refine later_callO rfl (fun K hK => ?_); go_simp; refine ⟨_, _, fun _ _ => ⟨rfl, rfl⟩, fun w1 hw1 => ?_, fun u y3 hx3 hu => ?_⟩)
  · refine (lesser_ok _ _ _).mono ?_
    rintro e w2 ⟨rfl, rfl⟩
    exact ⟨_, rfl, rfl, Ext.refl _⟩
  obtain rfl : (fun u => u = Value.float .f32 (lesserF c z)) u := hu
  (refine hK _ _ hx3 ?_; clear hK K)
  repeat (first | (refine later_exO rfl (fun K hK => ?_); apply Exists.intro; refine ⟨fun w' hw' => ?_, ?_⟩; (obtain ⟨hcc, hff⟩ := Grew.cells hw'; clear hw'; go_simp; rfl); go_simp; refine hK _ ?_; clear hK K))
  refine later_nilO ?_
  intro w4 hw4
  simp only [List.drop_succ_cons, List.drop_zero]
  clear g0_0 f0_0 g0_1 f0_1 g0_2 f0_2 l0 g1_0 f1_0 g1_1 f1_1 g1_2 f1_2 l1 g2_0 f2_0 g2_1 f2_1 g2_2 f2_2 l2
  have hE0 : Ext W0 w4 := (((hx1).trans hx2).trans hx3).trans hw4
  have hB1 : Below w.heap.size w w4 := hB0.trans (hE0.mono hB0.size)
  replace hK0 := hE0.heap hK0
  replace hK1 := hE0.heap hK1
  replace hK2 := hE0.heap hK2
  have g0_0 : w4.cell? ⟨w.heap.size, 0, none⟩ = some (.float .f32 a) := cell_of_row w4 _ 0 _ _ _ hK0
  have f0_0 : w4.frozen? ⟨w.heap.size, 0, none⟩ = false := frozen_of_row w4 _ 0 _ _ hK0
  have g0_1 : w4.cell? ⟨w.heap.size, 1, none⟩ = some (.float .f32 b) := cell_of_row w4 _ 1 _ _ _ hK0
  have f0_1 : w4.frozen? ⟨w.heap.size, 1, none⟩ = false := frozen_of_row w4 _ 1 _ _ hK0
  have g0_2 : w4.cell? ⟨w.heap.size, 2, none⟩ = some (.float .f32 c) := cell_of_row w4 _ 2 _ _ _ hK0
  have f0_2 : w4.frozen? ⟨w.heap.size, 2, none⟩ = false := frozen_of_row w4 _ 2 _ _ hK0
  have l0 : w.heap.size < w4.heap.size := (Array.getElem?_eq_some_iff.1 hK0).1
  have g1_0 : w4.cell? ⟨w.heap.size + 1, 0, none⟩ = some (.float .f32 x) := cell_of_row w4 _ 0 _ _ _ hK1
  have f1_0 : w4.frozen? ⟨w.heap.size + 1, 0, none⟩ = false := frozen_of_row w4 _ 0 _ _ hK1
  have g1_1 : w4.cell? ⟨w.heap.size + 1, 1, none⟩ = some (.float .f32 y) := cell_of_row w4 _ 1 _ _ _ hK1
  have f1_1 : w4.frozen? ⟨w.heap.size + 1, 1, none⟩ = false := frozen_of_row w4 _ 1 _ _ hK1
  have g1_2 : w4.cell? ⟨w.heap.size + 1, 2, none⟩ = some (.float .f32 z) := cell_of_row w4 _ 2 _ _ _ hK1
  have f1_2 : w4.frozen? ⟨w.heap.size + 1, 2, none⟩ = false := frozen_of_row w4 _ 2 _ _ hK1
  have l1 : w.heap.size + 1 < w4.heap.size := (Array.getElem?_eq_some_iff.1 hK1).1
  have g2_0 : w4.cell? ⟨w.heap.size + 1 + 1, 0, none⟩ = some (.float .f32 0) := cell_of_row w4 _ 0 _ _ _ hK2
  have f2_0 : w4.frozen? ⟨w.heap.size + 1 + 1, 0, none⟩ = false := frozen_of_row w4 _ 0 _ _ hK2
  have g2_1 : w4.cell? ⟨w.heap.size + 1 + 1, 1, none⟩ = some (.float .f32 0) := cell_of_row w4 _ 1 _ _ _ hK2
  have f2_1 : w4.frozen? ⟨w.heap.size + 1 + 1, 1, none⟩ = false := frozen_of_row w4 _ 1 _ _ hK2
  have g2_2 : w4.cell? ⟨w.heap.size + 1 + 1, 2, none⟩ = some (.float .f32 0) := cell_of_row w4 _ 2 _ _ _ hK2
  have f2_2 : w4.frozen? ⟨w.heap.size + 1 + 1, 2, none⟩ = false := frozen_of_row w4 _ 2 _ _ hK2
  have l2 : w.heap.size + 1 + 1 < w4.heap.size := (Array.getElem?_eq_some_iff.1 hK2).1
  clear hw4 hx1 hx2 hx3
  go_wp2_with fail
  generalize hWs : ((w4.setCell ⟨w.heap.size + 1 + 1, 0, none⟩ (.float .f32 (lesserF a x))).setCell ⟨w.heap.size + 1 + 1, 1, none⟩ (.float .f32 (lesserF b y))).setCell ⟨w.heap.size + 1 + 1, 2, none⟩ (.float .f32 (lesserF c z)) = w5
  have hS : w5.heap[w.heap.size + 1 + 1]? = some (.cells #[.float .f32 (lesserF a x), .float .f32 (lesserF b y), .float .f32 (lesserF c z)] 26) := by
    subst hWs
    have s0 := heap_setCell_same (w4) _ 0 _ _ (.float .f32 (lesserF a x)) hK2
    have s1 := heap_setCell_same ((w4).setCell ⟨w.heap.size + 1 + 1, 0, none⟩ (.float .f32 (lesserF a x))) _ 1 _ _ (.float .f32 (lesserF b y)) s0
    have s2 := heap_setCell_same (((w4).setCell ⟨w.heap.size + 1 + 1, 0, none⟩ (.float .f32 (lesserF a x))).setCell ⟨w.heap.size + 1 + 1, 1, none⟩ (.float .f32 (lesserF b y))) _ 2 _ _ (.float .f32 (lesserF c z)) s1
    simpa using s2
  have hO : ∀ q, q ≠ w.heap.size + 1 + 1 → w5.heap[q]? = w4.heap[q]? := fun q hq => by subst hWs; rw [heap_setCell_other _ _ _ _ hq, heap_setCell_other _ _ _ _ hq, heap_setCell_other _ _ _ _ hq]
  have hB2 : Below w.heap.size w w5 := by
    subst hWs
    have hle : w.heap.size ≤ w.heap.size + 1 + 1 := by omega
    refine Below.setCell ?_ hle _
    refine Below.setCell ?_ hle _
    refine Below.setCell ?_ hle _
    repeat (first | exact hB1 | refine below_drewN ?_ _)
  clear g0_0 f0_0 g0_1 f0_1 g0_2 f0_2 l0 g1_0 f1_0 g1_1 f1_1 g1_2 f1_2 l1 g2_0 f2_0 g2_1 f2_1 g2_2 f2_2 l2
  replace hK0 := (hO _ (by omega)).trans hK0
  replace hK1 := (hO _ (by omega)).trans hK1
  replace hK2 := hS
  clear hS hO hWs
  have g0_0 : w5.cell? ⟨w.heap.size, 0, none⟩ = some (.float .f32 a) := cell_of_row w5 _ 0 _ _ _ hK0
  have f0_0 : w5.frozen? ⟨w.heap.size, 0, none⟩ = false := frozen_of_row w5 _ 0 _ _ hK0
  have g0_1 : w5.cell? ⟨w.heap.size, 1, none⟩ = some (.float .f32 b) := cell_of_row w5 _ 1 _ _ _ hK0
  have f0_1 : w5.frozen? ⟨w.heap.size, 1, none⟩ = false := frozen_of_row w5 _ 1 _ _ hK0
  have g0_2 : w5.cell? ⟨w.heap.size, 2, none⟩ = some (.float .f32 c) := cell_of_row w5 _ 2 _ _ _ hK0
  have f0_2 : w5.frozen? ⟨w.heap.size, 2, none⟩ = false := frozen_of_row w5 _ 2 _ _ hK0
  have l0 : w.heap.size < w5.heap.size := (Array.getElem?_eq_some_iff.1 hK0).1
  have g1_0 : w5.cell? ⟨w.heap.size + 1, 0, none⟩ = some (.float .f32 x) := cell_of_row w5 _ 0 _ _ _ hK1
  have f1_0 : w5.frozen? ⟨w.heap.size + 1, 0, none⟩ = false := frozen_of_row w5 _ 0 _ _ hK1
  have g1_1 : w5.cell? ⟨w.heap.size + 1, 1, none⟩ = some (.float .f32 y) := cell_of_row w5 _ 1 _ _ _ hK1
  have f1_1 : w5.frozen? ⟨w.heap.size + 1, 1, none⟩ = false := frozen_of_row w5 _ 1 _ _ hK1
  have g1_2 : w5.cell? ⟨w.heap.size + 1, 2, none⟩ = some (.float .f32 z) := cell_of_row w5 _ 2 _ _ _ hK1
  have f1_2 : w5.frozen? ⟨w.heap.size + 1, 2, none⟩ = false := frozen_of_row w5 _ 2 _ _ hK1
  have l1 : w.heap.size + 1 < w5.heap.size := (Array.getElem?_eq_some_iff.1 hK1).1
  have g2_0 : w5.cell? ⟨w.heap.size + 1 + 1, 0, none⟩ = some (.float .f32 (lesserF a x)) := cell_of_row w5 _ 0 _ _ _ hK2
  have f2_0 : w5.frozen? ⟨w.heap.size + 1 + 1, 0, none⟩ = false := frozen_of_row w5 _ 0 _ _ hK2
  have g2_1 : w5.cell? ⟨w.heap.size + 1 + 1, 1, none⟩ = some (.float .f32 (lesserF b y)) := cell_of_row w5 _ 1 _ _ _ hK2
  have f2_1 : w5.frozen? ⟨w.heap.size + 1 + 1, 1, none⟩ = false := frozen_of_row w5 _ 1 _ _ hK2
  have g2_2 : w5.cell? ⟨w.heap.size + 1 + 1, 2, none⟩ = some (.float .f32 (lesserF c z)) := cell_of_row w5 _ 2 _ _ _ hK2
  have f2_2 : w5.frozen? ⟨w.heap.size + 1 + 1, 2, none⟩ = false := frozen_of_row w5 _ 2 _ _ hK2
  have l2 : w.heap.size + 1 + 1 < w5.heap.size := (Array.getElem?_eq_some_iff.1 hK2).1
  exact bodyPost_ret (v := vec (lesserF a x) (lesserF b y) (lesserF c z)) (by simp [results, Try.results21, go_sem, g2_0, g2_1, g2_2]) rfl ⟨rfl, hB2⟩
set_option maxHeartbeats 1000000 in
set_option maxRecDepth 100000 in
theorem l04High_ok (a b c x y z : Nat) (w : World) :
    Calls Try.prog 18 #[vec a b c, vec x y z] w fun e w' => e = .returned (vec (greaterF a x) (greaterF b y) (greaterF c z)) ∧ Below w.heap.size w w' := by
  go_enter Try.func18, Try.ntmps18
  go_wp2_with fail
  generalize hW0 : ((w.alloc (.cells #[.float .f32 a, .float .f32 b, .float .f32 c] 26)).alloc (.cells #[.float .f32 x, .float .f32 y, .float .f32 z] 26)).alloc (.cells #[.float .f32 0, .float .f32 0, .float .f32 0] 26) = W0
  have hB0 : Below w.heap.size w W0 := by subst hW0; exact by (repeat (first | exact Below.refl _ _ | assumption | refine below_drewN ?_ _ | refine Below.setCell ?_ (by first | omega | (simp <;> omega)) _ | refine Below.alloc ?_ (by first | omega | (simp <;> omega)) _))
  have hK0 : W0.heap[w.heap.size]? = some (.cells #[.float .f32 a, .float .f32 b, .float .f32 c] 26) := by subst hW0; rw [Go.RowKit.Below.heap_alloc _ _ _ (by simp; omega)]; exact heap_alloc2_old _ _ _
  have hK1 : W0.heap[w.heap.size + 1]? = some (.cells #[.float .f32 x, .float .f32 y, .float .f32 z] 26) := by subst hW0; rw [Go.RowKit.Below.heap_alloc _ _ _ (by simp)]; exact heap_alloc2_new _ _ _
  have hK2 : W0.heap[w.heap.size + 1 + 1]? = some (.cells #[.float .f32 0, .float .f32 0, .float .f32 0] 26) := by 
    subst hW0
    have := Go.heap_alloc_new ((w.alloc (.cells #[.float .f32 a, .float .f32 b, .float .f32 c] 26)).alloc (.cells #[.float .f32 x, .float .f32 y, .float .f32 z] 26)) (.cells #[.float .f32 0, .float .f32 0, .float .f32 0] 26)
    simpa using this
  clear hW0
  have hZ0 : w.heap.size + 1 + 1 < W0.heap.size := (Array.getElem?_eq_some_iff.1 hK2).1
  have g0_0 : W0.cell? ⟨w.heap.size, 0, none⟩ = some (.float .f32 a) := cell_of_row W0 _ 0 _ _ _ hK0
  have f0_0 : W0.frozen? ⟨w.heap.size, 0, none⟩ = false := frozen_of_row W0 _ 0 _ _ hK0
  have g0_1 : W0.cell? ⟨w.heap.size, 1, none⟩ = some (.float .f32 b) := cell_of_row W0 _ 1 _ _ _ hK0
  have f0_1 : W0.frozen? ⟨w.heap.size, 1, none⟩ = false := frozen_of_row W0 _ 1 _ _ hK0
  have g0_2 : W0.cell? ⟨w.heap.size, 2, none⟩ = some (.float .f32 c) := cell_of_row W0 _ 2 _ _ _ hK0
  have f0_2 : W0.frozen? ⟨w.heap.size, 2, none⟩ = false := frozen_of_row W0 _ 2 _ _ hK0
  have l0 : w.heap.size < W0.heap.size := (Array.getElem?_eq_some_iff.1 hK0).1
  have g1_0 : W0.cell? ⟨w.heap.size + 1, 0, none⟩ = some (.float .f32 x) := cell_of_row W0 _ 0 _ _ _ hK1
  have f1_0 : W0.frozen? ⟨w.heap.size + 1, 0, none⟩ = false := frozen_of_row W0 _ 0 _ _ hK1
  have g1_1 : W0.cell? ⟨w.heap.size + 1, 1, none⟩ = some (.float .f32 y) := cell_of_row W0 _ 1 _ _ _ hK1
  have f1_1 : W0.frozen? ⟨w.heap.size + 1, 1, none⟩ = false := frozen_of_row W0 _ 1 _ _ hK1
  have g1_2 : W0.cell? ⟨w.heap.size + 1, 2, none⟩ = some (.float .f32 z) := cell_of_row W0 _ 2 _ _ _ hK1
  have f1_2 : W0.frozen? ⟨w.heap.size + 1, 2, none⟩ = false := frozen_of_row W0 _ 2 _ _ hK1
  have l1 : w.heap.size + 1 < W0.heap.size := (Array.getElem?_eq_some_iff.1 hK1).1
  have g2_0 : W0.cell? ⟨w.heap.size + 1 + 1, 0, none⟩ = some (.float .f32 0) := cell_of_row W0 _ 0 _ _ _ hK2
  have f2_0 : W0.frozen? ⟨w.heap.size + 1 + 1, 0, none⟩ = false := frozen_of_row W0 _ 0 _ _ hK2
  have g2_1 : W0.cell? ⟨w.heap.size + 1 + 1, 1, none⟩ = some (.float .f32 0) := cell_of_row W0 _ 1 _ _ _ hK2
  have f2_1 : W0.frozen? ⟨w.heap.size + 1 + 1, 1, none⟩ = false := frozen_of_row W0 _ 1 _ _ hK2
  have g2_2 : W0.cell? ⟨w.heap.size + 1 + 1, 2, none⟩ = some (.float .f32 0) := cell_of_row W0 _ 2 _ _ _ hK2
  have f2_2 : W0.frozen? ⟨w.heap.size + 1 + 1, 2, none⟩ = false := frozen_of_row W0 _ 2 _ _ hK2
  have l2 : w.heap.size + 1 + 1 < W0.heap.size := (Array.getElem?_eq_some_iff.1 hK2).1
  refine wp_region_laterO 16 (SO (QL [(9, fun u => u = Value.float .f32 (greaterF a x)), (14, fun u => u = Value.float .f32 (greaterF b y)), (19, fun u => u = Value.float .f32 (greaterF c z))])) (stays_SO _) (by kernel_rfl) (by kernel_rfl) ?_
  repeat (first | (refine later_exO rfl (fun K hK => ?_); apply Exists.intro; refine ⟨fun w' hw' => ?_, ?_⟩; (obtain ⟨hcc, hff⟩ := Grew.cells hw'; clear hw'; go_simp; rfl); go_simp; refine hK _ ?_; clear hK K))
  (refine later_callO rfl (fun K hK => ?_); go_simp; refine ⟨_, _, fun _ _ => ⟨rfl, rfl⟩, fun w1 hw1 => ?_, fun u y1 hx1 hu => ?_⟩)
  · refine (mGreater_ok _ _ _).mono ?_
    rintro e w2 ⟨rfl, rfl⟩
    exact ⟨_, rfl, rfl, Ext.refl _⟩
  obtain rfl : (fun u => u = Value.float .f32 (greaterF a x)) u := hu
  (refine hK _ _ hx1 ?_; clear hK K)
  repeat (first | (refine later_exO rfl (fun K hK => ?_); apply Exists.intro; refine ⟨fun w' hw' => ?_, ?_⟩; (obtain ⟨hcc, hff⟩ := Grew.cells hw'; clear hw'; go_simp; rfl); go_simp; refine hK _ ?_; clear hK K))
  (refine later_callO rfl (fun K hK => ?_); go_simp; refine ⟨_, _, fun _ _ => ⟨rfl, rfl⟩, fun w1 hw1 => ?_, fun u y2 hx2 hu => ?_⟩)
  · refine (mGreater_ok _ _ _).mono ?_
    rintro e w2 ⟨rfl, rfl⟩
    exact ⟨_, rfl, rfl, Ext.refl _⟩
  obtain rfl : (fun u => u = Value.float .f32 (greaterF b y)) u := hu
  (refine hK _ _ hx2 ?_; clear hK K)
  repeat (first | (refine later_exO rfl (fun K hK => ?_); apply Exists.intro; refine ⟨fun w' hw' => ?_, ?_⟩; (obtain ⟨hcc, hff⟩ := Grew.cells hw'; clear hw'; go_simp; rfl); go_simp; refine hK _ ?_; clear hK K))
  (refine later_callO rfl (fun K hK => ?_); go_simp; refine ⟨_, _, fun _ _ => ⟨rfl, rfl⟩, fun w1 hw1 => ?_, fun u y3 hx3 hu => ?_⟩)
  · refine (mGreater_ok _ _ _).mono ?_
    rintro e w2 ⟨rfl, rfl⟩
    exact ⟨_, rfl, rfl, Ext.refl _⟩
  obtain rfl : (fun u => u = Value.float .f32 (greaterF c z)) u := hu
  (refine hK _ _ hx3 ?_; clear hK K)
  repeat (first | (refine later_exO rfl (fun K hK => ?_); apply Exists.intro; refine ⟨fun w' hw' => ?_, ?_⟩; (obtain ⟨hcc, hff⟩ := Grew.cells hw'; clear hw'; go_simp; rfl); go_simp; refine hK _ ?_; clear hK K))
  refine later_nilO ?_
  intro w4 hw4
  simp only [List.drop_succ_cons, List.drop_zero]
  clear g0_0 f0_0 g0_1 f0_1 g0_2 f0_2 l0 g1_0 f1_0 g1_1 f1_1 g1_2 f1_2 l1 g2_0 f2_0 g2_1 f2_1 g2_2 f2_2 l2
  have hE0 : Ext W0 w4 := (((hx1).trans hx2).trans hx3).trans hw4
  have hB1 : Below w.heap.size w w4 := hB0.trans (hE0.mono hB0.size)
  replace hK0 := hE0.heap hK0
  replace hK1 := hE0.heap hK1
  replace hK2 := hE0.heap hK2
  have g0_0 : w4.cell? ⟨w.heap.size, 0, none⟩ = some (.float .f32 a) := cell_of_row w4 _ 0 _ _ _ hK0
  have f0_0 : w4.frozen? ⟨w.heap.size, 0, none⟩ = false := frozen_of_row w4 _ 0 _ _ hK0
  have g0_1 : w4.cell? ⟨w.heap.size, 1, none⟩ = some (.float .f32 b) := cell_of_row w4 _ 1 _ _ _ hK0
  have f0_1 : w4.frozen? ⟨w.heap.size, 1, none⟩ = false := frozen_of_row w4 _ 1 _ _ hK0
  have g0_2 : w4.cell? ⟨w.heap.size, 2, none⟩ = some (.float .f32 c) := cell_of_row w4 _ 2 _ _ _ hK0
  have f0_2 : w4.frozen? ⟨w.heap.size, 2, none⟩ = false := frozen_of_row w4 _ 2 _ _ hK0
  have l0 : w.heap.size < w4.heap.size := (Array.getElem?_eq_some_iff.1 hK0).1
  have g1_0 : w4.cell? ⟨w.heap.size + 1, 0, none⟩ = some (.float .f32 x) := cell_of_row w4 _ 0 _ _ _ hK1
  have f1_0 : w4.frozen? ⟨w.heap.size + 1, 0, none⟩ = false := frozen_of_row w4 _ 0 _ _ hK1
  have g1_1 : w4.cell? ⟨w.heap.size + 1, 1, none⟩ = some (.float .f32 y) := cell_of_row w4 _ 1 _ _ _ hK1
  have f1_1 : w4.frozen? ⟨w.heap.size + 1, 1, none⟩ = false := frozen_of_row w4 _ 1 _ _ hK1
  have g1_2 : w4.cell? ⟨w.heap.size + 1, 2, none⟩ = some (.float .f32 z) := cell_of_row w4 _ 2 _ _ _ hK1
  have f1_2 : w4.frozen? ⟨w.heap.size + 1, 2, none⟩ = false := frozen_of_row w4 _ 2 _ _ hK1
  have l1 : w.heap.size + 1 < w4.heap.size := (Array.getElem?_eq_some_iff.1 hK1).1
  have g2_0 : w4.cell? ⟨w.heap.size + 1 + 1, 0, none⟩ = some (.float .f32 0) := cell_of_row w4 _ 0 _ _ _ hK2
  have f2_0 : w4.frozen? ⟨w.heap.size + 1 + 1, 0, none⟩ = false := frozen_of_row w4 _ 0 _ _ hK2
  have g2_1 : w4.cell? ⟨w.heap.size + 1 + 1, 1, none⟩ = some (.float .f32 0) := cell_of_row w4 _ 1 _ _ _ hK2
  have f2_1 : w4.frozen? ⟨w.heap.size + 1 + 1, 1, none⟩ = false := frozen_of_row w4 _ 1 _ _ hK2
  have g2_2 : w4.cell? ⟨w.heap.size + 1 + 1, 2, none⟩ = some (.float .f32 0) := cell_of_row w4 _ 2 _ _ _ hK2
  have f2_2 : w4.frozen? ⟨w.heap.size + 1 + 1, 2, none⟩ = false := frozen_of_row w4 _ 2 _ _ hK2
  have l2 : w.heap.size + 1 + 1 < w4.heap.size := (Array.getElem?_eq_some_iff.1 hK2).1
  clear hw4 hx1 hx2 hx3
  go_wp2_with fail
  generalize hWs : ((w4.setCell ⟨w.heap.size + 1 + 1, 0, none⟩ (.float .f32 (greaterF a x))).setCell ⟨w.heap.size + 1 + 1, 1, none⟩ (.float .f32 (greaterF b y))).setCell ⟨w.heap.size + 1 + 1, 2, none⟩ (.float .f32 (greaterF c z)) = w5
  have hS : w5.heap[w.heap.size + 1 + 1]? = some (.cells #[.float .f32 (greaterF a x), .float .f32 (greaterF b y), .float .f32 (greaterF c z)] 26) := by
    subst hWs
    have s0 := heap_setCell_same (w4) _ 0 _ _ (.float .f32 (greaterF a x)) hK2
    have s1 := heap_setCell_same ((w4).setCell ⟨w.heap.size + 1 + 1, 0, none⟩ (.float .f32 (greaterF a x))) _ 1 _ _ (.float .f32 (greaterF b y)) s0
    have s2 := heap_setCell_same (((w4).setCell ⟨w.heap.size + 1 + 1, 0, none⟩ (.float .f32 (greaterF a x))).setCell ⟨w.heap.size + 1 + 1, 1, none⟩ (.float .f32 (greaterF b y))) _ 2 _ _ (.float .f32 (greaterF c z)) s1
    simpa using s2
  have hO : ∀ q, q ≠ w.heap.size + 1 + 1 → w5.heap[q]? = w4.heap[q]? := fun q hq => by subst hWs; rw [heap_setCell_other _ _ _ _ hq, heap_setCell_other _ _ _ _ hq, heap_setCell_other _ _ _ _ hq]
  have hB2 : Below w.heap.size w w5 := by
    subst hWs
    have hle : w.heap.size ≤ w.heap.size + 1 + 1 := by omega
    refine Below.setCell ?_ hle _
    refine Below.setCell ?_ hle _
    refine Below.setCell ?_ hle _
    repeat (first | exact hB1 | refine below_drewN ?_ _)
  clear g0_0 f0_0 g0_1 f0_1 g0_2 f0_2 l0 g1_0 f1_0 g1_1 f1_1 g1_2 f1_2 l1 g2_0 f2_0 g2_1 f2_1 g2_2 f2_2 l2
  replace hK0 := (hO _ (by omega)).trans hK0
  replace hK1 := (hO _ (by omega)).trans hK1
  replace hK2 := hS
  clear hS hO hWs
  have g0_0 : w5.cell? ⟨w.heap.size, 0, none⟩ = some (.float .f32 a) := cell_of_row w5 _ 0 _ _ _ hK0
  have f0_0 : w5.frozen? ⟨w.heap.size, 0, none⟩ = false := frozen_of_row w5 _ 0 _ _ hK0
  have g0_1 : w5.cell? ⟨w.heap.size, 1, none⟩ = some (.float .f32 b) := cell_of_row w5 _ 1 _ _ _ hK0
  have f0_1 : w5.frozen? ⟨w.heap.size, 1, none⟩ = false := frozen_of_row w5 _ 1 _ _ hK0
  have g0_2 : w5.cell? ⟨w.heap.size, 2, none⟩ = some (.float .f32 c) := cell_of_row w5 _ 2 _ _ _ hK0
  have f0_2 : w5.frozen? ⟨w.heap.size, 2, none⟩ = false := frozen_of_row w5 _ 2 _ _ hK0
  have l0 : w.heap.size < w5.heap.size := (Array.getElem?_eq_some_iff.1 hK0).1
  have g1_0 : w5.cell? ⟨w.heap.size + 1, 0, none⟩ = some (.float .f32 x) := cell_of_row w5 _ 0 _ _ _ hK1
  have f1_0 : w5.frozen? ⟨w.heap.size + 1, 0, none⟩ = false := frozen_of_row w5 _ 0 _ _ hK1
  have g1_1 : w5.cell? ⟨w.heap.size + 1, 1, none⟩ = some (.float .f32 y) := cell_of_row w5 _ 1 _ _ _ hK1
  have f1_1 : w5.frozen? ⟨w.heap.size + 1, 1, none⟩ = false := frozen_of_row w5 _ 1 _ _ hK1
  have g1_2 : w5.cell? ⟨w.heap.size + 1, 2, none⟩ = some (.float .f32 z) := cell_of_row w5 _ 2 _ _ _ hK1
  have f1_2 : w5.frozen? ⟨w.heap.size + 1, 2, none⟩ = false := frozen_of_row w5 _ 2 _ _ hK1
  have l1 : w.heap.size + 1 < w5.heap.size := (Array.getElem?_eq_some_iff.1 hK1).1
  have g2_0 : w5.cell? ⟨w.heap.size + 1 + 1, 0, none⟩ = some (.float .f32 (greaterF a x)) := cell_of_row w5 _ 0 _ _ _ hK2
  have f2_0 : w5.frozen? ⟨w.heap.size + 1 + 1, 0, none⟩ = false := frozen_of_row w5 _ 0 _ _ hK2
  have g2_1 : w5.cell? ⟨w.heap.size + 1 + 1, 1, none⟩ = some (.float .f32 (greaterF b y)) := cell_of_row w5 _ 1 _ _ _ hK2
  have f2_1 : w5.frozen? ⟨w.heap.size + 1 + 1, 1, none⟩ = false := frozen_of_row w5 _ 1 _ _ hK2
  have g2_2 : w5.cell? ⟨w.heap.size + 1 + 1, 2, none⟩ = some (.float .f32 (greaterF c z)) := cell_of_row w5 _ 2 _ _ _ hK2
  have f2_2 : w5.frozen? ⟨w.heap.size + 1 + 1, 2, none⟩ = false := frozen_of_row w5 _ 2 _ _ hK2
  have l2 : w.heap.size + 1 + 1 < w5.heap.size := (Array.getElem?_eq_some_iff.1 hK2).1
  exact bodyPost_ret (v := vec (greaterF a x) (greaterF b y) (greaterF c z)) (by simp [results, Try.results18, go_sem, g2_0, g2_1, g2_2]) rfl ⟨rfl, hB2⟩
set_option maxHeartbeats 1000000 in
set_option maxRecDepth 100000 in
theorem l04Low_ok (a b c x y z : Nat) (w : World) :
    Calls Try.prog 17 #[vec a b c, vec x y z] w fun e w' => e = .returned (vec (lesserF a x) (lesserF b y) (lesserF c z)) ∧ Below w.heap.size w w' := by
  go_enter Try.func17, Try.ntmps17
  go_wp2_with fail
  generalize hW0 : ((w.alloc (.cells #[.float .f32 a, .float .f32 b, .float .f32 c] 26)).alloc (.cells #[.float .f32 x, .float .f32 y, .float .f32 z] 26)).alloc (.cells #[.float .f32 0, .float .f32 0, .float .f32 0] 26) = W0
  have hB0 : Below w.heap.size w W0 := by subst hW0; exact by (repeat (first | exact Below.refl _ _ | assumption | refine below_drewN ?_ _ | refine Below.setCell ?_ (by first | omega | (simp <;> omega)) _ | refine Below.alloc ?_ (by first | omega | (simp <;> omega)) _))
  have hK0 : W0.heap[w.heap.size]? = some (.cells #[.float .f32 a, .float .f32 b, .float .f32 c] 26) := by subst hW0; rw [Go.RowKit.Below.heap_alloc _ _ _ (by simp; omega)]; exact heap_alloc2_old _ _ _
  have hK1 : W0.heap[w.heap.size + 1]? = some (.cells #[.float .f32 x, .float .f32 y, .float .f32 z] 26) := by subst hW0; rw [Go.RowKit.Below.heap_alloc _ _ _ (by simp)]; exact heap_alloc2_new _ _ _
  have hK2 : W0.heap[w.heap.size + 1 + 1]? = some (.cells #[.float .f32 0, .float .f32 0, .float .f32 0] 26) := by 
    subst hW0
    have := Go.heap_alloc_new ((w.alloc (.cells #[.float .f32 a, .float .f32 b, .float .f32 c] 26)).alloc (.cells #[.float .f32 x, .float .f32 y, .float .f32 z] 26)) (.cells #[.float .f32 0, .float .f32 0, .float .f32 0] 26)
    simpa using this
  clear hW0
  have hZ0 : w.heap.size + 1 + 1 < W0.heap.size := (Array.getElem?_eq_some_iff.1 hK2).1
  have g0_0 : W0.cell? ⟨w.heap.size, 0, none⟩ = some (.float .f32 a) := cell_of_row W0 _ 0 _ _ _ hK0
  have f0_0 : W0.frozen? ⟨w.heap.size, 0, none⟩ = false := frozen_of_row W0 _ 0 _ _ hK0
  have g0_1 : W0.cell? ⟨w.heap.size, 1, none⟩ = some (.float .f32 b) := cell_of_row W0 _ 1 _ _ _ hK0
  have f0_1 : W0.frozen? ⟨w.heap.size, 1, none⟩ = false := frozen_of_row W0 _ 1 _ _ hK0
  have g0_2 : W0.cell? ⟨w.heap.size, 2, none⟩ = some (.float .f32 c) := cell_of_row W0 _ 2 _ _ _ hK0
  have f0_2 : W0.frozen? ⟨w.heap.size, 2, none⟩ = false := frozen_of_row W0 _ 2 _ _ hK0
  have l0 : w.heap.size < W0.heap.size := (Array.getElem?_eq_some_iff.1 hK0).1
  have g1_0 : W0.cell? ⟨w.heap.size + 1, 0, none⟩ = some (.float .f32 x) := cell_of_row W0 _ 0 _ _ _ hK1
  have f1_0 : W0.frozen? ⟨w.heap.size + 1, 0, none⟩ = false := frozen_of_row W0 _ 0 _ _ hK1
  have g1_1 : W0.cell? ⟨w.heap.size + 1, 1, none⟩ = some (.float .f32 y) := cell_of_row W0 _ 1 _ _ _ hK1
  have f1_1 : W0.frozen? ⟨w.heap.size + 1, 1, none⟩ = false := frozen_of_row W0 _ 1 _ _ hK1
  have g1_2 : W0.cell? ⟨w.heap.size + 1, 2, none⟩ = some (.float .f32 z) := cell_of_row W0 _ 2 _ _ _ hK1
  have f1_2 : W0.frozen? ⟨w.heap.size + 1, 2, none⟩ = false := frozen_of_row W0 _ 2 _ _ hK1
  have l1 : w.heap.size + 1 < W0.heap.size := (Array.getElem?_eq_some_iff.1 hK1).1
  have g2_0 : W0.cell? ⟨w.heap.size + 1 + 1, 0, none⟩ = some (.float .f32 0) := cell_of_row W0 _ 0 _ _ _ hK2
  have f2_0 : W0.frozen? ⟨w.heap.size + 1 + 1, 0, none⟩ = false := frozen_of_row W0 _ 0 _ _ hK2
  have g2_1 : W0.cell? ⟨w.heap.size + 1 + 1, 1, none⟩ = some (.float .f32 0) := cell_of_row W0 _ 1 _ _ _ hK2
  have f2_1 : W0.frozen? ⟨w.heap.size + 1 + 1, 1, none⟩ = false := frozen_of_row W0 _ 1 _ _ hK2
  have g2_2 : W0.cell? ⟨w.heap.size + 1 + 1, 2, none⟩ = some (.float .f32 0) := cell_of_row W0 _ 2 _ _ _ hK2
  have f2_2 : W0.frozen? ⟨w.heap.size + 1 + 1, 2, none⟩ = false := frozen_of_row W0 _ 2 _ _ hK2
  have l2 : w.heap.size + 1 + 1 < W0.heap.size := (Array.getElem?_eq_some_iff.1 hK2).1
  refine wp_region_laterO 16 (SO (QL [(9, fun u => u = Value.float .f32 (lesserF a x)), (14, fun u => u = Value.float .f32 (lesserF b y)), (19, fun u => u = Value.float .f32 (lesserF c z))])) (stays_SO _) (by kernel_rfl) (by kernel_rfl) ?_
  repeat (first | (refine later_exO rfl (fun K hK => ?_); apply Exists.intro; refine ⟨fun w' hw' => ?_, ?_⟩; (obtain ⟨hcc, hff⟩ := Grew.cells hw'; clear hw'; go_simp; rfl); go_simp; refine hK _ ?_; clear hK K))
  (refine later_callO rfl (fun K hK => ?_); go_simp; refine ⟨_, _, fun _ _ => ⟨rfl, rfl⟩, fun w1 hw1 => ?_, fun u y1 hx1 hu => ?_⟩)
  · refine (mLesser_ok _ _ _).mono ?_
    rintro e w2 ⟨rfl, rfl⟩
    exact ⟨_, rfl, rfl, Ext.refl _⟩
  obtain rfl : (fun u => u = Value.float .f32 (lesserF a x)) u := hu
  (refine hK _ _ hx1 ?_; clear hK K)
  repeat (first | (refine later_exO rfl (fun K hK => ?_); apply Exists.intro; refine ⟨fun w' hw' => ?_, ?_⟩; (obtain ⟨hcc, hff⟩ := Grew.cells hw'; clear hw'; go_simp; rfl); go_simp; refine hK _ ?_; clear hK K))
  (refine later_callO rfl (fun K hK => ?_); go_simp; refine ⟨_, _, fun _ _ => ⟨rfl, rfl⟩, fun w1 hw1 => ?_, fun u y2 hx2 hu => ?_⟩)
  · refine (mLesser_ok _ _ _).mono ?_
    rintro e w2 ⟨rfl, rfl⟩
    exact ⟨_, rfl, rfl, Ext.refl _⟩
  obtain rfl : (fun u => u = Value.float .f32 (lesserF b y)) u := hu
  (refine hK _ _ hx2 ?_; clear hK K)
  repeat (first | (refine later_exO rfl (fun K hK => ?_); apply Exists.intro; refine ⟨fun w' hw' => ?_, ?_⟩; (obtain ⟨hcc, hff⟩ := Grew.cells hw'; clear hw'; go_simp; rfl); go_simp; refine hK _ ?_; clear hK K))
  (refine later_callO rfl (fun K hK => ?_); go_simp; refine ⟨_, _, fun _ _ => ⟨rfl, rfl⟩, fun w1 hw1 => ?_, fun u y3 hx3 hu => ?_⟩)
  · refine (mLesser_ok _ _ _).mono ?_
    rintro e w2 ⟨rfl, rfl⟩
    exact ⟨_, rfl, rfl, Ext.refl _⟩
  obtain rfl : (fun u => u = Value.float .f32 (lesserF c z)) u := hu
  (refine hK _ _ hx3 ?_; clear hK K)
  repeat (first | (refine later_exO rfl (fun K hK => ?_); apply Exists.intro; refine ⟨fun w' hw' => ?_, ?_⟩; (obtain ⟨hcc, hff⟩ := Grew.cells hw'; clear hw'; go_simp; rfl); go_simp; refine hK _ ?_; clear hK K))
  refine later_nilO ?_
  intro w4 hw4
  simp only [List.drop_succ_cons, List.drop_zero]
  clear g0_0 f0_0 g0_1 f0_1 g0_2 f0_2 l0 g1_0 f1_0 g1_1 f1_1 g1_2 f1_2 l1 g2_0 f2_0 g2_1 f2_1 g2_2 f2_2 l2
  have hE0 : Ext W0 w4 := (((hx1).trans hx2).trans hx3).trans hw4
  have hB1 : Below w.heap.size w w4 := hB0.trans (hE0.mono hB0.size)
  replace hK0 := hE0.heap hK0
  replace hK1 := hE0.heap hK1
  replace hK2 := hE0.heap hK2
  have g0_0 : w4.cell? ⟨w.heap.size, 0, none⟩ = some (.float .f32 a) := cell_of_row w4 _ 0 _ _ _ hK0
  have f0_0 : w4.frozen? ⟨w.heap.size, 0, none⟩ = false := frozen_of_row w4 _ 0 _ _ hK0
  have g0_1 : w4.cell? ⟨w.heap.size, 1, none⟩ = some (.float .f32 b) := cell_of_row w4 _ 1 _ _ _ hK0
  have f0_1 : w4.frozen? ⟨w.heap.size, 1, none⟩ = false := frozen_of_row w4 _ 1 _ _ hK0
  have g0_2 : w4.cell? ⟨w.heap.size, 2, none⟩ = some (.float .f32 c) := cell_of_row w4 _ 2 _ _ _ hK0
  have f0_2 : w4.frozen? ⟨w.heap.size, 2, none⟩ = false := frozen_of_row w4 _ 2 _ _ hK0
  have l0 : w.heap.size < w4.heap.size := (Array.getElem?_eq_some_iff.1 hK0).1
  have g1_0 : w4.cell? ⟨w.heap.size + 1, 0, none⟩ = some (.float .f32 x) := cell_of_row w4 _ 0 _ _ _ hK1
  have f1_0 : w4.frozen? ⟨w.heap.size + 1, 0, none⟩ = false := frozen_of_row w4 _ 0 _ _ hK1
  have g1_1 : w4.cell? ⟨w.heap.size + 1, 1, none⟩ = some (.float .f32 y) := cell_of_row w4 _ 1 _ _ _ hK1
  have f1_1 : w4.frozen? ⟨w.heap.size + 1, 1, none⟩ = false := frozen_of_row w4 _ 1 _ _ hK1
  have g1_2 : w4.cell? ⟨w.heap.size + 1, 2, none⟩ = some (.float .f32 z) := cell_of_row w4 _ 2 _ _ _ hK1
  have f1_2 : w4.frozen? ⟨w.heap.size + 1, 2, none⟩ = false := frozen_of_row w4 _ 2 _ _ hK1
  have l1 : w.heap.size + 1 < w4.heap.size := (Array.getElem?_eq_some_iff.1 hK1).1
  have g2_0 : w4.cell? ⟨w.heap.size + 1 + 1, 0, none⟩ = some (.float .f32 0) := cell_of_row w4 _ 0 _ _ _ hK2
  have f2_0 : w4.frozen? ⟨w.heap.size + 1 + 1, 0, none⟩ = false := frozen_of_row w4 _ 0 _ _ hK2
  have g2_1 : w4.cell? ⟨w.heap.size + 1 + 1, 1, none⟩ = some (.float .f32 0) := cell_of_row w4 _ 1 _ _ _ hK2
  have f2_1 : w4.frozen? ⟨w.heap.size + 1 + 1, 1, none⟩ = false := frozen_of_row w4 _ 1 _ _ hK2
  have g2_2 : w4.cell? ⟨w.heap.size + 1 + 1, 2, none⟩ = some (.float .f32 0) := cell_of_row w4 _ 2 _ _ _ hK2
  have f2_2 : w4.frozen? ⟨w.heap.size + 1 + 1, 2, none⟩ = false := frozen_of_row w4 _ 2 _ _ hK2
  have l2 : w.heap.size + 1 + 1 < w4.heap.size := (Array.getElem?_eq_some_iff.1 hK2).1
  clear hw4 hx1 hx2 hx3
  go_wp2_with fail
  generalize hWs : ((w4.setCell ⟨w.heap.size + 1 + 1, 0, none⟩ (.float .f32 (lesserF a x))).setCell ⟨w.heap.size + 1 + 1, 1, none⟩ (.float .f32 (lesserF b y))).setCell ⟨w.heap.size + 1 + 1, 2, none⟩ (.float .f32 (lesserF c z)) = w5
  have hS : w5.heap[w.heap.size + 1 + 1]? = some (.cells #[.float .f32 (lesserF a x), .float .f32 (lesserF b y), .float .f32 (lesserF c z)] 26) := by
    subst hWs
    have s0 := heap_setCell_same (w4) _ 0 _ _ (.float .f32 (lesserF a x)) hK2
    have s1 := heap_setCell_same ((w4).setCell ⟨w.heap.size + 1 + 1, 0, none⟩ (.float .f32 (lesserF a x))) _ 1 _ _ (.float .f32 (lesserF b y)) s0
    have s2 := heap_setCell_same (((w4).setCell ⟨w.heap.size + 1 + 1, 0, none⟩ (.float .f32 (lesserF a x))).setCell ⟨w.heap.size + 1 + 1, 1, none⟩ (.float .f32 (lesserF b y))) _ 2 _ _ (.float .f32 (lesserF c z)) s1
    simpa using s2
  have hO : ∀ q, q ≠ w.heap.size + 1 + 1 → w5.heap[q]? = w4.heap[q]? := fun q hq => by subst hWs; rw [heap_setCell_other _ _ _ _ hq, heap_setCell_other _ _ _ _ hq, heap_setCell_other _ _ _ _ hq]
  have hB2 : Below w.heap.size w w5 := by
    subst hWs
    have hle : w.heap.size ≤ w.heap.size + 1 + 1 := by omega
    refine Below.setCell ?_ hle _
    refine Below.setCell ?_ hle _
    refine Below.setCell ?_ hle _
    repeat (first | exact hB1 | refine below_drewN ?_ _)
  clear g0_0 f0_0 g0_1 f0_1 g0_2 f0_2 l0 g1_0 f1_0 g1_1 f1_1 g1_2 f1_2 l1 g2_0 f2_0 g2_1 f2_1 g2_2 f2_2 l2
  replace hK0 := (hO _ (by omega)).trans hK0
  replace hK1 := (hO _ (by omega)).trans hK1
  replace hK2 := hS
  clear hS hO hWs
  have g0_0 : w5.cell? ⟨w.heap.size, 0, none⟩ = some (.float .f32 a) := cell_of_row w5 _ 0 _ _ _ hK0
  have f0_0 : w5.frozen? ⟨w.heap.size, 0, none⟩ = false := frozen_of_row w5 _ 0 _ _ hK0
  have g0_1 : w5.cell? ⟨w.heap.size, 1, none⟩ = some (.float .f32 b) := cell_of_row w5 _ 1 _ _ _ hK0
  have f0_1 : w5.frozen? ⟨w.heap.size, 1, none⟩ = false := frozen_of_row w5 _ 1 _ _ hK0
  have g0_2 : w5.cell? ⟨w.heap.size, 2, none⟩ = some (.float .f32 c) := cell_of_row w5 _ 2 _ _ _ hK0
  have f0_2 : w5.frozen? ⟨w.heap.size, 2, none⟩ = false := frozen_of_row w5 _ 2 _ _ hK0
  have l0 : w.heap.size < w5.heap.size := (Array.getElem?_eq_some_iff.1 hK0).1
  have g1_0 : w5.cell? ⟨w.heap.size + 1, 0, none⟩ = some (.float .f32 x) := cell_of_row w5 _ 0 _ _ _ hK1
  have f1_0 : w5.frozen? ⟨w.heap.size + 1, 0, none⟩ = false := frozen_of_row w5 _ 0 _ _ hK1
  have g1_1 : w5.cell? ⟨w.heap.size + 1, 1, none⟩ = some (.float .f32 y) := cell_of_row w5 _ 1 _ _ _ hK1
  have f1_1 : w5.frozen? ⟨w.heap.size + 1, 1, none⟩ = false := frozen_of_row w5 _ 1 _ _ hK1
  have g1_2 : w5.cell? ⟨w.heap.size + 1, 2, none⟩ = some (.float .f32 z) := cell_of_row w5 _ 2 _ _ _ hK1
  have f1_2 : w5.frozen? ⟨w.heap.size + 1, 2, none⟩ = false := frozen_of_row w5 _ 2 _ _ hK1
  have l1 : w.heap.size + 1 < w5.heap.size := (Array.getElem?_eq_some_iff.1 hK1).1
  have g2_0 : w5.cell? ⟨w.heap.size + 1 + 1, 0, none⟩ = some (.float .f32 (lesserF a x)) := cell_of_row w5 _ 0 _ _ _ hK2
  have f2_0 : w5.frozen? ⟨w.heap.size + 1 + 1, 0, none⟩ = false := frozen_of_row w5 _ 0 _ _ hK2
  have g2_1 : w5.cell? ⟨w.heap.size + 1 + 1, 1, none⟩ = some (.float .f32 (lesserF b y)) := cell_of_row w5 _ 1 _ _ _ hK2
  have f2_1 : w5.frozen? ⟨w.heap.size + 1 + 1, 1, none⟩ = false := frozen_of_row w5 _ 1 _ _ hK2
  have g2_2 : w5.cell? ⟨w.heap.size + 1 + 1, 2, none⟩ = some (.float .f32 (lesserF c z)) := cell_of_row w5 _ 2 _ _ _ hK2
  have f2_2 : w5.frozen? ⟨w.heap.size + 1 + 1, 2, none⟩ = false := frozen_of_row w5 _ 2 _ _ hK2
  have l2 : w.heap.size + 1 + 1 < w5.heap.size := (Array.getElem?_eq_some_iff.1 hK2).1
  exact bodyPost_ret (v := vec (lesserF a x) (lesserF b y) (lesserF c z)) (by simp [results, Try.results17, go_sem, g2_0, g2_1, g2_2]) rfl ⟨rfl, hB2⟩
end Go.Proofs.Ythkokkocdmbcgaa
