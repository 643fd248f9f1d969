/- Chapter 4: greater boxes, cuts of boxes. -/
import Derived.Test.YtaamfjokkphckaaBox2
import Derived.Test.YtaamfjokkphckaaZero
namespace Go.Proofs.Ytaamfjokkphckaa
open Go.Proofs.FX Go.RowKit
def okB (r : B6) : B6 := if boxB r then r else z6
def growM (q : B6) (s : Nat) : B6 := ⟨fop .sub .f32 q.a s, fop .sub .f32 q.b s, fop .sub .f32 q.c s, fop .add .f32 q.x s, fop .add .f32 q.y s, fop .add .f32 q.z s⟩
def cutM (p q : B6) : B6 := ⟨greaterF p.a q.a, greaterF p.b q.b, greaterF p.c q.c, lesserF p.x q.x, lesserF p.y q.y, lesserF p.z q.z⟩
def onlyIf (v : Bool) (r : B6) : B6 := if v then okB r else z6
/-- A box whose numbers are the same as these, and a truth. -/
def BxV (q : B6) (v : Bool) (w : World) (e : Ending) (w' : World) : Prop := ∃ r : B6, e = .returned (.tuple #[r.v, .bool v]) ∧ r.Lt ∧ B6.Eq r q ∧ Below w.heap.size w w'
/-- A box that is given if it is valid. -/
def TB (q : B6) (u : Value) : Prop := ∃ r : B6, u = .tuple #[(okB r).v, .bool (boxB r)] ∧ r.Lt ∧ B6.Eq r q
theorem z6_lt : z6.Lt := ⟨by decide, by decide, by decide, by decide, by decide, by decide⟩
theorem okB_lt {r : B6} (h : r.Lt) : (okB r).Lt := by unfold okB; split; exact h; exact z6_lt
theorem okB_eq {r q : B6} (h : B6.Eq r q) : B6.Eq (okB r) (okB q) := by unfold okB; rw [boxB_eqv h]; split; exact h; exact B6.Eq.refl _
theorem cutM_lt {p q : B6} (hp : p.Lt) (hq : q.Lt) : (cutM p q).Lt := ⟨greater_lt hp.a hq.a, greater_lt hp.b hq.b, greater_lt hp.c hq.c, lesser_lt hp.x hq.x, lesser_lt hp.y hq.y, lesser_lt hp.z hq.z⟩

set_option maxRecDepth 100000 in
theorem greater_ok (a b : Nat) (w : World) :
    Calls Try.prog 41 #[.float .f32 a, .float .f32 b] w fun e w' => e = .returned (.float .f32 (greaterF a b)) ∧ w = w' := by
  unfold greaterF fgt
  cases h : (FloatKind.f32.format.order b a == some .gt) <;>
  · go_enter Try.func41, Try.ntmps41
    go_wp2_with fail
    go_ret
    exact ⟨by simp, rfl⟩
set_option maxRecDepth 100000 in
theorem lesser_ok (a b : Nat) (w : World) :
    Calls Try.prog 60 #[.float .f32 a, .float .f32 b] w fun e w' => e = .returned (.float .f32 (lesserF a b)) ∧ w = w' := by
  unfold lesserF flt
  cases h : (FloatKind.f32.format.order b a == some .lt) <;>
  · go_enter Try.func60, Try.ntmps60
    go_wp2_with fail
    go_ret
    exact ⟨by simp, rfl⟩
set_option maxRecDepth 100000 in
theorem mGreater_ok (a b : Nat) (w : World) :
    Calls Try.prog 64 #[.float .f32 a, .float .f32 b] w fun e w' => e = .returned (.float .f32 (greaterF a b)) ∧ w = w' := by
  unfold greaterF fgt
  cases h : (FloatKind.f32.format.order b a == some .gt) <;>
  · go_enter Try.func64, Try.ntmps64
    go_wp2_with fail
    go_ret
    exact ⟨by simp, rfl⟩
set_option maxRecDepth 100000 in
theorem mLesser_ok (a b : Nat) (w : World) :
    Calls Try.prog 77 #[.float .f32 a, .float .f32 b] w fun e w' => e = .returned (.float .f32 (lesserF a b)) ∧ w = w' := by
  unfold lesserF flt
  cases h : (FloatKind.f32.format.order b a == some .lt) <;>
  · go_enter Try.func77, Try.ntmps77
    go_wp2_with fail
    go_ret
    exact ⟨by simp, rfl⟩
set_option maxHeartbeats 1000000 in
set_option maxRecDepth 100000 in
theorem byGreater_ok (a b c x y z : Nat) (w : World) :
    Calls Try.prog 59 #[.func (.func 41) #[] #[], vec a b c, vec x y z] w fun e w' => e = .returned (vec (greaterF a x) (greaterF b y) (greaterF c z)) ∧ Below w.heap.size w w' := by
  go_enter Try.func59, Try.ntmps59
  go_wp2_with fail
  generalize hW0 : ((w.alloc (.cells #[.float .f32 a, .float .f32 b, .float .f32 c] 28)).alloc (.cells #[.float .f32 x, .float .f32 y, .float .f32 z] 28)).alloc (.cells #[.float .f32 0, .float .f32 0, .float .f32 0] 28) = W0
  have hB0 : Below w.heap.size w W0 := by subst hW0; exact by (repeat (first | exact Below.refl _ _ | assumption | refine below_drewN ?_ _ | refine Below.setCell ?_ (by first | omega | (simp <;> omega)) _ | refine Below.alloc ?_ (by first | omega | (simp <;> omega)) _))
  have hK0 : W0.heap[w.heap.size]? = some (.cells #[.float .f32 a, .float .f32 b, .float .f32 c] 28) := by subst hW0; rw [Go.RowKit.Below.heap_alloc _ _ _ (by simp; omega)]; exact heap_alloc2_old _ _ _
  have hK1 : W0.heap[w.heap.size + 1]? = some (.cells #[.float .f32 x, .float .f32 y, .float .f32 z] 28) := by subst hW0; rw [Go.RowKit.Below.heap_alloc _ _ _ (by simp)]; exact heap_alloc2_new _ _ _
  have hK2 : W0.heap[w.heap.size + 1 + 1]? = some (.cells #[.float .f32 0, .float .f32 0, .float .f32 0] 28) := by 
    subst hW0
    have := Go.heap_alloc_new ((w.alloc (.cells #[.float .f32 a, .float .f32 b, .float .f32 c] 28)).alloc (.cells #[.float .f32 x, .float .f32 y, .float .f32 z] 28)) (.cells #[.float .f32 0, .float .f32 0, .float .f32 0] 28)
    simpa using this
  clear hW0
  have hZ0 : w.heap.size + 1 + 1 < W0.heap.size := (Array.getElem?_eq_some_iff.1 hK2).1
  have g0_0 : W0.cell? ⟨w.heap.size, 0, none⟩ = some (.float .f32 a) := cell_of_row W0 _ 0 _ _ _ hK0
  have f0_0 : W0.frozen? ⟨w.heap.size, 0, none⟩ = false := frozen_of_row W0 _ 0 _ _ hK0
  have g0_1 : W0.cell? ⟨w.heap.size, 1, none⟩ = some (.float .f32 b) := cell_of_row W0 _ 1 _ _ _ hK0
  have f0_1 : W0.frozen? ⟨w.heap.size, 1, none⟩ = false := frozen_of_row W0 _ 1 _ _ hK0
  have g0_2 : W0.cell? ⟨w.heap.size, 2, none⟩ = some (.float .f32 c) := cell_of_row W0 _ 2 _ _ _ hK0
  have f0_2 : W0.frozen? ⟨w.heap.size, 2, none⟩ = false := frozen_of_row W0 _ 2 _ _ hK0
  have l0 : w.heap.size < W0.heap.size := (Array.getElem?_eq_some_iff.1 hK0).1
  have g1_0 : W0.cell? ⟨w.heap.size + 1, 0, none⟩ = some (.float .f32 x) := cell_of_row W0 _ 0 _ _ _ hK1
  have f1_0 : W0.frozen? ⟨w.heap.size + 1, 0, none⟩ = false := frozen_of_row W0 _ 0 _ _ hK1
  have g1_1 : W0.cell? ⟨w.heap.size + 1, 1, none⟩ = some (.float .f32 y) := cell_of_row W0 _ 1 _ _ _ hK1
  have f1_1 : W0.frozen? ⟨w.heap.size + 1, 1, none⟩ = false := frozen_of_row W0 _ 1 _ _ hK1
  have g1_2 : W0.cell? ⟨w.heap.size + 1, 2, none⟩ = some (.float .f32 z) := cell_of_row W0 _ 2 _ _ _ hK1
  have f1_2 : W0.frozen? ⟨w.heap.size + 1, 2, none⟩ = false := frozen_of_row W0 _ 2 _ _ hK1
  have l1 : w.heap.size + 1 < W0.heap.size := (Array.getElem?_eq_some_iff.1 hK1).1
  have g2_0 : W0.cell? ⟨w.heap.size + 1 + 1, 0, none⟩ = some (.float .f32 0) := cell_of_row W0 _ 0 _ _ _ hK2
  have f2_0 : W0.frozen? ⟨w.heap.size + 1 + 1, 0, none⟩ = false := frozen_of_row W0 _ 0 _ _ hK2
  have g2_1 : W0.cell? ⟨w.heap.size + 1 + 1, 1, none⟩ = some (.float .f32 0) := cell_of_row W0 _ 1 _ _ _ hK2
  have f2_1 : W0.frozen? ⟨w.heap.size + 1 + 1, 1, none⟩ = false := frozen_of_row W0 _ 1 _ _ hK2
  have g2_2 : W0.cell? ⟨w.heap.size + 1 + 1, 2, none⟩ = some (.float .f32 0) := cell_of_row W0 _ 2 _ _ _ hK2
  have f2_2 : W0.frozen? ⟨w.heap.size + 1 + 1, 2, none⟩ = false := frozen_of_row W0 _ 2 _ _ hK2
  have l2 : w.heap.size + 1 + 1 < W0.heap.size := (Array.getElem?_eq_some_iff.1 hK2).1
  refine wp_region_laterO 19 (SO (QL [(12, fun u => u = Value.float .f32 (greaterF a x)), (18, fun u => u = Value.float .f32 (greaterF b y)), (24, fun u => u = Value.float .f32 (greaterF c z))])) (stays_SO _) (by kernel_rfl) (by kernel_rfl) ?_
  repeat (first | (refine later_exO rfl (fun K hK => ?_); apply Exists.intro; refine ⟨fun w' hw' => ?_, ?_⟩; (obtain ⟨hcc, hff⟩ := Grew.cells hw'; clear hw'; go_simp; rfl); go_simp; refine hK _ ?_; clear hK K))
  (refine later_callO rfl (fun K hK => ?_); go_simp; refine ⟨_, _, fun _ _ => ⟨rfl, rfl⟩, fun w1 hw1 => ?_, fun u y1 hx1 hu => ?_⟩)
  · refine (greater_ok _ _ _).mono ?_
    rintro e w2 ⟨rfl, rfl⟩
    exact ⟨_, rfl, rfl, Ext.refl _⟩
  obtain rfl : (fun u => u = Value.float .f32 (greaterF a x)) u := hu
  (refine hK _ _ hx1 ?_; clear hK K)
  repeat (first | (refine later_exO rfl (fun K hK => ?_); apply Exists.intro; refine ⟨fun w' hw' => ?_, ?_⟩; (obtain ⟨hcc, hff⟩ := Grew.cells hw'; clear hw'; go_simp; rfl); go_simp; refine hK _ ?_; clear hK K))
  (refine later_callO rfl (fun K hK => ?_); go_simp; refine ⟨_, _, fun _ _ => ⟨rfl, rfl⟩, fun w1 hw1 => ?_, fun u y2 hx2 hu => ?_⟩)
  · refine (greater_ok _ _ _).mono ?_
    rintro e w2 ⟨rfl, rfl⟩
    exact ⟨_, rfl, rfl, Ext.refl _⟩
  obtain rfl : (fun u => u = Value.float .f32 (greaterF b y)) u := hu
  (refine hK _ _ hx2 ?_; clear hK K)
  repeat (first | (refine later_exO rfl (fun K hK => ?_); apply Exists.intro; refine ⟨fun w' hw' => ?_, ?_⟩; (obtain ⟨hcc, hff⟩ := Grew.cells hw'; clear hw'; go_simp; rfl); go_simp; refine hK _ ?_; clear hK K))
  (refine later_callO rfl (fun K hK => ?_); go_simp; refine ⟨_, _, fun _ _ => ⟨rfl, rfl⟩, fun w1 hw1 => ?_, fun u y3 hx3 hu => ?_⟩)
  · refine (greater_ok _ _ _).mono ?_
    rintro e w2 ⟨rfl, rfl⟩
    exact ⟨_, rfl, rfl, Ext.refl _⟩
  obtain rfl : (fun u => u = Value.float .f32 (greaterF c z)) u := hu
  (refine hK _ _ hx3 ?_; clear hK K)
  repeat (first | (refine later_exO rfl (fun K hK => ?_); apply Exists.intro; refine ⟨fun w' hw' => ?_, ?_⟩; (obtain ⟨hcc, hff⟩ := Grew.cells hw'; clear hw'; go_simp; rfl); go_simp; refine hK _ ?_; clear hK K))
  refine later_nilO ?_
  intro w4 hw4
  simp only [List.drop_succ_cons, List.drop_zero]
  clear g0_0 f0_0 g0_1 f0_1 g0_2 f0_2 l0 g1_0 f1_0 g1_1 f1_1 g1_2 f1_2 l1 g2_0 f2_0 g2_1 f2_1 g2_2 f2_2 l2
  have hE0 : Ext W0 w4 := (((hx1).trans hx2).trans hx3).trans hw4
  have hB1 : Below w.heap.size w w4 := hB0.trans (hE0.mono hB0.size)
  replace hK0 := hE0.heap hK0
  replace hK1 := hE0.heap hK1
  replace hK2 := hE0.heap hK2
  have g0_0 : w4.cell? ⟨w.heap.size, 0, none⟩ = some (.float .f32 a) := cell_of_row w4 _ 0 _ _ _ hK0
  have f0_0 : w4.frozen? ⟨w.heap.size, 0, none⟩ = false := frozen_of_row w4 _ 0 _ _ hK0
  have g0_1 : w4.cell? ⟨w.heap.size, 1, none⟩ = some (.float .f32 b) := cell_of_row w4 _ 1 _ _ _ hK0
  have f0_1 : w4.frozen? ⟨w.heap.size, 1, none⟩ = false := frozen_of_row w4 _ 1 _ _ hK0
  have g0_2 : w4.cell? ⟨w.heap.size, 2, none⟩ = some (.float .f32 c) := cell_of_row w4 _ 2 _ _ _ hK0
  have f0_2 : w4.frozen? ⟨w.heap.size, 2, none⟩ = false := frozen_of_row w4 _ 2 _ _ hK0
  have l0 : w.heap.size < w4.heap.size := (Array.getElem?_eq_some_iff.1 hK0).1
  have g1_0 : w4.cell? ⟨w.heap.size + 1, 0, none⟩ = some (.float .f32 x) := cell_of_row w4 _ 0 _ _ _ hK1
  have f1_0 : w4.frozen? ⟨w.heap.size + 1, 0, none⟩ = false := frozen_of_row w4 _ 0 _ _ hK1
  have g1_1 : w4.cell? ⟨w.heap.size + 1, 1, none⟩ = some (.float .f32 y) := cell_of_row w4 _ 1 _ _ _ hK1
  have f1_1 : w4.frozen? ⟨w.heap.size + 1, 1, none⟩ = false := frozen_of_row w4 _ 1 _ _ hK1
  have g1_2 : w4.cell? ⟨w.heap.size + 1, 2, none⟩ = some (.float .f32 z) := cell_of_row w4 _ 2 _ _ _ hK1
  have f1_2 : w4.frozen? ⟨w.heap.size + 1, 2, none⟩ = false := frozen_of_row w4 _ 2 _ _ hK1
  have l1 : w.heap.size + 1 < w4.heap.size := (Array.getElem?_eq_some_iff.1 hK1).1
  have g2_0 : w4.cell? ⟨w.heap.size + 1 + 1, 0, none⟩ = some (.float .f32 0) := cell_of_row w4 _ 0 _ _ _ hK2
  have f2_0 : w4.frozen? ⟨w.heap.size + 1 + 1, 0, none⟩ = false := frozen_of_row w4 _ 0 _ _ hK2
  have g2_1 : w4.cell? ⟨w.heap.size + 1 + 1, 1, none⟩ = some (.float .f32 0) := cell_of_row w4 _ 1 _ _ _ hK2
  have f2_1 : w4.frozen? ⟨w.heap.size + 1 + 1, 1, none⟩ = false := frozen_of_row w4 _ 1 _ _ hK2
  have g2_2 : w4.cell? ⟨w.heap.size + 1 + 1, 2, none⟩ = some (.float .f32 0) := cell_of_row w4 _ 2 _ _ _ hK2
  have f2_2 : w4.frozen? ⟨w.heap.size + 1 + 1, 2, none⟩ = false := frozen_of_row w4 _ 2 _ _ hK2
  have l2 : w.heap.size + 1 + 1 < w4.heap.size := (Array.getElem?_eq_some_iff.1 hK2).1
  clear hw4 hx1 hx2 hx3
  go_wp2_with fail
  generalize hWs : ((w4.setCell ⟨w.heap.size + 1 + 1, 0, none⟩ (.float .f32 (greaterF a x))).setCell ⟨w.heap.size + 1 + 1, 1, none⟩ (.float .f32 (greaterF b y))).setCell ⟨w.heap.size + 1 + 1, 2, none⟩ (.float .f32 (greaterF c z)) = w5
  have hS : w5.heap[w.heap.size + 1 + 1]? = some (.cells #[.float .f32 (greaterF a x), .float .f32 (greaterF b y), .float .f32 (greaterF c z)] 28) := by
    subst hWs
    have s0 := heap_setCell_same (w4) _ 0 _ _ (.float .f32 (greaterF a x)) hK2
    have s1 := heap_setCell_same ((w4).setCell ⟨w.heap.size + 1 + 1, 0, none⟩ (.float .f32 (greaterF a x))) _ 1 _ _ (.float .f32 (greaterF b y)) s0
    have s2 := heap_setCell_same (((w4).setCell ⟨w.heap.size + 1 + 1, 0, none⟩ (.float .f32 (greaterF a x))).setCell ⟨w.heap.size + 1 + 1, 1, none⟩ (.float .f32 (greaterF b y))) _ 2 _ _ (.float .f32 (greaterF c z)) s1
    simpa using s2
  have hO : ∀ q, q ≠ w.heap.size + 1 + 1 → w5.heap[q]? = w4.heap[q]? := fun q hq => by subst hWs; rw [heap_setCell_other _ _ _ _ hq, heap_setCell_other _ _ _ _ hq, heap_setCell_other _ _ _ _ hq]
  have hB2 : Below w.heap.size w w5 := by
    subst hWs
    have hle : w.heap.size ≤ w.heap.size + 1 + 1 := by omega
    refine Below.setCell ?_ hle _
    refine Below.setCell ?_ hle _
    refine Below.setCell ?_ hle _
    repeat (first | exact hB1 | refine below_drewN ?_ _)
  clear g0_0 f0_0 g0_1 f0_1 g0_2 f0_2 l0 g1_0 f1_0 g1_1 f1_1 g1_2 f1_2 l1 g2_0 f2_0 g2_1 f2_1 g2_2 f2_2 l2
  replace hK0 := (hO _ (by omega)).trans hK0
  replace hK1 := (hO _ (by omega)).trans hK1
  replace hK2 := hS
  clear hS hO hWs
  have g0_0 : w5.cell? ⟨w.heap.size, 0, none⟩ = some (.float .f32 a) := cell_of_row w5 _ 0 _ _ _ hK0
  have f0_0 : w5.frozen? ⟨w.heap.size, 0, none⟩ = false := frozen_of_row w5 _ 0 _ _ hK0
  have g0_1 : w5.cell? ⟨w.heap.size, 1, none⟩ = some (.float .f32 b) := cell_of_row w5 _ 1 _ _ _ hK0
  have f0_1 : w5.frozen? ⟨w.heap.size, 1, none⟩ = false := frozen_of_row w5 _ 1 _ _ hK0
  have g0_2 : w5.cell? ⟨w.heap.size, 2, none⟩ = some (.float .f32 c) := cell_of_row w5 _ 2 _ _ _ hK0
  have f0_2 : w5.frozen? ⟨w.heap.size, 2, none⟩ = false := frozen_of_row w5 _ 2 _ _ hK0
  have l0 : w.heap.size < w5.heap.size := (Array.getElem?_eq_some_iff.1 hK0).1
  have g1_0 : w5.cell? ⟨w.heap.size + 1, 0, none⟩ = some (.float .f32 x) := cell_of_row w5 _ 0 _ _ _ hK1
  have f1_0 : w5.frozen? ⟨w.heap.size + 1, 0, none⟩ = false := frozen_of_row w5 _ 0 _ _ hK1
  have g1_1 : w5.cell? ⟨w.heap.size + 1, 1, none⟩ = some (.float .f32 y) := cell_of_row w5 _ 1 _ _ _ hK1
  have f1_1 : w5.frozen? ⟨w.heap.size + 1, 1, none⟩ = false := frozen_of_row w5 _ 1 _ _ hK1
  have g1_2 : w5.cell? ⟨w.heap.size + 1, 2, none⟩ = some (.float .f32 z) := cell_of_row w5 _ 2 _ _ _ hK1
  have f1_2 : w5.frozen? ⟨w.heap.size + 1, 2, none⟩ = false := frozen_of_row w5 _ 2 _ _ hK1
  have l1 : w.heap.size + 1 < w5.heap.size := (Array.getElem?_eq_some_iff.1 hK1).1
  have g2_0 : w5.cell? ⟨w.heap.size + 1 + 1, 0, none⟩ = some (.float .f32 (greaterF a x)) := cell_of_row w5 _ 0 _ _ _ hK2
  have f2_0 : w5.frozen? ⟨w.heap.size + 1 + 1, 0, none⟩ = false := frozen_of_row w5 _ 0 _ _ hK2
  have g2_1 : w5.cell? ⟨w.heap.size + 1 + 1, 1, none⟩ = some (.float .f32 (greaterF b y)) := cell_of_row w5 _ 1 _ _ _ hK2
  have f2_1 : w5.frozen? ⟨w.heap.size + 1 + 1, 1, none⟩ = false := frozen_of_row w5 _ 1 _ _ hK2
  have g2_2 : w5.cell? ⟨w.heap.size + 1 + 1, 2, none⟩ = some (.float .f32 (greaterF c z)) := cell_of_row w5 _ 2 _ _ _ hK2
  have f2_2 : w5.frozen? ⟨w.heap.size + 1 + 1, 2, none⟩ = false := frozen_of_row w5 _ 2 _ _ hK2
  have l2 : w.heap.size + 1 + 1 < w5.heap.size := (Array.getElem?_eq_some_iff.1 hK2).1
  exact bodyPost_ret (v := vec (greaterF a x) (greaterF b y) (greaterF c z)) (by simp [results, Try.results59, go_sem, g2_0, g2_1, g2_2]) rfl ⟨rfl, hB2⟩
set_option maxHeartbeats 1000000 in
set_option maxRecDepth 100000 in
theorem byLesser_ok (a b c x y z : Nat) (w : World) :
    Calls Try.prog 59 #[.func (.func 60) #[] #[], vec a b c, vec x y z] w fun e w' => e = .returned (vec (lesserF a x) (lesserF b y) (lesserF c z)) ∧ Below w.heap.size w w' := by
  go_enter Try.func59, Try.ntmps59
  go_wp2_with fail
  generalize hW0 : ((w.alloc (.cells #[.float .f32 a, .float .f32 b, .float .f32 c] 28)).alloc (.cells #[.float .f32 x, .float .f32 y, .float .f32 z] 28)).alloc (.cells #[.float .f32 0, .float .f32 0, .float .f32 0] 28) = W0
  have hB0 : Below w.heap.size w W0 := by subst hW0; exact by (repeat (first | exact Below.refl _ _ | assumption | refine below_drewN ?_ _ | refine Below.setCell ?_ (by first | omega | (simp <;> omega)) _ | refine Below.alloc ?_ (by first | omega | (simp <;> omega)) _))
  have hK0 : W0.heap[w.heap.size]? = some (.cells #[.float .f32 a, .float .f32 b, .float .f32 c] 28) := by subst hW0; rw [Go.RowKit.Below.heap_alloc _ _ _ (by simp; omega)]; exact heap_alloc2_old _ _ _
  have hK1 : W0.heap[w.heap.size + 1]? = some (.cells #[.float .f32 x, .float .f32 y, .float .f32 z] 28) := by subst hW0; rw [Go.RowKit.Below.heap_alloc _ _ _ (by simp)]; exact heap_alloc2_new _ _ _
  have hK2 : W0.heap[w.heap.size + 1 + 1]? = some (.cells #[.float .f32 0, .float .f32 0, .float .f32 0] 28) := by 
    subst hW0
    have := Go.heap_alloc_new ((w.alloc (.cells #[.float .f32 a, .float .f32 b, .float .f32 c] 28)).alloc (.cells #[.float .f32 x, .float .f32 y, .float .f32 z] 28)) (.cells #[.float .f32 0, .float .f32 0, .float .f32 0] 28)
    simpa using this
  clear hW0
  have hZ0 : w.heap.size + 1 + 1 < W0.heap.size := (Array.getElem?_eq_some_iff.1 hK2).1
  have g0_0 : W0.cell? ⟨w.heap.size, 0, none⟩ = some (.float .f32 a) := cell_of_row W0 _ 0 _ _ _ hK0
  have f0_0 : W0.frozen? ⟨w.heap.size, 0, none⟩ = false := frozen_of_row W0 _ 0 _ _ hK0
  have g0_1 : W0.cell? ⟨w.heap.size, 1, none⟩ = some (.float .f32 b) := cell_of_row W0 _ 1 _ _ _ hK0
  have f0_1 : W0.frozen? ⟨w.heap.size, 1, none⟩ = false := frozen_of_row W0 _ 1 _ _ hK0
  have g0_2 : W0.cell? ⟨w.heap.size, 2, none⟩ = some (.float .f32 c) := cell_of_row W0 _ 2 _ _ _ hK0
  have f0_2 : W0.frozen? ⟨w.heap.size, 2, none⟩ = false := frozen_of_row W0 _ 2 _ _ hK0
  have l0 : w.heap.size < W0.heap.size := (Array.getElem?_eq_some_iff.1 hK0).1
  have g1_0 : W0.cell? ⟨w.heap.size + 1, 0, none⟩ = some (.float .f32 x) := cell_of_row W0 _ 0 _ _ _ hK1
  have f1_0 : W0.frozen? ⟨w.heap.size + 1, 0, none⟩ = false := frozen_of_row W0 _ 0 _ _ hK1
  have g1_1 : W0.cell? ⟨w.heap.size + 1, 1, none⟩ = some (.float .f32 y) := cell_of_row W0 _ 1 _ _ _ hK1
  have f1_1 : W0.frozen? ⟨w.heap.size + 1, 1, none⟩ = false := frozen_of_row W0 _ 1 _ _ hK1
  have g1_2 : W0.cell? ⟨w.heap.size + 1, 2, none⟩ = some (.float .f32 z) := cell_of_row W0 _ 2 _ _ _ hK1
  have f1_2 : W0.frozen? ⟨w.heap.size + 1, 2, none⟩ = false := frozen_of_row W0 _ 2 _ _ hK1
  have l1 : w.heap.size + 1 < W0.heap.size := (Array.getElem?_eq_some_iff.1 hK1).1
  have g2_0 : W0.cell? ⟨w.heap.size + 1 + 1, 0, none⟩ = some (.float .f32 0) := cell_of_row W0 _ 0 _ _ _ hK2
  have f2_0 : W0.frozen? ⟨w.heap.size + 1 + 1, 0, none⟩ = false := frozen_of_row W0 _ 0 _ _ hK2
  have g2_1 : W0.cell? ⟨w.heap.size + 1 + 1, 1, none⟩ = some (.float .f32 0) := cell_of_row W0 _ 1 _ _ _ hK2
  have f2_1 : W0.frozen? ⟨w.heap.size + 1 + 1, 1, none⟩ = false := frozen_of_row W0 _ 1 _ _ hK2
  have g2_2 : W0.cell? ⟨w.heap.size + 1 + 1, 2, none⟩ = some (.float .f32 0) := cell_of_row W0 _ 2 _ _ _ hK2
  have f2_2 : W0.frozen? ⟨w.heap.size + 1 + 1, 2, none⟩ = false := frozen_of_row W0 _ 2 _ _ hK2
  have l2 : w.heap.size + 1 + 1 < W0.heap.size := (Array.getElem?_eq_some_iff.1 hK2).1
  refine wp_region_laterO 19 (SO (QL [(12, fun u => u = Value.float .f32 (lesserF a x)), (18, fun u => u = Value.float .f32 (lesserF b y)), (24, fun u => u = Value.float .f32 (lesserF c z))])) (stays_SO _) (by kernel_rfl) (by kernel_rfl) ?_
  repeat (first | (refine later_exO rfl (fun K hK => ?_); apply Exists.intro; refine ⟨fun w' hw' => ?_, ?_⟩; (obtain ⟨hcc, hff⟩ := Grew.cells hw'; clear hw'; go_simp; rfl); go_simp; refine hK _ ?_; clear hK K))
  (refine later_callO rfl (fun K hK => ?_); go_simp; refine ⟨_, _, fun _ _ => ⟨rfl, rfl⟩, fun w1 hw1 => ?_, fun u y1 hx1 hu => ?_⟩)
  · refine (lesser_ok _ _ _).mono ?_
    rintro e w2 ⟨rfl, rfl⟩
    exact ⟨_, rfl, rfl, Ext.refl _⟩
  obtain rfl : (fun u => u = Value.float .f32 (lesserF a x)) u := hu
  (refine hK _ _ hx1 ?_; clear hK K)
  repeat (first | (refine later_exO rfl (fun K hK => ?_); apply Exists.intro; refine ⟨fun w' hw' => ?_, ?_⟩; (obtain ⟨hcc, hff⟩ := Grew.cells hw'; clear hw'; go_simp; rfl); go_simp; refine hK _ ?_; clear hK K))
  (refine later_callO rfl (fun K hK => ?_); go_simp; refine ⟨_, _, fun _ _ => ⟨rfl, rfl⟩, fun w1 hw1 => ?_, fun u y2 hx2 hu => ?_⟩)
  · refine (lesser_ok _ _ _).mono ?_
    rintro e w2 ⟨rfl, rfl⟩
    exact ⟨_, rfl, rfl, Ext.refl _⟩
  obtain rfl : (fun u => u = Value.float .f32 (lesserF b y)) u := hu
  (refine hK _ _ hx2 ?_; clear hK K)
  repeat (first | (refine later_exO rfl (fun K hK => ?_); apply Exists.intro; refine ⟨fun w' hw' => ?_, ?_⟩; (obtain ⟨hcc, hff⟩ := Grew.cells hw'; clear hw'; go_simp; rfl); go_simp; refine hK _ ?_; clear hK K))
  (refine later_callO rfl (fun K hK => ?_); go_simp; refine ⟨_, _, fun _ _ => ⟨rfl, rfl⟩, fun w1 hw1 => ?_, fun u y3 hx3 hu => ?_⟩)
  · refine (lesser_ok _ _ _).mono ?_
    rintro e w2 ⟨rfl, rfl⟩
    exact ⟨_, rfl, rfl, Ext.refl _⟩
  obtain rfl : (fun u => u = Value.float .f32 (lesserF c z)) u := hu
  (refine hK _ _ hx3 ?_; clear hK K)
  repeat (first | (refine later_exO rfl (fun K hK => ?_); apply Exists.intro; refine ⟨fun w' hw' => ?_, ?_⟩; (obtain ⟨hcc, hff⟩ := Grew.cells hw'; clear hw'; go_simp; rfl); go_simp; refine hK _ ?_; clear hK K))
  refine later_nilO ?_
  intro w4 hw4
  simp only [List.drop_succ_cons, List.drop_zero]
  clear g0_0 f0_0 g0_1 f0_1 g0_2 f0_2 l0 g1_0 f1_0 g1_1 f1_1 g1_2 f1_2 l1 g2_0 f2_0 g2_1 f2_1 g2_2 f2_2 l2
  have hE0 : Ext W0 w4 := (((hx1).trans hx2).trans hx3).trans hw4
  have hB1 : Below w.heap.size w w4 := hB0.trans (hE0.mono hB0.size)
  replace hK0 := hE0.heap hK0
  replace hK1 := hE0.heap hK1
  replace hK2 := hE0.heap hK2
  have g0_0 : w4.cell? ⟨w.heap.size, 0, none⟩ = some (.float .f32 a) := cell_of_row w4 _ 0 _ _ _ hK0
  have f0_0 : w4.frozen? ⟨w.heap.size, 0, none⟩ = false := frozen_of_row w4 _ 0 _ _ hK0
  have g0_1 : w4.cell? ⟨w.heap.size, 1, none⟩ = some (.float .f32 b) := cell_of_row w4 _ 1 _ _ _ hK0
  have f0_1 : w4.frozen? ⟨w.heap.size, 1, none⟩ = false := frozen_of_row w4 _ 1 _ _ hK0
  have g0_2 : w4.cell? ⟨w.heap.size, 2, none⟩ = some (.float .f32 c) := cell_of_row w4 _ 2 _ _ _ hK0
  have f0_2 : w4.frozen? ⟨w.heap.size, 2, none⟩ = false := frozen_of_row w4 _ 2 _ _ hK0
  have l0 : w.heap.size < w4.heap.size := (Array.getElem?_eq_some_iff.1 hK0).1
  have g1_0 : w4.cell? ⟨w.heap.size + 1, 0, none⟩ = some (.float .f32 x) := cell_of_row w4 _ 0 _ _ _ hK1
  have f1_0 : w4.frozen? ⟨w.heap.size + 1, 0, none⟩ = false := frozen_of_row w4 _ 0 _ _ hK1
  have g1_1 : w4.cell? ⟨w.heap.size + 1, 1, none⟩ = some (.float .f32 y) := cell_of_row w4 _ 1 _ _ _ hK1
  have f1_1 : w4.frozen? ⟨w.heap.size + 1, 1, none⟩ = false := frozen_of_row w4 _ 1 _ _ hK1
  have g1_2 : w4.cell? ⟨w.heap.size + 1, 2, none⟩ = some (.float .f32 z) := cell_of_row w4 _ 2 _ _ _ hK1
  have f1_2 : w4.frozen? ⟨w.heap.size + 1, 2, none⟩ = false := frozen_of_row w4 _ 2 _ _ hK1
  have l1 : w.heap.size + 1 < w4.heap.size := (Array.getElem?_eq_some_iff.1 hK1).1
  have g2_0 : w4.cell? ⟨w.heap.size + 1 + 1, 0, none⟩ = some (.float .f32 0) := cell_of_row w4 _ 0 _ _ _ hK2
  have f2_0 : w4.frozen? ⟨w.heap.size + 1 + 1, 0, none⟩ = false := frozen_of_row w4 _ 0 _ _ hK2
  have g2_1 : w4.cell? ⟨w.heap.size + 1 + 1, 1, none⟩ = some (.float .f32 0) := cell_of_row w4 _ 1 _ _ _ hK2
  have f2_1 : w4.frozen? ⟨w.heap.size + 1 + 1, 1, none⟩ = false := frozen_of_row w4 _ 1 _ _ hK2
  have g2_2 : w4.cell? ⟨w.heap.size + 1 + 1, 2, none⟩ = some (.float .f32 0) := cell_of_row w4 _ 2 _ _ _ hK2
  have f2_2 : w4.frozen? ⟨w.heap.size + 1 + 1, 2, none⟩ = false := frozen_of_row w4 _ 2 _ _ hK2
  have l2 : w.heap.size + 1 + 1 < w4.heap.size := (Array.getElem?_eq_some_iff.1 hK2).1
  clear hw4 hx1 hx2 hx3
  go_wp2_with fail
  generalize hWs : ((w4.setCell ⟨w.heap.size + 1 + 1, 0, none⟩ (.float .f32 (lesserF a x))).setCell ⟨w.heap.size + 1 + 1, 1, none⟩ (.float .f32 (lesserF b y))).setCell ⟨w.heap.size + 1 + 1, 2, none⟩ (.float .f32 (lesserF c z)) = w5
  have hS : w5.heap[w.heap.size + 1 + 1]? = some (.cells #[.float .f32 (lesserF a x), .float .f32 (lesserF b y), .float .f32 (lesserF c z)] 28) := by
    subst hWs
    have s0 := heap_setCell_same (w4) _ 0 _ _ (.float .f32 (lesserF a x)) hK2
    have s1 := heap_setCell_same ((w4).setCell ⟨w.heap.size + 1 + 1, 0, none⟩ (.float .f32 (lesserF a x))) _ 1 _ _ (.float .f32 (lesserF b y)) s0
    have s2 := heap_setCell_same (((w4).setCell ⟨w.heap.size + 1 + 1, 0, none⟩ (.float .f32 (lesserF a x))).setCell ⟨w.heap.size + 1 + 1, 1, none⟩ (.float .f32 (lesserF b y))) _ 2 _ _ (.float .f32 (lesserF c z)) s1
    simpa using s2
  have hO : ∀ q, q ≠ w.heap.size + 1 + 1 → w5.heap[q]? = w4.heap[q]? := fun q hq => by subst hWs; rw [heap_setCell_other _ _ _ _ hq, heap_setCell_other _ _ _ _ hq, heap_setCell_other _ _ _ _ hq]
  have hB2 : Below w.heap.size w w5 := by
    subst hWs
    have hle : w.heap.size ≤ w.heap.size + 1 + 1 := by omega
    refine Below.setCell ?_ hle _
    refine Below.setCell ?_ hle _
    refine Below.setCell ?_ hle _
    repeat (first | exact hB1 | refine below_drewN ?_ _)
  clear g0_0 f0_0 g0_1 f0_1 g0_2 f0_2 l0 g1_0 f1_0 g1_1 f1_1 g1_2 f1_2 l1 g2_0 f2_0 g2_1 f2_1 g2_2 f2_2 l2
  replace hK0 := (hO _ (by omega)).trans hK0
  replace hK1 := (hO _ (by omega)).trans hK1
  replace hK2 := hS
  clear hS hO hWs
  have g0_0 : w5.cell? ⟨w.heap.size, 0, none⟩ = some (.float .f32 a) := cell_of_row w5 _ 0 _ _ _ hK0
  have f0_0 : w5.frozen? ⟨w.heap.size, 0, none⟩ = false := frozen_of_row w5 _ 0 _ _ hK0
  have g0_1 : w5.cell? ⟨w.heap.size, 1, none⟩ = some (.float .f32 b) := cell_of_row w5 _ 1 _ _ _ hK0
  have f0_1 : w5.frozen? ⟨w.heap.size, 1, none⟩ = false := frozen_of_row w5 _ 1 _ _ hK0
  have g0_2 : w5.cell? ⟨w.heap.size, 2, none⟩ = some (.float .f32 c) := cell_of_row w5 _ 2 _ _ _ hK0
  have f0_2 : w5.frozen? ⟨w.heap.size, 2, none⟩ = false := frozen_of_row w5 _ 2 _ _ hK0
  have l0 : w.heap.size < w5.heap.size := (Array.getElem?_eq_some_iff.1 hK0).1
  have g1_0 : w5.cell? ⟨w.heap.size + 1, 0, none⟩ = some (.float .f32 x) := cell_of_row w5 _ 0 _ _ _ hK1
  have f1_0 : w5.frozen? ⟨w.heap.size + 1, 0, none⟩ = false := frozen_of_row w5 _ 0 _ _ hK1
  have g1_1 : w5.cell? ⟨w.heap.size + 1, 1, none⟩ = some (.float .f32 y) := cell_of_row w5 _ 1 _ _ _ hK1
  have f1_1 : w5.frozen? ⟨w.heap.size + 1, 1, none⟩ = false := frozen_of_row w5 _ 1 _ _ hK1
  have g1_2 : w5.cell? ⟨w.heap.size + 1, 2, none⟩ = some (.float .f32 z) := cell_of_row w5 _ 2 _ _ _ hK1
  have f1_2 : w5.frozen? ⟨w.heap.size + 1, 2, none⟩ = false := frozen_of_row w5 _ 2 _ _ hK1
  have l1 : w.heap.size + 1 < w5.heap.size := (Array.getElem?_eq_some_iff.1 hK1).1
  have g2_0 : w5.cell? ⟨w.heap.size + 1 + 1, 0, none⟩ = some (.float .f32 (lesserF a x)) := cell_of_row w5 _ 0 _ _ _ hK2
  have f2_0 : w5.frozen? ⟨w.heap.size + 1 + 1, 0, none⟩ = false := frozen_of_row w5 _ 0 _ _ hK2
  have g2_1 : w5.cell? ⟨w.heap.size + 1 + 1, 1, none⟩ = some (.float .f32 (lesserF b y)) := cell_of_row w5 _ 1 _ _ _ hK2
  have f2_1 : w5.frozen? ⟨w.heap.size + 1 + 1, 1, none⟩ = false := frozen_of_row w5 _ 1 _ _ hK2
  have g2_2 : w5.cell? ⟨w.heap.size + 1 + 1, 2, none⟩ = some (.float .f32 (lesserF c z)) := cell_of_row w5 _ 2 _ _ _ hK2
  have f2_2 : w5.frozen? ⟨w.heap.size + 1 + 1, 2, none⟩ = false := frozen_of_row w5 _ 2 _ _ hK2
  have l2 : w.heap.size + 1 + 1 < w5.heap.size := (Array.getElem?_eq_some_iff.1 hK2).1
  exact bodyPost_ret (v := vec (lesserF a x) (lesserF b y) (lesserF c z)) (by simp [results, Try.results59, go_sem, g2_0, g2_1, g2_2]) rfl ⟨rfl, hB2⟩
set_option maxHeartbeats 1000000 in
set_option maxRecDepth 100000 in
theorem l04High_ok (a b c x y z : Nat) (w : World) :
    Calls Try.prog 57 #[vec a b c, vec x y z] w fun e w' => e = .returned (vec (greaterF a x) (greaterF b y) (greaterF c z)) ∧ Below w.heap.size w w' := by
  go_enter Try.func57, Try.ntmps57
  go_wp2_with fail
  generalize hW0 : ((w.alloc (.cells #[.float .f32 a, .float .f32 b, .float .f32 c] 28)).alloc (.cells #[.float .f32 x, .float .f32 y, .float .f32 z] 28)).alloc (.cells #[.float .f32 0, .float .f32 0, .float .f32 0] 28) = W0
  have hB0 : Below w.heap.size w W0 := by subst hW0; exact by (repeat (first | exact Below.refl _ _ | assumption | refine below_drewN ?_ _ | refine Below.setCell ?_ (by first | omega | (simp <;> omega)) _ | refine Below.alloc ?_ (by first | omega | (simp <;> omega)) _))
  have hK0 : W0.heap[w.heap.size]? = some (.cells #[.float .f32 a, .float .f32 b, .float .f32 c] 28) := by subst hW0; rw [Go.RowKit.Below.heap_alloc _ _ _ (by simp; omega)]; exact heap_alloc2_old _ _ _
  have hK1 : W0.heap[w.heap.size + 1]? = some (.cells #[.float .f32 x, .float .f32 y, .float .f32 z] 28) := by subst hW0; rw [Go.RowKit.Below.heap_alloc _ _ _ (by simp)]; exact heap_alloc2_new _ _ _
  have hK2 : W0.heap[w.heap.size + 1 + 1]? = some (.cells #[.float .f32 0, .float .f32 0, .float .f32 0] 28) := by 
    subst hW0
    have := Go.heap_alloc_new ((w.alloc (.cells #[.float .f32 a, .float .f32 b, .float .f32 c] 28)).alloc (.cells #[.float .f32 x, .float .f32 y, .float .f32 z] 28)) (.cells #[.float .f32 0, .float .f32 0, .float .f32 0] 28)
    simpa using this
  clear hW0
  have hZ0 : w.heap.size + 1 + 1 < W0.heap.size := (Array.getElem?_eq_some_iff.1 hK2).1
  have g0_0 : W0.cell? ⟨w.heap.size, 0, none⟩ = some (.float .f32 a) := cell_of_row W0 _ 0 _ _ _ hK0
  have f0_0 : W0.frozen? ⟨w.heap.size, 0, none⟩ = false := frozen_of_row W0 _ 0 _ _ hK0
  have g0_1 : W0.cell? ⟨w.heap.size, 1, none⟩ = some (.float .f32 b) := cell_of_row W0 _ 1 _ _ _ hK0
  have f0_1 : W0.frozen? ⟨w.heap.size, 1, none⟩ = false := frozen_of_row W0 _ 1 _ _ hK0
  have g0_2 : W0.cell? ⟨w.heap.size, 2, none⟩ = some (.float .f32 c) := cell_of_row W0 _ 2 _ _ _ hK0
  have f0_2 : W0.frozen? ⟨w.heap.size, 2, none⟩ = false := frozen_of_row W0 _ 2 _ _ hK0
  have l0 : w.heap.size < W0.heap.size := (Array.getElem?_eq_some_iff.1 hK0).1
  have g1_0 : W0.cell? ⟨w.heap.size + 1, 0, none⟩ = some (.float .f32 x) := cell_of_row W0 _ 0 _ _ _ hK1
  have f1_0 : W0.frozen? ⟨w.heap.size + 1, 0, none⟩ = false := frozen_of_row W0 _ 0 _ _ hK1
  have g1_1 : W0.cell? ⟨w.heap.size + 1, 1, none⟩ = some (.float .f32 y) := cell_of_row W0 _ 1 _ _ _ hK1
  have f1_1 : W0.frozen? ⟨w.heap.size + 1, 1, none⟩ = false := frozen_of_row W0 _ 1 _ _ hK1
  have g1_2 : W0.cell? ⟨w.heap.size + 1, 2, none⟩ = some (.float .f32 z) := cell_of_row W0 _ 2 _ _ _ hK1
  have f1_2 : W0.frozen? ⟨w.heap.size + 1, 2, none⟩ = false := frozen_of_row W0 _ 2 _ _ hK1
  have l1 : w.heap.size + 1 < W0.heap.size := (Array.getElem?_eq_some_iff.1 hK1).1
  have g2_0 : W0.cell? ⟨w.heap.size + 1 + 1, 0, none⟩ = some (.float .f32 0) := cell_of_row W0 _ 0 _ _ _ hK2
  have f2_0 : W0.frozen? ⟨w.heap.size + 1 + 1, 0, none⟩ = false := frozen_of_row W0 _ 0 _ _ hK2
  have g2_1 : W0.cell? ⟨w.heap.size + 1 + 1, 1, none⟩ = some (.float .f32 0) := cell_of_row W0 _ 1 _ _ _ hK2
  have f2_1 : W0.frozen? ⟨w.heap.size + 1 + 1, 1, none⟩ = false := frozen_of_row W0 _ 1 _ _ hK2
  have g2_2 : W0.cell? ⟨w.heap.size + 1 + 1, 2, none⟩ = some (.float .f32 0) := cell_of_row W0 _ 2 _ _ _ hK2
  have f2_2 : W0.frozen? ⟨w.heap.size + 1 + 1, 2, none⟩ = false := frozen_of_row W0 _ 2 _ _ hK2
  have l2 : w.heap.size + 1 + 1 < W0.heap.size := (Array.getElem?_eq_some_iff.1 hK2).1
  refine wp_region_laterO 16 (SO (QL [(9, fun u => u = Value.float .f32 (greaterF a x)), (14, fun u => u = Value.float .f32 (greaterF b y)), (19, fun u => u = Value.float .f32 (greaterF c z))])) (stays_SO _) (by kernel_rfl) (by kernel_rfl) ?_
  repeat (first | (refine later_exO rfl (fun K hK => ?_); apply Exists.intro; refine ⟨fun w' hw' => ?_, ?_⟩; (obtain ⟨hcc, hff⟩ := Grew.cells hw'; clear hw'; go_simp; rfl); go_simp; refine hK _ ?_; clear hK K))
  (refine later_callO rfl (fun K hK => ?_); go_simp; refine ⟨_, _, fun _ _ => ⟨rfl, rfl⟩, fun w1 hw1 => ?_, fun u y1 hx1 hu => ?_⟩)
  · refine (mGreater_ok _ _ _).mono ?_
    rintro e w2 ⟨rfl, rfl⟩
    exact ⟨_, rfl, rfl, Ext.refl _⟩
  obtain rfl : (fun u => u = Value.float .f32 (greaterF a x)) u := hu
  (refine hK _ _ hx1 ?_; clear hK K)
  repeat (first | (refine later_exO rfl (fun K hK => ?_); apply Exists.intro; refine ⟨fun w' hw' => ?_, ?_⟩; (obtain ⟨hcc, hff⟩ := Grew.cells hw'; clear hw'; go_simp; rfl); go_simp; refine hK _ ?_; clear hK K))
  (refine later_callO rfl (fun K hK => ?_); go_simp; refine ⟨_, _, fun _ _ => ⟨rfl, rfl⟩, fun w1 hw1 => ?_, fun u y2 hx2 hu => ?_⟩)
  · refine (mGreater_ok _ _ _).mono ?_
    rintro e w2 ⟨rfl, rfl⟩
    exact ⟨_, rfl, rfl, Ext.refl _⟩
  obtain rfl : (fun u => u = Value.float .f32 (greaterF b y)) u := hu
  (refine hK _ _ hx2 ?_; clear hK K)
  repeat (first | (refine later_exO rfl (fun K hK => ?_); apply Exists.intro; refine ⟨fun w' hw' => ?_, ?_⟩; (obtain ⟨hcc, hff⟩ := Grew.cells hw'; clear hw'; go_simp; rfl); go_simp; refine hK _ ?_; clear hK K))
  (refine later_callO rfl (fun K hK => ?_); go_simp; refine ⟨_, _, fun _ _ => ⟨rfl, rfl⟩, fun w1 hw1 => ?_, fun u y3 hx3 hu => ?_⟩)
  · refine (mGreater_ok _ _ _).mono ?_
    rintro e w2 ⟨rfl, rfl⟩
    exact ⟨_, rfl, rfl, Ext.refl _⟩
  obtain rfl : (fun u => u = Value.float .f32 (greaterF c z)) u := hu
  (refine hK _ _ hx3 ?_; clear hK K)
  repeat (first | (refine later_exO rfl (fun K hK => ?_); apply Exists.intro; refine ⟨fun w' hw' => ?_, ?_⟩; (obtain ⟨hcc, hff⟩ := Grew.cells hw'; clear hw'; go_simp; rfl); go_simp; refine hK _ ?_; clear hK K))
  refine later_nilO ?_
  intro w4 hw4
  simp only [List.drop_succ_cons, List.drop_zero]
  clear g0_0 f0_0 g0_1 f0_1 g0_2 f0_2 l0 g1_0 f1_0 g1_1 f1_1 g1_2 f1_2 l1 g2_0 f2_0 g2_1 f2_1 g2_2 f2_2 l2
  have hE0 : Ext W0 w4 := (((hx1).trans hx2).trans hx3).trans hw4
  have hB1 : Below w.heap.size w w4 := hB0.trans (hE0.mono hB0.size)
  replace hK0 := hE0.heap hK0
  replace hK1 := hE0.heap hK1
  replace hK2 := hE0.heap hK2
  have g0_0 : w4.cell? ⟨w.heap.size, 0, none⟩ = some (.float .f32 a) := cell_of_row w4 _ 0 _ _ _ hK0
  have f0_0 : w4.frozen? ⟨w.heap.size, 0, none⟩ = false := frozen_of_row w4 _ 0 _ _ hK0
  have g0_1 : w4.cell? ⟨w.heap.size, 1, none⟩ = some (.float .f32 b) := cell_of_row w4 _ 1 _ _ _ hK0
  have f0_1 : w4.frozen? ⟨w.heap.size, 1, none⟩ = false := frozen_of_row w4 _ 1 _ _ hK0
  have g0_2 : w4.cell? ⟨w.heap.size, 2, none⟩ = some (.float .f32 c) := cell_of_row w4 _ 2 _ _ _ hK0
  have f0_2 : w4.frozen? ⟨w.heap.size, 2, none⟩ = false := frozen_of_row w4 _ 2 _ _ hK0
  have l0 : w.heap.size < w4.heap.size := (Array.getElem?_eq_some_iff.1 hK0).1
  have g1_0 : w4.cell? ⟨w.heap.size + 1, 0, none⟩ = some (.float .f32 x) := cell_of_row w4 _ 0 _ _ _ hK1
  have f1_0 : w4.frozen? ⟨w.heap.size + 1, 0, none⟩ = false := frozen_of_row w4 _ 0 _ _ hK1
  have g1_1 : w4.cell? ⟨w.heap.size + 1, 1, none⟩ = some (.float .f32 y) := cell_of_row w4 _ 1 _ _ _ hK1
  have f1_1 : w4.frozen? ⟨w.heap.size + 1, 1, none⟩ = false := frozen_of_row w4 _ 1 _ _ hK1
  have g1_2 : w4.cell? ⟨w.heap.size + 1, 2, none⟩ = some (.float .f32 z) := cell_of_row w4 _ 2 _ _ _ hK1
  have f1_2 : w4.frozen? ⟨w.heap.size + 1, 2, none⟩ = false := frozen_of_row w4 _ 2 _ _ hK1
  have l1 : w.heap.size + 1 < w4.heap.size := (Array.getElem?_eq_some_iff.1 hK1).1
  have g2_0 : w4.cell? ⟨w.heap.size + 1 + 1, 0, none⟩ = some (.float .f32 0) := cell_of_row w4 _ 0 _ _ _ hK2
  have f2_0 : w4.frozen? ⟨w.heap.size + 1 + 1, 0, none⟩ = false := frozen_of_row w4 _ 0 _ _ hK2
  have g2_1 : w4.cell? ⟨w.heap.size + 1 + 1, 1, none⟩ = some (.float .f32 0) := cell_of_row w4 _ 1 _ _ _ hK2
  have f2_1 : w4.frozen? ⟨w.heap.size + 1 + 1, 1, none⟩ = false := frozen_of_row w4 _ 1 _ _ hK2
  have g2_2 : w4.cell? ⟨w.heap.size + 1 + 1, 2, none⟩ = some (.float .f32 0) := cell_of_row w4 _ 2 _ _ _ hK2
  have f2_2 : w4.frozen? ⟨w.heap.size + 1 + 1, 2, none⟩ = false := frozen_of_row w4 _ 2 _ _ hK2
  have l2 : w.heap.size + 1 + 1 < w4.heap.size := (Array.getElem?_eq_some_iff.1 hK2).1
  clear hw4 hx1 hx2 hx3
  go_wp2_with fail
  generalize hWs : ((w4.setCell ⟨w.heap.size + 1 + 1, 0, none⟩ (.float .f32 (greaterF a x))).setCell ⟨w.heap.size + 1 + 1, 1, none⟩ (.float .f32 (greaterF b y))).setCell ⟨w.heap.size + 1 + 1, 2, none⟩ (.float .f32 (greaterF c z)) = w5
  have hS : w5.heap[w.heap.size + 1 + 1]? = some (.cells #[.float .f32 (greaterF a x), .float .f32 (greaterF b y), .float .f32 (greaterF c z)] 28) := by
    subst hWs
    have s0 := heap_setCell_same (w4) _ 0 _ _ (.float .f32 (greaterF a x)) hK2
    have s1 := heap_setCell_same ((w4).setCell ⟨w.heap.size + 1 + 1, 0, none⟩ (.float .f32 (greaterF a x))) _ 1 _ _ (.float .f32 (greaterF b y)) s0
    have s2 := heap_setCell_same (((w4).setCell ⟨w.heap.size + 1 + 1, 0, none⟩ (.float .f32 (greaterF a x))).setCell ⟨w.heap.size + 1 + 1, 1, none⟩ (.float .f32 (greaterF b y))) _ 2 _ _ (.float .f32 (greaterF c z)) s1
    simpa using s2
  have hO : ∀ q, q ≠ w.heap.size + 1 + 1 → w5.heap[q]? = w4.heap[q]? := fun q hq => by subst hWs; rw [heap_setCell_other _ _ _ _ hq, heap_setCell_other _ _ _ _ hq, heap_setCell_other _ _ _ _ hq]
  have hB2 : Below w.heap.size w w5 := by
    subst hWs
    have hle : w.heap.size ≤ w.heap.size + 1 + 1 := by omega
    refine Below.setCell ?_ hle _
    refine Below.setCell ?_ hle _
    refine Below.setCell ?_ hle _
    repeat (first | exact hB1 | refine below_drewN ?_ _)
  clear g0_0 f0_0 g0_1 f0_1 g0_2 f0_2 l0 g1_0 f1_0 g1_1 f1_1 g1_2 f1_2 l1 g2_0 f2_0 g2_1 f2_1 g2_2 f2_2 l2
  replace hK0 := (hO _ (by omega)).trans hK0
  replace hK1 := (hO _ (by omega)).trans hK1
  replace hK2 := hS
  clear hS hO hWs
  have g0_0 : w5.cell? ⟨w.heap.size, 0, none⟩ = some (.float .f32 a) := cell_of_row w5 _ 0 _ _ _ hK0
  have f0_0 : w5.frozen? ⟨w.heap.size, 0, none⟩ = false := frozen_of_row w5 _ 0 _ _ hK0
  have g0_1 : w5.cell? ⟨w.heap.size, 1, none⟩ = some (.float .f32 b) := cell_of_row w5 _ 1 _ _ _ hK0
  have f0_1 : w5.frozen? ⟨w.heap.size, 1, none⟩ = false := frozen_of_row w5 _ 1 _ _ hK0
  have g0_2 : w5.cell? ⟨w.heap.size, 2, none⟩ = some (.float .f32 c) := cell_of_row w5 _ 2 _ _ _ hK0
  have f0_2 : w5.frozen? ⟨w.heap.size, 2, none⟩ = false := frozen_of_row w5 _ 2 _ _ hK0
  have l0 : w.heap.size < w5.heap.size := (Array.getElem?_eq_some_iff.1 hK0).1
  have g1_0 : w5.cell? ⟨w.heap.size + 1, 0, none⟩ = some (.float .f32 x) := cell_of_row w5 _ 0 _ _ _ hK1
  have f1_0 : w5.frozen? ⟨w.heap.size + 1, 0, none⟩ = false := frozen_of_row w5 _ 0 _ _ hK1
  have g1_1 : w5.cell? ⟨w.heap.size + 1, 1, none⟩ = some (.float .f32 y) := cell_of_row w5 _ 1 _ _ _ hK1
  have f1_1 : w5.frozen? ⟨w.heap.size + 1, 1, none⟩ = false := frozen_of_row w5 _ 1 _ _ hK1
  have g1_2 : w5.cell? ⟨w.heap.size + 1, 2, none⟩ = some (.float .f32 z) := cell_of_row w5 _ 2 _ _ _ hK1
  have f1_2 : w5.frozen? ⟨w.heap.size + 1, 2, none⟩ = false := frozen_of_row w5 _ 2 _ _ hK1
  have l1 : w.heap.size + 1 < w5.heap.size := (Array.getElem?_eq_some_iff.1 hK1).1
  have g2_0 : w5.cell? ⟨w.heap.size + 1 + 1, 0, none⟩ = some (.float .f32 (greaterF a x)) := cell_of_row w5 _ 0 _ _ _ hK2
  have f2_0 : w5.frozen? ⟨w.heap.size + 1 + 1, 0, none⟩ = false := frozen_of_row w5 _ 0 _ _ hK2
  have g2_1 : w5.cell? ⟨w.heap.size + 1 + 1, 1, none⟩ = some (.float .f32 (greaterF b y)) := cell_of_row w5 _ 1 _ _ _ hK2
  have f2_1 : w5.frozen? ⟨w.heap.size + 1 + 1, 1, none⟩ = false := frozen_of_row w5 _ 1 _ _ hK2
  have g2_2 : w5.cell? ⟨w.heap.size + 1 + 1, 2, none⟩ = some (.float .f32 (greaterF c z)) := cell_of_row w5 _ 2 _ _ _ hK2
  have f2_2 : w5.frozen? ⟨w.heap.size + 1 + 1, 2, none⟩ = false := frozen_of_row w5 _ 2 _ _ hK2
  have l2 : w.heap.size + 1 + 1 < w5.heap.size := (Array.getElem?_eq_some_iff.1 hK2).1
  exact bodyPost_ret (v := vec (greaterF a x) (greaterF b y) (greaterF c z)) (by simp [results, Try.results57, go_sem, g2_0, g2_1, g2_2]) rfl ⟨rfl, hB2⟩
set_option maxHeartbeats 1000000 in
set_option maxRecDepth 100000 in
theorem l04Low_ok (a b c x y z : Nat) (w : World) :
    Calls Try.prog 58 #[vec a b c, vec x y z] w fun e w' => e = .returned (vec (lesserF a x) (lesserF b y) (lesserF c z)) ∧ Below w.heap.size w w' := by
  go_enter Try.func58, Try.ntmps58
  go_wp2_with fail
  generalize hW0 : ((w.alloc (.cells #[.float .f32 a, .float .f32 b, .float .f32 c] 28)).alloc (.cells #[.float .f32 x, .float .f32 y, .float .f32 z] 28)).alloc (.cells #[.float .f32 0, .float .f32 0, .float .f32 0] 28) = W0
  have hB0 : Below w.heap.size w W0 := by subst hW0; exact by (repeat (first | exact Below.refl _ _ | assumption | refine below_drewN ?_ _ | refine Below.setCell ?_ (by first | omega | (simp <;> omega)) _ | refine Below.alloc ?_ (by first | omega | (simp <;> omega)) _))
  have hK0 : W0.heap[w.heap.size]? = some (.cells #[.float .f32 a, .float .f32 b, .float .f32 c] 28) := by subst hW0; rw [Go.RowKit.Below.heap_alloc _ _ _ (by simp; omega)]; exact heap_alloc2_old _ _ _
  have hK1 : W0.heap[w.heap.size + 1]? = some (.cells #[.float .f32 x, .float .f32 y, .float .f32 z] 28) := by subst hW0; rw [Go.RowKit.Below.heap_alloc _ _ _ (by simp)]; exact heap_alloc2_new _ _ _
  have hK2 : W0.heap[w.heap.size + 1 + 1]? = some (.cells #[.float .f32 0, .float .f32 0, .float .f32 0] 28) := by 
    subst hW0
    have := Go.heap_alloc_new ((w.alloc (.cells #[.float .f32 a, .float .f32 b, .float .f32 c] 28)).alloc (.cells #[.float .f32 x, .float .f32 y, .float .f32 z] 28)) (.cells #[.float .f32 0, .float .f32 0, .float .f32 0] 28)
    simpa using this
  clear hW0
  have hZ0 : w.heap.size + 1 + 1 < W0.heap.size := (Array.getElem?_eq_some_iff.1 hK2).1
  have g0_0 : W0.cell? ⟨w.heap.size, 0, none⟩ = some (.float .f32 a) := cell_of_row W0 _ 0 _ _ _ hK0
  have f0_0 : W0.frozen? ⟨w.heap.size, 0, none⟩ = false := frozen_of_row W0 _ 0 _ _ hK0
  have g0_1 : W0.cell? ⟨w.heap.size, 1, none⟩ = some (.float .f32 b) := cell_of_row W0 _ 1 _ _ _ hK0
  have f0_1 : W0.frozen? ⟨w.heap.size, 1, none⟩ = false := frozen_of_row W0 _ 1 _ _ hK0
  have g0_2 : W0.cell? ⟨w.heap.size, 2, none⟩ = some (.float .f32 c) := cell_of_row W0 _ 2 _ _ _ hK0
  have f0_2 : W0.frozen? ⟨w.heap.size, 2, none⟩ = false := frozen_of_row W0 _ 2 _ _ hK0
  have l0 : w.heap.size < W0.heap.size := (Array.getElem?_eq_some_iff.1 hK0).1
  have g1_0 : W0.cell? ⟨w.heap.size + 1, 0, none⟩ = some (.float .f32 x) := cell_of_row W0 _ 0 _ _ _ hK1
  have f1_0 : W0.frozen? ⟨w.heap.size + 1, 0, none⟩ = false := frozen_of_row W0 _ 0 _ _ hK1
  have g1_1 : W0.cell? ⟨w.heap.size + 1, 1, none⟩ = some (.float .f32 y) := cell_of_row W0 _ 1 _ _ _ hK1
  have f1_1 : W0.frozen? ⟨w.heap.size + 1, 1, none⟩ = false := frozen_of_row W0 _ 1 _ _ hK1
  have g1_2 : W0.cell? ⟨w.heap.size + 1, 2, none⟩ = some (.float .f32 z) := cell_of_row W0 _ 2 _ _ _ hK1
  have f1_2 : W0.frozen? ⟨w.heap.size + 1, 2, none⟩ = false := frozen_of_row W0 _ 2 _ _ hK1
  have l1 : w.heap.size + 1 < W0.heap.size := (Array.getElem?_eq_some_iff.1 hK1).1
  have g2_0 : W0.cell? ⟨w.heap.size + 1 + 1, 0, none⟩ = some (.float .f32 0) := cell_of_row W0 _ 0 _ _ _ hK2
  have f2_0 : W0.frozen? ⟨w.heap.size + 1 + 1, 0, none⟩ = false := frozen_of_row W0 _ 0 _ _ hK2
  have g2_1 : W0.cell? ⟨w.heap.size + 1 + 1, 1, none⟩ = some (.float .f32 0) := cell_of_row W0 _ 1 _ _ _ hK2
  have f2_1 : W0.frozen? ⟨w.heap.size + 1 + 1, 1, none⟩ = false := frozen_of_row W0 _ 1 _ _ hK2
  have g2_2 : W0.cell? ⟨w.heap.size + 1 + 1, 2, none⟩ = some (.float .f32 0) := cell_of_row W0 _ 2 _ _ _ hK2
  have f2_2 : W0.frozen? ⟨w.heap.size + 1 + 1, 2, none⟩ = false := frozen_of_row W0 _ 2 _ _ hK2
  have l2 : w.heap.size + 1 + 1 < W0.heap.size := (Array.getElem?_eq_some_iff.1 hK2).1
  refine wp_region_laterO 16 (SO (QL [(9, fun u => u = Value.float .f32 (lesserF a x)), (14, fun u => u = Value.float .f32 (lesserF b y)), (19, fun u => u = Value.float .f32 (lesserF c z))])) (stays_SO _) (by kernel_rfl) (by kernel_rfl) ?_
  repeat (first | (refine later_exO rfl (fun K hK => ?_); apply Exists.intro; refine ⟨fun w' hw' => ?_, ?_⟩; (obtain ⟨hcc, hff⟩ := Grew.cells hw'; clear hw'; go_simp; rfl); go_simp; refine hK _ ?_; clear hK K))
  (refine later_callO rfl (fun K hK => ?_); go_simp; refine ⟨_, _, fun _ _ => ⟨rfl, rfl⟩, fun w1 hw1 => ?_, fun u y1 hx1 hu => ?_⟩)
  · refine (mLesser_ok _ _ _).mono ?_
    rintro e w2 ⟨rfl, rfl⟩
    exact ⟨_, rfl, rfl, Ext.refl _⟩
  obtain rfl : (fun u => u = Value.float .f32 (lesserF a x)) u := hu
  (refine hK _ _ hx1 ?_; clear hK K)
  repeat (first | (refine later_exO rfl (fun K hK => ?_); apply Exists.intro; refine ⟨fun w' hw' => ?_, ?_⟩; (obtain ⟨hcc, hff⟩ := Grew.cells hw'; clear hw'; go_simp; rfl); go_simp; refine hK _ ?_; clear hK K))
  (refine later_callO rfl (fun K hK => ?_); go_simp; refine ⟨_, _, fun _ _ => ⟨rfl, rfl⟩, fun w1 hw1 => ?_, fun u y2 hx2 hu => ?_⟩)
  · refine (mLesser_ok _ _ _).mono ?_
    rintro e w2 ⟨rfl, rfl⟩
    exact ⟨_, rfl, rfl, Ext.refl _⟩
  obtain rfl : (fun u => u = Value.float .f32 (lesserF b y)) u := hu
  (refine hK _ _ hx2 ?_; clear hK K)
  repeat (first | (refine later_exO rfl (fun K hK => ?_); apply Exists.intro; refine ⟨fun w' hw' => ?_, ?_⟩; (obtain ⟨hcc, hff⟩ := Grew.cells hw'; clear hw'; go_simp; rfl); go_simp; refine hK _ ?_; clear hK K))
  (refine later_callO rfl (fun K hK => ?_); go_simp; refine ⟨_, _, fun _ _ => ⟨rfl, rfl⟩, fun w1 hw1 => ?_, fun u y3 hx3 hu => ?_⟩)
  · refine (mLesser_ok _ _ _).mono ?_
    rintro e w2 ⟨rfl, rfl⟩
    exact ⟨_, rfl, rfl, Ext.refl _⟩
  obtain rfl : (fun u => u = Value.float .f32 (lesserF c z)) u := hu
  (refine hK _ _ hx3 ?_; clear hK K)
  repeat (first | (refine later_exO rfl (fun K hK => ?_); apply Exists.intro; refine ⟨fun w' hw' => ?_, ?_⟩; (obtain ⟨hcc, hff⟩ := Grew.cells hw'; clear hw'; go_simp; rfl); go_simp; refine hK _ ?_; clear hK K))
  refine later_nilO ?_
  intro w4 hw4
  simp only [List.drop_succ_cons, List.drop_zero]
  clear g0_0 f0_0 g0_1 f0_1 g0_2 f0_2 l0 g1_0 f1_0 g1_1 f1_1 g1_2 f1_2 l1 g2_0 f2_0 g2_1 f2_1 g2_2 f2_2 l2
  have hE0 : Ext W0 w4 := (((hx1).trans hx2).trans hx3).trans hw4
  have hB1 : Below w.heap.size w w4 := hB0.trans (hE0.mono hB0.size)
  replace hK0 := hE0.heap hK0
  replace hK1 := hE0.heap hK1
  replace hK2 := hE0.heap hK2
  have g0_0 : w4.cell? ⟨w.heap.size, 0, none⟩ = some (.float .f32 a) := cell_of_row w4 _ 0 _ _ _ hK0
  have f0_0 : w4.frozen? ⟨w.heap.size, 0, none⟩ = false := frozen_of_row w4 _ 0 _ _ hK0
  have g0_1 : w4.cell? ⟨w.heap.size, 1, none⟩ = some (.float .f32 b) := cell_of_row w4 _ 1 _ _ _ hK0
  have f0_1 : w4.frozen? ⟨w.heap.size, 1, none⟩ = false := frozen_of_row w4 _ 1 _ _ hK0
  have g0_2 : w4.cell? ⟨w.heap.size, 2, none⟩ = some (.float .f32 c) := cell_of_row w4 _ 2 _ _ _ hK0
  have f0_2 : w4.frozen? ⟨w.heap.size, 2, none⟩ = false := frozen_of_row w4 _ 2 _ _ hK0
  have l0 : w.heap.size < w4.heap.size := (Array.getElem?_eq_some_iff.1 hK0).1
  have g1_0 : w4.cell? ⟨w.heap.size + 1, 0, none⟩ = some (.float .f32 x) := cell_of_row w4 _ 0 _ _ _ hK1
  have f1_0 : w4.frozen? ⟨w.heap.size + 1, 0, none⟩ = false := frozen_of_row w4 _ 0 _ _ hK1
  have g1_1 : w4.cell? ⟨w.heap.size + 1, 1, none⟩ = some (.float .f32 y) := cell_of_row w4 _ 1 _ _ _ hK1
  have f1_1 : w4.frozen? ⟨w.heap.size + 1, 1, none⟩ = false := frozen_of_row w4 _ 1 _ _ hK1
  have g1_2 : w4.cell? ⟨w.heap.size + 1, 2, none⟩ = some (.float .f32 z) := cell_of_row w4 _ 2 _ _ _ hK1
  have f1_2 : w4.frozen? ⟨w.heap.size + 1, 2, none⟩ = false := frozen_of_row w4 _ 2 _ _ hK1
  have l1 : w.heap.size + 1 < w4.heap.size := (Array.getElem?_eq_some_iff.1 hK1).1
  have g2_0 : w4.cell? ⟨w.heap.size + 1 + 1, 0, none⟩ = some (.float .f32 0) := cell_of_row w4 _ 0 _ _ _ hK2
  have f2_0 : w4.frozen? ⟨w.heap.size + 1 + 1, 0, none⟩ = false := frozen_of_row w4 _ 0 _ _ hK2
  have g2_1 : w4.cell? ⟨w.heap.size + 1 + 1, 1, none⟩ = some (.float .f32 0) := cell_of_row w4 _ 1 _ _ _ hK2
  have f2_1 : w4.frozen? ⟨w.heap.size + 1 + 1, 1, none⟩ = false := frozen_of_row w4 _ 1 _ _ hK2
  have g2_2 : w4.cell? ⟨w.heap.size + 1 + 1, 2, none⟩ = some (.float .f32 0) := cell_of_row w4 _ 2 _ _ _ hK2
  have f2_2 : w4.frozen? ⟨w.heap.size + 1 + 1, 2, none⟩ = false := frozen_of_row w4 _ 2 _ _ hK2
  have l2 : w.heap.size + 1 + 1 < w4.heap.size := (Array.getElem?_eq_some_iff.1 hK2).1
  clear hw4 hx1 hx2 hx3
  go_wp2_with fail
  generalize hWs : ((w4.setCell ⟨w.heap.size + 1 + 1, 0, none⟩ (.float .f32 (lesserF a x))).setCell ⟨w.heap.size + 1 + 1, 1, none⟩ (.float .f32 (lesserF b y))).setCell ⟨w.heap.size + 1 + 1, 2, none⟩ (.float .f32 (lesserF c z)) = w5
  have hS : w5.heap[w.heap.size + 1 + 1]? = some (.cells #[.float .f32 (lesserF a x), .float .f32 (lesserF b y), .float .f32 (lesserF c z)] 28) := by
    subst hWs
    have s0 := heap_setCell_same (w4) _ 0 _ _ (.float .f32 (lesserF a x)) hK2
    have s1 := heap_setCell_same ((w4).setCell ⟨w.heap.size + 1 + 1, 0, none⟩ (.float .f32 (lesserF a x))) _ 1 _ _ (.float .f32 (lesserF b y)) s0
    have s2 := heap_setCell_same (((w4).setCell ⟨w.heap.size + 1 + 1, 0, none⟩ (.float .f32 (lesserF a x))).setCell ⟨w.heap.size + 1 + 1, 1, none⟩ (.float .f32 (lesserF b y))) _ 2 _ _ (.float .f32 (lesserF c z)) s1
    simpa using s2
  have hO : ∀ q, q ≠ w.heap.size + 1 + 1 → w5.heap[q]? = w4.heap[q]? := fun q hq => by subst hWs; rw [heap_setCell_other _ _ _ _ hq, heap_setCell_other _ _ _ _ hq, heap_setCell_other _ _ _ _ hq]
  have hB2 : Below w.heap.size w w5 := by
    subst hWs
    have hle : w.heap.size ≤ w.heap.size + 1 + 1 := by omega
    refine Below.setCell ?_ hle _
    refine Below.setCell ?_ hle _
    refine Below.setCell ?_ hle _
    repeat (first | exact hB1 | refine below_drewN ?_ _)
  clear g0_0 f0_0 g0_1 f0_1 g0_2 f0_2 l0 g1_0 f1_0 g1_1 f1_1 g1_2 f1_2 l1 g2_0 f2_0 g2_1 f2_1 g2_2 f2_2 l2
  replace hK0 := (hO _ (by omega)).trans hK0
  replace hK1 := (hO _ (by omega)).trans hK1
  replace hK2 := hS
  clear hS hO hWs
  have g0_0 : w5.cell? ⟨w.heap.size, 0, none⟩ = some (.float .f32 a) := cell_of_row w5 _ 0 _ _ _ hK0
  have f0_0 : w5.frozen? ⟨w.heap.size, 0, none⟩ = false := frozen_of_row w5 _ 0 _ _ hK0
  have g0_1 : w5.cell? ⟨w.heap.size, 1, none⟩ = some (.float .f32 b) := cell_of_row w5 _ 1 _ _ _ hK0
  have f0_1 : w5.frozen? ⟨w.heap.size, 1, none⟩ = false := frozen_of_row w5 _ 1 _ _ hK0
  have g0_2 : w5.cell? ⟨w.heap.size, 2, none⟩ = some (.float .f32 c) := cell_of_row w5 _ 2 _ _ _ hK0
  have f0_2 : w5.frozen? ⟨w.heap.size, 2, none⟩ = false := frozen_of_row w5 _ 2 _ _ hK0
  have l0 : w.heap.size < w5.heap.size := (Array.getElem?_eq_some_iff.1 hK0).1
  have g1_0 : w5.cell? ⟨w.heap.size + 1, 0, none⟩ = some (.float .f32 x) := cell_of_row w5 _ 0 _ _ _ hK1
  have f1_0 : w5.frozen? ⟨w.heap.size + 1, 0, none⟩ = false := frozen_of_row w5 _ 0 _ _ hK1
  have g1_1 : w5.cell? ⟨w.heap.size + 1, 1, none⟩ = some (.float .f32 y) := cell_of_row w5 _ 1 _ _ _ hK1
  have f1_1 : w5.frozen? ⟨w.heap.size + 1, 1, none⟩ = false := frozen_of_row w5 _ 1 _ _ hK1
  have g1_2 : w5.cell? ⟨w.heap.size + 1, 2, none⟩ = some (.float .f32 z) := cell_of_row w5 _ 2 _ _ _ hK1
  have f1_2 : w5.frozen? ⟨w.heap.size + 1, 2, none⟩ = false := frozen_of_row w5 _ 2 _ _ hK1
  have l1 : w.heap.size + 1 < w5.heap.size := (Array.getElem?_eq_some_iff.1 hK1).1
  have g2_0 : w5.cell? ⟨w.heap.size + 1 + 1, 0, none⟩ = some (.float .f32 (lesserF a x)) := cell_of_row w5 _ 0 _ _ _ hK2
  have f2_0 : w5.frozen? ⟨w.heap.size + 1 + 1, 0, none⟩ = false := frozen_of_row w5 _ 0 _ _ hK2
  have g2_1 : w5.cell? ⟨w.heap.size + 1 + 1, 1, none⟩ = some (.float .f32 (lesserF b y)) := cell_of_row w5 _ 1 _ _ _ hK2
  have f2_1 : w5.frozen? ⟨w.heap.size + 1 + 1, 1, none⟩ = false := frozen_of_row w5 _ 1 _ _ hK2
  have g2_2 : w5.cell? ⟨w.heap.size + 1 + 1, 2, none⟩ = some (.float .f32 (lesserF c z)) := cell_of_row w5 _ 2 _ _ _ hK2
  have f2_2 : w5.frozen? ⟨w.heap.size + 1 + 1, 2, none⟩ = false := frozen_of_row w5 _ 2 _ _ hK2
  have l2 : w.heap.size + 1 + 1 < w5.heap.size := (Array.getElem?_eq_some_iff.1 hK2).1
  exact bodyPost_ret (v := vec (lesserF a x) (lesserF b y) (lesserF c z)) (by simp [results, Try.results58, go_sem, g2_0, g2_1, g2_2]) rfl ⟨rfl, hB2⟩
set_option maxHeartbeats 1000000 in
set_option maxRecDepth 100000 in
theorem ifValid_ok (q : B6) (w : World) :
    Calls Try.prog 49 #[q.v] w fun e w' => e = .returned (.tuple #[(okB q).v, .bool (boxB q)]) ∧ Below w.heap.size w w' := by
  go_enter Try.func49, Try.ntmps49
  go_wp2_with fail
  generalize hW0 : (w.alloc (.cells #[.float .f32 q.a, .float .f32 q.b, .float .f32 q.c, .float .f32 q.x, .float .f32 q.y, .float .f32 q.z] 30)).alloc (.cells #[.float .f32 0, .float .f32 0, .float .f32 0, .float .f32 0, .float .f32 0, .float .f32 0] 30) = W0
  have hB0 : Below w.heap.size w W0 := by subst hW0; exact by (repeat (first | exact Below.refl _ _ | assumption | refine below_drewN ?_ _ | refine Below.setCell ?_ (by first | omega | (simp <;> omega)) _ | refine Below.alloc ?_ (by first | omega | (simp <;> omega)) _))
  have hK0 : W0.heap[w.heap.size]? = some (.cells #[.float .f32 q.a, .float .f32 q.b, .float .f32 q.c, .float .f32 q.x, .float .f32 q.y, .float .f32 q.z] 30) := by subst hW0; exact heap_alloc2_old _ _ _
  have hK1 : W0.heap[w.heap.size + 1]? = some (.cells #[.float .f32 0, .float .f32 0, .float .f32 0, .float .f32 0, .float .f32 0, .float .f32 0] 30) := by subst hW0; exact heap_alloc2_new _ _ _
  clear hW0
  have hZ0 : w.heap.size + 1 < W0.heap.size := (Array.getElem?_eq_some_iff.1 hK1).1
  have g0_0 : W0.cell? ⟨w.heap.size, 0, none⟩ = some (.float .f32 q.a) := cell_of_row W0 _ 0 _ _ _ hK0
  have f0_0 : W0.frozen? ⟨w.heap.size, 0, none⟩ = false := frozen_of_row W0 _ 0 _ _ hK0
  have g0_1 : W0.cell? ⟨w.heap.size, 1, none⟩ = some (.float .f32 q.b) := cell_of_row W0 _ 1 _ _ _ hK0
  have f0_1 : W0.frozen? ⟨w.heap.size, 1, none⟩ = false := frozen_of_row W0 _ 1 _ _ hK0
  have g0_2 : W0.cell? ⟨w.heap.size, 2, none⟩ = some (.float .f32 q.c) := cell_of_row W0 _ 2 _ _ _ hK0
  have f0_2 : W0.frozen? ⟨w.heap.size, 2, none⟩ = false := frozen_of_row W0 _ 2 _ _ hK0
  have g0_3 : W0.cell? ⟨w.heap.size, 3, none⟩ = some (.float .f32 q.x) := cell_of_row W0 _ 3 _ _ _ hK0
  have f0_3 : W0.frozen? ⟨w.heap.size, 3, none⟩ = false := frozen_of_row W0 _ 3 _ _ hK0
  have g0_4 : W0.cell? ⟨w.heap.size, 4, none⟩ = some (.float .f32 q.y) := cell_of_row W0 _ 4 _ _ _ hK0
  have f0_4 : W0.frozen? ⟨w.heap.size, 4, none⟩ = false := frozen_of_row W0 _ 4 _ _ hK0
  have g0_5 : W0.cell? ⟨w.heap.size, 5, none⟩ = some (.float .f32 q.z) := cell_of_row W0 _ 5 _ _ _ hK0
  have f0_5 : W0.frozen? ⟨w.heap.size, 5, none⟩ = false := frozen_of_row W0 _ 5 _ _ hK0
  have l0 : w.heap.size < W0.heap.size := (Array.getElem?_eq_some_iff.1 hK0).1
  have g1_0 : W0.cell? ⟨w.heap.size + 1, 0, none⟩ = some (.float .f32 0) := cell_of_row W0 _ 0 _ _ _ hK1
  have f1_0 : W0.frozen? ⟨w.heap.size + 1, 0, none⟩ = false := frozen_of_row W0 _ 0 _ _ hK1
  have g1_1 : W0.cell? ⟨w.heap.size + 1, 1, none⟩ = some (.float .f32 0) := cell_of_row W0 _ 1 _ _ _ hK1
  have f1_1 : W0.frozen? ⟨w.heap.size + 1, 1, none⟩ = false := frozen_of_row W0 _ 1 _ _ hK1
  have g1_2 : W0.cell? ⟨w.heap.size + 1, 2, none⟩ = some (.float .f32 0) := cell_of_row W0 _ 2 _ _ _ hK1
  have f1_2 : W0.frozen? ⟨w.heap.size + 1, 2, none⟩ = false := frozen_of_row W0 _ 2 _ _ hK1
  have g1_3 : W0.cell? ⟨w.heap.size + 1, 3, none⟩ = some (.float .f32 0) := cell_of_row W0 _ 3 _ _ _ hK1
  have f1_3 : W0.frozen? ⟨w.heap.size + 1, 3, none⟩ = false := frozen_of_row W0 _ 3 _ _ hK1
  have g1_4 : W0.cell? ⟨w.heap.size + 1, 4, none⟩ = some (.float .f32 0) := cell_of_row W0 _ 4 _ _ _ hK1
  have f1_4 : W0.frozen? ⟨w.heap.size + 1, 4, none⟩ = false := frozen_of_row W0 _ 4 _ _ hK1
  have g1_5 : W0.cell? ⟨w.heap.size + 1, 5, none⟩ = some (.float .f32 0) := cell_of_row W0 _ 5 _ _ _ hK1
  have f1_5 : W0.frozen? ⟨w.heap.size + 1, 5, none⟩ = false := frozen_of_row W0 _ 5 _ _ hK1
  have l1 : w.heap.size + 1 < W0.heap.size := (Array.getElem?_eq_some_iff.1 hK1).1
  refine (ValidBox_ok q _).mono ?_
  rintro e w1 ⟨rfl, hb⟩
  clear g0_0 f0_0 g0_1 f0_1 g0_2 f0_2 g0_3 f0_3 g0_4 f0_4 g0_5 f0_5 l0 g1_0 f1_0 g1_1 f1_1 g1_2 f1_2 g1_3 f1_3 g1_4 f1_4 g1_5 f1_5 l1
  have hE0 : Ext W0 w1 := hb
  have hB1 : Below w.heap.size w w1 := hB0.trans (hE0.mono hB0.size)
  replace hK0 := hE0.heap hK0
  replace hK1 := hE0.heap hK1
  have g0_0 : w1.cell? ⟨w.heap.size, 0, none⟩ = some (.float .f32 q.a) := cell_of_row w1 _ 0 _ _ _ hK0
  have f0_0 : w1.frozen? ⟨w.heap.size, 0, none⟩ = false := frozen_of_row w1 _ 0 _ _ hK0
  have g0_1 : w1.cell? ⟨w.heap.size, 1, none⟩ = some (.float .f32 q.b) := cell_of_row w1 _ 1 _ _ _ hK0
  have f0_1 : w1.frozen? ⟨w.heap.size, 1, none⟩ = false := frozen_of_row w1 _ 1 _ _ hK0
  have g0_2 : w1.cell? ⟨w.heap.size, 2, none⟩ = some (.float .f32 q.c) := cell_of_row w1 _ 2 _ _ _ hK0
  have f0_2 : w1.frozen? ⟨w.heap.size, 2, none⟩ = false := frozen_of_row w1 _ 2 _ _ hK0
  have g0_3 : w1.cell? ⟨w.heap.size, 3, none⟩ = some (.float .f32 q.x) := cell_of_row w1 _ 3 _ _ _ hK0
  have f0_3 : w1.frozen? ⟨w.heap.size, 3, none⟩ = false := frozen_of_row w1 _ 3 _ _ hK0
  have g0_4 : w1.cell? ⟨w.heap.size, 4, none⟩ = some (.float .f32 q.y) := cell_of_row w1 _ 4 _ _ _ hK0
  have f0_4 : w1.frozen? ⟨w.heap.size, 4, none⟩ = false := frozen_of_row w1 _ 4 _ _ hK0
  have g0_5 : w1.cell? ⟨w.heap.size, 5, none⟩ = some (.float .f32 q.z) := cell_of_row w1 _ 5 _ _ _ hK0
  have f0_5 : w1.frozen? ⟨w.heap.size, 5, none⟩ = false := frozen_of_row w1 _ 5 _ _ hK0
  have l0 : w.heap.size < w1.heap.size := (Array.getElem?_eq_some_iff.1 hK0).1
  have g1_0 : w1.cell? ⟨w.heap.size + 1, 0, none⟩ = some (.float .f32 0) := cell_of_row w1 _ 0 _ _ _ hK1
  have f1_0 : w1.frozen? ⟨w.heap.size + 1, 0, none⟩ = false := frozen_of_row w1 _ 0 _ _ hK1
  have g1_1 : w1.cell? ⟨w.heap.size + 1, 1, none⟩ = some (.float .f32 0) := cell_of_row w1 _ 1 _ _ _ hK1
  have f1_1 : w1.frozen? ⟨w.heap.size + 1, 1, none⟩ = false := frozen_of_row w1 _ 1 _ _ hK1
  have g1_2 : w1.cell? ⟨w.heap.size + 1, 2, none⟩ = some (.float .f32 0) := cell_of_row w1 _ 2 _ _ _ hK1
  have f1_2 : w1.frozen? ⟨w.heap.size + 1, 2, none⟩ = false := frozen_of_row w1 _ 2 _ _ hK1
  have g1_3 : w1.cell? ⟨w.heap.size + 1, 3, none⟩ = some (.float .f32 0) := cell_of_row w1 _ 3 _ _ _ hK1
  have f1_3 : w1.frozen? ⟨w.heap.size + 1, 3, none⟩ = false := frozen_of_row w1 _ 3 _ _ hK1
  have g1_4 : w1.cell? ⟨w.heap.size + 1, 4, none⟩ = some (.float .f32 0) := cell_of_row w1 _ 4 _ _ _ hK1
  have f1_4 : w1.frozen? ⟨w.heap.size + 1, 4, none⟩ = false := frozen_of_row w1 _ 4 _ _ hK1
  have g1_5 : w1.cell? ⟨w.heap.size + 1, 5, none⟩ = some (.float .f32 0) := cell_of_row w1 _ 5 _ _ _ hK1
  have f1_5 : w1.frozen? ⟨w.heap.size + 1, 5, none⟩ = false := frozen_of_row w1 _ 5 _ _ hK1
  have l1 : w.heap.size + 1 < w1.heap.size := (Array.getElem?_eq_some_iff.1 hK1).1
  clear hb
  cases h1 : boxB q
  · go_wp2_with fail
    generalize hWs : (((((w1.setCell ⟨w.heap.size + 1, 0, none⟩ (.float .f32 0)).setCell ⟨w.heap.size + 1, 1, none⟩ (.float .f32 0)).setCell ⟨w.heap.size + 1, 2, none⟩ (.float .f32 0)).setCell ⟨w.heap.size + 1, 3, none⟩ (.float .f32 0)).setCell ⟨w.heap.size + 1, 4, none⟩ (.float .f32 0)).setCell ⟨w.heap.size + 1, 5, none⟩ (.float .f32 0) = w5
    have hS : w5.heap[w.heap.size + 1]? = some (.cells #[.float .f32 0, .float .f32 0, .float .f32 0, .float .f32 0, .float .f32 0, .float .f32 0] 30) := by
      subst hWs
      have s0 := heap_setCell_same (w1) _ 0 _ _ (.float .f32 0) hK1
      have s1 := heap_setCell_same ((w1).setCell ⟨w.heap.size + 1, 0, none⟩ (.float .f32 0)) _ 1 _ _ (.float .f32 0) s0
      have s2 := heap_setCell_same (((w1).setCell ⟨w.heap.size + 1, 0, none⟩ (.float .f32 0)).setCell ⟨w.heap.size + 1, 1, none⟩ (.float .f32 0)) _ 2 _ _ (.float .f32 0) s1
      have s3 := heap_setCell_same ((((w1).setCell ⟨w.heap.size + 1, 0, none⟩ (.float .f32 0)).setCell ⟨w.heap.size + 1, 1, none⟩ (.float .f32 0)).setCell ⟨w.heap.size + 1, 2, none⟩ (.float .f32 0)) _ 3 _ _ (.float .f32 0) s2
      have s4 := heap_setCell_same (((((w1).setCell ⟨w.heap.size + 1, 0, none⟩ (.float .f32 0)).setCell ⟨w.heap.size + 1, 1, none⟩ (.float .f32 0)).setCell ⟨w.heap.size + 1, 2, none⟩ (.float .f32 0)).setCell ⟨w.heap.size + 1, 3, none⟩ (.float .f32 0)) _ 4 _ _ (.float .f32 0) s3
      have s5 := heap_setCell_same ((((((w1).setCell ⟨w.heap.size + 1, 0, none⟩ (.float .f32 0)).setCell ⟨w.heap.size + 1, 1, none⟩ (.float .f32 0)).setCell ⟨w.heap.size + 1, 2, none⟩ (.float .f32 0)).setCell ⟨w.heap.size + 1, 3, none⟩ (.float .f32 0)).setCell ⟨w.heap.size + 1, 4, none⟩ (.float .f32 0)) _ 5 _ _ (.float .f32 0) s4
      simpa using s5
    have hO : ∀ q, q ≠ w.heap.size + 1 → w5.heap[q]? = w1.heap[q]? := fun q hq => by subst hWs; rw [heap_setCell_other _ _ _ _ hq, heap_setCell_other _ _ _ _ hq, heap_setCell_other _ _ _ _ hq, heap_setCell_other _ _ _ _ hq, heap_setCell_other _ _ _ _ hq, heap_setCell_other _ _ _ _ hq]
    have hB2 : Below w.heap.size w w5 := by
      subst hWs
      have hle : w.heap.size ≤ w.heap.size + 1 := by omega
      refine Below.setCell ?_ hle _
      refine Below.setCell ?_ hle _
      refine Below.setCell ?_ hle _
      refine Below.setCell ?_ hle _
      refine Below.setCell ?_ hle _
      refine Below.setCell ?_ hle _
      repeat (first | exact hB1 | refine below_drewN ?_ _)
    clear g0_0 f0_0 g0_1 f0_1 g0_2 f0_2 g0_3 f0_3 g0_4 f0_4 g0_5 f0_5 l0 g1_0 f1_0 g1_1 f1_1 g1_2 f1_2 g1_3 f1_3 g1_4 f1_4 g1_5 f1_5 l1
    replace hK0 := (hO _ (by omega)).trans hK0
    replace hK1 := hS
    clear hS hO hWs
    have g0_0 : w5.cell? ⟨w.heap.size, 0, none⟩ = some (.float .f32 q.a) := cell_of_row w5 _ 0 _ _ _ hK0
    have f0_0 : w5.frozen? ⟨w.heap.size, 0, none⟩ = false := frozen_of_row w5 _ 0 _ _ hK0
    have g0_1 : w5.cell? ⟨w.heap.size, 1, none⟩ = some (.float .f32 q.b) := cell_of_row w5 _ 1 _ _ _ hK0
    have f0_1 : w5.frozen? ⟨w.heap.size, 1, none⟩ = false := frozen_of_row w5 _ 1 _ _ hK0
    have g0_2 : w5.cell? ⟨w.heap.size, 2, none⟩ = some (.float .f32 q.c) := cell_of_row w5 _ 2 _ _ _ hK0
    have f0_2 : w5.frozen? ⟨w.heap.size, 2, none⟩ = false := frozen_of_row w5 _ 2 _ _ hK0
    have g0_3 : w5.cell? ⟨w.heap.size, 3, none⟩ = some (.float .f32 q.x) := cell_of_row w5 _ 3 _ _ _ hK0
    have f0_3 : w5.frozen? ⟨w.heap.size, 3, none⟩ = false := frozen_of_row w5 _ 3 _ _ hK0
    have g0_4 : w5.cell? ⟨w.heap.size, 4, none⟩ = some (.float .f32 q.y) := cell_of_row w5 _ 4 _ _ _ hK0
    have f0_4 : w5.frozen? ⟨w.heap.size, 4, none⟩ = false := frozen_of_row w5 _ 4 _ _ hK0
    have g0_5 : w5.cell? ⟨w.heap.size, 5, none⟩ = some (.float .f32 q.z) := cell_of_row w5 _ 5 _ _ _ hK0
    have f0_5 : w5.frozen? ⟨w.heap.size, 5, none⟩ = false := frozen_of_row w5 _ 5 _ _ hK0
    have l0 : w.heap.size < w5.heap.size := (Array.getElem?_eq_some_iff.1 hK0).1
    have g1_0 : w5.cell? ⟨w.heap.size + 1, 0, none⟩ = some (.float .f32 0) := cell_of_row w5 _ 0 _ _ _ hK1
    have f1_0 : w5.frozen? ⟨w.heap.size + 1, 0, none⟩ = false := frozen_of_row w5 _ 0 _ _ hK1
    have g1_1 : w5.cell? ⟨w.heap.size + 1, 1, none⟩ = some (.float .f32 0) := cell_of_row w5 _ 1 _ _ _ hK1
    have f1_1 : w5.frozen? ⟨w.heap.size + 1, 1, none⟩ = false := frozen_of_row w5 _ 1 _ _ hK1
    have g1_2 : w5.cell? ⟨w.heap.size + 1, 2, none⟩ = some (.float .f32 0) := cell_of_row w5 _ 2 _ _ _ hK1
    have f1_2 : w5.frozen? ⟨w.heap.size + 1, 2, none⟩ = false := frozen_of_row w5 _ 2 _ _ hK1
    have g1_3 : w5.cell? ⟨w.heap.size + 1, 3, none⟩ = some (.float .f32 0) := cell_of_row w5 _ 3 _ _ _ hK1
    have f1_3 : w5.frozen? ⟨w.heap.size + 1, 3, none⟩ = false := frozen_of_row w5 _ 3 _ _ hK1
    have g1_4 : w5.cell? ⟨w.heap.size + 1, 4, none⟩ = some (.float .f32 0) := cell_of_row w5 _ 4 _ _ _ hK1
    have f1_4 : w5.frozen? ⟨w.heap.size + 1, 4, none⟩ = false := frozen_of_row w5 _ 4 _ _ hK1
    have g1_5 : w5.cell? ⟨w.heap.size + 1, 5, none⟩ = some (.float .f32 0) := cell_of_row w5 _ 5 _ _ _ hK1
    have f1_5 : w5.frozen? ⟨w.heap.size + 1, 5, none⟩ = false := frozen_of_row w5 _ 5 _ _ hK1
    have l1 : w.heap.size + 1 < w5.heap.size := (Array.getElem?_eq_some_iff.1 hK1).1
    exact bodyPost_ret (v := .tuple #[.agg #[.float .f32 0, .float .f32 0, .float .f32 0, .float .f32 0, .float .f32 0, .float .f32 0], .bool false]) (by simp [results, Try.results49, go_sem, g1_0, g1_1, g1_2, g1_3, g1_4, g1_5]) rfl ⟨by unfold okB; rw [h1]; rfl, hB2⟩
  · go_wp2_with fail
    generalize hWs : (((((w1.setCell ⟨w.heap.size + 1, 0, none⟩ (.float .f32 q.a)).setCell ⟨w.heap.size + 1, 1, none⟩ (.float .f32 q.b)).setCell ⟨w.heap.size + 1, 2, none⟩ (.float .f32 q.c)).setCell ⟨w.heap.size + 1, 3, none⟩ (.float .f32 q.x)).setCell ⟨w.heap.size + 1, 4, none⟩ (.float .f32 q.y)).setCell ⟨w.heap.size + 1, 5, none⟩ (.float .f32 q.z) = w5
    have hS : w5.heap[w.heap.size + 1]? = some (.cells #[.float .f32 q.a, .float .f32 q.b, .float .f32 q.c, .float .f32 q.x, .float .f32 q.y, .float .f32 q.z] 30) := by
      subst hWs
      have s0 := heap_setCell_same (w1) _ 0 _ _ (.float .f32 q.a) hK1
      have s1 := heap_setCell_same ((w1).setCell ⟨w.heap.size + 1, 0, none⟩ (.float .f32 q.a)) _ 1 _ _ (.float .f32 q.b) s0
      have s2 := heap_setCell_same (((w1).setCell ⟨w.heap.size + 1, 0, none⟩ (.float .f32 q.a)).setCell ⟨w.heap.size + 1, 1, none⟩ (.float .f32 q.b)) _ 2 _ _ (.float .f32 q.c) s1
      have s3 := heap_setCell_same ((((w1).setCell ⟨w.heap.size + 1, 0, none⟩ (.float .f32 q.a)).setCell ⟨w.heap.size + 1, 1, none⟩ (.float .f32 q.b)).setCell ⟨w.heap.size + 1, 2, none⟩ (.float .f32 q.c)) _ 3 _ _ (.float .f32 q.x) s2
      have s4 := heap_setCell_same (((((w1).setCell ⟨w.heap.size + 1, 0, none⟩ (.float .f32 q.a)).setCell ⟨w.heap.size + 1, 1, none⟩ (.float .f32 q.b)).setCell ⟨w.heap.size + 1, 2, none⟩ (.float .f32 q.c)).setCell ⟨w.heap.size + 1, 3, none⟩ (.float .f32 q.x)) _ 4 _ _ (.float .f32 q.y) s3
      have s5 := heap_setCell_same ((((((w1).setCell ⟨w.heap.size + 1, 0, none⟩ (.float .f32 q.a)).setCell ⟨w.heap.size + 1, 1, none⟩ (.float .f32 q.b)).setCell ⟨w.heap.size + 1, 2, none⟩ (.float .f32 q.c)).setCell ⟨w.heap.size + 1, 3, none⟩ (.float .f32 q.x)).setCell ⟨w.heap.size + 1, 4, none⟩ (.float .f32 q.y)) _ 5 _ _ (.float .f32 q.z) s4
      simpa using s5
    have hO : ∀ q, q ≠ w.heap.size + 1 → w5.heap[q]? = w1.heap[q]? := fun q hq => by subst hWs; rw [heap_setCell_other _ _ _ _ hq, heap_setCell_other _ _ _ _ hq, heap_setCell_other _ _ _ _ hq, heap_setCell_other _ _ _ _ hq, heap_setCell_other _ _ _ _ hq, heap_setCell_other _ _ _ _ hq]
    have hB2 : Below w.heap.size w w5 := by
      subst hWs
      have hle : w.heap.size ≤ w.heap.size + 1 := by omega
      refine Below.setCell ?_ hle _
      refine Below.setCell ?_ hle _
      refine Below.setCell ?_ hle _
      refine Below.setCell ?_ hle _
      refine Below.setCell ?_ hle _
      refine Below.setCell ?_ hle _
      repeat (first | exact hB1 | refine below_drewN ?_ _)
    clear g0_0 f0_0 g0_1 f0_1 g0_2 f0_2 g0_3 f0_3 g0_4 f0_4 g0_5 f0_5 l0 g1_0 f1_0 g1_1 f1_1 g1_2 f1_2 g1_3 f1_3 g1_4 f1_4 g1_5 f1_5 l1
    replace hK0 := (hO _ (by omega)).trans hK0
    replace hK1 := hS
    clear hS hO hWs
    have g0_0 : w5.cell? ⟨w.heap.size, 0, none⟩ = some (.float .f32 q.a) := cell_of_row w5 _ 0 _ _ _ hK0
    have f0_0 : w5.frozen? ⟨w.heap.size, 0, none⟩ = false := frozen_of_row w5 _ 0 _ _ hK0
    have g0_1 : w5.cell? ⟨w.heap.size, 1, none⟩ = some (.float .f32 q.b) := cell_of_row w5 _ 1 _ _ _ hK0
    have f0_1 : w5.frozen? ⟨w.heap.size, 1, none⟩ = false := frozen_of_row w5 _ 1 _ _ hK0
    have g0_2 : w5.cell? ⟨w.heap.size, 2, none⟩ = some (.float .f32 q.c) := cell_of_row w5 _ 2 _ _ _ hK0
    have f0_2 : w5.frozen? ⟨w.heap.size, 2, none⟩ = false := frozen_of_row w5 _ 2 _ _ hK0
    have g0_3 : w5.cell? ⟨w.heap.size, 3, none⟩ = some (.float .f32 q.x) := cell_of_row w5 _ 3 _ _ _ hK0
    have f0_3 : w5.frozen? ⟨w.heap.size, 3, none⟩ = false := frozen_of_row w5 _ 3 _ _ hK0
    have g0_4 : w5.cell? ⟨w.heap.size, 4, none⟩ = some (.float .f32 q.y) := cell_of_row w5 _ 4 _ _ _ hK0
    have f0_4 : w5.frozen? ⟨w.heap.size, 4, none⟩ = false := frozen_of_row w5 _ 4 _ _ hK0
    have g0_5 : w5.cell? ⟨w.heap.size, 5, none⟩ = some (.float .f32 q.z) := cell_of_row w5 _ 5 _ _ _ hK0
    have f0_5 : w5.frozen? ⟨w.heap.size, 5, none⟩ = false := frozen_of_row w5 _ 5 _ _ hK0
    have l0 : w.heap.size < w5.heap.size := (Array.getElem?_eq_some_iff.1 hK0).1
    have g1_0 : w5.cell? ⟨w.heap.size + 1, 0, none⟩ = some (.float .f32 q.a) := cell_of_row w5 _ 0 _ _ _ hK1
    have f1_0 : w5.frozen? ⟨w.heap.size + 1, 0, none⟩ = false := frozen_of_row w5 _ 0 _ _ hK1
    have g1_1 : w5.cell? ⟨w.heap.size + 1, 1, none⟩ = some (.float .f32 q.b) := cell_of_row w5 _ 1 _ _ _ hK1
    have f1_1 : w5.frozen? ⟨w.heap.size + 1, 1, none⟩ = false := frozen_of_row w5 _ 1 _ _ hK1
    have g1_2 : w5.cell? ⟨w.heap.size + 1, 2, none⟩ = some (.float .f32 q.c) := cell_of_row w5 _ 2 _ _ _ hK1
    have f1_2 : w5.frozen? ⟨w.heap.size + 1, 2, none⟩ = false := frozen_of_row w5 _ 2 _ _ hK1
    have g1_3 : w5.cell? ⟨w.heap.size + 1, 3, none⟩ = some (.float .f32 q.x) := cell_of_row w5 _ 3 _ _ _ hK1
    have f1_3 : w5.frozen? ⟨w.heap.size + 1, 3, none⟩ = false := frozen_of_row w5 _ 3 _ _ hK1
    have g1_4 : w5.cell? ⟨w.heap.size + 1, 4, none⟩ = some (.float .f32 q.y) := cell_of_row w5 _ 4 _ _ _ hK1
    have f1_4 : w5.frozen? ⟨w.heap.size + 1, 4, none⟩ = false := frozen_of_row w5 _ 4 _ _ hK1
    have g1_5 : w5.cell? ⟨w.heap.size + 1, 5, none⟩ = some (.float .f32 q.z) := cell_of_row w5 _ 5 _ _ _ hK1
    have f1_5 : w5.frozen? ⟨w.heap.size + 1, 5, none⟩ = false := frozen_of_row w5 _ 5 _ _ hK1
    have l1 : w.heap.size + 1 < w5.heap.size := (Array.getElem?_eq_some_iff.1 hK1).1
    exact bodyPost_ret (v := .tuple #[q.v, .bool true]) (by simp [results, Try.results49, go_sem, g1_0, g1_1, g1_2, g1_3, g1_4, g1_5]) rfl ⟨by unfold okB; rw [h1]; rfl, hB2⟩
set_option maxHeartbeats 1000000 in
set_option maxRecDepth 100000 in
theorem l04Give_ok (q : B6) (w : World) :
    Calls Try.prog 46 #[q.v] w fun e w' => e = .returned (.tuple #[(okB q).v, .bool (boxB q)]) ∧ Below w.heap.size w w' := by
  go_enter Try.func46, Try.ntmps46
  go_wp2_with fail
  generalize hW0 : (w.alloc (.cells #[.float .f32 q.a, .float .f32 q.b, .float .f32 q.c, .float .f32 q.x, .float .f32 q.y, .float .f32 q.z] 30)).alloc (.cells #[.float .f32 0, .float .f32 0, .float .f32 0, .float .f32 0, .float .f32 0, .float .f32 0] 30) = W0
  have hB0 : Below w.heap.size w W0 := by subst hW0; exact by (repeat (first | exact Below.refl _ _ | assumption | refine below_drewN ?_ _ | refine Below.setCell ?_ (by first | omega | (simp <;> omega)) _ | refine Below.alloc ?_ (by first | omega | (simp <;> omega)) _))
  have hK0 : W0.heap[w.heap.size]? = some (.cells #[.float .f32 q.a, .float .f32 q.b, .float .f32 q.c, .float .f32 q.x, .float .f32 q.y, .float .f32 q.z] 30) := by subst hW0; exact heap_alloc2_old _ _ _
  have hK1 : W0.heap[w.heap.size + 1]? = some (.cells #[.float .f32 0, .float .f32 0, .float .f32 0, .float .f32 0, .float .f32 0, .float .f32 0] 30) := by subst hW0; exact heap_alloc2_new _ _ _
  clear hW0
  have hZ0 : w.heap.size + 1 < W0.heap.size := (Array.getElem?_eq_some_iff.1 hK1).1
  have g0_0 : W0.cell? ⟨w.heap.size, 0, none⟩ = some (.float .f32 q.a) := cell_of_row W0 _ 0 _ _ _ hK0
  have f0_0 : W0.frozen? ⟨w.heap.size, 0, none⟩ = false := frozen_of_row W0 _ 0 _ _ hK0
  have g0_1 : W0.cell? ⟨w.heap.size, 1, none⟩ = some (.float .f32 q.b) := cell_of_row W0 _ 1 _ _ _ hK0
  have f0_1 : W0.frozen? ⟨w.heap.size, 1, none⟩ = false := frozen_of_row W0 _ 1 _ _ hK0
  have g0_2 : W0.cell? ⟨w.heap.size, 2, none⟩ = some (.float .f32 q.c) := cell_of_row W0 _ 2 _ _ _ hK0
  have f0_2 : W0.frozen? ⟨w.heap.size, 2, none⟩ = false := frozen_of_row W0 _ 2 _ _ hK0
  have g0_3 : W0.cell? ⟨w.heap.size, 3, none⟩ = some (.float .f32 q.x) := cell_of_row W0 _ 3 _ _ _ hK0
  have f0_3 : W0.frozen? ⟨w.heap.size, 3, none⟩ = false := frozen_of_row W0 _ 3 _ _ hK0
  have g0_4 : W0.cell? ⟨w.heap.size, 4, none⟩ = some (.float .f32 q.y) := cell_of_row W0 _ 4 _ _ _ hK0
  have f0_4 : W0.frozen? ⟨w.heap.size, 4, none⟩ = false := frozen_of_row W0 _ 4 _ _ hK0
  have g0_5 : W0.cell? ⟨w.heap.size, 5, none⟩ = some (.float .f32 q.z) := cell_of_row W0 _ 5 _ _ _ hK0
  have f0_5 : W0.frozen? ⟨w.heap.size, 5, none⟩ = false := frozen_of_row W0 _ 5 _ _ hK0
  have l0 : w.heap.size < W0.heap.size := (Array.getElem?_eq_some_iff.1 hK0).1
  have g1_0 : W0.cell? ⟨w.heap.size + 1, 0, none⟩ = some (.float .f32 0) := cell_of_row W0 _ 0 _ _ _ hK1
  have f1_0 : W0.frozen? ⟨w.heap.size + 1, 0, none⟩ = false := frozen_of_row W0 _ 0 _ _ hK1
  have g1_1 : W0.cell? ⟨w.heap.size + 1, 1, none⟩ = some (.float .f32 0) := cell_of_row W0 _ 1 _ _ _ hK1
  have f1_1 : W0.frozen? ⟨w.heap.size + 1, 1, none⟩ = false := frozen_of_row W0 _ 1 _ _ hK1
  have g1_2 : W0.cell? ⟨w.heap.size + 1, 2, none⟩ = some (.float .f32 0) := cell_of_row W0 _ 2 _ _ _ hK1
  have f1_2 : W0.frozen? ⟨w.heap.size + 1, 2, none⟩ = false := frozen_of_row W0 _ 2 _ _ hK1
  have g1_3 : W0.cell? ⟨w.heap.size + 1, 3, none⟩ = some (.float .f32 0) := cell_of_row W0 _ 3 _ _ _ hK1
  have f1_3 : W0.frozen? ⟨w.heap.size + 1, 3, none⟩ = false := frozen_of_row W0 _ 3 _ _ hK1
  have g1_4 : W0.cell? ⟨w.heap.size + 1, 4, none⟩ = some (.float .f32 0) := cell_of_row W0 _ 4 _ _ _ hK1
  have f1_4 : W0.frozen? ⟨w.heap.size + 1, 4, none⟩ = false := frozen_of_row W0 _ 4 _ _ hK1
  have g1_5 : W0.cell? ⟨w.heap.size + 1, 5, none⟩ = some (.float .f32 0) := cell_of_row W0 _ 5 _ _ _ hK1
  have f1_5 : W0.frozen? ⟨w.heap.size + 1, 5, none⟩ = false := frozen_of_row W0 _ 5 _ _ hK1
  have l1 : w.heap.size + 1 < W0.heap.size := (Array.getElem?_eq_some_iff.1 hK1).1
  refine (l04Is_ok q _ _ hK0).mono ?_
  rintro e w1 ⟨rfl, hb⟩
  clear g0_0 f0_0 g0_1 f0_1 g0_2 f0_2 g0_3 f0_3 g0_4 f0_4 g0_5 f0_5 l0 g1_0 f1_0 g1_1 f1_1 g1_2 f1_2 g1_3 f1_3 g1_4 f1_4 g1_5 f1_5 l1
  have hE0 : Ext W0 w1 := hb
  have hB1 : Below w.heap.size w w1 := hB0.trans (hE0.mono hB0.size)
  replace hK0 := hE0.heap hK0
  replace hK1 := hE0.heap hK1
  have g0_0 : w1.cell? ⟨w.heap.size, 0, none⟩ = some (.float .f32 q.a) := cell_of_row w1 _ 0 _ _ _ hK0
  have f0_0 : w1.frozen? ⟨w.heap.size, 0, none⟩ = false := frozen_of_row w1 _ 0 _ _ hK0
  have g0_1 : w1.cell? ⟨w.heap.size, 1, none⟩ = some (.float .f32 q.b) := cell_of_row w1 _ 1 _ _ _ hK0
  have f0_1 : w1.frozen? ⟨w.heap.size, 1, none⟩ = false := frozen_of_row w1 _ 1 _ _ hK0
  have g0_2 : w1.cell? ⟨w.heap.size, 2, none⟩ = some (.float .f32 q.c) := cell_of_row w1 _ 2 _ _ _ hK0
  have f0_2 : w1.frozen? ⟨w.heap.size, 2, none⟩ = false := frozen_of_row w1 _ 2 _ _ hK0
  have g0_3 : w1.cell? ⟨w.heap.size, 3, none⟩ = some (.float .f32 q.x) := cell_of_row w1 _ 3 _ _ _ hK0
  have f0_3 : w1.frozen? ⟨w.heap.size, 3, none⟩ = false := frozen_of_row w1 _ 3 _ _ hK0
  have g0_4 : w1.cell? ⟨w.heap.size, 4, none⟩ = some (.float .f32 q.y) := cell_of_row w1 _ 4 _ _ _ hK0
  have f0_4 : w1.frozen? ⟨w.heap.size, 4, none⟩ = false := frozen_of_row w1 _ 4 _ _ hK0
  have g0_5 : w1.cell? ⟨w.heap.size, 5, none⟩ = some (.float .f32 q.z) := cell_of_row w1 _ 5 _ _ _ hK0
  have f0_5 : w1.frozen? ⟨w.heap.size, 5, none⟩ = false := frozen_of_row w1 _ 5 _ _ hK0
  have l0 : w.heap.size < w1.heap.size := (Array.getElem?_eq_some_iff.1 hK0).1
  have g1_0 : w1.cell? ⟨w.heap.size + 1, 0, none⟩ = some (.float .f32 0) := cell_of_row w1 _ 0 _ _ _ hK1
  have f1_0 : w1.frozen? ⟨w.heap.size + 1, 0, none⟩ = false := frozen_of_row w1 _ 0 _ _ hK1
  have g1_1 : w1.cell? ⟨w.heap.size + 1, 1, none⟩ = some (.float .f32 0) := cell_of_row w1 _ 1 _ _ _ hK1
  have f1_1 : w1.frozen? ⟨w.heap.size + 1, 1, none⟩ = false := frozen_of_row w1 _ 1 _ _ hK1
  have g1_2 : w1.cell? ⟨w.heap.size + 1, 2, none⟩ = some (.float .f32 0) := cell_of_row w1 _ 2 _ _ _ hK1
  have f1_2 : w1.frozen? ⟨w.heap.size + 1, 2, none⟩ = false := frozen_of_row w1 _ 2 _ _ hK1
  have g1_3 : w1.cell? ⟨w.heap.size + 1, 3, none⟩ = some (.float .f32 0) := cell_of_row w1 _ 3 _ _ _ hK1
  have f1_3 : w1.frozen? ⟨w.heap.size + 1, 3, none⟩ = false := frozen_of_row w1 _ 3 _ _ hK1
  have g1_4 : w1.cell? ⟨w.heap.size + 1, 4, none⟩ = some (.float .f32 0) := cell_of_row w1 _ 4 _ _ _ hK1
  have f1_4 : w1.frozen? ⟨w.heap.size + 1, 4, none⟩ = false := frozen_of_row w1 _ 4 _ _ hK1
  have g1_5 : w1.cell? ⟨w.heap.size + 1, 5, none⟩ = some (.float .f32 0) := cell_of_row w1 _ 5 _ _ _ hK1
  have f1_5 : w1.frozen? ⟨w.heap.size + 1, 5, none⟩ = false := frozen_of_row w1 _ 5 _ _ hK1
  have l1 : w.heap.size + 1 < w1.heap.size := (Array.getElem?_eq_some_iff.1 hK1).1
  clear hb
  cases h1 : boxB q
  · go_wp2_with fail
    generalize hWs : (((((w1.setCell ⟨w.heap.size + 1, 0, none⟩ (.float .f32 0)).setCell ⟨w.heap.size + 1, 1, none⟩ (.float .f32 0)).setCell ⟨w.heap.size + 1, 2, none⟩ (.float .f32 0)).setCell ⟨w.heap.size + 1, 3, none⟩ (.float .f32 0)).setCell ⟨w.heap.size + 1, 4, none⟩ (.float .f32 0)).setCell ⟨w.heap.size + 1, 5, none⟩ (.float .f32 0) = w5
    have hS : w5.heap[w.heap.size + 1]? = some (.cells #[.float .f32 0, .float .f32 0, .float .f32 0, .float .f32 0, .float .f32 0, .float .f32 0] 30) := by
      subst hWs
      have s0 := heap_setCell_same (w1) _ 0 _ _ (.float .f32 0) hK1
      have s1 := heap_setCell_same ((w1).setCell ⟨w.heap.size + 1, 0, none⟩ (.float .f32 0)) _ 1 _ _ (.float .f32 0) s0
      have s2 := heap_setCell_same (((w1).setCell ⟨w.heap.size + 1, 0, none⟩ (.float .f32 0)).setCell ⟨w.heap.size + 1, 1, none⟩ (.float .f32 0)) _ 2 _ _ (.float .f32 0) s1
      have s3 := heap_setCell_same ((((w1).setCell ⟨w.heap.size + 1, 0, none⟩ (.float .f32 0)).setCell ⟨w.heap.size + 1, 1, none⟩ (.float .f32 0)).setCell ⟨w.heap.size + 1, 2, none⟩ (.float .f32 0)) _ 3 _ _ (.float .f32 0) s2
      have s4 := heap_setCell_same (((((w1).setCell ⟨w.heap.size + 1, 0, none⟩ (.float .f32 0)).setCell ⟨w.heap.size + 1, 1, none⟩ (.float .f32 0)).setCell ⟨w.heap.size + 1, 2, none⟩ (.float .f32 0)).setCell ⟨w.heap.size + 1, 3, none⟩ (.float .f32 0)) _ 4 _ _ (.float .f32 0) s3
      have s5 := heap_setCell_same ((((((w1).setCell ⟨w.heap.size + 1, 0, none⟩ (.float .f32 0)).setCell ⟨w.heap.size + 1, 1, none⟩ (.float .f32 0)).setCell ⟨w.heap.size + 1, 2, none⟩ (.float .f32 0)).setCell ⟨w.heap.size + 1, 3, none⟩ (.float .f32 0)).setCell ⟨w.heap.size + 1, 4, none⟩ (.float .f32 0)) _ 5 _ _ (.float .f32 0) s4
      simpa using s5
    have hO : ∀ q, q ≠ w.heap.size + 1 → w5.heap[q]? = w1.heap[q]? := fun q hq => by subst hWs; rw [heap_setCell_other _ _ _ _ hq, heap_setCell_other _ _ _ _ hq, heap_setCell_other _ _ _ _ hq, heap_setCell_other _ _ _ _ hq, heap_setCell_other _ _ _ _ hq, heap_setCell_other _ _ _ _ hq]
    have hB2 : Below w.heap.size w w5 := by
      subst hWs
      have hle : w.heap.size ≤ w.heap.size + 1 := by omega
      refine Below.setCell ?_ hle _
      refine Below.setCell ?_ hle _
      refine Below.setCell ?_ hle _
      refine Below.setCell ?_ hle _
      refine Below.setCell ?_ hle _
      refine Below.setCell ?_ hle _
      repeat (first | exact hB1 | refine below_drewN ?_ _)
    clear g0_0 f0_0 g0_1 f0_1 g0_2 f0_2 g0_3 f0_3 g0_4 f0_4 g0_5 f0_5 l0 g1_0 f1_0 g1_1 f1_1 g1_2 f1_2 g1_3 f1_3 g1_4 f1_4 g1_5 f1_5 l1
    replace hK0 := (hO _ (by omega)).trans hK0
    replace hK1 := hS
    clear hS hO hWs
    have g0_0 : w5.cell? ⟨w.heap.size, 0, none⟩ = some (.float .f32 q.a) := cell_of_row w5 _ 0 _ _ _ hK0
    have f0_0 : w5.frozen? ⟨w.heap.size, 0, none⟩ = false := frozen_of_row w5 _ 0 _ _ hK0
    have g0_1 : w5.cell? ⟨w.heap.size, 1, none⟩ = some (.float .f32 q.b) := cell_of_row w5 _ 1 _ _ _ hK0
    have f0_1 : w5.frozen? ⟨w.heap.size, 1, none⟩ = false := frozen_of_row w5 _ 1 _ _ hK0
    have g0_2 : w5.cell? ⟨w.heap.size, 2, none⟩ = some (.float .f32 q.c) := cell_of_row w5 _ 2 _ _ _ hK0
    have f0_2 : w5.frozen? ⟨w.heap.size, 2, none⟩ = false := frozen_of_row w5 _ 2 _ _ hK0
    have g0_3 : w5.cell? ⟨w.heap.size, 3, none⟩ = some (.float .f32 q.x) := cell_of_row w5 _ 3 _ _ _ hK0
    have f0_3 : w5.frozen? ⟨w.heap.size, 3, none⟩ = false := frozen_of_row w5 _ 3 _ _ hK0
    have g0_4 : w5.cell? ⟨w.heap.size, 4, none⟩ = some (.float .f32 q.y) := cell_of_row w5 _ 4 _ _ _ hK0
    have f0_4 : w5.frozen? ⟨w.heap.size, 4, none⟩ = false := frozen_of_row w5 _ 4 _ _ hK0
    have g0_5 : w5.cell? ⟨w.heap.size, 5, none⟩ = some (.float .f32 q.z) := cell_of_row w5 _ 5 _ _ _ hK0
    have f0_5 : w5.frozen? ⟨w.heap.size, 5, none⟩ = false := frozen_of_row w5 _ 5 _ _ hK0
    have l0 : w.heap.size < w5.heap.size := (Array.getElem?_eq_some_iff.1 hK0).1
    have g1_0 : w5.cell? ⟨w.heap.size + 1, 0, none⟩ = some (.float .f32 0) := cell_of_row w5 _ 0 _ _ _ hK1
    have f1_0 : w5.frozen? ⟨w.heap.size + 1, 0, none⟩ = false := frozen_of_row w5 _ 0 _ _ hK1
    have g1_1 : w5.cell? ⟨w.heap.size + 1, 1, none⟩ = some (.float .f32 0) := cell_of_row w5 _ 1 _ _ _ hK1
    have f1_1 : w5.frozen? ⟨w.heap.size + 1, 1, none⟩ = false := frozen_of_row w5 _ 1 _ _ hK1
    have g1_2 : w5.cell? ⟨w.heap.size + 1, 2, none⟩ = some (.float .f32 0) := cell_of_row w5 _ 2 _ _ _ hK1
    have f1_2 : w5.frozen? ⟨w.heap.size + 1, 2, none⟩ = false := frozen_of_row w5 _ 2 _ _ hK1
    have g1_3 : w5.cell? ⟨w.heap.size + 1, 3, none⟩ = some (.float .f32 0) := cell_of_row w5 _ 3 _ _ _ hK1
    have f1_3 : w5.frozen? ⟨w.heap.size + 1, 3, none⟩ = false := frozen_of_row w5 _ 3 _ _ hK1
    have g1_4 : w5.cell? ⟨w.heap.size + 1, 4, none⟩ = some (.float .f32 0) := cell_of_row w5 _ 4 _ _ _ hK1
    have f1_4 : w5.frozen? ⟨w.heap.size + 1, 4, none⟩ = false := frozen_of_row w5 _ 4 _ _ hK1
    have g1_5 : w5.cell? ⟨w.heap.size + 1, 5, none⟩ = some (.float .f32 0) := cell_of_row w5 _ 5 _ _ _ hK1
    have f1_5 : w5.frozen? ⟨w.heap.size + 1, 5, none⟩ = false := frozen_of_row w5 _ 5 _ _ hK1
    have l1 : w.heap.size + 1 < w5.heap.size := (Array.getElem?_eq_some_iff.1 hK1).1
    exact bodyPost_ret (v := .tuple #[.agg #[.float .f32 0, .float .f32 0, .float .f32 0, .float .f32 0, .float .f32 0, .float .f32 0], .bool false]) (by simp [results, Try.results46, go_sem, g1_0, g1_1, g1_2, g1_3, g1_4, g1_5]) rfl ⟨by unfold okB; rw [h1]; rfl, hB2⟩
  · go_wp2_with fail
    generalize hWs : (((((w1.setCell ⟨w.heap.size + 1, 0, none⟩ (.float .f32 q.a)).setCell ⟨w.heap.size + 1, 1, none⟩ (.float .f32 q.b)).setCell ⟨w.heap.size + 1, 2, none⟩ (.float .f32 q.c)).setCell ⟨w.heap.size + 1, 3, none⟩ (.float .f32 q.x)).setCell ⟨w.heap.size + 1, 4, none⟩ (.float .f32 q.y)).setCell ⟨w.heap.size + 1, 5, none⟩ (.float .f32 q.z) = w5
    have hS : w5.heap[w.heap.size + 1]? = some (.cells #[.float .f32 q.a, .float .f32 q.b, .float .f32 q.c, .float .f32 q.x, .float .f32 q.y, .float .f32 q.z] 30) := by
      subst hWs
      have s0 := heap_setCell_same (w1) _ 0 _ _ (.float .f32 q.a) hK1
      have s1 := heap_setCell_same ((w1).setCell ⟨w.heap.size + 1, 0, none⟩ (.float .f32 q.a)) _ 1 _ _ (.float .f32 q.b) s0
      have s2 := heap_setCell_same (((w1).setCell ⟨w.heap.size + 1, 0, none⟩ (.float .f32 q.a)).setCell ⟨w.heap.size + 1, 1, none⟩ (.float .f32 q.b)) _ 2 _ _ (.float .f32 q.c) s1
      have s3 := heap_setCell_same ((((w1).setCell ⟨w.heap.size + 1, 0, none⟩ (.float .f32 q.a)).setCell ⟨w.heap.size + 1, 1, none⟩ (.float .f32 q.b)).setCell ⟨w.heap.size + 1, 2, none⟩ (.float .f32 q.c)) _ 3 _ _ (.float .f32 q.x) s2
      have s4 := heap_setCell_same (((((w1).setCell ⟨w.heap.size + 1, 0, none⟩ (.float .f32 q.a)).setCell ⟨w.heap.size + 1, 1, none⟩ (.float .f32 q.b)).setCell ⟨w.heap.size + 1, 2, none⟩ (.float .f32 q.c)).setCell ⟨w.heap.size + 1, 3, none⟩ (.float .f32 q.x)) _ 4 _ _ (.float .f32 q.y) s3
      have s5 := heap_setCell_same ((((((w1).setCell ⟨w.heap.size + 1, 0, none⟩ (.float .f32 q.a)).setCell ⟨w.heap.size + 1, 1, none⟩ (.float .f32 q.b)).setCell ⟨w.heap.size + 1, 2, none⟩ (.float .f32 q.c)).setCell ⟨w.heap.size + 1, 3, none⟩ (.float .f32 q.x)).setCell ⟨w.heap.size + 1, 4, none⟩ (.float .f32 q.y)) _ 5 _ _ (.float .f32 q.z) s4
      simpa using s5
    have hO : ∀ q, q ≠ w.heap.size + 1 → w5.heap[q]? = w1.heap[q]? := fun q hq => by subst hWs; rw [heap_setCell_other _ _ _ _ hq, heap_setCell_other _ _ _ _ hq, heap_setCell_other _ _ _ _ hq, heap_setCell_other _ _ _ _ hq, heap_setCell_other _ _ _ _ hq, heap_setCell_other _ _ _ _ hq]
    have hB2 : Below w.heap.size w w5 := by
      subst hWs
      have hle : w.heap.size ≤ w.heap.size + 1 := by omega
      refine Below.setCell ?_ hle _
      refine Below.setCell ?_ hle _
      refine Below.setCell ?_ hle _
      refine Below.setCell ?_ hle _
      refine Below.setCell ?_ hle _
      refine Below.setCell ?_ hle _
      repeat (first | exact hB1 | refine below_drewN ?_ _)
    clear g0_0 f0_0 g0_1 f0_1 g0_2 f0_2 g0_3 f0_3 g0_4 f0_4 g0_5 f0_5 l0 g1_0 f1_0 g1_1 f1_1 g1_2 f1_2 g1_3 f1_3 g1_4 f1_4 g1_5 f1_5 l1
    replace hK0 := (hO _ (by omega)).trans hK0
    replace hK1 := hS
    clear hS hO hWs
    have g0_0 : w5.cell? ⟨w.heap.size, 0, none⟩ = some (.float .f32 q.a) := cell_of_row w5 _ 0 _ _ _ hK0
    have f0_0 : w5.frozen? ⟨w.heap.size, 0, none⟩ = false := frozen_of_row w5 _ 0 _ _ hK0
    have g0_1 : w5.cell? ⟨w.heap.size, 1, none⟩ = some (.float .f32 q.b) := cell_of_row w5 _ 1 _ _ _ hK0
    have f0_1 : w5.frozen? ⟨w.heap.size, 1, none⟩ = false := frozen_of_row w5 _ 1 _ _ hK0
    have g0_2 : w5.cell? ⟨w.heap.size, 2, none⟩ = some (.float .f32 q.c) := cell_of_row w5 _ 2 _ _ _ hK0
    have f0_2 : w5.frozen? ⟨w.heap.size, 2, none⟩ = false := frozen_of_row w5 _ 2 _ _ hK0
    have g0_3 : w5.cell? ⟨w.heap.size, 3, none⟩ = some (.float .f32 q.x) := cell_of_row w5 _ 3 _ _ _ hK0
    have f0_3 : w5.frozen? ⟨w.heap.size, 3, none⟩ = false := frozen_of_row w5 _ 3 _ _ hK0
    have g0_4 : w5.cell? ⟨w.heap.size, 4, none⟩ = some (.float .f32 q.y) := cell_of_row w5 _ 4 _ _ _ hK0
    have f0_4 : w5.frozen? ⟨w.heap.size, 4, none⟩ = false := frozen_of_row w5 _ 4 _ _ hK0
    have g0_5 : w5.cell? ⟨w.heap.size, 5, none⟩ = some (.float .f32 q.z) := cell_of_row w5 _ 5 _ _ _ hK0
    have f0_5 : w5.frozen? ⟨w.heap.size, 5, none⟩ = false := frozen_of_row w5 _ 5 _ _ hK0
    have l0 : w.heap.size < w5.heap.size := (Array.getElem?_eq_some_iff.1 hK0).1
    have g1_0 : w5.cell? ⟨w.heap.size + 1, 0, none⟩ = some (.float .f32 q.a) := cell_of_row w5 _ 0 _ _ _ hK1
    have f1_0 : w5.frozen? ⟨w.heap.size + 1, 0, none⟩ = false := frozen_of_row w5 _ 0 _ _ hK1
    have g1_1 : w5.cell? ⟨w.heap.size + 1, 1, none⟩ = some (.float .f32 q.b) := cell_of_row w5 _ 1 _ _ _ hK1
    have f1_1 : w5.frozen? ⟨w.heap.size + 1, 1, none⟩ = false := frozen_of_row w5 _ 1 _ _ hK1
    have g1_2 : w5.cell? ⟨w.heap.size + 1, 2, none⟩ = some (.float .f32 q.c) := cell_of_row w5 _ 2 _ _ _ hK1
    have f1_2 : w5.frozen? ⟨w.heap.size + 1, 2, none⟩ = false := frozen_of_row w5 _ 2 _ _ hK1
    have g1_3 : w5.cell? ⟨w.heap.size + 1, 3, none⟩ = some (.float .f32 q.x) := cell_of_row w5 _ 3 _ _ _ hK1
    have f1_3 : w5.frozen? ⟨w.heap.size + 1, 3, none⟩ = false := frozen_of_row w5 _ 3 _ _ hK1
    have g1_4 : w5.cell? ⟨w.heap.size + 1, 4, none⟩ = some (.float .f32 q.y) := cell_of_row w5 _ 4 _ _ _ hK1
    have f1_4 : w5.frozen? ⟨w.heap.size + 1, 4, none⟩ = false := frozen_of_row w5 _ 4 _ _ hK1
    have g1_5 : w5.cell? ⟨w.heap.size + 1, 5, none⟩ = some (.float .f32 q.z) := cell_of_row w5 _ 5 _ _ _ hK1
    have f1_5 : w5.frozen? ⟨w.heap.size + 1, 5, none⟩ = false := frozen_of_row w5 _ 5 _ _ hK1
    have l1 : w.heap.size + 1 < w5.heap.size := (Array.getElem?_eq_some_iff.1 hK1).1
    exact bodyPost_ret (v := .tuple #[q.v, .bool true]) (by simp [results, Try.results46, go_sem, g1_0, g1_1, g1_2, g1_3, g1_4, g1_5]) rfl ⟨by unfold okB; rw [h1]; rfl, hB2⟩
set_option maxHeartbeats 4000000 in
set_option maxRecDepth 100000 in
theorem GrowBox_ok (q : B6) (s : Nat) (w : World) :
    Calls Try.prog 24 #[q.v, .float .f32 s] w (BxV (onlyIf (boxB q) (growM q s)) (boxB q && boxB (growM q s)) w) := by
  go_enter Try.func24, Try.ntmps24
  go_wp2_with fail
  generalize hW0 : (w.alloc (.cells #[.float .f32 q.a, .float .f32 q.b, .float .f32 q.c, .float .f32 q.x, .float .f32 q.y, .float .f32 q.z] 30)).alloc (.cells #[.float .f32 0, .float .f32 0, .float .f32 0, .float .f32 0, .float .f32 0, .float .f32 0] 30) = W0
  have hB0 : Below w.heap.size w W0 := by subst hW0; exact by (repeat (first | exact Below.refl _ _ | assumption | refine below_drewN ?_ _ | refine Below.setCell ?_ (by first | omega | (simp <;> omega)) _ | refine Below.alloc ?_ (by first | omega | (simp <;> omega)) _))
  have hK0 : W0.heap[w.heap.size]? = some (.cells #[.float .f32 q.a, .float .f32 q.b, .float .f32 q.c, .float .f32 q.x, .float .f32 q.y, .float .f32 q.z] 30) := by subst hW0; exact heap_alloc2_old _ _ _
  have hK1 : W0.heap[w.heap.size + 1]? = some (.cells #[.float .f32 0, .float .f32 0, .float .f32 0, .float .f32 0, .float .f32 0, .float .f32 0] 30) := by subst hW0; exact heap_alloc2_new _ _ _
  clear hW0
  have hZ0 : w.heap.size + 1 < W0.heap.size := (Array.getElem?_eq_some_iff.1 hK1).1
  have g0_0 : W0.cell? ⟨w.heap.size, 0, none⟩ = some (.float .f32 q.a) := cell_of_row W0 _ 0 _ _ _ hK0
  have f0_0 : W0.frozen? ⟨w.heap.size, 0, none⟩ = false := frozen_of_row W0 _ 0 _ _ hK0
  have g0_1 : W0.cell? ⟨w.heap.size, 1, none⟩ = some (.float .f32 q.b) := cell_of_row W0 _ 1 _ _ _ hK0
  have f0_1 : W0.frozen? ⟨w.heap.size, 1, none⟩ = false := frozen_of_row W0 _ 1 _ _ hK0
  have g0_2 : W0.cell? ⟨w.heap.size, 2, none⟩ = some (.float .f32 q.c) := cell_of_row W0 _ 2 _ _ _ hK0
  have f0_2 : W0.frozen? ⟨w.heap.size, 2, none⟩ = false := frozen_of_row W0 _ 2 _ _ hK0
  have g0_3 : W0.cell? ⟨w.heap.size, 3, none⟩ = some (.float .f32 q.x) := cell_of_row W0 _ 3 _ _ _ hK0
  have f0_3 : W0.frozen? ⟨w.heap.size, 3, none⟩ = false := frozen_of_row W0 _ 3 _ _ hK0
  have g0_4 : W0.cell? ⟨w.heap.size, 4, none⟩ = some (.float .f32 q.y) := cell_of_row W0 _ 4 _ _ _ hK0
  have f0_4 : W0.frozen? ⟨w.heap.size, 4, none⟩ = false := frozen_of_row W0 _ 4 _ _ hK0
  have g0_5 : W0.cell? ⟨w.heap.size, 5, none⟩ = some (.float .f32 q.z) := cell_of_row W0 _ 5 _ _ _ hK0
  have f0_5 : W0.frozen? ⟨w.heap.size, 5, none⟩ = false := frozen_of_row W0 _ 5 _ _ hK0
  have l0 : w.heap.size < W0.heap.size := (Array.getElem?_eq_some_iff.1 hK0).1
  have g1_0 : W0.cell? ⟨w.heap.size + 1, 0, none⟩ = some (.float .f32 0) := cell_of_row W0 _ 0 _ _ _ hK1
  have f1_0 : W0.frozen? ⟨w.heap.size + 1, 0, none⟩ = false := frozen_of_row W0 _ 0 _ _ hK1
  have g1_1 : W0.cell? ⟨w.heap.size + 1, 1, none⟩ = some (.float .f32 0) := cell_of_row W0 _ 1 _ _ _ hK1
  have f1_1 : W0.frozen? ⟨w.heap.size + 1, 1, none⟩ = false := frozen_of_row W0 _ 1 _ _ hK1
  have g1_2 : W0.cell? ⟨w.heap.size + 1, 2, none⟩ = some (.float .f32 0) := cell_of_row W0 _ 2 _ _ _ hK1
  have f1_2 : W0.frozen? ⟨w.heap.size + 1, 2, none⟩ = false := frozen_of_row W0 _ 2 _ _ hK1
  have g1_3 : W0.cell? ⟨w.heap.size + 1, 3, none⟩ = some (.float .f32 0) := cell_of_row W0 _ 3 _ _ _ hK1
  have f1_3 : W0.frozen? ⟨w.heap.size + 1, 3, none⟩ = false := frozen_of_row W0 _ 3 _ _ hK1
  have g1_4 : W0.cell? ⟨w.heap.size + 1, 4, none⟩ = some (.float .f32 0) := cell_of_row W0 _ 4 _ _ _ hK1
  have f1_4 : W0.frozen? ⟨w.heap.size + 1, 4, none⟩ = false := frozen_of_row W0 _ 4 _ _ hK1
  have g1_5 : W0.cell? ⟨w.heap.size + 1, 5, none⟩ = some (.float .f32 0) := cell_of_row W0 _ 5 _ _ _ hK1
  have f1_5 : W0.frozen? ⟨w.heap.size + 1, 5, none⟩ = false := frozen_of_row W0 _ 5 _ _ hK1
  have l1 : w.heap.size + 1 < W0.heap.size := (Array.getElem?_eq_some_iff.1 hK1).1
  refine (ValidBox_ok q _).mono ?_
  rintro e w1 ⟨rfl, hb⟩
  clear g0_0 f0_0 g0_1 f0_1 g0_2 f0_2 g0_3 f0_3 g0_4 f0_4 g0_5 f0_5 l0 g1_0 f1_0 g1_1 f1_1 g1_2 f1_2 g1_3 f1_3 g1_4 f1_4 g1_5 f1_5 l1
  have hE0 : Ext W0 w1 := hb
  have hB1 : Below w.heap.size w w1 := hB0.trans (hE0.mono hB0.size)
  replace hK0 := hE0.heap hK0
  replace hK1 := hE0.heap hK1
  have g0_0 : w1.cell? ⟨w.heap.size, 0, none⟩ = some (.float .f32 q.a) := cell_of_row w1 _ 0 _ _ _ hK0
  have f0_0 : w1.frozen? ⟨w.heap.size, 0, none⟩ = false := frozen_of_row w1 _ 0 _ _ hK0
  have g0_1 : w1.cell? ⟨w.heap.size, 1, none⟩ = some (.float .f32 q.b) := cell_of_row w1 _ 1 _ _ _ hK0
  have f0_1 : w1.frozen? ⟨w.heap.size, 1, none⟩ = false := frozen_of_row w1 _ 1 _ _ hK0
  have g0_2 : w1.cell? ⟨w.heap.size, 2, none⟩ = some (.float .f32 q.c) := cell_of_row w1 _ 2 _ _ _ hK0
  have f0_2 : w1.frozen? ⟨w.heap.size, 2, none⟩ = false := frozen_of_row w1 _ 2 _ _ hK0
  have g0_3 : w1.cell? ⟨w.heap.size, 3, none⟩ = some (.float .f32 q.x) := cell_of_row w1 _ 3 _ _ _ hK0
  have f0_3 : w1.frozen? ⟨w.heap.size, 3, none⟩ = false := frozen_of_row w1 _ 3 _ _ hK0
  have g0_4 : w1.cell? ⟨w.heap.size, 4, none⟩ = some (.float .f32 q.y) := cell_of_row w1 _ 4 _ _ _ hK0
  have f0_4 : w1.frozen? ⟨w.heap.size, 4, none⟩ = false := frozen_of_row w1 _ 4 _ _ hK0
  have g0_5 : w1.cell? ⟨w.heap.size, 5, none⟩ = some (.float .f32 q.z) := cell_of_row w1 _ 5 _ _ _ hK0
  have f0_5 : w1.frozen? ⟨w.heap.size, 5, none⟩ = false := frozen_of_row w1 _ 5 _ _ hK0
  have l0 : w.heap.size < w1.heap.size := (Array.getElem?_eq_some_iff.1 hK0).1
  have g1_0 : w1.cell? ⟨w.heap.size + 1, 0, none⟩ = some (.float .f32 0) := cell_of_row w1 _ 0 _ _ _ hK1
  have f1_0 : w1.frozen? ⟨w.heap.size + 1, 0, none⟩ = false := frozen_of_row w1 _ 0 _ _ hK1
  have g1_1 : w1.cell? ⟨w.heap.size + 1, 1, none⟩ = some (.float .f32 0) := cell_of_row w1 _ 1 _ _ _ hK1
  have f1_1 : w1.frozen? ⟨w.heap.size + 1, 1, none⟩ = false := frozen_of_row w1 _ 1 _ _ hK1
  have g1_2 : w1.cell? ⟨w.heap.size + 1, 2, none⟩ = some (.float .f32 0) := cell_of_row w1 _ 2 _ _ _ hK1
  have f1_2 : w1.frozen? ⟨w.heap.size + 1, 2, none⟩ = false := frozen_of_row w1 _ 2 _ _ hK1
  have g1_3 : w1.cell? ⟨w.heap.size + 1, 3, none⟩ = some (.float .f32 0) := cell_of_row w1 _ 3 _ _ _ hK1
  have f1_3 : w1.frozen? ⟨w.heap.size + 1, 3, none⟩ = false := frozen_of_row w1 _ 3 _ _ hK1
  have g1_4 : w1.cell? ⟨w.heap.size + 1, 4, none⟩ = some (.float .f32 0) := cell_of_row w1 _ 4 _ _ _ hK1
  have f1_4 : w1.frozen? ⟨w.heap.size + 1, 4, none⟩ = false := frozen_of_row w1 _ 4 _ _ hK1
  have g1_5 : w1.cell? ⟨w.heap.size + 1, 5, none⟩ = some (.float .f32 0) := cell_of_row w1 _ 5 _ _ _ hK1
  have f1_5 : w1.frozen? ⟨w.heap.size + 1, 5, none⟩ = false := frozen_of_row w1 _ 5 _ _ hK1
  have l1 : w.heap.size + 1 < w1.heap.size := (Array.getElem?_eq_some_iff.1 hK1).1
  clear hb
  cases h1 : boxB q
  · go_wp2_with fail
    generalize hWs : (((((w1.setCell ⟨w.heap.size + 1, 0, none⟩ (.float .f32 0)).setCell ⟨w.heap.size + 1, 1, none⟩ (.float .f32 0)).setCell ⟨w.heap.size + 1, 2, none⟩ (.float .f32 0)).setCell ⟨w.heap.size + 1, 3, none⟩ (.float .f32 0)).setCell ⟨w.heap.size + 1, 4, none⟩ (.float .f32 0)).setCell ⟨w.heap.size + 1, 5, none⟩ (.float .f32 0) = w5
    have hS : w5.heap[w.heap.size + 1]? = some (.cells #[.float .f32 0, .float .f32 0, .float .f32 0, .float .f32 0, .float .f32 0, .float .f32 0] 30) := by
      subst hWs
      have s0 := heap_setCell_same (w1) _ 0 _ _ (.float .f32 0) hK1
      have s1 := heap_setCell_same ((w1).setCell ⟨w.heap.size + 1, 0, none⟩ (.float .f32 0)) _ 1 _ _ (.float .f32 0) s0
      have s2 := heap_setCell_same (((w1).setCell ⟨w.heap.size + 1, 0, none⟩ (.float .f32 0)).setCell ⟨w.heap.size + 1, 1, none⟩ (.float .f32 0)) _ 2 _ _ (.float .f32 0) s1
      have s3 := heap_setCell_same ((((w1).setCell ⟨w.heap.size + 1, 0, none⟩ (.float .f32 0)).setCell ⟨w.heap.size + 1, 1, none⟩ (.float .f32 0)).setCell ⟨w.heap.size + 1, 2, none⟩ (.float .f32 0)) _ 3 _ _ (.float .f32 0) s2
      have s4 := heap_setCell_same (((((w1).setCell ⟨w.heap.size + 1, 0, none⟩ (.float .f32 0)).setCell ⟨w.heap.size + 1, 1, none⟩ (.float .f32 0)).setCell ⟨w.heap.size + 1, 2, none⟩ (.float .f32 0)).setCell ⟨w.heap.size + 1, 3, none⟩ (.float .f32 0)) _ 4 _ _ (.float .f32 0) s3
      have s5 := heap_setCell_same ((((((w1).setCell ⟨w.heap.size + 1, 0, none⟩ (.float .f32 0)).setCell ⟨w.heap.size + 1, 1, none⟩ (.float .f32 0)).setCell ⟨w.heap.size + 1, 2, none⟩ (.float .f32 0)).setCell ⟨w.heap.size + 1, 3, none⟩ (.float .f32 0)).setCell ⟨w.heap.size + 1, 4, none⟩ (.float .f32 0)) _ 5 _ _ (.float .f32 0) s4
      simpa using s5
    have hO : ∀ q, q ≠ w.heap.size + 1 → w5.heap[q]? = w1.heap[q]? := fun q hq => by subst hWs; rw [heap_setCell_other _ _ _ _ hq, heap_setCell_other _ _ _ _ hq, heap_setCell_other _ _ _ _ hq, heap_setCell_other _ _ _ _ hq, heap_setCell_other _ _ _ _ hq, heap_setCell_other _ _ _ _ hq]
    have hB2 : Below w.heap.size w w5 := by
      subst hWs
      have hle : w.heap.size ≤ w.heap.size + 1 := by omega
      refine Below.setCell ?_ hle _
      refine Below.setCell ?_ hle _
      refine Below.setCell ?_ hle _
      refine Below.setCell ?_ hle _
      refine Below.setCell ?_ hle _
      refine Below.setCell ?_ hle _
      repeat (first | exact hB1 | refine below_drewN ?_ _)
    clear g0_0 f0_0 g0_1 f0_1 g0_2 f0_2 g0_3 f0_3 g0_4 f0_4 g0_5 f0_5 l0 g1_0 f1_0 g1_1 f1_1 g1_2 f1_2 g1_3 f1_3 g1_4 f1_4 g1_5 f1_5 l1
    replace hK0 := (hO _ (by omega)).trans hK0
    replace hK1 := hS
    clear hS hO hWs
    have g0_0 : w5.cell? ⟨w.heap.size, 0, none⟩ = some (.float .f32 q.a) := cell_of_row w5 _ 0 _ _ _ hK0
    have f0_0 : w5.frozen? ⟨w.heap.size, 0, none⟩ = false := frozen_of_row w5 _ 0 _ _ hK0
    have g0_1 : w5.cell? ⟨w.heap.size, 1, none⟩ = some (.float .f32 q.b) := cell_of_row w5 _ 1 _ _ _ hK0
    have f0_1 : w5.frozen? ⟨w.heap.size, 1, none⟩ = false := frozen_of_row w5 _ 1 _ _ hK0
    have g0_2 : w5.cell? ⟨w.heap.size, 2, none⟩ = some (.float .f32 q.c) := cell_of_row w5 _ 2 _ _ _ hK0
    have f0_2 : w5.frozen? ⟨w.heap.size, 2, none⟩ = false := frozen_of_row w5 _ 2 _ _ hK0
    have g0_3 : w5.cell? ⟨w.heap.size, 3, none⟩ = some (.float .f32 q.x) := cell_of_row w5 _ 3 _ _ _ hK0
    have f0_3 : w5.frozen? ⟨w.heap.size, 3, none⟩ = false := frozen_of_row w5 _ 3 _ _ hK0
    have g0_4 : w5.cell? ⟨w.heap.size, 4, none⟩ = some (.float .f32 q.y) := cell_of_row w5 _ 4 _ _ _ hK0
    have f0_4 : w5.frozen? ⟨w.heap.size, 4, none⟩ = false := frozen_of_row w5 _ 4 _ _ hK0
    have g0_5 : w5.cell? ⟨w.heap.size, 5, none⟩ = some (.float .f32 q.z) := cell_of_row w5 _ 5 _ _ _ hK0
    have f0_5 : w5.frozen? ⟨w.heap.size, 5, none⟩ = false := frozen_of_row w5 _ 5 _ _ hK0
    have l0 : w.heap.size < w5.heap.size := (Array.getElem?_eq_some_iff.1 hK0).1
    have g1_0 : w5.cell? ⟨w.heap.size + 1, 0, none⟩ = some (.float .f32 0) := cell_of_row w5 _ 0 _ _ _ hK1
    have f1_0 : w5.frozen? ⟨w.heap.size + 1, 0, none⟩ = false := frozen_of_row w5 _ 0 _ _ hK1
    have g1_1 : w5.cell? ⟨w.heap.size + 1, 1, none⟩ = some (.float .f32 0) := cell_of_row w5 _ 1 _ _ _ hK1
    have f1_1 : w5.frozen? ⟨w.heap.size + 1, 1, none⟩ = false := frozen_of_row w5 _ 1 _ _ hK1
    have g1_2 : w5.cell? ⟨w.heap.size + 1, 2, none⟩ = some (.float .f32 0) := cell_of_row w5 _ 2 _ _ _ hK1
    have f1_2 : w5.frozen? ⟨w.heap.size + 1, 2, none⟩ = false := frozen_of_row w5 _ 2 _ _ hK1
    have g1_3 : w5.cell? ⟨w.heap.size + 1, 3, none⟩ = some (.float .f32 0) := cell_of_row w5 _ 3 _ _ _ hK1
    have f1_3 : w5.frozen? ⟨w.heap.size + 1, 3, none⟩ = false := frozen_of_row w5 _ 3 _ _ hK1
    have g1_4 : w5.cell? ⟨w.heap.size + 1, 4, none⟩ = some (.float .f32 0) := cell_of_row w5 _ 4 _ _ _ hK1
    have f1_4 : w5.frozen? ⟨w.heap.size + 1, 4, none⟩ = false := frozen_of_row w5 _ 4 _ _ hK1
    have g1_5 : w5.cell? ⟨w.heap.size + 1, 5, none⟩ = some (.float .f32 0) := cell_of_row w5 _ 5 _ _ _ hK1
    have f1_5 : w5.frozen? ⟨w.heap.size + 1, 5, none⟩ = false := frozen_of_row w5 _ 5 _ _ hK1
    have l1 : w.heap.size + 1 < w5.heap.size := (Array.getElem?_eq_some_iff.1 hK1).1
    exact bodyPost_ret (v := .tuple #[.agg #[.float .f32 0, .float .f32 0, .float .f32 0, .float .f32 0, .float .f32 0, .float .f32 0], .bool false]) (by simp [results, Try.results24, go_sem, g1_0, g1_1, g1_2, g1_3, g1_4, g1_5]) rfl ⟨z6, by rw [h1]; rfl, z6_lt, by rw [h1]; exact B6.Eq.refl _, hB2⟩
  go_wp2_with fail
  clear g0_0 f0_0 g0_1 f0_1 g0_2 f0_2 g0_3 f0_3 g0_4 f0_4 g0_5 f0_5 l0 g1_0 f1_0 g1_1 f1_1 g1_2 f1_2 g1_3 f1_3 g1_4 f1_4 g1_5 f1_5 l1
  generalize hWa : w1.alloc (.cells #[.float .f32 s, .float .f32 s, .float .f32 s] 28) = w2
  have hE1 : Ext w1 w2 := by subst hWa; exact (Ext.refl _).alloc _
  have hN : w2.heap[w1.heap.size]? = some (.cells #[.float .f32 s, .float .f32 s, .float .f32 s] 28) := by subst hWa; exact Go.heap_alloc_new _ _
  clear hWa
  have hB2 : Below w.heap.size w w2 := hB1.trans (hE1.mono hB1.size)
  have hs1 : w.heap.size + 2 ≤ w1.heap.size := by have := (Array.getElem?_eq_some_iff.1 hK1).1; omega
  replace hK0 := hE1.heap hK0
  replace hK1 := hE1.heap hK1
  have hK2 := hN
  clear hN
  have g0_0 : w2.cell? ⟨w.heap.size, 0, none⟩ = some (.float .f32 q.a) := cell_of_row w2 _ 0 _ _ _ hK0
  have f0_0 : w2.frozen? ⟨w.heap.size, 0, none⟩ = false := frozen_of_row w2 _ 0 _ _ hK0
  have g0_1 : w2.cell? ⟨w.heap.size, 1, none⟩ = some (.float .f32 q.b) := cell_of_row w2 _ 1 _ _ _ hK0
  have f0_1 : w2.frozen? ⟨w.heap.size, 1, none⟩ = false := frozen_of_row w2 _ 1 _ _ hK0
  have g0_2 : w2.cell? ⟨w.heap.size, 2, none⟩ = some (.float .f32 q.c) := cell_of_row w2 _ 2 _ _ _ hK0
  have f0_2 : w2.frozen? ⟨w.heap.size, 2, none⟩ = false := frozen_of_row w2 _ 2 _ _ hK0
  have g0_3 : w2.cell? ⟨w.heap.size, 3, none⟩ = some (.float .f32 q.x) := cell_of_row w2 _ 3 _ _ _ hK0
  have f0_3 : w2.frozen? ⟨w.heap.size, 3, none⟩ = false := frozen_of_row w2 _ 3 _ _ hK0
  have g0_4 : w2.cell? ⟨w.heap.size, 4, none⟩ = some (.float .f32 q.y) := cell_of_row w2 _ 4 _ _ _ hK0
  have f0_4 : w2.frozen? ⟨w.heap.size, 4, none⟩ = false := frozen_of_row w2 _ 4 _ _ hK0
  have g0_5 : w2.cell? ⟨w.heap.size, 5, none⟩ = some (.float .f32 q.z) := cell_of_row w2 _ 5 _ _ _ hK0
  have f0_5 : w2.frozen? ⟨w.heap.size, 5, none⟩ = false := frozen_of_row w2 _ 5 _ _ hK0
  have l0 : w.heap.size < w2.heap.size := (Array.getElem?_eq_some_iff.1 hK0).1
  have g1_0 : w2.cell? ⟨w.heap.size + 1, 0, none⟩ = some (.float .f32 0) := cell_of_row w2 _ 0 _ _ _ hK1
  have f1_0 : w2.frozen? ⟨w.heap.size + 1, 0, none⟩ = false := frozen_of_row w2 _ 0 _ _ hK1
  have g1_1 : w2.cell? ⟨w.heap.size + 1, 1, none⟩ = some (.float .f32 0) := cell_of_row w2 _ 1 _ _ _ hK1
  have f1_1 : w2.frozen? ⟨w.heap.size + 1, 1, none⟩ = false := frozen_of_row w2 _ 1 _ _ hK1
  have g1_2 : w2.cell? ⟨w.heap.size + 1, 2, none⟩ = some (.float .f32 0) := cell_of_row w2 _ 2 _ _ _ hK1
  have f1_2 : w2.frozen? ⟨w.heap.size + 1, 2, none⟩ = false := frozen_of_row w2 _ 2 _ _ hK1
  have g1_3 : w2.cell? ⟨w.heap.size + 1, 3, none⟩ = some (.float .f32 0) := cell_of_row w2 _ 3 _ _ _ hK1
  have f1_3 : w2.frozen? ⟨w.heap.size + 1, 3, none⟩ = false := frozen_of_row w2 _ 3 _ _ hK1
  have g1_4 : w2.cell? ⟨w.heap.size + 1, 4, none⟩ = some (.float .f32 0) := cell_of_row w2 _ 4 _ _ _ hK1
  have f1_4 : w2.frozen? ⟨w.heap.size + 1, 4, none⟩ = false := frozen_of_row w2 _ 4 _ _ hK1
  have g1_5 : w2.cell? ⟨w.heap.size + 1, 5, none⟩ = some (.float .f32 0) := cell_of_row w2 _ 5 _ _ _ hK1
  have f1_5 : w2.frozen? ⟨w.heap.size + 1, 5, none⟩ = false := frozen_of_row w2 _ 5 _ _ hK1
  have l1 : w.heap.size + 1 < w2.heap.size := (Array.getElem?_eq_some_iff.1 hK1).1
  have g2_0 : w2.cell? ⟨w1.heap.size, 0, none⟩ = some (.float .f32 s) := cell_of_row w2 _ 0 _ _ _ hK2
  have f2_0 : w2.frozen? ⟨w1.heap.size, 0, none⟩ = false := frozen_of_row w2 _ 0 _ _ hK2
  have g2_1 : w2.cell? ⟨w1.heap.size, 1, none⟩ = some (.float .f32 s) := cell_of_row w2 _ 1 _ _ _ hK2
  have f2_1 : w2.frozen? ⟨w1.heap.size, 1, none⟩ = false := frozen_of_row w2 _ 1 _ _ hK2
  have g2_2 : w2.cell? ⟨w1.heap.size, 2, none⟩ = some (.float .f32 s) := cell_of_row w2 _ 2 _ _ _ hK2
  have f2_2 : w2.frozen? ⟨w1.heap.size, 2, none⟩ = false := frozen_of_row w2 _ 2 _ _ hK2
  have l2 : w1.heap.size < w2.heap.size := (Array.getElem?_eq_some_iff.1 hK2).1
  refine wp_region_laterO 12 (SO (QL [(18, V3 (fop .sub .f32 q.a s) (fop .sub .f32 q.b s) (fop .sub .f32 q.c s)), (22, V3 (fop .add .f32 q.x s) (fop .add .f32 q.y s) (fop .add .f32 q.z s)), (24, TB (growM q s))])) (stays_SO _) (by kernel_rfl) (by kernel_rfl) ?_
  repeat (first | (refine later_exO rfl (fun K hK => ?_); apply Exists.intro; refine ⟨fun w' hw' => ?_, ?_⟩; (obtain ⟨hcc, hff⟩ := Grew.cells hw'; clear hw'; go_simp; rfl); go_simp; refine hK _ ?_; clear hK K))
  (refine later_callO rfl (fun K hK => ?_); go_simp; refine ⟨_, _, fun _ _ => ⟨rfl, rfl⟩, fun w1 hw1 => ?_, fun u y1 hx1 hu => ?_⟩)
  · refine (LessVectors_ok _ _ _ _ _ _ _).mono ?_
    rintro e w2 ⟨r1, r2, r3, rfl, h1, h2, h3, e1, e2, e3, hb⟩
    exact ⟨_, rfl, ⟨r1, r2, r3, rfl, h1, h2, h3, e1, e2, e3⟩, hb⟩
  obtain ⟨p1, p2, p3, rfl, hp1, hp2, hp3, pe1, pe2, pe3⟩ : (V3 (fop .sub .f32 q.a s) (fop .sub .f32 q.b s) (fop .sub .f32 q.c s)) u := hu
  (refine hK _ _ hx1 ?_; clear hK K)
  repeat (first | (refine later_exO rfl (fun K hK => ?_); apply Exists.intro; refine ⟨fun w' hw' => ?_, ?_⟩; (obtain ⟨hcc, hff⟩ := Grew.cells hw'; clear hw'; go_simp; rfl); go_simp; refine hK _ ?_; clear hK K))
  (refine later_callO rfl (fun K hK => ?_); go_simp; refine ⟨_, _, fun _ _ => ⟨rfl, rfl⟩, fun w1 hw1 => ?_, fun u y2 hx2 hu => ?_⟩)
  · refine (AddVectors_ok _ _ _ _ _ _ _).mono ?_
    rintro e w2 ⟨r1, r2, r3, rfl, h1, h2, h3, e1, e2, e3, hb⟩
    exact ⟨_, rfl, ⟨r1, r2, r3, rfl, h1, h2, h3, e1, e2, e3⟩, hb⟩
  obtain ⟨t1, t2, t3, rfl, ht1, ht2, ht3, te1, te2, te3⟩ : (V3 (fop .add .f32 q.x s) (fop .add .f32 q.y s) (fop .add .f32 q.z s)) u := hu
  (refine hK _ _ hx2 ?_; clear hK K)
  repeat (first | (refine later_exO rfl (fun K hK => ?_); apply Exists.intro; refine ⟨fun w' hw' => ?_, ?_⟩; (obtain ⟨hcc, hff⟩ := Grew.cells hw'; clear hw'; go_simp; rfl); go_simp; refine hK _ ?_; clear hK K))
  (refine later_callO rfl (fun K hK => ?_); go_simp; refine ⟨_, _, fun _ _ => ⟨rfl, rfl⟩, fun w1 hw1 => ?_, fun u y3 hx3 hu => ?_⟩)
  · refine (ifValid_ok ⟨p1, p2, p3, t1, t2, t3⟩ _).mono ?_
    rintro e w2 ⟨rfl, hb⟩
    exact ⟨_, rfl, ⟨⟨p1, p2, p3, t1, t2, t3⟩, rfl, ⟨hp1, hp2, hp3, ht1, ht2, ht3⟩, ⟨pe1, pe2, pe3, te1, te2, te3⟩⟩, hb⟩
  obtain ⟨r, rfl, hrl, hre⟩ : (TB (growM q s)) u := hu
  (refine hK _ _ hx3 ?_; clear hK K)
  repeat (first | (refine later_exO rfl (fun K hK => ?_); apply Exists.intro; refine ⟨fun w' hw' => ?_, ?_⟩; (obtain ⟨hcc, hff⟩ := Grew.cells hw'; clear hw'; go_simp; rfl); go_simp; refine hK _ ?_; clear hK K))
  refine later_nilO ?_
  intro w4 hw4
  simp only [List.drop_succ_cons, List.drop_zero]
  clear g0_0 f0_0 g0_1 f0_1 g0_2 f0_2 g0_3 f0_3 g0_4 f0_4 g0_5 f0_5 l0 g1_0 f1_0 g1_1 f1_1 g1_2 f1_2 g1_3 f1_3 g1_4 f1_4 g1_5 f1_5 l1 g2_0 f2_0 g2_1 f2_1 g2_2 f2_2 l2
  have hE2 : Ext w2 w4 := (((hx1).trans hx2).trans hx3).trans hw4
  have hB3 : Below w.heap.size w w4 := hB2.trans (hE2.mono hB2.size)
  replace hK0 := hE2.heap hK0
  replace hK1 := hE2.heap hK1
  replace hK2 := hE2.heap hK2
  have g0_0 : w4.cell? ⟨w.heap.size, 0, none⟩ = some (.float .f32 q.a) := cell_of_row w4 _ 0 _ _ _ hK0
  have f0_0 : w4.frozen? ⟨w.heap.size, 0, none⟩ = false := frozen_of_row w4 _ 0 _ _ hK0
  have g0_1 : w4.cell? ⟨w.heap.size, 1, none⟩ = some (.float .f32 q.b) := cell_of_row w4 _ 1 _ _ _ hK0
  have f0_1 : w4.frozen? ⟨w.heap.size, 1, none⟩ = false := frozen_of_row w4 _ 1 _ _ hK0
  have g0_2 : w4.cell? ⟨w.heap.size, 2, none⟩ = some (.float .f32 q.c) := cell_of_row w4 _ 2 _ _ _ hK0
  have f0_2 : w4.frozen? ⟨w.heap.size, 2, none⟩ = false := frozen_of_row w4 _ 2 _ _ hK0
  have g0_3 : w4.cell? ⟨w.heap.size, 3, none⟩ = some (.float .f32 q.x) := cell_of_row w4 _ 3 _ _ _ hK0
  have f0_3 : w4.frozen? ⟨w.heap.size, 3, none⟩ = false := frozen_of_row w4 _ 3 _ _ hK0
  have g0_4 : w4.cell? ⟨w.heap.size, 4, none⟩ = some (.float .f32 q.y) := cell_of_row w4 _ 4 _ _ _ hK0
  have f0_4 : w4.frozen? ⟨w.heap.size, 4, none⟩ = false := frozen_of_row w4 _ 4 _ _ hK0
  have g0_5 : w4.cell? ⟨w.heap.size, 5, none⟩ = some (.float .f32 q.z) := cell_of_row w4 _ 5 _ _ _ hK0
  have f0_5 : w4.frozen? ⟨w.heap.size, 5, none⟩ = false := frozen_of_row w4 _ 5 _ _ hK0
  have l0 : w.heap.size < w4.heap.size := (Array.getElem?_eq_some_iff.1 hK0).1
  have g1_0 : w4.cell? ⟨w.heap.size + 1, 0, none⟩ = some (.float .f32 0) := cell_of_row w4 _ 0 _ _ _ hK1
  have f1_0 : w4.frozen? ⟨w.heap.size + 1, 0, none⟩ = false := frozen_of_row w4 _ 0 _ _ hK1
  have g1_1 : w4.cell? ⟨w.heap.size + 1, 1, none⟩ = some (.float .f32 0) := cell_of_row w4 _ 1 _ _ _ hK1
  have f1_1 : w4.frozen? ⟨w.heap.size + 1, 1, none⟩ = false := frozen_of_row w4 _ 1 _ _ hK1
  have g1_2 : w4.cell? ⟨w.heap.size + 1, 2, none⟩ = some (.float .f32 0) := cell_of_row w4 _ 2 _ _ _ hK1
  have f1_2 : w4.frozen? ⟨w.heap.size + 1, 2, none⟩ = false := frozen_of_row w4 _ 2 _ _ hK1
  have g1_3 : w4.cell? ⟨w.heap.size + 1, 3, none⟩ = some (.float .f32 0) := cell_of_row w4 _ 3 _ _ _ hK1
  have f1_3 : w4.frozen? ⟨w.heap.size + 1, 3, none⟩ = false := frozen_of_row w4 _ 3 _ _ hK1
  have g1_4 : w4.cell? ⟨w.heap.size + 1, 4, none⟩ = some (.float .f32 0) := cell_of_row w4 _ 4 _ _ _ hK1
  have f1_4 : w4.frozen? ⟨w.heap.size + 1, 4, none⟩ = false := frozen_of_row w4 _ 4 _ _ hK1
  have g1_5 : w4.cell? ⟨w.heap.size + 1, 5, none⟩ = some (.float .f32 0) := cell_of_row w4 _ 5 _ _ _ hK1
  have f1_5 : w4.frozen? ⟨w.heap.size + 1, 5, none⟩ = false := frozen_of_row w4 _ 5 _ _ hK1
  have l1 : w.heap.size + 1 < w4.heap.size := (Array.getElem?_eq_some_iff.1 hK1).1
  have g2_0 : w4.cell? ⟨w1.heap.size, 0, none⟩ = some (.float .f32 s) := cell_of_row w4 _ 0 _ _ _ hK2
  have f2_0 : w4.frozen? ⟨w1.heap.size, 0, none⟩ = false := frozen_of_row w4 _ 0 _ _ hK2
  have g2_1 : w4.cell? ⟨w1.heap.size, 1, none⟩ = some (.float .f32 s) := cell_of_row w4 _ 1 _ _ _ hK2
  have f2_1 : w4.frozen? ⟨w1.heap.size, 1, none⟩ = false := frozen_of_row w4 _ 1 _ _ hK2
  have g2_2 : w4.cell? ⟨w1.heap.size, 2, none⟩ = some (.float .f32 s) := cell_of_row w4 _ 2 _ _ _ hK2
  have f2_2 : w4.frozen? ⟨w1.heap.size, 2, none⟩ = false := frozen_of_row w4 _ 2 _ _ hK2
  have l2 : w1.heap.size < w4.heap.size := (Array.getElem?_eq_some_iff.1 hK2).1
  clear hw4 hx1 hx2 hx3
  go_wp2_with fail
  generalize hWs : (((((w4.setCell ⟨w.heap.size + 1, 0, none⟩ (.float .f32 (okB r).a)).setCell ⟨w.heap.size + 1, 1, none⟩ (.float .f32 (okB r).b)).setCell ⟨w.heap.size + 1, 2, none⟩ (.float .f32 (okB r).c)).setCell ⟨w.heap.size + 1, 3, none⟩ (.float .f32 (okB r).x)).setCell ⟨w.heap.size + 1, 4, none⟩ (.float .f32 (okB r).y)).setCell ⟨w.heap.size + 1, 5, none⟩ (.float .f32 (okB r).z) = w5
  have hS : w5.heap[w.heap.size + 1]? = some (.cells #[.float .f32 (okB r).a, .float .f32 (okB r).b, .float .f32 (okB r).c, .float .f32 (okB r).x, .float .f32 (okB r).y, .float .f32 (okB r).z] 30) := by
    subst hWs
    have s0 := heap_setCell_same (w4) _ 0 _ _ (.float .f32 (okB r).a) hK1
    have s1 := heap_setCell_same ((w4).setCell ⟨w.heap.size + 1, 0, none⟩ (.float .f32 (okB r).a)) _ 1 _ _ (.float .f32 (okB r).b) s0
    have s2 := heap_setCell_same (((w4).setCell ⟨w.heap.size + 1, 0, none⟩ (.float .f32 (okB r).a)).setCell ⟨w.heap.size + 1, 1, none⟩ (.float .f32 (okB r).b)) _ 2 _ _ (.float .f32 (okB r).c) s1
    have s3 := heap_setCell_same ((((w4).setCell ⟨w.heap.size + 1, 0, none⟩ (.float .f32 (okB r).a)).setCell ⟨w.heap.size + 1, 1, none⟩ (.float .f32 (okB r).b)).setCell ⟨w.heap.size + 1, 2, none⟩ (.float .f32 (okB r).c)) _ 3 _ _ (.float .f32 (okB r).x) s2
    have s4 := heap_setCell_same (((((w4).setCell ⟨w.heap.size + 1, 0, none⟩ (.float .f32 (okB r).a)).setCell ⟨w.heap.size + 1, 1, none⟩ (.float .f32 (okB r).b)).setCell ⟨w.heap.size + 1, 2, none⟩ (.float .f32 (okB r).c)).setCell ⟨w.heap.size + 1, 3, none⟩ (.float .f32 (okB r).x)) _ 4 _ _ (.float .f32 (okB r).y) s3
    have s5 := heap_setCell_same ((((((w4).setCell ⟨w.heap.size + 1, 0, none⟩ (.float .f32 (okB r).a)).setCell ⟨w.heap.size + 1, 1, none⟩ (.float .f32 (okB r).b)).setCell ⟨w.heap.size + 1, 2, none⟩ (.float .f32 (okB r).c)).setCell ⟨w.heap.size + 1, 3, none⟩ (.float .f32 (okB r).x)).setCell ⟨w.heap.size + 1, 4, none⟩ (.float .f32 (okB r).y)) _ 5 _ _ (.float .f32 (okB r).z) s4
    simpa using s5
  have hO : ∀ q, q ≠ w.heap.size + 1 → w5.heap[q]? = w4.heap[q]? := fun q hq => by subst hWs; rw [heap_setCell_other _ _ _ _ hq, heap_setCell_other _ _ _ _ hq, heap_setCell_other _ _ _ _ hq, heap_setCell_other _ _ _ _ hq, heap_setCell_other _ _ _ _ hq, heap_setCell_other _ _ _ _ hq]
  have hB4 : Below w.heap.size w w5 := by
    subst hWs
    have hle : w.heap.size ≤ w.heap.size + 1 := by omega
    refine Below.setCell ?_ hle _
    refine Below.setCell ?_ hle _
    refine Below.setCell ?_ hle _
    refine Below.setCell ?_ hle _
    refine Below.setCell ?_ hle _
    refine Below.setCell ?_ hle _
    repeat (first | exact hB3 | refine below_drewN ?_ _)
  clear g0_0 f0_0 g0_1 f0_1 g0_2 f0_2 g0_3 f0_3 g0_4 f0_4 g0_5 f0_5 l0 g1_0 f1_0 g1_1 f1_1 g1_2 f1_2 g1_3 f1_3 g1_4 f1_4 g1_5 f1_5 l1 g2_0 f2_0 g2_1 f2_1 g2_2 f2_2 l2
  replace hK0 := (hO _ (by omega)).trans hK0
  replace hK2 := (hO _ (by omega)).trans hK2
  replace hK1 := hS
  clear hS hO hWs
  have g0_0 : w5.cell? ⟨w.heap.size, 0, none⟩ = some (.float .f32 q.a) := cell_of_row w5 _ 0 _ _ _ hK0
  have f0_0 : w5.frozen? ⟨w.heap.size, 0, none⟩ = false := frozen_of_row w5 _ 0 _ _ hK0
  have g0_1 : w5.cell? ⟨w.heap.size, 1, none⟩ = some (.float .f32 q.b) := cell_of_row w5 _ 1 _ _ _ hK0
  have f0_1 : w5.frozen? ⟨w.heap.size, 1, none⟩ = false := frozen_of_row w5 _ 1 _ _ hK0
  have g0_2 : w5.cell? ⟨w.heap.size, 2, none⟩ = some (.float .f32 q.c) := cell_of_row w5 _ 2 _ _ _ hK0
  have f0_2 : w5.frozen? ⟨w.heap.size, 2, none⟩ = false := frozen_of_row w5 _ 2 _ _ hK0
  have g0_3 : w5.cell? ⟨w.heap.size, 3, none⟩ = some (.float .f32 q.x) := cell_of_row w5 _ 3 _ _ _ hK0
  have f0_3 : w5.frozen? ⟨w.heap.size, 3, none⟩ = false := frozen_of_row w5 _ 3 _ _ hK0
  have g0_4 : w5.cell? ⟨w.heap.size, 4, none⟩ = some (.float .f32 q.y) := cell_of_row w5 _ 4 _ _ _ hK0
  have f0_4 : w5.frozen? ⟨w.heap.size, 4, none⟩ = false := frozen_of_row w5 _ 4 _ _ hK0
  have g0_5 : w5.cell? ⟨w.heap.size, 5, none⟩ = some (.float .f32 q.z) := cell_of_row w5 _ 5 _ _ _ hK0
  have f0_5 : w5.frozen? ⟨w.heap.size, 5, none⟩ = false := frozen_of_row w5 _ 5 _ _ hK0
  have l0 : w.heap.size < w5.heap.size := (Array.getElem?_eq_some_iff.1 hK0).1
  have g1_0 : w5.cell? ⟨w.heap.size + 1, 0, none⟩ = some (.float .f32 (okB r).a) := cell_of_row w5 _ 0 _ _ _ hK1
  have f1_0 : w5.frozen? ⟨w.heap.size + 1, 0, none⟩ = false := frozen_of_row w5 _ 0 _ _ hK1
  have g1_1 : w5.cell? ⟨w.heap.size + 1, 1, none⟩ = some (.float .f32 (okB r).b) := cell_of_row w5 _ 1 _ _ _ hK1
  have f1_1 : w5.frozen? ⟨w.heap.size + 1, 1, none⟩ = false := frozen_of_row w5 _ 1 _ _ hK1
  have g1_2 : w5.cell? ⟨w.heap.size + 1, 2, none⟩ = some (.float .f32 (okB r).c) := cell_of_row w5 _ 2 _ _ _ hK1
  have f1_2 : w5.frozen? ⟨w.heap.size + 1, 2, none⟩ = false := frozen_of_row w5 _ 2 _ _ hK1
  have g1_3 : w5.cell? ⟨w.heap.size + 1, 3, none⟩ = some (.float .f32 (okB r).x) := cell_of_row w5 _ 3 _ _ _ hK1
  have f1_3 : w5.frozen? ⟨w.heap.size + 1, 3, none⟩ = false := frozen_of_row w5 _ 3 _ _ hK1
  have g1_4 : w5.cell? ⟨w.heap.size + 1, 4, none⟩ = some (.float .f32 (okB r).y) := cell_of_row w5 _ 4 _ _ _ hK1
  have f1_4 : w5.frozen? ⟨w.heap.size + 1, 4, none⟩ = false := frozen_of_row w5 _ 4 _ _ hK1
  have g1_5 : w5.cell? ⟨w.heap.size + 1, 5, none⟩ = some (.float .f32 (okB r).z) := cell_of_row w5 _ 5 _ _ _ hK1
  have f1_5 : w5.frozen? ⟨w.heap.size + 1, 5, none⟩ = false := frozen_of_row w5 _ 5 _ _ hK1
  have l1 : w.heap.size + 1 < w5.heap.size := (Array.getElem?_eq_some_iff.1 hK1).1
  have g2_0 : w5.cell? ⟨w1.heap.size, 0, none⟩ = some (.float .f32 s) := cell_of_row w5 _ 0 _ _ _ hK2
  have f2_0 : w5.frozen? ⟨w1.heap.size, 0, none⟩ = false := frozen_of_row w5 _ 0 _ _ hK2
  have g2_1 : w5.cell? ⟨w1.heap.size, 1, none⟩ = some (.float .f32 s) := cell_of_row w5 _ 1 _ _ _ hK2
  have f2_1 : w5.frozen? ⟨w1.heap.size, 1, none⟩ = false := frozen_of_row w5 _ 1 _ _ hK2
  have g2_2 : w5.cell? ⟨w1.heap.size, 2, none⟩ = some (.float .f32 s) := cell_of_row w5 _ 2 _ _ _ hK2
  have f2_2 : w5.frozen? ⟨w1.heap.size, 2, none⟩ = false := frozen_of_row w5 _ 2 _ _ hK2
  have l2 : w1.heap.size < w5.heap.size := (Array.getElem?_eq_some_iff.1 hK2).1
  exact bodyPost_ret (v := .tuple #[(okB r).v, .bool (boxB r)]) (by simp [results, Try.results24, go_sem, g1_0, g1_1, g1_2, g1_3, g1_4, g1_5]) rfl ⟨okB r, by rw [h1, boxB_eqv hre, Bool.true_and], okB_lt hrl, by rw [h1]; exact okB_eq hre, hB4⟩
set_option maxHeartbeats 4000000 in
set_option maxRecDepth 100000 in
theorem specGrowBox_ok (q : B6) (s : Nat) (w : World) :
    Calls Try.prog 23 #[q.v, .float .f32 s] w (BxV (onlyIf (boxB q) (growM q s)) (boxB q && boxB (growM q s)) w) := by
  go_enter Try.func23, Try.ntmps23
  go_wp2_with fail
  generalize hW0 : (w.alloc (.cells #[.float .f32 q.a, .float .f32 q.b, .float .f32 q.c, .float .f32 q.x, .float .f32 q.y, .float .f32 q.z] 30)).alloc (.cells #[.float .f32 0, .float .f32 0, .float .f32 0, .float .f32 0, .float .f32 0, .float .f32 0] 30) = W0
  have hB0 : Below w.heap.size w W0 := by subst hW0; exact by (repeat (first | exact Below.refl _ _ | assumption | refine below_drewN ?_ _ | refine Below.setCell ?_ (by first | omega | (simp <;> omega)) _ | refine Below.alloc ?_ (by first | omega | (simp <;> omega)) _))
  have hK0 : W0.heap[w.heap.size]? = some (.cells #[.float .f32 q.a, .float .f32 q.b, .float .f32 q.c, .float .f32 q.x, .float .f32 q.y, .float .f32 q.z] 30) := by subst hW0; exact heap_alloc2_old _ _ _
  have hK1 : W0.heap[w.heap.size + 1]? = some (.cells #[.float .f32 0, .float .f32 0, .float .f32 0, .float .f32 0, .float .f32 0, .float .f32 0] 30) := by subst hW0; exact heap_alloc2_new _ _ _
  clear hW0
  have hZ0 : w.heap.size + 1 < W0.heap.size := (Array.getElem?_eq_some_iff.1 hK1).1
  have g0_0 : W0.cell? ⟨w.heap.size, 0, none⟩ = some (.float .f32 q.a) := cell_of_row W0 _ 0 _ _ _ hK0
  have f0_0 : W0.frozen? ⟨w.heap.size, 0, none⟩ = false := frozen_of_row W0 _ 0 _ _ hK0
  have g0_1 : W0.cell? ⟨w.heap.size, 1, none⟩ = some (.float .f32 q.b) := cell_of_row W0 _ 1 _ _ _ hK0
  have f0_1 : W0.frozen? ⟨w.heap.size, 1, none⟩ = false := frozen_of_row W0 _ 1 _ _ hK0
  have g0_2 : W0.cell? ⟨w.heap.size, 2, none⟩ = some (.float .f32 q.c) := cell_of_row W0 _ 2 _ _ _ hK0
  have f0_2 : W0.frozen? ⟨w.heap.size, 2, none⟩ = false := frozen_of_row W0 _ 2 _ _ hK0
  have g0_3 : W0.cell? ⟨w.heap.size, 3, none⟩ = some (.float .f32 q.x) := cell_of_row W0 _ 3 _ _ _ hK0
  have f0_3 : W0.frozen? ⟨w.heap.size, 3, none⟩ = false := frozen_of_row W0 _ 3 _ _ hK0
  have g0_4 : W0.cell? ⟨w.heap.size, 4, none⟩ = some (.float .f32 q.y) := cell_of_row W0 _ 4 _ _ _ hK0
  have f0_4 : W0.frozen? ⟨w.heap.size, 4, none⟩ = false := frozen_of_row W0 _ 4 _ _ hK0
  have g0_5 : W0.cell? ⟨w.heap.size, 5, none⟩ = some (.float .f32 q.z) := cell_of_row W0 _ 5 _ _ _ hK0
  have f0_5 : W0.frozen? ⟨w.heap.size, 5, none⟩ = false := frozen_of_row W0 _ 5 _ _ hK0
  have l0 : w.heap.size < W0.heap.size := (Array.getElem?_eq_some_iff.1 hK0).1
  have g1_0 : W0.cell? ⟨w.heap.size + 1, 0, none⟩ = some (.float .f32 0) := cell_of_row W0 _ 0 _ _ _ hK1
  have f1_0 : W0.frozen? ⟨w.heap.size + 1, 0, none⟩ = false := frozen_of_row W0 _ 0 _ _ hK1
  have g1_1 : W0.cell? ⟨w.heap.size + 1, 1, none⟩ = some (.float .f32 0) := cell_of_row W0 _ 1 _ _ _ hK1
  have f1_1 : W0.frozen? ⟨w.heap.size + 1, 1, none⟩ = false := frozen_of_row W0 _ 1 _ _ hK1
  have g1_2 : W0.cell? ⟨w.heap.size + 1, 2, none⟩ = some (.float .f32 0) := cell_of_row W0 _ 2 _ _ _ hK1
  have f1_2 : W0.frozen? ⟨w.heap.size + 1, 2, none⟩ = false := frozen_of_row W0 _ 2 _ _ hK1
  have g1_3 : W0.cell? ⟨w.heap.size + 1, 3, none⟩ = some (.float .f32 0) := cell_of_row W0 _ 3 _ _ _ hK1
  have f1_3 : W0.frozen? ⟨w.heap.size + 1, 3, none⟩ = false := frozen_of_row W0 _ 3 _ _ hK1
  have g1_4 : W0.cell? ⟨w.heap.size + 1, 4, none⟩ = some (.float .f32 0) := cell_of_row W0 _ 4 _ _ _ hK1
  have f1_4 : W0.frozen? ⟨w.heap.size + 1, 4, none⟩ = false := frozen_of_row W0 _ 4 _ _ hK1
  have g1_5 : W0.cell? ⟨w.heap.size + 1, 5, none⟩ = some (.float .f32 0) := cell_of_row W0 _ 5 _ _ _ hK1
  have f1_5 : W0.frozen? ⟨w.heap.size + 1, 5, none⟩ = false := frozen_of_row W0 _ 5 _ _ hK1
  have l1 : w.heap.size + 1 < W0.heap.size := (Array.getElem?_eq_some_iff.1 hK1).1
  refine (l04Is_ok q _ _ hK0).mono ?_
  rintro e w1 ⟨rfl, hb⟩
  clear g0_0 f0_0 g0_1 f0_1 g0_2 f0_2 g0_3 f0_3 g0_4 f0_4 g0_5 f0_5 l0 g1_0 f1_0 g1_1 f1_1 g1_2 f1_2 g1_3 f1_3 g1_4 f1_4 g1_5 f1_5 l1
  have hE0 : Ext W0 w1 := hb
  have hB1 : Below w.heap.size w w1 := hB0.trans (hE0.mono hB0.size)
  replace hK0 := hE0.heap hK0
  replace hK1 := hE0.heap hK1
  have g0_0 : w1.cell? ⟨w.heap.size, 0, none⟩ = some (.float .f32 q.a) := cell_of_row w1 _ 0 _ _ _ hK0
  have f0_0 : w1.frozen? ⟨w.heap.size, 0, none⟩ = false := frozen_of_row w1 _ 0 _ _ hK0
  have g0_1 : w1.cell? ⟨w.heap.size, 1, none⟩ = some (.float .f32 q.b) := cell_of_row w1 _ 1 _ _ _ hK0
  have f0_1 : w1.frozen? ⟨w.heap.size, 1, none⟩ = false := frozen_of_row w1 _ 1 _ _ hK0
  have g0_2 : w1.cell? ⟨w.heap.size, 2, none⟩ = some (.float .f32 q.c) := cell_of_row w1 _ 2 _ _ _ hK0
  have f0_2 : w1.frozen? ⟨w.heap.size, 2, none⟩ = false := frozen_of_row w1 _ 2 _ _ hK0
  have g0_3 : w1.cell? ⟨w.heap.size, 3, none⟩ = some (.float .f32 q.x) := cell_of_row w1 _ 3 _ _ _ hK0
  have f0_3 : w1.frozen? ⟨w.heap.size, 3, none⟩ = false := frozen_of_row w1 _ 3 _ _ hK0
  have g0_4 : w1.cell? ⟨w.heap.size, 4, none⟩ = some (.float .f32 q.y) := cell_of_row w1 _ 4 _ _ _ hK0
  have f0_4 : w1.frozen? ⟨w.heap.size, 4, none⟩ = false := frozen_of_row w1 _ 4 _ _ hK0
  have g0_5 : w1.cell? ⟨w.heap.size, 5, none⟩ = some (.float .f32 q.z) := cell_of_row w1 _ 5 _ _ _ hK0
  have f0_5 : w1.frozen? ⟨w.heap.size, 5, none⟩ = false := frozen_of_row w1 _ 5 _ _ hK0
  have l0 : w.heap.size < w1.heap.size := (Array.getElem?_eq_some_iff.1 hK0).1
  have g1_0 : w1.cell? ⟨w.heap.size + 1, 0, none⟩ = some (.float .f32 0) := cell_of_row w1 _ 0 _ _ _ hK1
  have f1_0 : w1.frozen? ⟨w.heap.size + 1, 0, none⟩ = false := frozen_of_row w1 _ 0 _ _ hK1
  have g1_1 : w1.cell? ⟨w.heap.size + 1, 1, none⟩ = some (.float .f32 0) := cell_of_row w1 _ 1 _ _ _ hK1
  have f1_1 : w1.frozen? ⟨w.heap.size + 1, 1, none⟩ = false := frozen_of_row w1 _ 1 _ _ hK1
  have g1_2 : w1.cell? ⟨w.heap.size + 1, 2, none⟩ = some (.float .f32 0) := cell_of_row w1 _ 2 _ _ _ hK1
  have f1_2 : w1.frozen? ⟨w.heap.size + 1, 2, none⟩ = false := frozen_of_row w1 _ 2 _ _ hK1
  have g1_3 : w1.cell? ⟨w.heap.size + 1, 3, none⟩ = some (.float .f32 0) := cell_of_row w1 _ 3 _ _ _ hK1
  have f1_3 : w1.frozen? ⟨w.heap.size + 1, 3, none⟩ = false := frozen_of_row w1 _ 3 _ _ hK1
  have g1_4 : w1.cell? ⟨w.heap.size + 1, 4, none⟩ = some (.float .f32 0) := cell_of_row w1 _ 4 _ _ _ hK1
  have f1_4 : w1.frozen? ⟨w.heap.size + 1, 4, none⟩ = false := frozen_of_row w1 _ 4 _ _ hK1
  have g1_5 : w1.cell? ⟨w.heap.size + 1, 5, none⟩ = some (.float .f32 0) := cell_of_row w1 _ 5 _ _ _ hK1
  have f1_5 : w1.frozen? ⟨w.heap.size + 1, 5, none⟩ = false := frozen_of_row w1 _ 5 _ _ hK1
  have l1 : w.heap.size + 1 < w1.heap.size := (Array.getElem?_eq_some_iff.1 hK1).1
  clear hb
  cases h1 : boxB q
  · go_wp2_with fail
    generalize hWs : (((((w1.setCell ⟨w.heap.size + 1, 0, none⟩ (.float .f32 0)).setCell ⟨w.heap.size + 1, 1, none⟩ (.float .f32 0)).setCell ⟨w.heap.size + 1, 2, none⟩ (.float .f32 0)).setCell ⟨w.heap.size + 1, 3, none⟩ (.float .f32 0)).setCell ⟨w.heap.size + 1, 4, none⟩ (.float .f32 0)).setCell ⟨w.heap.size + 1, 5, none⟩ (.float .f32 0) = w5
    have hS : w5.heap[w.heap.size + 1]? = some (.cells #[.float .f32 0, .float .f32 0, .float .f32 0, .float .f32 0, .float .f32 0, .float .f32 0] 30) := by
      subst hWs
      have s0 := heap_setCell_same (w1) _ 0 _ _ (.float .f32 0) hK1
      have s1 := heap_setCell_same ((w1).setCell ⟨w.heap.size + 1, 0, none⟩ (.float .f32 0)) _ 1 _ _ (.float .f32 0) s0
      have s2 := heap_setCell_same (((w1).setCell ⟨w.heap.size + 1, 0, none⟩ (.float .f32 0)).setCell ⟨w.heap.size + 1, 1, none⟩ (.float .f32 0)) _ 2 _ _ (.float .f32 0) s1
      have s3 := heap_setCell_same ((((w1).setCell ⟨w.heap.size + 1, 0, none⟩ (.float .f32 0)).setCell ⟨w.heap.size + 1, 1, none⟩ (.float .f32 0)).setCell ⟨w.heap.size + 1, 2, none⟩ (.float .f32 0)) _ 3 _ _ (.float .f32 0) s2
      have s4 := heap_setCell_same (((((w1).setCell ⟨w.heap.size + 1, 0, none⟩ (.float .f32 0)).setCell ⟨w.heap.size + 1, 1, none⟩ (.float .f32 0)).setCell ⟨w.heap.size + 1, 2, none⟩ (.float .f32 0)).setCell ⟨w.heap.size + 1, 3, none⟩ (.float .f32 0)) _ 4 _ _ (.float .f32 0) s3
      have s5 := heap_setCell_same ((((((w1).setCell ⟨w.heap.size + 1, 0, none⟩ (.float .f32 0)).setCell ⟨w.heap.size + 1, 1, none⟩ (.float .f32 0)).setCell ⟨w.heap.size + 1, 2, none⟩ (.float .f32 0)).setCell ⟨w.heap.size + 1, 3, none⟩ (.float .f32 0)).setCell ⟨w.heap.size + 1, 4, none⟩ (.float .f32 0)) _ 5 _ _ (.float .f32 0) s4
      simpa using s5
    have hO : ∀ q, q ≠ w.heap.size + 1 → w5.heap[q]? = w1.heap[q]? := fun q hq => by subst hWs; rw [heap_setCell_other _ _ _ _ hq, heap_setCell_other _ _ _ _ hq, heap_setCell_other _ _ _ _ hq, heap_setCell_other _ _ _ _ hq, heap_setCell_other _ _ _ _ hq, heap_setCell_other _ _ _ _ hq]
    have hB2 : Below w.heap.size w w5 := by
      subst hWs
      have hle : w.heap.size ≤ w.heap.size + 1 := by omega
      refine Below.setCell ?_ hle _
      refine Below.setCell ?_ hle _
      refine Below.setCell ?_ hle _
      refine Below.setCell ?_ hle _
      refine Below.setCell ?_ hle _
      refine Below.setCell ?_ hle _
      repeat (first | exact hB1 | refine below_drewN ?_ _)
    clear g0_0 f0_0 g0_1 f0_1 g0_2 f0_2 g0_3 f0_3 g0_4 f0_4 g0_5 f0_5 l0 g1_0 f1_0 g1_1 f1_1 g1_2 f1_2 g1_3 f1_3 g1_4 f1_4 g1_5 f1_5 l1
    replace hK0 := (hO _ (by omega)).trans hK0
    replace hK1 := hS
    clear hS hO hWs
    have g0_0 : w5.cell? ⟨w.heap.size, 0, none⟩ = some (.float .f32 q.a) := cell_of_row w5 _ 0 _ _ _ hK0
    have f0_0 : w5.frozen? ⟨w.heap.size, 0, none⟩ = false := frozen_of_row w5 _ 0 _ _ hK0
    have g0_1 : w5.cell? ⟨w.heap.size, 1, none⟩ = some (.float .f32 q.b) := cell_of_row w5 _ 1 _ _ _ hK0
    have f0_1 : w5.frozen? ⟨w.heap.size, 1, none⟩ = false := frozen_of_row w5 _ 1 _ _ hK0
    have g0_2 : w5.cell? ⟨w.heap.size, 2, none⟩ = some (.float .f32 q.c) := cell_of_row w5 _ 2 _ _ _ hK0
    have f0_2 : w5.frozen? ⟨w.heap.size, 2, none⟩ = false := frozen_of_row w5 _ 2 _ _ hK0
    have g0_3 : w5.cell? ⟨w.heap.size, 3, none⟩ = some (.float .f32 q.x) := cell_of_row w5 _ 3 _ _ _ hK0
    have f0_3 : w5.frozen? ⟨w.heap.size, 3, none⟩ = false := frozen_of_row w5 _ 3 _ _ hK0
    have g0_4 : w5.cell? ⟨w.heap.size, 4, none⟩ = some (.float .f32 q.y) := cell_of_row w5 _ 4 _ _ _ hK0
    have f0_4 : w5.frozen? ⟨w.heap.size, 4, none⟩ = false := frozen_of_row w5 _ 4 _ _ hK0
    have g0_5 : w5.cell? ⟨w.heap.size, 5, none⟩ = some (.float .f32 q.z) := cell_of_row w5 _ 5 _ _ _ hK0
    have f0_5 : w5.frozen? ⟨w.heap.size, 5, none⟩ = false := frozen_of_row w5 _ 5 _ _ hK0
    have l0 : w.heap.size < w5.heap.size := (Array.getElem?_eq_some_iff.1 hK0).1
    have g1_0 : w5.cell? ⟨w.heap.size + 1, 0, none⟩ = some (.float .f32 0) := cell_of_row w5 _ 0 _ _ _ hK1
    have f1_0 : w5.frozen? ⟨w.heap.size + 1, 0, none⟩ = false := frozen_of_row w5 _ 0 _ _ hK1
    have g1_1 : w5.cell? ⟨w.heap.size + 1, 1, none⟩ = some (.float .f32 0) := cell_of_row w5 _ 1 _ _ _ hK1
    have f1_1 : w5.frozen? ⟨w.heap.size + 1, 1, none⟩ = false := frozen_of_row w5 _ 1 _ _ hK1
    have g1_2 : w5.cell? ⟨w.heap.size + 1, 2, none⟩ = some (.float .f32 0) := cell_of_row w5 _ 2 _ _ _ hK1
    have f1_2 : w5.frozen? ⟨w.heap.size + 1, 2, none⟩ = false := frozen_of_row w5 _ 2 _ _ hK1
    have g1_3 : w5.cell? ⟨w.heap.size + 1, 3, none⟩ = some (.float .f32 0) := cell_of_row w5 _ 3 _ _ _ hK1
    have f1_3 : w5.frozen? ⟨w.heap.size + 1, 3, none⟩ = false := frozen_of_row w5 _ 3 _ _ hK1
    have g1_4 : w5.cell? ⟨w.heap.size + 1, 4, none⟩ = some (.float .f32 0) := cell_of_row w5 _ 4 _ _ _ hK1
    have f1_4 : w5.frozen? ⟨w.heap.size + 1, 4, none⟩ = false := frozen_of_row w5 _ 4 _ _ hK1
    have g1_5 : w5.cell? ⟨w.heap.size + 1, 5, none⟩ = some (.float .f32 0) := cell_of_row w5 _ 5 _ _ _ hK1
    have f1_5 : w5.frozen? ⟨w.heap.size + 1, 5, none⟩ = false := frozen_of_row w5 _ 5 _ _ hK1
    have l1 : w.heap.size + 1 < w5.heap.size := (Array.getElem?_eq_some_iff.1 hK1).1
    exact bodyPost_ret (v := .tuple #[.agg #[.float .f32 0, .float .f32 0, .float .f32 0, .float .f32 0, .float .f32 0, .float .f32 0], .bool false]) (by simp [results, Try.results23, go_sem, g1_0, g1_1, g1_2, g1_3, g1_4, g1_5]) rfl ⟨z6, by rw [h1]; rfl, z6_lt, by rw [h1]; exact B6.Eq.refl _, hB2⟩
  go_wp2_with fail
  clear g0_0 f0_0 g0_1 f0_1 g0_2 f0_2 g0_3 f0_3 g0_4 f0_4 g0_5 f0_5 l0 g1_0 f1_0 g1_1 f1_1 g1_2 f1_2 g1_3 f1_3 g1_4 f1_4 g1_5 f1_5 l1
  generalize hWa : w1.alloc (.cells #[.float .f32 s, .float .f32 s, .float .f32 s] 28) = w2
  have hE1 : Ext w1 w2 := by subst hWa; exact (Ext.refl _).alloc _
  have hN : w2.heap[w1.heap.size]? = some (.cells #[.float .f32 s, .float .f32 s, .float .f32 s] 28) := by subst hWa; exact Go.heap_alloc_new _ _
  clear hWa
  have hB2 : Below w.heap.size w w2 := hB1.trans (hE1.mono hB1.size)
  have hs1 : w.heap.size + 2 ≤ w1.heap.size := by have := (Array.getElem?_eq_some_iff.1 hK1).1; omega
  replace hK0 := hE1.heap hK0
  replace hK1 := hE1.heap hK1
  have hK2 := hN
  clear hN
  have g0_0 : w2.cell? ⟨w.heap.size, 0, none⟩ = some (.float .f32 q.a) := cell_of_row w2 _ 0 _ _ _ hK0
  have f0_0 : w2.frozen? ⟨w.heap.size, 0, none⟩ = false := frozen_of_row w2 _ 0 _ _ hK0
  have g0_1 : w2.cell? ⟨w.heap.size, 1, none⟩ = some (.float .f32 q.b) := cell_of_row w2 _ 1 _ _ _ hK0
  have f0_1 : w2.frozen? ⟨w.heap.size, 1, none⟩ = false := frozen_of_row w2 _ 1 _ _ hK0
  have g0_2 : w2.cell? ⟨w.heap.size, 2, none⟩ = some (.float .f32 q.c) := cell_of_row w2 _ 2 _ _ _ hK0
  have f0_2 : w2.frozen? ⟨w.heap.size, 2, none⟩ = false := frozen_of_row w2 _ 2 _ _ hK0
  have g0_3 : w2.cell? ⟨w.heap.size, 3, none⟩ = some (.float .f32 q.x) := cell_of_row w2 _ 3 _ _ _ hK0
  have f0_3 : w2.frozen? ⟨w.heap.size, 3, none⟩ = false := frozen_of_row w2 _ 3 _ _ hK0
  have g0_4 : w2.cell? ⟨w.heap.size, 4, none⟩ = some (.float .f32 q.y) := cell_of_row w2 _ 4 _ _ _ hK0
  have f0_4 : w2.frozen? ⟨w.heap.size, 4, none⟩ = false := frozen_of_row w2 _ 4 _ _ hK0
  have g0_5 : w2.cell? ⟨w.heap.size, 5, none⟩ = some (.float .f32 q.z) := cell_of_row w2 _ 5 _ _ _ hK0
  have f0_5 : w2.frozen? ⟨w.heap.size, 5, none⟩ = false := frozen_of_row w2 _ 5 _ _ hK0
  have l0 : w.heap.size < w2.heap.size := (Array.getElem?_eq_some_iff.1 hK0).1
  have g1_0 : w2.cell? ⟨w.heap.size + 1, 0, none⟩ = some (.float .f32 0) := cell_of_row w2 _ 0 _ _ _ hK1
  have f1_0 : w2.frozen? ⟨w.heap.size + 1, 0, none⟩ = false := frozen_of_row w2 _ 0 _ _ hK1
  have g1_1 : w2.cell? ⟨w.heap.size + 1, 1, none⟩ = some (.float .f32 0) := cell_of_row w2 _ 1 _ _ _ hK1
  have f1_1 : w2.frozen? ⟨w.heap.size + 1, 1, none⟩ = false := frozen_of_row w2 _ 1 _ _ hK1
  have g1_2 : w2.cell? ⟨w.heap.size + 1, 2, none⟩ = some (.float .f32 0) := cell_of_row w2 _ 2 _ _ _ hK1
  have f1_2 : w2.frozen? ⟨w.heap.size + 1, 2, none⟩ = false := frozen_of_row w2 _ 2 _ _ hK1
  have g1_3 : w2.cell? ⟨w.heap.size + 1, 3, none⟩ = some (.float .f32 0) := cell_of_row w2 _ 3 _ _ _ hK1
  have f1_3 : w2.frozen? ⟨w.heap.size + 1, 3, none⟩ = false := frozen_of_row w2 _ 3 _ _ hK1
  have g1_4 : w2.cell? ⟨w.heap.size + 1, 4, none⟩ = some (.float .f32 0) := cell_of_row w2 _ 4 _ _ _ hK1
  have f1_4 : w2.frozen? ⟨w.heap.size + 1, 4, none⟩ = false := frozen_of_row w2 _ 4 _ _ hK1
  have g1_5 : w2.cell? ⟨w.heap.size + 1, 5, none⟩ = some (.float .f32 0) := cell_of_row w2 _ 5 _ _ _ hK1
  have f1_5 : w2.frozen? ⟨w.heap.size + 1, 5, none⟩ = false := frozen_of_row w2 _ 5 _ _ hK1
  have l1 : w.heap.size + 1 < w2.heap.size := (Array.getElem?_eq_some_iff.1 hK1).1
  have g2_0 : w2.cell? ⟨w1.heap.size, 0, none⟩ = some (.float .f32 s) := cell_of_row w2 _ 0 _ _ _ hK2
  have f2_0 : w2.frozen? ⟨w1.heap.size, 0, none⟩ = false := frozen_of_row w2 _ 0 _ _ hK2
  have g2_1 : w2.cell? ⟨w1.heap.size, 1, none⟩ = some (.float .f32 s) := cell_of_row w2 _ 1 _ _ _ hK2
  have f2_1 : w2.frozen? ⟨w1.heap.size, 1, none⟩ = false := frozen_of_row w2 _ 1 _ _ hK2
  have g2_2 : w2.cell? ⟨w1.heap.size, 2, none⟩ = some (.float .f32 s) := cell_of_row w2 _ 2 _ _ _ hK2
  have f2_2 : w2.frozen? ⟨w1.heap.size, 2, none⟩ = false := frozen_of_row w2 _ 2 _ _ hK2
  have l2 : w1.heap.size < w2.heap.size := (Array.getElem?_eq_some_iff.1 hK2).1
  refine wp_region_laterO 12 (SO (QL [(17, V3 (fop .sub .f32 q.a s) (fop .sub .f32 q.b s) (fop .sub .f32 q.c s)), (21, V3 (fop .add .f32 q.x s) (fop .add .f32 q.y s) (fop .add .f32 q.z s)), (23, TB (growM q s))])) (stays_SO _) (by kernel_rfl) (by kernel_rfl) ?_
  repeat (first | (refine later_exO rfl (fun K hK => ?_); apply Exists.intro; refine ⟨fun w' hw' => ?_, ?_⟩; (obtain ⟨hcc, hff⟩ := Grew.cells hw'; clear hw'; go_simp; rfl); go_simp; refine hK _ ?_; clear hK K))
  (refine later_callO rfl (fun K hK => ?_); go_simp; refine ⟨_, _, fun _ _ => ⟨rfl, rfl⟩, fun w1 hw1 => ?_, fun u y1 hx1 hu => ?_⟩)
  · refine (l01Less_ok _ _ _ _ _ _ _).mono ?_
    rintro e w2 ⟨r1, r2, r3, rfl, h1, h2, h3, e1, e2, e3, hb⟩
    exact ⟨_, rfl, ⟨r1, r2, r3, rfl, h1, h2, h3, e1, e2, e3⟩, hb⟩
  obtain ⟨p1, p2, p3, rfl, hp1, hp2, hp3, pe1, pe2, pe3⟩ : (V3 (fop .sub .f32 q.a s) (fop .sub .f32 q.b s) (fop .sub .f32 q.c s)) u := hu
  (refine hK _ _ hx1 ?_; clear hK K)
  repeat (first | (refine later_exO rfl (fun K hK => ?_); apply Exists.intro; refine ⟨fun w' hw' => ?_, ?_⟩; (obtain ⟨hcc, hff⟩ := Grew.cells hw'; clear hw'; go_simp; rfl); go_simp; refine hK _ ?_; clear hK K))
  (refine later_callO rfl (fun K hK => ?_); go_simp; refine ⟨_, _, fun _ _ => ⟨rfl, rfl⟩, fun w1 hw1 => ?_, fun u y2 hx2 hu => ?_⟩)
  · refine (l01Add_ok _ _ _ _ _ _ _).mono ?_
    rintro e w2 ⟨r1, r2, r3, rfl, h1, h2, h3, e1, e2, e3, hb⟩
    exact ⟨_, rfl, ⟨r1, r2, r3, rfl, h1, h2, h3, e1, e2, e3⟩, hb⟩
  obtain ⟨t1, t2, t3, rfl, ht1, ht2, ht3, te1, te2, te3⟩ : (V3 (fop .add .f32 q.x s) (fop .add .f32 q.y s) (fop .add .f32 q.z s)) u := hu
  (refine hK _ _ hx2 ?_; clear hK K)
  repeat (first | (refine later_exO rfl (fun K hK => ?_); apply Exists.intro; refine ⟨fun w' hw' => ?_, ?_⟩; (obtain ⟨hcc, hff⟩ := Grew.cells hw'; clear hw'; go_simp; rfl); go_simp; refine hK _ ?_; clear hK K))
  (refine later_callO rfl (fun K hK => ?_); go_simp; refine ⟨_, _, fun _ _ => ⟨rfl, rfl⟩, fun w1 hw1 => ?_, fun u y3 hx3 hu => ?_⟩)
  · refine (l04Give_ok ⟨p1, p2, p3, t1, t2, t3⟩ _).mono ?_
    rintro e w2 ⟨rfl, hb⟩
    exact ⟨_, rfl, ⟨⟨p1, p2, p3, t1, t2, t3⟩, rfl, ⟨hp1, hp2, hp3, ht1, ht2, ht3⟩, ⟨pe1, pe2, pe3, te1, te2, te3⟩⟩, hb⟩
  obtain ⟨r, rfl, hrl, hre⟩ : (TB (growM q s)) u := hu
  (refine hK _ _ hx3 ?_; clear hK K)
  repeat (first | (refine later_exO rfl (fun K hK => ?_); apply Exists.intro; refine ⟨fun w' hw' => ?_, ?_⟩; (obtain ⟨hcc, hff⟩ := Grew.cells hw'; clear hw'; go_simp; rfl); go_simp; refine hK _ ?_; clear hK K))
  refine later_nilO ?_
  intro w4 hw4
  simp only [List.drop_succ_cons, List.drop_zero]
  clear g0_0 f0_0 g0_1 f0_1 g0_2 f0_2 g0_3 f0_3 g0_4 f0_4 g0_5 f0_5 l0 g1_0 f1_0 g1_1 f1_1 g1_2 f1_2 g1_3 f1_3 g1_4 f1_4 g1_5 f1_5 l1 g2_0 f2_0 g2_1 f2_1 g2_2 f2_2 l2
  have hE2 : Ext w2 w4 := (((hx1).trans hx2).trans hx3).trans hw4
  have hB3 : Below w.heap.size w w4 := hB2.trans (hE2.mono hB2.size)
  replace hK0 := hE2.heap hK0
  replace hK1 := hE2.heap hK1
  replace hK2 := hE2.heap hK2
  have g0_0 : w4.cell? ⟨w.heap.size, 0, none⟩ = some (.float .f32 q.a) := cell_of_row w4 _ 0 _ _ _ hK0
  have f0_0 : w4.frozen? ⟨w.heap.size, 0, none⟩ = false := frozen_of_row w4 _ 0 _ _ hK0
  have g0_1 : w4.cell? ⟨w.heap.size, 1, none⟩ = some (.float .f32 q.b) := cell_of_row w4 _ 1 _ _ _ hK0
  have f0_1 : w4.frozen? ⟨w.heap.size, 1, none⟩ = false := frozen_of_row w4 _ 1 _ _ hK0
  have g0_2 : w4.cell? ⟨w.heap.size, 2, none⟩ = some (.float .f32 q.c) := cell_of_row w4 _ 2 _ _ _ hK0
  have f0_2 : w4.frozen? ⟨w.heap.size, 2, none⟩ = false := frozen_of_row w4 _ 2 _ _ hK0
  have g0_3 : w4.cell? ⟨w.heap.size, 3, none⟩ = some (.float .f32 q.x) := cell_of_row w4 _ 3 _ _ _ hK0
  have f0_3 : w4.frozen? ⟨w.heap.size, 3, none⟩ = false := frozen_of_row w4 _ 3 _ _ hK0
  have g0_4 : w4.cell? ⟨w.heap.size, 4, none⟩ = some (.float .f32 q.y) := cell_of_row w4 _ 4 _ _ _ hK0
  have f0_4 : w4.frozen? ⟨w.heap.size, 4, none⟩ = false := frozen_of_row w4 _ 4 _ _ hK0
  have g0_5 : w4.cell? ⟨w.heap.size, 5, none⟩ = some (.float .f32 q.z) := cell_of_row w4 _ 5 _ _ _ hK0
  have f0_5 : w4.frozen? ⟨w.heap.size, 5, none⟩ = false := frozen_of_row w4 _ 5 _ _ hK0
  have l0 : w.heap.size < w4.heap.size := (Array.getElem?_eq_some_iff.1 hK0).1
  have g1_0 : w4.cell? ⟨w.heap.size + 1, 0, none⟩ = some (.float .f32 0) := cell_of_row w4 _ 0 _ _ _ hK1
  have f1_0 : w4.frozen? ⟨w.heap.size + 1, 0, none⟩ = false := frozen_of_row w4 _ 0 _ _ hK1
  have g1_1 : w4.cell? ⟨w.heap.size + 1, 1, none⟩ = some (.float .f32 0) := cell_of_row w4 _ 1 _ _ _ hK1
  have f1_1 : w4.frozen? ⟨w.heap.size + 1, 1, none⟩ = false := frozen_of_row w4 _ 1 _ _ hK1
  have g1_2 : w4.cell? ⟨w.heap.size + 1, 2, none⟩ = some (.float .f32 0) := cell_of_row w4 _ 2 _ _ _ hK1
  have f1_2 : w4.frozen? ⟨w.heap.size + 1, 2, none⟩ = false := frozen_of_row w4 _ 2 _ _ hK1
  have g1_3 : w4.cell? ⟨w.heap.size + 1, 3, none⟩ = some (.float .f32 0) := cell_of_row w4 _ 3 _ _ _ hK1
  have f1_3 : w4.frozen? ⟨w.heap.size + 1, 3, none⟩ = false := frozen_of_row w4 _ 3 _ _ hK1
  have g1_4 : w4.cell? ⟨w.heap.size + 1, 4, none⟩ = some (.float .f32 0) := cell_of_row w4 _ 4 _ _ _ hK1
  have f1_4 : w4.frozen? ⟨w.heap.size + 1, 4, none⟩ = false := frozen_of_row w4 _ 4 _ _ hK1
  have g1_5 : w4.cell? ⟨w.heap.size + 1, 5, none⟩ = some (.float .f32 0) := cell_of_row w4 _ 5 _ _ _ hK1
  have f1_5 : w4.frozen? ⟨w.heap.size + 1, 5, none⟩ = false := frozen_of_row w4 _ 5 _ _ hK1
  have l1 : w.heap.size + 1 < w4.heap.size := (Array.getElem?_eq_some_iff.1 hK1).1
  have g2_0 : w4.cell? ⟨w1.heap.size, 0, none⟩ = some (.float .f32 s) := cell_of_row w4 _ 0 _ _ _ hK2
  have f2_0 : w4.frozen? ⟨w1.heap.size, 0, none⟩ = false := frozen_of_row w4 _ 0 _ _ hK2
  have g2_1 : w4.cell? ⟨w1.heap.size, 1, none⟩ = some (.float .f32 s) := cell_of_row w4 _ 1 _ _ _ hK2
  have f2_1 : w4.frozen? ⟨w1.heap.size, 1, none⟩ = false := frozen_of_row w4 _ 1 _ _ hK2
  have g2_2 : w4.cell? ⟨w1.heap.size, 2, none⟩ = some (.float .f32 s) := cell_of_row w4 _ 2 _ _ _ hK2
  have f2_2 : w4.frozen? ⟨w1.heap.size, 2, none⟩ = false := frozen_of_row w4 _ 2 _ _ hK2
  have l2 : w1.heap.size < w4.heap.size := (Array.getElem?_eq_some_iff.1 hK2).1
  clear hw4 hx1 hx2 hx3
  go_wp2_with fail
  generalize hWs : (((((w4.setCell ⟨w.heap.size + 1, 0, none⟩ (.float .f32 (okB r).a)).setCell ⟨w.heap.size + 1, 1, none⟩ (.float .f32 (okB r).b)).setCell ⟨w.heap.size + 1, 2, none⟩ (.float .f32 (okB r).c)).setCell ⟨w.heap.size + 1, 3, none⟩ (.float .f32 (okB r).x)).setCell ⟨w.heap.size + 1, 4, none⟩ (.float .f32 (okB r).y)).setCell ⟨w.heap.size + 1, 5, none⟩ (.float .f32 (okB r).z) = w5
  have hS : w5.heap[w.heap.size + 1]? = some (.cells #[.float .f32 (okB r).a, .float .f32 (okB r).b, .float .f32 (okB r).c, .float .f32 (okB r).x, .float .f32 (okB r).y, .float .f32 (okB r).z] 30) := by
    subst hWs
    have s0 := heap_setCell_same (w4) _ 0 _ _ (.float .f32 (okB r).a) hK1
    have s1 := heap_setCell_same ((w4).setCell ⟨w.heap.size + 1, 0, none⟩ (.float .f32 (okB r).a)) _ 1 _ _ (.float .f32 (okB r).b) s0
    have s2 := heap_setCell_same (((w4).setCell ⟨w.heap.size + 1, 0, none⟩ (.float .f32 (okB r).a)).setCell ⟨w.heap.size + 1, 1, none⟩ (.float .f32 (okB r).b)) _ 2 _ _ (.float .f32 (okB r).c) s1
    have s3 := heap_setCell_same ((((w4).setCell ⟨w.heap.size + 1, 0, none⟩ (.float .f32 (okB r).a)).setCell ⟨w.heap.size + 1, 1, none⟩ (.float .f32 (okB r).b)).setCell ⟨w.heap.size + 1, 2, none⟩ (.float .f32 (okB r).c)) _ 3 _ _ (.float .f32 (okB r).x) s2
    have s4 := heap_setCell_same (((((w4).setCell ⟨w.heap.size + 1, 0, none⟩ (.float .f32 (okB r).a)).setCell ⟨w.heap.size + 1, 1, none⟩ (.float .f32 (okB r).b)).setCell ⟨w.heap.size + 1, 2, none⟩ (.float .f32 (okB r).c)).setCell ⟨w.heap.size + 1, 3, none⟩ (.float .f32 (okB r).x)) _ 4 _ _ (.float .f32 (okB r).y) s3
    have s5 := heap_setCell_same ((((((w4).setCell ⟨w.heap.size + 1, 0, none⟩ (.float .f32 (okB r).a)).setCell ⟨w.heap.size + 1, 1, none⟩ (.float .f32 (okB r).b)).setCell ⟨w.heap.size + 1, 2, none⟩ (.float .f32 (okB r).c)).setCell ⟨w.heap.size + 1, 3, none⟩ (.float .f32 (okB r).x)).setCell ⟨w.heap.size + 1, 4, none⟩ (.float .f32 (okB r).y)) _ 5 _ _ (.float .f32 (okB r).z) s4
    simpa using s5
  have hO : ∀ q, q ≠ w.heap.size + 1 → w5.heap[q]? = w4.heap[q]? := fun q hq => by subst hWs; rw [heap_setCell_other _ _ _ _ hq, heap_setCell_other _ _ _ _ hq, heap_setCell_other _ _ _ _ hq, heap_setCell_other _ _ _ _ hq, heap_setCell_other _ _ _ _ hq, heap_setCell_other _ _ _ _ hq]
  have hB4 : Below w.heap.size w w5 := by
    subst hWs
    have hle : w.heap.size ≤ w.heap.size + 1 := by omega
    refine Below.setCell ?_ hle _
    refine Below.setCell ?_ hle _
    refine Below.setCell ?_ hle _
    refine Below.setCell ?_ hle _
    refine Below.setCell ?_ hle _
    refine Below.setCell ?_ hle _
    repeat (first | exact hB3 | refine below_drewN ?_ _)
  clear g0_0 f0_0 g0_1 f0_1 g0_2 f0_2 g0_3 f0_3 g0_4 f0_4 g0_5 f0_5 l0 g1_0 f1_0 g1_1 f1_1 g1_2 f1_2 g1_3 f1_3 g1_4 f1_4 g1_5 f1_5 l1 g2_0 f2_0 g2_1 f2_1 g2_2 f2_2 l2
  replace hK0 := (hO _ (by omega)).trans hK0
  replace hK2 := (hO _ (by omega)).trans hK2
  replace hK1 := hS
  clear hS hO hWs
  have g0_0 : w5.cell? ⟨w.heap.size, 0, none⟩ = some (.float .f32 q.a) := cell_of_row w5 _ 0 _ _ _ hK0
  have f0_0 : w5.frozen? ⟨w.heap.size, 0, none⟩ = false := frozen_of_row w5 _ 0 _ _ hK0
  have g0_1 : w5.cell? ⟨w.heap.size, 1, none⟩ = some (.float .f32 q.b) := cell_of_row w5 _ 1 _ _ _ hK0
  have f0_1 : w5.frozen? ⟨w.heap.size, 1, none⟩ = false := frozen_of_row w5 _ 1 _ _ hK0
  have g0_2 : w5.cell? ⟨w.heap.size, 2, none⟩ = some (.float .f32 q.c) := cell_of_row w5 _ 2 _ _ _ hK0
  have f0_2 : w5.frozen? ⟨w.heap.size, 2, none⟩ = false := frozen_of_row w5 _ 2 _ _ hK0
  have g0_3 : w5.cell? ⟨w.heap.size, 3, none⟩ = some (.float .f32 q.x) := cell_of_row w5 _ 3 _ _ _ hK0
  have f0_3 : w5.frozen? ⟨w.heap.size, 3, none⟩ = false := frozen_of_row w5 _ 3 _ _ hK0
  have g0_4 : w5.cell? ⟨w.heap.size, 4, none⟩ = some (.float .f32 q.y) := cell_of_row w5 _ 4 _ _ _ hK0
  have f0_4 : w5.frozen? ⟨w.heap.size, 4, none⟩ = false := frozen_of_row w5 _ 4 _ _ hK0
  have g0_5 : w5.cell? ⟨w.heap.size, 5, none⟩ = some (.float .f32 q.z) := cell_of_row w5 _ 5 _ _ _ hK0
  have f0_5 : w5.frozen? ⟨w.heap.size, 5, none⟩ = false := frozen_of_row w5 _ 5 _ _ hK0
  have l0 : w.heap.size < w5.heap.size := (Array.getElem?_eq_some_iff.1 hK0).1
  have g1_0 : w5.cell? ⟨w.heap.size + 1, 0, none⟩ = some (.float .f32 (okB r).a) := cell_of_row w5 _ 0 _ _ _ hK1
  have f1_0 : w5.frozen? ⟨w.heap.size + 1, 0, none⟩ = false := frozen_of_row w5 _ 0 _ _ hK1
  have g1_1 : w5.cell? ⟨w.heap.size + 1, 1, none⟩ = some (.float .f32 (okB r).b) := cell_of_row w5 _ 1 _ _ _ hK1
  have f1_1 : w5.frozen? ⟨w.heap.size + 1, 1, none⟩ = false := frozen_of_row w5 _ 1 _ _ hK1
  have g1_2 : w5.cell? ⟨w.heap.size + 1, 2, none⟩ = some (.float .f32 (okB r).c) := cell_of_row w5 _ 2 _ _ _ hK1
  have f1_2 : w5.frozen? ⟨w.heap.size + 1, 2, none⟩ = false := frozen_of_row w5 _ 2 _ _ hK1
  have g1_3 : w5.cell? ⟨w.heap.size + 1, 3, none⟩ = some (.float .f32 (okB r).x) := cell_of_row w5 _ 3 _ _ _ hK1
  have f1_3 : w5.frozen? ⟨w.heap.size + 1, 3, none⟩ = false := frozen_of_row w5 _ 3 _ _ hK1
  have g1_4 : w5.cell? ⟨w.heap.size + 1, 4, none⟩ = some (.float .f32 (okB r).y) := cell_of_row w5 _ 4 _ _ _ hK1
  have f1_4 : w5.frozen? ⟨w.heap.size + 1, 4, none⟩ = false := frozen_of_row w5 _ 4 _ _ hK1
  have g1_5 : w5.cell? ⟨w.heap.size + 1, 5, none⟩ = some (.float .f32 (okB r).z) := cell_of_row w5 _ 5 _ _ _ hK1
  have f1_5 : w5.frozen? ⟨w.heap.size + 1, 5, none⟩ = false := frozen_of_row w5 _ 5 _ _ hK1
  have l1 : w.heap.size + 1 < w5.heap.size := (Array.getElem?_eq_some_iff.1 hK1).1
  have g2_0 : w5.cell? ⟨w1.heap.size, 0, none⟩ = some (.float .f32 s) := cell_of_row w5 _ 0 _ _ _ hK2
  have f2_0 : w5.frozen? ⟨w1.heap.size, 0, none⟩ = false := frozen_of_row w5 _ 0 _ _ hK2
  have g2_1 : w5.cell? ⟨w1.heap.size, 1, none⟩ = some (.float .f32 s) := cell_of_row w5 _ 1 _ _ _ hK2
  have f2_1 : w5.frozen? ⟨w1.heap.size, 1, none⟩ = false := frozen_of_row w5 _ 1 _ _ hK2
  have g2_2 : w5.cell? ⟨w1.heap.size, 2, none⟩ = some (.float .f32 s) := cell_of_row w5 _ 2 _ _ _ hK2
  have f2_2 : w5.frozen? ⟨w1.heap.size, 2, none⟩ = false := frozen_of_row w5 _ 2 _ _ hK2
  have l2 : w1.heap.size < w5.heap.size := (Array.getElem?_eq_some_iff.1 hK2).1
  exact bodyPost_ret (v := .tuple #[(okB r).v, .bool (boxB r)]) (by simp [results, Try.results23, go_sem, g1_0, g1_1, g1_2, g1_3, g1_4, g1_5]) rfl ⟨okB r, by rw [h1, boxB_eqv hre, Bool.true_and], okB_lt hrl, by rw [h1]; exact okB_eq hre, hB4⟩
set_option maxHeartbeats 4000000 in
set_option maxRecDepth 100000 in
theorem CutBoxes_ok (p q : B6) (w : World) :
    Calls Try.prog 29 #[p.v, q.v] w fun e w' => e = .returned (.tuple #[(onlyIf (boxB p && boxB q) (cutM p q)).v, .bool (boxB p && boxB q && boxB (cutM p q))]) ∧ Below w.heap.size w w' := by
  go_enter Try.func29, Try.ntmps29
  go_wp2_with fail
  generalize hW0 : ((w.alloc (.cells #[.float .f32 p.a, .float .f32 p.b, .float .f32 p.c, .float .f32 p.x, .float .f32 p.y, .float .f32 p.z] 30)).alloc (.cells #[.float .f32 q.a, .float .f32 q.b, .float .f32 q.c, .float .f32 q.x, .float .f32 q.y, .float .f32 q.z] 30)).alloc (.cells #[.float .f32 0, .float .f32 0, .float .f32 0, .float .f32 0, .float .f32 0, .float .f32 0] 30) = W0
  have hB0 : Below w.heap.size w W0 := by subst hW0; exact by (repeat (first | exact Below.refl _ _ | assumption | refine below_drewN ?_ _ | refine Below.setCell ?_ (by first | omega | (simp <;> omega)) _ | refine Below.alloc ?_ (by first | omega | (simp <;> omega)) _))
  have hK0 : W0.heap[w.heap.size]? = some (.cells #[.float .f32 p.a, .float .f32 p.b, .float .f32 p.c, .float .f32 p.x, .float .f32 p.y, .float .f32 p.z] 30) := by subst hW0; rw [Go.RowKit.Below.heap_alloc _ _ _ (by simp; omega)]; exact heap_alloc2_old _ _ _
  have hK1 : W0.heap[w.heap.size + 1]? = some (.cells #[.float .f32 q.a, .float .f32 q.b, .float .f32 q.c, .float .f32 q.x, .float .f32 q.y, .float .f32 q.z] 30) := by subst hW0; rw [Go.RowKit.Below.heap_alloc _ _ _ (by simp)]; exact heap_alloc2_new _ _ _
  have hK2 : W0.heap[w.heap.size + 1 + 1]? = some (.cells #[.float .f32 0, .float .f32 0, .float .f32 0, .float .f32 0, .float .f32 0, .float .f32 0] 30) := by 
    subst hW0
    have := Go.heap_alloc_new ((w.alloc (.cells #[.float .f32 p.a, .float .f32 p.b, .float .f32 p.c, .float .f32 p.x, .float .f32 p.y, .float .f32 p.z] 30)).alloc (.cells #[.float .f32 q.a, .float .f32 q.b, .float .f32 q.c, .float .f32 q.x, .float .f32 q.y, .float .f32 q.z] 30)) (.cells #[.float .f32 0, .float .f32 0, .float .f32 0, .float .f32 0, .float .f32 0, .float .f32 0] 30)
    simpa using this
  clear hW0
  have hZ0 : w.heap.size + 1 + 1 < W0.heap.size := (Array.getElem?_eq_some_iff.1 hK2).1
  have g0_0 : W0.cell? ⟨w.heap.size, 0, none⟩ = some (.float .f32 p.a) := cell_of_row W0 _ 0 _ _ _ hK0
  have f0_0 : W0.frozen? ⟨w.heap.size, 0, none⟩ = false := frozen_of_row W0 _ 0 _ _ hK0
  have g0_1 : W0.cell? ⟨w.heap.size, 1, none⟩ = some (.float .f32 p.b) := cell_of_row W0 _ 1 _ _ _ hK0
  have f0_1 : W0.frozen? ⟨w.heap.size, 1, none⟩ = false := frozen_of_row W0 _ 1 _ _ hK0
  have g0_2 : W0.cell? ⟨w.heap.size, 2, none⟩ = some (.float .f32 p.c) := cell_of_row W0 _ 2 _ _ _ hK0
  have f0_2 : W0.frozen? ⟨w.heap.size, 2, none⟩ = false := frozen_of_row W0 _ 2 _ _ hK0
  have g0_3 : W0.cell? ⟨w.heap.size, 3, none⟩ = some (.float .f32 p.x) := cell_of_row W0 _ 3 _ _ _ hK0
  have f0_3 : W0.frozen? ⟨w.heap.size, 3, none⟩ = false := frozen_of_row W0 _ 3 _ _ hK0
  have g0_4 : W0.cell? ⟨w.heap.size, 4, none⟩ = some (.float .f32 p.y) := cell_of_row W0 _ 4 _ _ _ hK0
  have f0_4 : W0.frozen? ⟨w.heap.size, 4, none⟩ = false := frozen_of_row W0 _ 4 _ _ hK0
  have g0_5 : W0.cell? ⟨w.heap.size, 5, none⟩ = some (.float .f32 p.z) := cell_of_row W0 _ 5 _ _ _ hK0
  have f0_5 : W0.frozen? ⟨w.heap.size, 5, none⟩ = false := frozen_of_row W0 _ 5 _ _ hK0
  have l0 : w.heap.size < W0.heap.size := (Array.getElem?_eq_some_iff.1 hK0).1
  have g1_0 : W0.cell? ⟨w.heap.size + 1, 0, none⟩ = some (.float .f32 q.a) := cell_of_row W0 _ 0 _ _ _ hK1
  have f1_0 : W0.frozen? ⟨w.heap.size + 1, 0, none⟩ = false := frozen_of_row W0 _ 0 _ _ hK1
  have g1_1 : W0.cell? ⟨w.heap.size + 1, 1, none⟩ = some (.float .f32 q.b) := cell_of_row W0 _ 1 _ _ _ hK1
  have f1_1 : W0.frozen? ⟨w.heap.size + 1, 1, none⟩ = false := frozen_of_row W0 _ 1 _ _ hK1
  have g1_2 : W0.cell? ⟨w.heap.size + 1, 2, none⟩ = some (.float .f32 q.c) := cell_of_row W0 _ 2 _ _ _ hK1
  have f1_2 : W0.frozen? ⟨w.heap.size + 1, 2, none⟩ = false := frozen_of_row W0 _ 2 _ _ hK1
  have g1_3 : W0.cell? ⟨w.heap.size + 1, 3, none⟩ = some (.float .f32 q.x) := cell_of_row W0 _ 3 _ _ _ hK1
  have f1_3 : W0.frozen? ⟨w.heap.size + 1, 3, none⟩ = false := frozen_of_row W0 _ 3 _ _ hK1
  have g1_4 : W0.cell? ⟨w.heap.size + 1, 4, none⟩ = some (.float .f32 q.y) := cell_of_row W0 _ 4 _ _ _ hK1
  have f1_4 : W0.frozen? ⟨w.heap.size + 1, 4, none⟩ = false := frozen_of_row W0 _ 4 _ _ hK1
  have g1_5 : W0.cell? ⟨w.heap.size + 1, 5, none⟩ = some (.float .f32 q.z) := cell_of_row W0 _ 5 _ _ _ hK1
  have f1_5 : W0.frozen? ⟨w.heap.size + 1, 5, none⟩ = false := frozen_of_row W0 _ 5 _ _ hK1
  have l1 : w.heap.size + 1 < W0.heap.size := (Array.getElem?_eq_some_iff.1 hK1).1
  have g2_0 : W0.cell? ⟨w.heap.size + 1 + 1, 0, none⟩ = some (.float .f32 0) := cell_of_row W0 _ 0 _ _ _ hK2
  have f2_0 : W0.frozen? ⟨w.heap.size + 1 + 1, 0, none⟩ = false := frozen_of_row W0 _ 0 _ _ hK2
  have g2_1 : W0.cell? ⟨w.heap.size + 1 + 1, 1, none⟩ = some (.float .f32 0) := cell_of_row W0 _ 1 _ _ _ hK2
  have f2_1 : W0.frozen? ⟨w.heap.size + 1 + 1, 1, none⟩ = false := frozen_of_row W0 _ 1 _ _ hK2
  have g2_2 : W0.cell? ⟨w.heap.size + 1 + 1, 2, none⟩ = some (.float .f32 0) := cell_of_row W0 _ 2 _ _ _ hK2
  have f2_2 : W0.frozen? ⟨w.heap.size + 1 + 1, 2, none⟩ = false := frozen_of_row W0 _ 2 _ _ hK2
  have g2_3 : W0.cell? ⟨w.heap.size + 1 + 1, 3, none⟩ = some (.float .f32 0) := cell_of_row W0 _ 3 _ _ _ hK2
  have f2_3 : W0.frozen? ⟨w.heap.size + 1 + 1, 3, none⟩ = false := frozen_of_row W0 _ 3 _ _ hK2
  have g2_4 : W0.cell? ⟨w.heap.size + 1 + 1, 4, none⟩ = some (.float .f32 0) := cell_of_row W0 _ 4 _ _ _ hK2
  have f2_4 : W0.frozen? ⟨w.heap.size + 1 + 1, 4, none⟩ = false := frozen_of_row W0 _ 4 _ _ hK2
  have g2_5 : W0.cell? ⟨w.heap.size + 1 + 1, 5, none⟩ = some (.float .f32 0) := cell_of_row W0 _ 5 _ _ _ hK2
  have f2_5 : W0.frozen? ⟨w.heap.size + 1 + 1, 5, none⟩ = false := frozen_of_row W0 _ 5 _ _ hK2
  have l2 : w.heap.size + 1 + 1 < W0.heap.size := (Array.getElem?_eq_some_iff.1 hK2).1
  refine (ValidBox_ok p _).mono ?_
  rintro e w1 ⟨rfl, hb⟩
  clear g0_0 f0_0 g0_1 f0_1 g0_2 f0_2 g0_3 f0_3 g0_4 f0_4 g0_5 f0_5 l0 g1_0 f1_0 g1_1 f1_1 g1_2 f1_2 g1_3 f1_3 g1_4 f1_4 g1_5 f1_5 l1 g2_0 f2_0 g2_1 f2_1 g2_2 f2_2 g2_3 f2_3 g2_4 f2_4 g2_5 f2_5 l2
  have hE0 : Ext W0 w1 := hb
  have hB1 : Below w.heap.size w w1 := hB0.trans (hE0.mono hB0.size)
  replace hK0 := hE0.heap hK0
  replace hK1 := hE0.heap hK1
  replace hK2 := hE0.heap hK2
  have g0_0 : w1.cell? ⟨w.heap.size, 0, none⟩ = some (.float .f32 p.a) := cell_of_row w1 _ 0 _ _ _ hK0
  have f0_0 : w1.frozen? ⟨w.heap.size, 0, none⟩ = false := frozen_of_row w1 _ 0 _ _ hK0
  have g0_1 : w1.cell? ⟨w.heap.size, 1, none⟩ = some (.float .f32 p.b) := cell_of_row w1 _ 1 _ _ _ hK0
  have f0_1 : w1.frozen? ⟨w.heap.size, 1, none⟩ = false := frozen_of_row w1 _ 1 _ _ hK0
  have g0_2 : w1.cell? ⟨w.heap.size, 2, none⟩ = some (.float .f32 p.c) := cell_of_row w1 _ 2 _ _ _ hK0
  have f0_2 : w1.frozen? ⟨w.heap.size, 2, none⟩ = false := frozen_of_row w1 _ 2 _ _ hK0
  have g0_3 : w1.cell? ⟨w.heap.size, 3, none⟩ = some (.float .f32 p.x) := cell_of_row w1 _ 3 _ _ _ hK0
  have f0_3 : w1.frozen? ⟨w.heap.size, 3, none⟩ = false := frozen_of_row w1 _ 3 _ _ hK0
  have g0_4 : w1.cell? ⟨w.heap.size, 4, none⟩ = some (.float .f32 p.y) := cell_of_row w1 _ 4 _ _ _ hK0
  have f0_4 : w1.frozen? ⟨w.heap.size, 4, none⟩ = false := frozen_of_row w1 _ 4 _ _ hK0
  have g0_5 : w1.cell? ⟨w.heap.size, 5, none⟩ = some (.float .f32 p.z) := cell_of_row w1 _ 5 _ _ _ hK0
  have f0_5 : w1.frozen? ⟨w.heap.size, 5, none⟩ = false := frozen_of_row w1 _ 5 _ _ hK0
  have l0 : w.heap.size < w1.heap.size := (Array.getElem?_eq_some_iff.1 hK0).1
  have g1_0 : w1.cell? ⟨w.heap.size + 1, 0, none⟩ = some (.float .f32 q.a) := cell_of_row w1 _ 0 _ _ _ hK1
  have f1_0 : w1.frozen? ⟨w.heap.size + 1, 0, none⟩ = false := frozen_of_row w1 _ 0 _ _ hK1
  have g1_1 : w1.cell? ⟨w.heap.size + 1, 1, none⟩ = some (.float .f32 q.b) := cell_of_row w1 _ 1 _ _ _ hK1
  have f1_1 : w1.frozen? ⟨w.heap.size + 1, 1, none⟩ = false := frozen_of_row w1 _ 1 _ _ hK1
  have g1_2 : w1.cell? ⟨w.heap.size + 1, 2, none⟩ = some (.float .f32 q.c) := cell_of_row w1 _ 2 _ _ _ hK1
  have f1_2 : w1.frozen? ⟨w.heap.size + 1, 2, none⟩ = false := frozen_of_row w1 _ 2 _ _ hK1
  have g1_3 : w1.cell? ⟨w.heap.size + 1, 3, none⟩ = some (.float .f32 q.x) := cell_of_row w1 _ 3 _ _ _ hK1
  have f1_3 : w1.frozen? ⟨w.heap.size + 1, 3, none⟩ = false := frozen_of_row w1 _ 3 _ _ hK1
  have g1_4 : w1.cell? ⟨w.heap.size + 1, 4, none⟩ = some (.float .f32 q.y) := cell_of_row w1 _ 4 _ _ _ hK1
  have f1_4 : w1.frozen? ⟨w.heap.size + 1, 4, none⟩ = false := frozen_of_row w1 _ 4 _ _ hK1
  have g1_5 : w1.cell? ⟨w.heap.size + 1, 5, none⟩ = some (.float .f32 q.z) := cell_of_row w1 _ 5 _ _ _ hK1
  have f1_5 : w1.frozen? ⟨w.heap.size + 1, 5, none⟩ = false := frozen_of_row w1 _ 5 _ _ hK1
  have l1 : w.heap.size + 1 < w1.heap.size := (Array.getElem?_eq_some_iff.1 hK1).1
  have g2_0 : w1.cell? ⟨w.heap.size + 1 + 1, 0, none⟩ = some (.float .f32 0) := cell_of_row w1 _ 0 _ _ _ hK2
  have f2_0 : w1.frozen? ⟨w.heap.size + 1 + 1, 0, none⟩ = false := frozen_of_row w1 _ 0 _ _ hK2
  have g2_1 : w1.cell? ⟨w.heap.size + 1 + 1, 1, none⟩ = some (.float .f32 0) := cell_of_row w1 _ 1 _ _ _ hK2
  have f2_1 : w1.frozen? ⟨w.heap.size + 1 + 1, 1, none⟩ = false := frozen_of_row w1 _ 1 _ _ hK2
  have g2_2 : w1.cell? ⟨w.heap.size + 1 + 1, 2, none⟩ = some (.float .f32 0) := cell_of_row w1 _ 2 _ _ _ hK2
  have f2_2 : w1.frozen? ⟨w.heap.size + 1 + 1, 2, none⟩ = false := frozen_of_row w1 _ 2 _ _ hK2
  have g2_3 : w1.cell? ⟨w.heap.size + 1 + 1, 3, none⟩ = some (.float .f32 0) := cell_of_row w1 _ 3 _ _ _ hK2
  have f2_3 : w1.frozen? ⟨w.heap.size + 1 + 1, 3, none⟩ = false := frozen_of_row w1 _ 3 _ _ hK2
  have g2_4 : w1.cell? ⟨w.heap.size + 1 + 1, 4, none⟩ = some (.float .f32 0) := cell_of_row w1 _ 4 _ _ _ hK2
  have f2_4 : w1.frozen? ⟨w.heap.size + 1 + 1, 4, none⟩ = false := frozen_of_row w1 _ 4 _ _ hK2
  have g2_5 : w1.cell? ⟨w.heap.size + 1 + 1, 5, none⟩ = some (.float .f32 0) := cell_of_row w1 _ 5 _ _ _ hK2
  have f2_5 : w1.frozen? ⟨w.heap.size + 1 + 1, 5, none⟩ = false := frozen_of_row w1 _ 5 _ _ hK2
  have l2 : w.heap.size + 1 + 1 < w1.heap.size := (Array.getElem?_eq_some_iff.1 hK2).1
  clear hb
  cases h1 : boxB p
  · go_wp2_with fail
    generalize hWs : (((((w1.setCell ⟨w.heap.size + 1 + 1, 0, none⟩ (.float .f32 0)).setCell ⟨w.heap.size + 1 + 1, 1, none⟩ (.float .f32 0)).setCell ⟨w.heap.size + 1 + 1, 2, none⟩ (.float .f32 0)).setCell ⟨w.heap.size + 1 + 1, 3, none⟩ (.float .f32 0)).setCell ⟨w.heap.size + 1 + 1, 4, none⟩ (.float .f32 0)).setCell ⟨w.heap.size + 1 + 1, 5, none⟩ (.float .f32 0) = w5
    have hS : w5.heap[w.heap.size + 1 + 1]? = some (.cells #[.float .f32 0, .float .f32 0, .float .f32 0, .float .f32 0, .float .f32 0, .float .f32 0] 30) := by
      subst hWs
      have s0 := heap_setCell_same (w1) _ 0 _ _ (.float .f32 0) hK2
      have s1 := heap_setCell_same ((w1).setCell ⟨w.heap.size + 1 + 1, 0, none⟩ (.float .f32 0)) _ 1 _ _ (.float .f32 0) s0
      have s2 := heap_setCell_same (((w1).setCell ⟨w.heap.size + 1 + 1, 0, none⟩ (.float .f32 0)).setCell ⟨w.heap.size + 1 + 1, 1, none⟩ (.float .f32 0)) _ 2 _ _ (.float .f32 0) s1
      have s3 := heap_setCell_same ((((w1).setCell ⟨w.heap.size + 1 + 1, 0, none⟩ (.float .f32 0)).setCell ⟨w.heap.size + 1 + 1, 1, none⟩ (.float .f32 0)).setCell ⟨w.heap.size + 1 + 1, 2, none⟩ (.float .f32 0)) _ 3 _ _ (.float .f32 0) s2
      have s4 := heap_setCell_same (((((w1).setCell ⟨w.heap.size + 1 + 1, 0, none⟩ (.float .f32 0)).setCell ⟨w.heap.size + 1 + 1, 1, none⟩ (.float .f32 0)).setCell ⟨w.heap.size + 1 + 1, 2, none⟩ (.float .f32 0)).setCell ⟨w.heap.size + 1 + 1, 3, none⟩ (.float .f32 0)) _ 4 _ _ (.float .f32 0) s3
      have s5 := heap_setCell_same ((((((w1).setCell ⟨w.heap.size + 1 + 1, 0, none⟩ (.float .f32 0)).setCell ⟨w.heap.size + 1 + 1, 1, none⟩ (.float .f32 0)).setCell ⟨w.heap.size + 1 + 1, 2, none⟩ (.float .f32 0)).setCell ⟨w.heap.size + 1 + 1, 3, none⟩ (.float .f32 0)).setCell ⟨w.heap.size + 1 + 1, 4, none⟩ (.float .f32 0)) _ 5 _ _ (.float .f32 0) s4
      simpa using s5
    have hO : ∀ q, q ≠ w.heap.size + 1 + 1 → w5.heap[q]? = w1.heap[q]? := fun q hq => by subst hWs; rw [heap_setCell_other _ _ _ _ hq, heap_setCell_other _ _ _ _ hq, heap_setCell_other _ _ _ _ hq, heap_setCell_other _ _ _ _ hq, heap_setCell_other _ _ _ _ hq, heap_setCell_other _ _ _ _ hq]
    have hB2 : Below w.heap.size w w5 := by
      subst hWs
      have hle : w.heap.size ≤ w.heap.size + 1 + 1 := by omega
      refine Below.setCell ?_ hle _
      refine Below.setCell ?_ hle _
      refine Below.setCell ?_ hle _
      refine Below.setCell ?_ hle _
      refine Below.setCell ?_ hle _
      refine Below.setCell ?_ hle _
      repeat (first | exact hB1 | refine below_drewN ?_ _)
    clear g0_0 f0_0 g0_1 f0_1 g0_2 f0_2 g0_3 f0_3 g0_4 f0_4 g0_5 f0_5 l0 g1_0 f1_0 g1_1 f1_1 g1_2 f1_2 g1_3 f1_3 g1_4 f1_4 g1_5 f1_5 l1 g2_0 f2_0 g2_1 f2_1 g2_2 f2_2 g2_3 f2_3 g2_4 f2_4 g2_5 f2_5 l2
    replace hK0 := (hO _ (by omega)).trans hK0
    replace hK1 := (hO _ (by omega)).trans hK1
    replace hK2 := hS
    clear hS hO hWs
    have g0_0 : w5.cell? ⟨w.heap.size, 0, none⟩ = some (.float .f32 p.a) := cell_of_row w5 _ 0 _ _ _ hK0
    have f0_0 : w5.frozen? ⟨w.heap.size, 0, none⟩ = false := frozen_of_row w5 _ 0 _ _ hK0
    have g0_1 : w5.cell? ⟨w.heap.size, 1, none⟩ = some (.float .f32 p.b) := cell_of_row w5 _ 1 _ _ _ hK0
    have f0_1 : w5.frozen? ⟨w.heap.size, 1, none⟩ = false := frozen_of_row w5 _ 1 _ _ hK0
    have g0_2 : w5.cell? ⟨w.heap.size, 2, none⟩ = some (.float .f32 p.c) := cell_of_row w5 _ 2 _ _ _ hK0
    have f0_2 : w5.frozen? ⟨w.heap.size, 2, none⟩ = false := frozen_of_row w5 _ 2 _ _ hK0
    have g0_3 : w5.cell? ⟨w.heap.size, 3, none⟩ = some (.float .f32 p.x) := cell_of_row w5 _ 3 _ _ _ hK0
    have f0_3 : w5.frozen? ⟨w.heap.size, 3, none⟩ = false := frozen_of_row w5 _ 3 _ _ hK0
    have g0_4 : w5.cell? ⟨w.heap.size, 4, none⟩ = some (.float .f32 p.y) := cell_of_row w5 _ 4 _ _ _ hK0
    have f0_4 : w5.frozen? ⟨w.heap.size, 4, none⟩ = false := frozen_of_row w5 _ 4 _ _ hK0
    have g0_5 : w5.cell? ⟨w.heap.size, 5, none⟩ = some (.float .f32 p.z) := cell_of_row w5 _ 5 _ _ _ hK0
    have f0_5 : w5.frozen? ⟨w.heap.size, 5, none⟩ = false := frozen_of_row w5 _ 5 _ _ hK0
    have l0 : w.heap.size < w5.heap.size := (Array.getElem?_eq_some_iff.1 hK0).1
    have g1_0 : w5.cell? ⟨w.heap.size + 1, 0, none⟩ = some (.float .f32 q.a) := cell_of_row w5 _ 0 _ _ _ hK1
    have f1_0 : w5.frozen? ⟨w.heap.size + 1, 0, none⟩ = false := frozen_of_row w5 _ 0 _ _ hK1
    have g1_1 : w5.cell? ⟨w.heap.size + 1, 1, none⟩ = some (.float .f32 q.b) := cell_of_row w5 _ 1 _ _ _ hK1
    have f1_1 : w5.frozen? ⟨w.heap.size + 1, 1, none⟩ = false := frozen_of_row w5 _ 1 _ _ hK1
    have g1_2 : w5.cell? ⟨w.heap.size + 1, 2, none⟩ = some (.float .f32 q.c) := cell_of_row w5 _ 2 _ _ _ hK1
    have f1_2 : w5.frozen? ⟨w.heap.size + 1, 2, none⟩ = false := frozen_of_row w5 _ 2 _ _ hK1
    have g1_3 : w5.cell? ⟨w.heap.size + 1, 3, none⟩ = some (.float .f32 q.x) := cell_of_row w5 _ 3 _ _ _ hK1
    have f1_3 : w5.frozen? ⟨w.heap.size + 1, 3, none⟩ = false := frozen_of_row w5 _ 3 _ _ hK1
    have g1_4 : w5.cell? ⟨w.heap.size + 1, 4, none⟩ = some (.float .f32 q.y) := cell_of_row w5 _ 4 _ _ _ hK1
    have f1_4 : w5.frozen? ⟨w.heap.size + 1, 4, none⟩ = false := frozen_of_row w5 _ 4 _ _ hK1
    have g1_5 : w5.cell? ⟨w.heap.size + 1, 5, none⟩ = some (.float .f32 q.z) := cell_of_row w5 _ 5 _ _ _ hK1
    have f1_5 : w5.frozen? ⟨w.heap.size + 1, 5, none⟩ = false := frozen_of_row w5 _ 5 _ _ hK1
    have l1 : w.heap.size + 1 < w5.heap.size := (Array.getElem?_eq_some_iff.1 hK1).1
    have g2_0 : w5.cell? ⟨w.heap.size + 1 + 1, 0, none⟩ = some (.float .f32 0) := cell_of_row w5 _ 0 _ _ _ hK2
    have f2_0 : w5.frozen? ⟨w.heap.size + 1 + 1, 0, none⟩ = false := frozen_of_row w5 _ 0 _ _ hK2
    have g2_1 : w5.cell? ⟨w.heap.size + 1 + 1, 1, none⟩ = some (.float .f32 0) := cell_of_row w5 _ 1 _ _ _ hK2
    have f2_1 : w5.frozen? ⟨w.heap.size + 1 + 1, 1, none⟩ = false := frozen_of_row w5 _ 1 _ _ hK2
    have g2_2 : w5.cell? ⟨w.heap.size + 1 + 1, 2, none⟩ = some (.float .f32 0) := cell_of_row w5 _ 2 _ _ _ hK2
    have f2_2 : w5.frozen? ⟨w.heap.size + 1 + 1, 2, none⟩ = false := frozen_of_row w5 _ 2 _ _ hK2
    have g2_3 : w5.cell? ⟨w.heap.size + 1 + 1, 3, none⟩ = some (.float .f32 0) := cell_of_row w5 _ 3 _ _ _ hK2
    have f2_3 : w5.frozen? ⟨w.heap.size + 1 + 1, 3, none⟩ = false := frozen_of_row w5 _ 3 _ _ hK2
    have g2_4 : w5.cell? ⟨w.heap.size + 1 + 1, 4, none⟩ = some (.float .f32 0) := cell_of_row w5 _ 4 _ _ _ hK2
    have f2_4 : w5.frozen? ⟨w.heap.size + 1 + 1, 4, none⟩ = false := frozen_of_row w5 _ 4 _ _ hK2
    have g2_5 : w5.cell? ⟨w.heap.size + 1 + 1, 5, none⟩ = some (.float .f32 0) := cell_of_row w5 _ 5 _ _ _ hK2
    have f2_5 : w5.frozen? ⟨w.heap.size + 1 + 1, 5, none⟩ = false := frozen_of_row w5 _ 5 _ _ hK2
    have l2 : w.heap.size + 1 + 1 < w5.heap.size := (Array.getElem?_eq_some_iff.1 hK2).1
    exact bodyPost_ret (v := .tuple #[.agg #[.float .f32 0, .float .f32 0, .float .f32 0, .float .f32 0, .float .f32 0, .float .f32 0], .bool false]) (by simp [results, Try.results29, go_sem, g2_0, g2_1, g2_2, g2_3, g2_4, g2_5]) rfl ⟨by rw [h1]; rfl, hB2⟩
  go_wp2_with fail
  refine (ValidBox_ok q _).mono ?_
  rintro e w2 ⟨rfl, hb⟩
  clear g0_0 f0_0 g0_1 f0_1 g0_2 f0_2 g0_3 f0_3 g0_4 f0_4 g0_5 f0_5 l0 g1_0 f1_0 g1_1 f1_1 g1_2 f1_2 g1_3 f1_3 g1_4 f1_4 g1_5 f1_5 l1 g2_0 f2_0 g2_1 f2_1 g2_2 f2_2 g2_3 f2_3 g2_4 f2_4 g2_5 f2_5 l2
  have hE1 : Ext w1 w2 := hb
  have hB2 : Below w.heap.size w w2 := hB1.trans (hE1.mono hB1.size)
  replace hK0 := hE1.heap hK0
  replace hK1 := hE1.heap hK1
  replace hK2 := hE1.heap hK2
  have g0_0 : w2.cell? ⟨w.heap.size, 0, none⟩ = some (.float .f32 p.a) := cell_of_row w2 _ 0 _ _ _ hK0
  have f0_0 : w2.frozen? ⟨w.heap.size, 0, none⟩ = false := frozen_of_row w2 _ 0 _ _ hK0
  have g0_1 : w2.cell? ⟨w.heap.size, 1, none⟩ = some (.float .f32 p.b) := cell_of_row w2 _ 1 _ _ _ hK0
  have f0_1 : w2.frozen? ⟨w.heap.size, 1, none⟩ = false := frozen_of_row w2 _ 1 _ _ hK0
  have g0_2 : w2.cell? ⟨w.heap.size, 2, none⟩ = some (.float .f32 p.c) := cell_of_row w2 _ 2 _ _ _ hK0
  have f0_2 : w2.frozen? ⟨w.heap.size, 2, none⟩ = false := frozen_of_row w2 _ 2 _ _ hK0
  have g0_3 : w2.cell? ⟨w.heap.size, 3, none⟩ = some (.float .f32 p.x) := cell_of_row w2 _ 3 _ _ _ hK0
  have f0_3 : w2.frozen? ⟨w.heap.size, 3, none⟩ = false := frozen_of_row w2 _ 3 _ _ hK0
  have g0_4 : w2.cell? ⟨w.heap.size, 4, none⟩ = some (.float .f32 p.y) := cell_of_row w2 _ 4 _ _ _ hK0
  have f0_4 : w2.frozen? ⟨w.heap.size, 4, none⟩ = false := frozen_of_row w2 _ 4 _ _ hK0
  have g0_5 : w2.cell? ⟨w.heap.size, 5, none⟩ = some (.float .f32 p.z) := cell_of_row w2 _ 5 _ _ _ hK0
  have f0_5 : w2.frozen? ⟨w.heap.size, 5, none⟩ = false := frozen_of_row w2 _ 5 _ _ hK0
  have l0 : w.heap.size < w2.heap.size := (Array.getElem?_eq_some_iff.1 hK0).1
  have g1_0 : w2.cell? ⟨w.heap.size + 1, 0, none⟩ = some (.float .f32 q.a) := cell_of_row w2 _ 0 _ _ _ hK1
  have f1_0 : w2.frozen? ⟨w.heap.size + 1, 0, none⟩ = false := frozen_of_row w2 _ 0 _ _ hK1
  have g1_1 : w2.cell? ⟨w.heap.size + 1, 1, none⟩ = some (.float .f32 q.b) := cell_of_row w2 _ 1 _ _ _ hK1
  have f1_1 : w2.frozen? ⟨w.heap.size + 1, 1, none⟩ = false := frozen_of_row w2 _ 1 _ _ hK1
  have g1_2 : w2.cell? ⟨w.heap.size + 1, 2, none⟩ = some (.float .f32 q.c) := cell_of_row w2 _ 2 _ _ _ hK1
  have f1_2 : w2.frozen? ⟨w.heap.size + 1, 2, none⟩ = false := frozen_of_row w2 _ 2 _ _ hK1
  have g1_3 : w2.cell? ⟨w.heap.size + 1, 3, none⟩ = some (.float .f32 q.x) := cell_of_row w2 _ 3 _ _ _ hK1
  have f1_3 : w2.frozen? ⟨w.heap.size + 1, 3, none⟩ = false := frozen_of_row w2 _ 3 _ _ hK1
  have g1_4 : w2.cell? ⟨w.heap.size + 1, 4, none⟩ = some (.float .f32 q.y) := cell_of_row w2 _ 4 _ _ _ hK1
  have f1_4 : w2.frozen? ⟨w.heap.size + 1, 4, none⟩ = false := frozen_of_row w2 _ 4 _ _ hK1
  have g1_5 : w2.cell? ⟨w.heap.size + 1, 5, none⟩ = some (.float .f32 q.z) := cell_of_row w2 _ 5 _ _ _ hK1
  have f1_5 : w2.frozen? ⟨w.heap.size + 1, 5, none⟩ = false := frozen_of_row w2 _ 5 _ _ hK1
  have l1 : w.heap.size + 1 < w2.heap.size := (Array.getElem?_eq_some_iff.1 hK1).1
  have g2_0 : w2.cell? ⟨w.heap.size + 1 + 1, 0, none⟩ = some (.float .f32 0) := cell_of_row w2 _ 0 _ _ _ hK2
  have f2_0 : w2.frozen? ⟨w.heap.size + 1 + 1, 0, none⟩ = false := frozen_of_row w2 _ 0 _ _ hK2
  have g2_1 : w2.cell? ⟨w.heap.size + 1 + 1, 1, none⟩ = some (.float .f32 0) := cell_of_row w2 _ 1 _ _ _ hK2
  have f2_1 : w2.frozen? ⟨w.heap.size + 1 + 1, 1, none⟩ = false := frozen_of_row w2 _ 1 _ _ hK2
  have g2_2 : w2.cell? ⟨w.heap.size + 1 + 1, 2, none⟩ = some (.float .f32 0) := cell_of_row w2 _ 2 _ _ _ hK2
  have f2_2 : w2.frozen? ⟨w.heap.size + 1 + 1, 2, none⟩ = false := frozen_of_row w2 _ 2 _ _ hK2
  have g2_3 : w2.cell? ⟨w.heap.size + 1 + 1, 3, none⟩ = some (.float .f32 0) := cell_of_row w2 _ 3 _ _ _ hK2
  have f2_3 : w2.frozen? ⟨w.heap.size + 1 + 1, 3, none⟩ = false := frozen_of_row w2 _ 3 _ _ hK2
  have g2_4 : w2.cell? ⟨w.heap.size + 1 + 1, 4, none⟩ = some (.float .f32 0) := cell_of_row w2 _ 4 _ _ _ hK2
  have f2_4 : w2.frozen? ⟨w.heap.size + 1 + 1, 4, none⟩ = false := frozen_of_row w2 _ 4 _ _ hK2
  have g2_5 : w2.cell? ⟨w.heap.size + 1 + 1, 5, none⟩ = some (.float .f32 0) := cell_of_row w2 _ 5 _ _ _ hK2
  have f2_5 : w2.frozen? ⟨w.heap.size + 1 + 1, 5, none⟩ = false := frozen_of_row w2 _ 5 _ _ hK2
  have l2 : w.heap.size + 1 + 1 < w2.heap.size := (Array.getElem?_eq_some_iff.1 hK2).1
  clear hb
  cases h2 : boxB q
  · go_wp2_with fail
    generalize hWs : (((((w2.setCell ⟨w.heap.size + 1 + 1, 0, none⟩ (.float .f32 0)).setCell ⟨w.heap.size + 1 + 1, 1, none⟩ (.float .f32 0)).setCell ⟨w.heap.size + 1 + 1, 2, none⟩ (.float .f32 0)).setCell ⟨w.heap.size + 1 + 1, 3, none⟩ (.float .f32 0)).setCell ⟨w.heap.size + 1 + 1, 4, none⟩ (.float .f32 0)).setCell ⟨w.heap.size + 1 + 1, 5, none⟩ (.float .f32 0) = w5
    have hS : w5.heap[w.heap.size + 1 + 1]? = some (.cells #[.float .f32 0, .float .f32 0, .float .f32 0, .float .f32 0, .float .f32 0, .float .f32 0] 30) := by
      subst hWs
      have s0 := heap_setCell_same (w2) _ 0 _ _ (.float .f32 0) hK2
      have s1 := heap_setCell_same ((w2).setCell ⟨w.heap.size + 1 + 1, 0, none⟩ (.float .f32 0)) _ 1 _ _ (.float .f32 0) s0
      have s2 := heap_setCell_same (((w2).setCell ⟨w.heap.size + 1 + 1, 0, none⟩ (.float .f32 0)).setCell ⟨w.heap.size + 1 + 1, 1, none⟩ (.float .f32 0)) _ 2 _ _ (.float .f32 0) s1
      have s3 := heap_setCell_same ((((w2).setCell ⟨w.heap.size + 1 + 1, 0, none⟩ (.float .f32 0)).setCell ⟨w.heap.size + 1 + 1, 1, none⟩ (.float .f32 0)).setCell ⟨w.heap.size + 1 + 1, 2, none⟩ (.float .f32 0)) _ 3 _ _ (.float .f32 0) s2
      have s4 := heap_setCell_same (((((w2).setCell ⟨w.heap.size + 1 + 1, 0, none⟩ (.float .f32 0)).setCell ⟨w.heap.size + 1 + 1, 1, none⟩ (.float .f32 0)).setCell ⟨w.heap.size + 1 + 1, 2, none⟩ (.float .f32 0)).setCell ⟨w.heap.size + 1 + 1, 3, none⟩ (.float .f32 0)) _ 4 _ _ (.float .f32 0) s3
      have s5 := heap_setCell_same ((((((w2).setCell ⟨w.heap.size + 1 + 1, 0, none⟩ (.float .f32 0)).setCell ⟨w.heap.size + 1 + 1, 1, none⟩ (.float .f32 0)).setCell ⟨w.heap.size + 1 + 1, 2, none⟩ (.float .f32 0)).setCell ⟨w.heap.size + 1 + 1, 3, none⟩ (.float .f32 0)).setCell ⟨w.heap.size + 1 + 1, 4, none⟩ (.float .f32 0)) _ 5 _ _ (.float .f32 0) s4
      simpa using s5
    have hO : ∀ q, q ≠ w.heap.size + 1 + 1 → w5.heap[q]? = w2.heap[q]? := fun q hq => by subst hWs; rw [heap_setCell_other _ _ _ _ hq, heap_setCell_other _ _ _ _ hq, heap_setCell_other _ _ _ _ hq, heap_setCell_other _ _ _ _ hq, heap_setCell_other _ _ _ _ hq, heap_setCell_other _ _ _ _ hq]
    have hB3 : Below w.heap.size w w5 := by
      subst hWs
      have hle : w.heap.size ≤ w.heap.size + 1 + 1 := by omega
      refine Below.setCell ?_ hle _
      refine Below.setCell ?_ hle _
      refine Below.setCell ?_ hle _
      refine Below.setCell ?_ hle _
      refine Below.setCell ?_ hle _
      refine Below.setCell ?_ hle _
      repeat (first | exact hB2 | refine below_drewN ?_ _)
    clear g0_0 f0_0 g0_1 f0_1 g0_2 f0_2 g0_3 f0_3 g0_4 f0_4 g0_5 f0_5 l0 g1_0 f1_0 g1_1 f1_1 g1_2 f1_2 g1_3 f1_3 g1_4 f1_4 g1_5 f1_5 l1 g2_0 f2_0 g2_1 f2_1 g2_2 f2_2 g2_3 f2_3 g2_4 f2_4 g2_5 f2_5 l2
    replace hK0 := (hO _ (by omega)).trans hK0
    replace hK1 := (hO _ (by omega)).trans hK1
    replace hK2 := hS
    clear hS hO hWs
    have g0_0 : w5.cell? ⟨w.heap.size, 0, none⟩ = some (.float .f32 p.a) := cell_of_row w5 _ 0 _ _ _ hK0
    have f0_0 : w5.frozen? ⟨w.heap.size, 0, none⟩ = false := frozen_of_row w5 _ 0 _ _ hK0
    have g0_1 : w5.cell? ⟨w.heap.size, 1, none⟩ = some (.float .f32 p.b) := cell_of_row w5 _ 1 _ _ _ hK0
    have f0_1 : w5.frozen? ⟨w.heap.size, 1, none⟩ = false := frozen_of_row w5 _ 1 _ _ hK0
    have g0_2 : w5.cell? ⟨w.heap.size, 2, none⟩ = some (.float .f32 p.c) := cell_of_row w5 _ 2 _ _ _ hK0
    have f0_2 : w5.frozen? ⟨w.heap.size, 2, none⟩ = false := frozen_of_row w5 _ 2 _ _ hK0
    have g0_3 : w5.cell? ⟨w.heap.size, 3, none⟩ = some (.float .f32 p.x) := cell_of_row w5 _ 3 _ _ _ hK0
    have f0_3 : w5.frozen? ⟨w.heap.size, 3, none⟩ = false := frozen_of_row w5 _ 3 _ _ hK0
    have g0_4 : w5.cell? ⟨w.heap.size, 4, none⟩ = some (.float .f32 p.y) := cell_of_row w5 _ 4 _ _ _ hK0
    have f0_4 : w5.frozen? ⟨w.heap.size, 4, none⟩ = false := frozen_of_row w5 _ 4 _ _ hK0
    have g0_5 : w5.cell? ⟨w.heap.size, 5, none⟩ = some (.float .f32 p.z) := cell_of_row w5 _ 5 _ _ _ hK0
    have f0_5 : w5.frozen? ⟨w.heap.size, 5, none⟩ = false := frozen_of_row w5 _ 5 _ _ hK0
    have l0 : w.heap.size < w5.heap.size := (Array.getElem?_eq_some_iff.1 hK0).1
    have g1_0 : w5.cell? ⟨w.heap.size + 1, 0, none⟩ = some (.float .f32 q.a) := cell_of_row w5 _ 0 _ _ _ hK1
    have f1_0 : w5.frozen? ⟨w.heap.size + 1, 0, none⟩ = false := frozen_of_row w5 _ 0 _ _ hK1
    have g1_1 : w5.cell? ⟨w.heap.size + 1, 1, none⟩ = some (.float .f32 q.b) := cell_of_row w5 _ 1 _ _ _ hK1
    have f1_1 : w5.frozen? ⟨w.heap.size + 1, 1, none⟩ = false := frozen_of_row w5 _ 1 _ _ hK1
    have g1_2 : w5.cell? ⟨w.heap.size + 1, 2, none⟩ = some (.float .f32 q.c) := cell_of_row w5 _ 2 _ _ _ hK1
    have f1_2 : w5.frozen? ⟨w.heap.size + 1, 2, none⟩ = false := frozen_of_row w5 _ 2 _ _ hK1
    have g1_3 : w5.cell? ⟨w.heap.size + 1, 3, none⟩ = some (.float .f32 q.x) := cell_of_row w5 _ 3 _ _ _ hK1
    have f1_3 : w5.frozen? ⟨w.heap.size + 1, 3, none⟩ = false := frozen_of_row w5 _ 3 _ _ hK1
    have g1_4 : w5.cell? ⟨w.heap.size + 1, 4, none⟩ = some (.float .f32 q.y) := cell_of_row w5 _ 4 _ _ _ hK1
    have f1_4 : w5.frozen? ⟨w.heap.size + 1, 4, none⟩ = false := frozen_of_row w5 _ 4 _ _ hK1
    have g1_5 : w5.cell? ⟨w.heap.size + 1, 5, none⟩ = some (.float .f32 q.z) := cell_of_row w5 _ 5 _ _ _ hK1
    have f1_5 : w5.frozen? ⟨w.heap.size + 1, 5, none⟩ = false := frozen_of_row w5 _ 5 _ _ hK1
    have l1 : w.heap.size + 1 < w5.heap.size := (Array.getElem?_eq_some_iff.1 hK1).1
    have g2_0 : w5.cell? ⟨w.heap.size + 1 + 1, 0, none⟩ = some (.float .f32 0) := cell_of_row w5 _ 0 _ _ _ hK2
    have f2_0 : w5.frozen? ⟨w.heap.size + 1 + 1, 0, none⟩ = false := frozen_of_row w5 _ 0 _ _ hK2
    have g2_1 : w5.cell? ⟨w.heap.size + 1 + 1, 1, none⟩ = some (.float .f32 0) := cell_of_row w5 _ 1 _ _ _ hK2
    have f2_1 : w5.frozen? ⟨w.heap.size + 1 + 1, 1, none⟩ = false := frozen_of_row w5 _ 1 _ _ hK2
    have g2_2 : w5.cell? ⟨w.heap.size + 1 + 1, 2, none⟩ = some (.float .f32 0) := cell_of_row w5 _ 2 _ _ _ hK2
    have f2_2 : w5.frozen? ⟨w.heap.size + 1 + 1, 2, none⟩ = false := frozen_of_row w5 _ 2 _ _ hK2
    have g2_3 : w5.cell? ⟨w.heap.size + 1 + 1, 3, none⟩ = some (.float .f32 0) := cell_of_row w5 _ 3 _ _ _ hK2
    have f2_3 : w5.frozen? ⟨w.heap.size + 1 + 1, 3, none⟩ = false := frozen_of_row w5 _ 3 _ _ hK2
    have g2_4 : w5.cell? ⟨w.heap.size + 1 + 1, 4, none⟩ = some (.float .f32 0) := cell_of_row w5 _ 4 _ _ _ hK2
    have f2_4 : w5.frozen? ⟨w.heap.size + 1 + 1, 4, none⟩ = false := frozen_of_row w5 _ 4 _ _ hK2
    have g2_5 : w5.cell? ⟨w.heap.size + 1 + 1, 5, none⟩ = some (.float .f32 0) := cell_of_row w5 _ 5 _ _ _ hK2
    have f2_5 : w5.frozen? ⟨w.heap.size + 1 + 1, 5, none⟩ = false := frozen_of_row w5 _ 5 _ _ hK2
    have l2 : w.heap.size + 1 + 1 < w5.heap.size := (Array.getElem?_eq_some_iff.1 hK2).1
    exact bodyPost_ret (v := .tuple #[.agg #[.float .f32 0, .float .f32 0, .float .f32 0, .float .f32 0, .float .f32 0, .float .f32 0], .bool false]) (by simp [results, Try.results29, go_sem, g2_0, g2_1, g2_2, g2_3, g2_4, g2_5]) rfl ⟨by rw [h1, h2]; rfl, hB3⟩
  go_wp2_with fail
  refine wp_region_laterO 14 (SO (QL [(19, fun u => u = vec (greaterF p.a q.a) (greaterF p.b q.b) (greaterF p.c q.c)), (24, fun u => u = vec (lesserF p.x q.x) (lesserF p.y q.y) (lesserF p.z q.z)), (26, fun u => u = Value.tuple #[(okB (cutM p q)).v, .bool (boxB (cutM p q))])])) (stays_SO _) (by kernel_rfl) (by kernel_rfl) ?_
  repeat (first | (refine later_exO rfl (fun K hK => ?_); apply Exists.intro; refine ⟨fun w' hw' => ?_, ?_⟩; (obtain ⟨hcc, hff⟩ := Grew.cells hw'; clear hw'; go_simp; rfl); go_simp; refine hK _ ?_; clear hK K))
  (refine later_callO rfl (fun K hK => ?_); go_simp; refine ⟨_, _, fun _ _ => ⟨rfl, rfl⟩, fun w1 hw1 => ?_, fun u y1 hx1 hu => ?_⟩)
  · refine (byGreater_ok _ _ _ _ _ _ _).mono ?_
    rintro e w2 ⟨rfl, hb⟩
    exact ⟨_, rfl, rfl, hb⟩
  obtain rfl : (fun u => u = vec (greaterF p.a q.a) (greaterF p.b q.b) (greaterF p.c q.c)) u := hu
  (refine hK _ _ hx1 ?_; clear hK K)
  repeat (first | (refine later_exO rfl (fun K hK => ?_); apply Exists.intro; refine ⟨fun w' hw' => ?_, ?_⟩; (obtain ⟨hcc, hff⟩ := Grew.cells hw'; clear hw'; go_simp; rfl); go_simp; refine hK _ ?_; clear hK K))
  (refine later_callO rfl (fun K hK => ?_); go_simp; refine ⟨_, _, fun _ _ => ⟨rfl, rfl⟩, fun w1 hw1 => ?_, fun u y2 hx2 hu => ?_⟩)
  · refine (byLesser_ok _ _ _ _ _ _ _).mono ?_
    rintro e w2 ⟨rfl, hb⟩
    exact ⟨_, rfl, rfl, hb⟩
  obtain rfl : (fun u => u = vec (lesserF p.x q.x) (lesserF p.y q.y) (lesserF p.z q.z)) u := hu
  (refine hK _ _ hx2 ?_; clear hK K)
  repeat (first | (refine later_exO rfl (fun K hK => ?_); apply Exists.intro; refine ⟨fun w' hw' => ?_, ?_⟩; (obtain ⟨hcc, hff⟩ := Grew.cells hw'; clear hw'; go_simp; rfl); go_simp; refine hK _ ?_; clear hK K))
  (refine later_callO rfl (fun K hK => ?_); go_simp; refine ⟨_, _, fun _ _ => ⟨rfl, rfl⟩, fun w1 hw1 => ?_, fun u y3 hx3 hu => ?_⟩)
  · refine (ifValid_ok (cutM p q) _).mono ?_
    rintro e w2 ⟨rfl, hb⟩
    exact ⟨_, rfl, rfl, hb⟩
  obtain rfl : (fun u => u = Value.tuple #[(okB (cutM p q)).v, .bool (boxB (cutM p q))]) u := hu
  (refine hK _ _ hx3 ?_; clear hK K)
  repeat (first | (refine later_exO rfl (fun K hK => ?_); apply Exists.intro; refine ⟨fun w' hw' => ?_, ?_⟩; (obtain ⟨hcc, hff⟩ := Grew.cells hw'; clear hw'; go_simp; rfl); go_simp; refine hK _ ?_; clear hK K))
  refine later_nilO ?_
  intro w4 hw4
  simp only [List.drop_succ_cons, List.drop_zero]
  clear g0_0 f0_0 g0_1 f0_1 g0_2 f0_2 g0_3 f0_3 g0_4 f0_4 g0_5 f0_5 l0 g1_0 f1_0 g1_1 f1_1 g1_2 f1_2 g1_3 f1_3 g1_4 f1_4 g1_5 f1_5 l1 g2_0 f2_0 g2_1 f2_1 g2_2 f2_2 g2_3 f2_3 g2_4 f2_4 g2_5 f2_5 l2
  have hE2 : Ext w2 w4 := (((hx1).trans hx2).trans hx3).trans hw4
  have hB3 : Below w.heap.size w w4 := hB2.trans (hE2.mono hB2.size)
  replace hK0 := hE2.heap hK0
  replace hK1 := hE2.heap hK1
  replace hK2 := hE2.heap hK2
  have g0_0 : w4.cell? ⟨w.heap.size, 0, none⟩ = some (.float .f32 p.a) := cell_of_row w4 _ 0 _ _ _ hK0
  have f0_0 : w4.frozen? ⟨w.heap.size, 0, none⟩ = false := frozen_of_row w4 _ 0 _ _ hK0
  have g0_1 : w4.cell? ⟨w.heap.size, 1, none⟩ = some (.float .f32 p.b) := cell_of_row w4 _ 1 _ _ _ hK0
  have f0_1 : w4.frozen? ⟨w.heap.size, 1, none⟩ = false := frozen_of_row w4 _ 1 _ _ hK0
  have g0_2 : w4.cell? ⟨w.heap.size, 2, none⟩ = some (.float .f32 p.c) := cell_of_row w4 _ 2 _ _ _ hK0
  have f0_2 : w4.frozen? ⟨w.heap.size, 2, none⟩ = false := frozen_of_row w4 _ 2 _ _ hK0
  have g0_3 : w4.cell? ⟨w.heap.size, 3, none⟩ = some (.float .f32 p.x) := cell_of_row w4 _ 3 _ _ _ hK0
  have f0_3 : w4.frozen? ⟨w.heap.size, 3, none⟩ = false := frozen_of_row w4 _ 3 _ _ hK0
  have g0_4 : w4.cell? ⟨w.heap.size, 4, none⟩ = some (.float .f32 p.y) := cell_of_row w4 _ 4 _ _ _ hK0
  have f0_4 : w4.frozen? ⟨w.heap.size, 4, none⟩ = false := frozen_of_row w4 _ 4 _ _ hK0
  have g0_5 : w4.cell? ⟨w.heap.size, 5, none⟩ = some (.float .f32 p.z) := cell_of_row w4 _ 5 _ _ _ hK0
  have f0_5 : w4.frozen? ⟨w.heap.size, 5, none⟩ = false := frozen_of_row w4 _ 5 _ _ hK0
  have l0 : w.heap.size < w4.heap.size := (Array.getElem?_eq_some_iff.1 hK0).1
  have g1_0 : w4.cell? ⟨w.heap.size + 1, 0, none⟩ = some (.float .f32 q.a) := cell_of_row w4 _ 0 _ _ _ hK1
  have f1_0 : w4.frozen? ⟨w.heap.size + 1, 0, none⟩ = false := frozen_of_row w4 _ 0 _ _ hK1
  have g1_1 : w4.cell? ⟨w.heap.size + 1, 1, none⟩ = some (.float .f32 q.b) := cell_of_row w4 _ 1 _ _ _ hK1
  have f1_1 : w4.frozen? ⟨w.heap.size + 1, 1, none⟩ = false := frozen_of_row w4 _ 1 _ _ hK1
  have g1_2 : w4.cell? ⟨w.heap.size + 1, 2, none⟩ = some (.float .f32 q.c) := cell_of_row w4 _ 2 _ _ _ hK1
  have f1_2 : w4.frozen? ⟨w.heap.size + 1, 2, none⟩ = false := frozen_of_row w4 _ 2 _ _ hK1
  have g1_3 : w4.cell? ⟨w.heap.size + 1, 3, none⟩ = some (.float .f32 q.x) := cell_of_row w4 _ 3 _ _ _ hK1
  have f1_3 : w4.frozen? ⟨w.heap.size + 1, 3, none⟩ = false := frozen_of_row w4 _ 3 _ _ hK1
  have g1_4 : w4.cell? ⟨w.heap.size + 1, 4, none⟩ = some (.float .f32 q.y) := cell_of_row w4 _ 4 _ _ _ hK1
  have f1_4 : w4.frozen? ⟨w.heap.size + 1, 4, none⟩ = false := frozen_of_row w4 _ 4 _ _ hK1
  have g1_5 : w4.cell? ⟨w.heap.size + 1, 5, none⟩ = some (.float .f32 q.z) := cell_of_row w4 _ 5 _ _ _ hK1
  have f1_5 : w4.frozen? ⟨w.heap.size + 1, 5, none⟩ = false := frozen_of_row w4 _ 5 _ _ hK1
  have l1 : w.heap.size + 1 < w4.heap.size := (Array.getElem?_eq_some_iff.1 hK1).1
  have g2_0 : w4.cell? ⟨w.heap.size + 1 + 1, 0, none⟩ = some (.float .f32 0) := cell_of_row w4 _ 0 _ _ _ hK2
  have f2_0 : w4.frozen? ⟨w.heap.size + 1 + 1, 0, none⟩ = false := frozen_of_row w4 _ 0 _ _ hK2
  have g2_1 : w4.cell? ⟨w.heap.size + 1 + 1, 1, none⟩ = some (.float .f32 0) := cell_of_row w4 _ 1 _ _ _ hK2
  have f2_1 : w4.frozen? ⟨w.heap.size + 1 + 1, 1, none⟩ = false := frozen_of_row w4 _ 1 _ _ hK2
  have g2_2 : w4.cell? ⟨w.heap.size + 1 + 1, 2, none⟩ = some (.float .f32 0) := cell_of_row w4 _ 2 _ _ _ hK2
  have f2_2 : w4.frozen? ⟨w.heap.size + 1 + 1, 2, none⟩ = false := frozen_of_row w4 _ 2 _ _ hK2
  have g2_3 : w4.cell? ⟨w.heap.size + 1 + 1, 3, none⟩ = some (.float .f32 0) := cell_of_row w4 _ 3 _ _ _ hK2
  have f2_3 : w4.frozen? ⟨w.heap.size + 1 + 1, 3, none⟩ = false := frozen_of_row w4 _ 3 _ _ hK2
  have g2_4 : w4.cell? ⟨w.heap.size + 1 + 1, 4, none⟩ = some (.float .f32 0) := cell_of_row w4 _ 4 _ _ _ hK2
  have f2_4 : w4.frozen? ⟨w.heap.size + 1 + 1, 4, none⟩ = false := frozen_of_row w4 _ 4 _ _ hK2
  have g2_5 : w4.cell? ⟨w.heap.size + 1 + 1, 5, none⟩ = some (.float .f32 0) := cell_of_row w4 _ 5 _ _ _ hK2
  have f2_5 : w4.frozen? ⟨w.heap.size + 1 + 1, 5, none⟩ = false := frozen_of_row w4 _ 5 _ _ hK2
  have l2 : w.heap.size + 1 + 1 < w4.heap.size := (Array.getElem?_eq_some_iff.1 hK2).1
  clear hw4 hx1 hx2 hx3
  go_wp2_with fail
  generalize hWs : (((((w4.setCell ⟨w.heap.size + 1 + 1, 0, none⟩ (.float .f32 (okB (cutM p q)).a)).setCell ⟨w.heap.size + 1 + 1, 1, none⟩ (.float .f32 (okB (cutM p q)).b)).setCell ⟨w.heap.size + 1 + 1, 2, none⟩ (.float .f32 (okB (cutM p q)).c)).setCell ⟨w.heap.size + 1 + 1, 3, none⟩ (.float .f32 (okB (cutM p q)).x)).setCell ⟨w.heap.size + 1 + 1, 4, none⟩ (.float .f32 (okB (cutM p q)).y)).setCell ⟨w.heap.size + 1 + 1, 5, none⟩ (.float .f32 (okB (cutM p q)).z) = w5
  have hS : w5.heap[w.heap.size + 1 + 1]? = some (.cells #[.float .f32 (okB (cutM p q)).a, .float .f32 (okB (cutM p q)).b, .float .f32 (okB (cutM p q)).c, .float .f32 (okB (cutM p q)).x, .float .f32 (okB (cutM p q)).y, .float .f32 (okB (cutM p q)).z] 30) := by
    subst hWs
    have s0 := heap_setCell_same (w4) _ 0 _ _ (.float .f32 (okB (cutM p q)).a) hK2
    have s1 := heap_setCell_same ((w4).setCell ⟨w.heap.size + 1 + 1, 0, none⟩ (.float .f32 (okB (cutM p q)).a)) _ 1 _ _ (.float .f32 (okB (cutM p q)).b) s0
    have s2 := heap_setCell_same (((w4).setCell ⟨w.heap.size + 1 + 1, 0, none⟩ (.float .f32 (okB (cutM p q)).a)).setCell ⟨w.heap.size + 1 + 1, 1, none⟩ (.float .f32 (okB (cutM p q)).b)) _ 2 _ _ (.float .f32 (okB (cutM p q)).c) s1
    have s3 := heap_setCell_same ((((w4).setCell ⟨w.heap.size + 1 + 1, 0, none⟩ (.float .f32 (okB (cutM p q)).a)).setCell ⟨w.heap.size + 1 + 1, 1, none⟩ (.float .f32 (okB (cutM p q)).b)).setCell ⟨w.heap.size + 1 + 1, 2, none⟩ (.float .f32 (okB (cutM p q)).c)) _ 3 _ _ (.float .f32 (okB (cutM p q)).x) s2
    have s4 := heap_setCell_same (((((w4).setCell ⟨w.heap.size + 1 + 1, 0, none⟩ (.float .f32 (okB (cutM p q)).a)).setCell ⟨w.heap.size + 1 + 1, 1, none⟩ (.float .f32 (okB (cutM p q)).b)).setCell ⟨w.heap.size + 1 + 1, 2, none⟩ (.float .f32 (okB (cutM p q)).c)).setCell ⟨w.heap.size + 1 + 1, 3, none⟩ (.float .f32 (okB (cutM p q)).x)) _ 4 _ _ (.float .f32 (okB (cutM p q)).y) s3
    have s5 := heap_setCell_same ((((((w4).setCell ⟨w.heap.size + 1 + 1, 0, none⟩ (.float .f32 (okB (cutM p q)).a)).setCell ⟨w.heap.size + 1 + 1, 1, none⟩ (.float .f32 (okB (cutM p q)).b)).setCell ⟨w.heap.size + 1 + 1, 2, none⟩ (.float .f32 (okB (cutM p q)).c)).setCell ⟨w.heap.size + 1 + 1, 3, none⟩ (.float .f32 (okB (cutM p q)).x)).setCell ⟨w.heap.size + 1 + 1, 4, none⟩ (.float .f32 (okB (cutM p q)).y)) _ 5 _ _ (.float .f32 (okB (cutM p q)).z) s4
    simpa using s5
  have hO : ∀ q, q ≠ w.heap.size + 1 + 1 → w5.heap[q]? = w4.heap[q]? := fun q hq => by subst hWs; rw [heap_setCell_other _ _ _ _ hq, heap_setCell_other _ _ _ _ hq, heap_setCell_other _ _ _ _ hq, heap_setCell_other _ _ _ _ hq, heap_setCell_other _ _ _ _ hq, heap_setCell_other _ _ _ _ hq]
  have hB4 : Below w.heap.size w w5 := by
    subst hWs
    have hle : w.heap.size ≤ w.heap.size + 1 + 1 := by omega
    refine Below.setCell ?_ hle _
    refine Below.setCell ?_ hle _
    refine Below.setCell ?_ hle _
    refine Below.setCell ?_ hle _
    refine Below.setCell ?_ hle _
    refine Below.setCell ?_ hle _
    repeat (first | exact hB3 | refine below_drewN ?_ _)
  clear g0_0 f0_0 g0_1 f0_1 g0_2 f0_2 g0_3 f0_3 g0_4 f0_4 g0_5 f0_5 l0 g1_0 f1_0 g1_1 f1_1 g1_2 f1_2 g1_3 f1_3 g1_4 f1_4 g1_5 f1_5 l1 g2_0 f2_0 g2_1 f2_1 g2_2 f2_2 g2_3 f2_3 g2_4 f2_4 g2_5 f2_5 l2
  replace hK0 := (hO _ (by omega)).trans hK0
  replace hK1 := (hO _ (by omega)).trans hK1
  replace hK2 := hS
  clear hS hO hWs
  have g0_0 : w5.cell? ⟨w.heap.size, 0, none⟩ = some (.float .f32 p.a) := cell_of_row w5 _ 0 _ _ _ hK0
  have f0_0 : w5.frozen? ⟨w.heap.size, 0, none⟩ = false := frozen_of_row w5 _ 0 _ _ hK0
  have g0_1 : w5.cell? ⟨w.heap.size, 1, none⟩ = some (.float .f32 p.b) := cell_of_row w5 _ 1 _ _ _ hK0
  have f0_1 : w5.frozen? ⟨w.heap.size, 1, none⟩ = false := frozen_of_row w5 _ 1 _ _ hK0
  have g0_2 : w5.cell? ⟨w.heap.size, 2, none⟩ = some (.float .f32 p.c) := cell_of_row w5 _ 2 _ _ _ hK0
  have f0_2 : w5.frozen? ⟨w.heap.size, 2, none⟩ = false := frozen_of_row w5 _ 2 _ _ hK0
  have g0_3 : w5.cell? ⟨w.heap.size, 3, none⟩ = some (.float .f32 p.x) := cell_of_row w5 _ 3 _ _ _ hK0
  have f0_3 : w5.frozen? ⟨w.heap.size, 3, none⟩ = false := frozen_of_row w5 _ 3 _ _ hK0
  have g0_4 : w5.cell? ⟨w.heap.size, 4, none⟩ = some (.float .f32 p.y) := cell_of_row w5 _ 4 _ _ _ hK0
  have f0_4 : w5.frozen? ⟨w.heap.size, 4, none⟩ = false := frozen_of_row w5 _ 4 _ _ hK0
  have g0_5 : w5.cell? ⟨w.heap.size, 5, none⟩ = some (.float .f32 p.z) := cell_of_row w5 _ 5 _ _ _ hK0
  have f0_5 : w5.frozen? ⟨w.heap.size, 5, none⟩ = false := frozen_of_row w5 _ 5 _ _ hK0
  have l0 : w.heap.size < w5.heap.size := (Array.getElem?_eq_some_iff.1 hK0).1
  have g1_0 : w5.cell? ⟨w.heap.size + 1, 0, none⟩ = some (.float .f32 q.a) := cell_of_row w5 _ 0 _ _ _ hK1
  have f1_0 : w5.frozen? ⟨w.heap.size + 1, 0, none⟩ = false := frozen_of_row w5 _ 0 _ _ hK1
  have g1_1 : w5.cell? ⟨w.heap.size + 1, 1, none⟩ = some (.float .f32 q.b) := cell_of_row w5 _ 1 _ _ _ hK1
  have f1_1 : w5.frozen? ⟨w.heap.size + 1, 1, none⟩ = false := frozen_of_row w5 _ 1 _ _ hK1
  have g1_2 : w5.cell? ⟨w.heap.size + 1, 2, none⟩ = some (.float .f32 q.c) := cell_of_row w5 _ 2 _ _ _ hK1
  have f1_2 : w5.frozen? ⟨w.heap.size + 1, 2, none⟩ = false := frozen_of_row w5 _ 2 _ _ hK1
  have g1_3 : w5.cell? ⟨w.heap.size + 1, 3, none⟩ = some (.float .f32 q.x) := cell_of_row w5 _ 3 _ _ _ hK1
  have f1_3 : w5.frozen? ⟨w.heap.size + 1, 3, none⟩ = false := frozen_of_row w5 _ 3 _ _ hK1
  have g1_4 : w5.cell? ⟨w.heap.size + 1, 4, none⟩ = some (.float .f32 q.y) := cell_of_row w5 _ 4 _ _ _ hK1
  have f1_4 : w5.frozen? ⟨w.heap.size + 1, 4, none⟩ = false := frozen_of_row w5 _ 4 _ _ hK1
  have g1_5 : w5.cell? ⟨w.heap.size + 1, 5, none⟩ = some (.float .f32 q.z) := cell_of_row w5 _ 5 _ _ _ hK1
  have f1_5 : w5.frozen? ⟨w.heap.size + 1, 5, none⟩ = false := frozen_of_row w5 _ 5 _ _ hK1
  have l1 : w.heap.size + 1 < w5.heap.size := (Array.getElem?_eq_some_iff.1 hK1).1
  have g2_0 : w5.cell? ⟨w.heap.size + 1 + 1, 0, none⟩ = some (.float .f32 (okB (cutM p q)).a) := cell_of_row w5 _ 0 _ _ _ hK2
  have f2_0 : w5.frozen? ⟨w.heap.size + 1 + 1, 0, none⟩ = false := frozen_of_row w5 _ 0 _ _ hK2
  have g2_1 : w5.cell? ⟨w.heap.size + 1 + 1, 1, none⟩ = some (.float .f32 (okB (cutM p q)).b) := cell_of_row w5 _ 1 _ _ _ hK2
  have f2_1 : w5.frozen? ⟨w.heap.size + 1 + 1, 1, none⟩ = false := frozen_of_row w5 _ 1 _ _ hK2
  have g2_2 : w5.cell? ⟨w.heap.size + 1 + 1, 2, none⟩ = some (.float .f32 (okB (cutM p q)).c) := cell_of_row w5 _ 2 _ _ _ hK2
  have f2_2 : w5.frozen? ⟨w.heap.size + 1 + 1, 2, none⟩ = false := frozen_of_row w5 _ 2 _ _ hK2
  have g2_3 : w5.cell? ⟨w.heap.size + 1 + 1, 3, none⟩ = some (.float .f32 (okB (cutM p q)).x) := cell_of_row w5 _ 3 _ _ _ hK2
  have f2_3 : w5.frozen? ⟨w.heap.size + 1 + 1, 3, none⟩ = false := frozen_of_row w5 _ 3 _ _ hK2
  have g2_4 : w5.cell? ⟨w.heap.size + 1 + 1, 4, none⟩ = some (.float .f32 (okB (cutM p q)).y) := cell_of_row w5 _ 4 _ _ _ hK2
  have f2_4 : w5.frozen? ⟨w.heap.size + 1 + 1, 4, none⟩ = false := frozen_of_row w5 _ 4 _ _ hK2
  have g2_5 : w5.cell? ⟨w.heap.size + 1 + 1, 5, none⟩ = some (.float .f32 (okB (cutM p q)).z) := cell_of_row w5 _ 5 _ _ _ hK2
  have f2_5 : w5.frozen? ⟨w.heap.size + 1 + 1, 5, none⟩ = false := frozen_of_row w5 _ 5 _ _ hK2
  have l2 : w.heap.size + 1 + 1 < w5.heap.size := (Array.getElem?_eq_some_iff.1 hK2).1
  exact bodyPost_ret (v := .tuple #[(okB (cutM p q)).v, .bool (boxB (cutM p q))]) (by simp [results, Try.results29, go_sem, g2_0, g2_1, g2_2, g2_3, g2_4, g2_5]) rfl ⟨by rw [h1, h2]; rfl, hB4⟩
set_option maxHeartbeats 4000000 in
set_option maxRecDepth 100000 in
theorem specCutBoxes_ok (p q : B6) (w : World) :
    Calls Try.prog 28 #[p.v, q.v] w fun e w' => e = .returned (.tuple #[(onlyIf (boxB p && boxB q) (cutM p q)).v, .bool (boxB p && boxB q && boxB (cutM p q))]) ∧ Below w.heap.size w w' := by
  go_enter Try.func28, Try.ntmps28
  go_wp2_with fail
  generalize hW0 : ((w.alloc (.cells #[.float .f32 p.a, .float .f32 p.b, .float .f32 p.c, .float .f32 p.x, .float .f32 p.y, .float .f32 p.z] 30)).alloc (.cells #[.float .f32 q.a, .float .f32 q.b, .float .f32 q.c, .float .f32 q.x, .float .f32 q.y, .float .f32 q.z] 30)).alloc (.cells #[.float .f32 0, .float .f32 0, .float .f32 0, .float .f32 0, .float .f32 0, .float .f32 0] 30) = W0
  have hB0 : Below w.heap.size w W0 := by subst hW0; exact by (repeat (first | exact Below.refl _ _ | assumption | refine below_drewN ?_ _ | refine Below.setCell ?_ (by first | omega | (simp <;> omega)) _ | refine Below.alloc ?_ (by first | omega | (simp <;> omega)) _))
  have hK0 : W0.heap[w.heap.size]? = some (.cells #[.float .f32 p.a, .float .f32 p.b, .float .f32 p.c, .float .f32 p.x, .float .f32 p.y, .float .f32 p.z] 30) := by subst hW0; rw [Go.RowKit.Below.heap_alloc _ _ _ (by simp; omega)]; exact heap_alloc2_old _ _ _
  have hK1 : W0.heap[w.heap.size + 1]? = some (.cells #[.float .f32 q.a, .float .f32 q.b, .float .f32 q.c, .float .f32 q.x, .float .f32 q.y, .float .f32 q.z] 30) := by subst hW0; rw [Go.RowKit.Below.heap_alloc _ _ _ (by simp)]; exact heap_alloc2_new _ _ _
  have hK2 : W0.heap[w.heap.size + 1 + 1]? = some (.cells #[.float .f32 0, .float .f32 0, .float .f32 0, .float .f32 0, .float .f32 0, .float .f32 0] 30) := by 
    subst hW0
    have := Go.heap_alloc_new ((w.alloc (.cells #[.float .f32 p.a, .float .f32 p.b, .float .f32 p.c, .float .f32 p.x, .float .f32 p.y, .float .f32 p.z] 30)).alloc (.cells #[.float .f32 q.a, .float .f32 q.b, .float .f32 q.c, .float .f32 q.x, .float .f32 q.y, .float .f32 q.z] 30)) (.cells #[.float .f32 0, .float .f32 0, .float .f32 0, .float .f32 0, .float .f32 0, .float .f32 0] 30)
    simpa using this
  clear hW0
  have hZ0 : w.heap.size + 1 + 1 < W0.heap.size := (Array.getElem?_eq_some_iff.1 hK2).1
  have g0_0 : W0.cell? ⟨w.heap.size, 0, none⟩ = some (.float .f32 p.a) := cell_of_row W0 _ 0 _ _ _ hK0
  have f0_0 : W0.frozen? ⟨w.heap.size, 0, none⟩ = false := frozen_of_row W0 _ 0 _ _ hK0
  have g0_1 : W0.cell? ⟨w.heap.size, 1, none⟩ = some (.float .f32 p.b) := cell_of_row W0 _ 1 _ _ _ hK0
  have f0_1 : W0.frozen? ⟨w.heap.size, 1, none⟩ = false := frozen_of_row W0 _ 1 _ _ hK0
  have g0_2 : W0.cell? ⟨w.heap.size, 2, none⟩ = some (.float .f32 p.c) := cell_of_row W0 _ 2 _ _ _ hK0
  have f0_2 : W0.frozen? ⟨w.heap.size, 2, none⟩ = false := frozen_of_row W0 _ 2 _ _ hK0
  have g0_3 : W0.cell? ⟨w.heap.size, 3, none⟩ = some (.float .f32 p.x) := cell_of_row W0 _ 3 _ _ _ hK0
  have f0_3 : W0.frozen? ⟨w.heap.size, 3, none⟩ = false := frozen_of_row W0 _ 3 _ _ hK0
  have g0_4 : W0.cell? ⟨w.heap.size, 4, none⟩ = some (.float .f32 p.y) := cell_of_row W0 _ 4 _ _ _ hK0
  have f0_4 : W0.frozen? ⟨w.heap.size, 4, none⟩ = false := frozen_of_row W0 _ 4 _ _ hK0
  have g0_5 : W0.cell? ⟨w.heap.size, 5, none⟩ = some (.float .f32 p.z) := cell_of_row W0 _ 5 _ _ _ hK0
  have f0_5 : W0.frozen? ⟨w.heap.size, 5, none⟩ = false := frozen_of_row W0 _ 5 _ _ hK0
  have l0 : w.heap.size < W0.heap.size := (Array.getElem?_eq_some_iff.1 hK0).1
  have g1_0 : W0.cell? ⟨w.heap.size + 1, 0, none⟩ = some (.float .f32 q.a) := cell_of_row W0 _ 0 _ _ _ hK1
  have f1_0 : W0.frozen? ⟨w.heap.size + 1, 0, none⟩ = false := frozen_of_row W0 _ 0 _ _ hK1
  have g1_1 : W0.cell? ⟨w.heap.size + 1, 1, none⟩ = some (.float .f32 q.b) := cell_of_row W0 _ 1 _ _ _ hK1
  have f1_1 : W0.frozen? ⟨w.heap.size + 1, 1, none⟩ = false := frozen_of_row W0 _ 1 _ _ hK1
  have g1_2 : W0.cell? ⟨w.heap.size + 1, 2, none⟩ = some (.float .f32 q.c) := cell_of_row W0 _ 2 _ _ _ hK1
  have f1_2 : W0.frozen? ⟨w.heap.size + 1, 2, none⟩ = false := frozen_of_row W0 _ 2 _ _ hK1
  have g1_3 : W0.cell? ⟨w.heap.size + 1, 3, none⟩ = some (.float .f32 q.x) := cell_of_row W0 _ 3 _ _ _ hK1
  have f1_3 : W0.frozen? ⟨w.heap.size + 1, 3, none⟩ = false := frozen_of_row W0 _ 3 _ _ hK1
  have g1_4 : W0.cell? ⟨w.heap.size + 1, 4, none⟩ = some (.float .f32 q.y) := cell_of_row W0 _ 4 _ _ _ hK1
  have f1_4 : W0.frozen? ⟨w.heap.size + 1, 4, none⟩ = false := frozen_of_row W0 _ 4 _ _ hK1
  have g1_5 : W0.cell? ⟨w.heap.size + 1, 5, none⟩ = some (.float .f32 q.z) := cell_of_row W0 _ 5 _ _ _ hK1
  have f1_5 : W0.frozen? ⟨w.heap.size + 1, 5, none⟩ = false := frozen_of_row W0 _ 5 _ _ hK1
  have l1 : w.heap.size + 1 < W0.heap.size := (Array.getElem?_eq_some_iff.1 hK1).1
  have g2_0 : W0.cell? ⟨w.heap.size + 1 + 1, 0, none⟩ = some (.float .f32 0) := cell_of_row W0 _ 0 _ _ _ hK2
  have f2_0 : W0.frozen? ⟨w.heap.size + 1 + 1, 0, none⟩ = false := frozen_of_row W0 _ 0 _ _ hK2
  have g2_1 : W0.cell? ⟨w.heap.size + 1 + 1, 1, none⟩ = some (.float .f32 0) := cell_of_row W0 _ 1 _ _ _ hK2
  have f2_1 : W0.frozen? ⟨w.heap.size + 1 + 1, 1, none⟩ = false := frozen_of_row W0 _ 1 _ _ hK2
  have g2_2 : W0.cell? ⟨w.heap.size + 1 + 1, 2, none⟩ = some (.float .f32 0) := cell_of_row W0 _ 2 _ _ _ hK2
  have f2_2 : W0.frozen? ⟨w.heap.size + 1 + 1, 2, none⟩ = false := frozen_of_row W0 _ 2 _ _ hK2
  have g2_3 : W0.cell? ⟨w.heap.size + 1 + 1, 3, none⟩ = some (.float .f32 0) := cell_of_row W0 _ 3 _ _ _ hK2
  have f2_3 : W0.frozen? ⟨w.heap.size + 1 + 1, 3, none⟩ = false := frozen_of_row W0 _ 3 _ _ hK2
  have g2_4 : W0.cell? ⟨w.heap.size + 1 + 1, 4, none⟩ = some (.float .f32 0) := cell_of_row W0 _ 4 _ _ _ hK2
  have f2_4 : W0.frozen? ⟨w.heap.size + 1 + 1, 4, none⟩ = false := frozen_of_row W0 _ 4 _ _ hK2
  have g2_5 : W0.cell? ⟨w.heap.size + 1 + 1, 5, none⟩ = some (.float .f32 0) := cell_of_row W0 _ 5 _ _ _ hK2
  have f2_5 : W0.frozen? ⟨w.heap.size + 1 + 1, 5, none⟩ = false := frozen_of_row W0 _ 5 _ _ hK2
  have l2 : w.heap.size + 1 + 1 < W0.heap.size := (Array.getElem?_eq_some_iff.1 hK2).1
  refine (l04Is_ok p _ _ hK0).mono ?_
  rintro e w1 ⟨rfl, hb⟩
  clear g0_0 f0_0 g0_1 f0_1 g0_2 f0_2 g0_3 f0_3 g0_4 f0_4 g0_5 f0_5 l0 g1_0 f1_0 g1_1 f1_1 g1_2 f1_2 g1_3 f1_3 g1_4 f1_4 g1_5 f1_5 l1 g2_0 f2_0 g2_1 f2_1 g2_2 f2_2 g2_3 f2_3 g2_4 f2_4 g2_5 f2_5 l2
  have hE0 : Ext W0 w1 := hb
  have hB1 : Below w.heap.size w w1 := hB0.trans (hE0.mono hB0.size)
  replace hK0 := hE0.heap hK0
  replace hK1 := hE0.heap hK1
  replace hK2 := hE0.heap hK2
  have g0_0 : w1.cell? ⟨w.heap.size, 0, none⟩ = some (.float .f32 p.a) := cell_of_row w1 _ 0 _ _ _ hK0
  have f0_0 : w1.frozen? ⟨w.heap.size, 0, none⟩ = false := frozen_of_row w1 _ 0 _ _ hK0
  have g0_1 : w1.cell? ⟨w.heap.size, 1, none⟩ = some (.float .f32 p.b) := cell_of_row w1 _ 1 _ _ _ hK0
  have f0_1 : w1.frozen? ⟨w.heap.size, 1, none⟩ = false := frozen_of_row w1 _ 1 _ _ hK0
  have g0_2 : w1.cell? ⟨w.heap.size, 2, none⟩ = some (.float .f32 p.c) := cell_of_row w1 _ 2 _ _ _ hK0
  have f0_2 : w1.frozen? ⟨w.heap.size, 2, none⟩ = false := frozen_of_row w1 _ 2 _ _ hK0
  have g0_3 : w1.cell? ⟨w.heap.size, 3, none⟩ = some (.float .f32 p.x) := cell_of_row w1 _ 3 _ _ _ hK0
  have f0_3 : w1.frozen? ⟨w.heap.size, 3, none⟩ = false := frozen_of_row w1 _ 3 _ _ hK0
  have g0_4 : w1.cell? ⟨w.heap.size, 4, none⟩ = some (.float .f32 p.y) := cell_of_row w1 _ 4 _ _ _ hK0
  have f0_4 : w1.frozen? ⟨w.heap.size, 4, none⟩ = false := frozen_of_row w1 _ 4 _ _ hK0
  have g0_5 : w1.cell? ⟨w.heap.size, 5, none⟩ = some (.float .f32 p.z) := cell_of_row w1 _ 5 _ _ _ hK0
  have f0_5 : w1.frozen? ⟨w.heap.size, 5, none⟩ = false := frozen_of_row w1 _ 5 _ _ hK0
  have l0 : w.heap.size < w1.heap.size := (Array.getElem?_eq_some_iff.1 hK0).1
  have g1_0 : w1.cell? ⟨w.heap.size + 1, 0, none⟩ = some (.float .f32 q.a) := cell_of_row w1 _ 0 _ _ _ hK1
  have f1_0 : w1.frozen? ⟨w.heap.size + 1, 0, none⟩ = false := frozen_of_row w1 _ 0 _ _ hK1
  have g1_1 : w1.cell? ⟨w.heap.size + 1, 1, none⟩ = some (.float .f32 q.b) := cell_of_row w1 _ 1 _ _ _ hK1
  have f1_1 : w1.frozen? ⟨w.heap.size + 1, 1, none⟩ = false := frozen_of_row w1 _ 1 _ _ hK1
  have g1_2 : w1.cell? ⟨w.heap.size + 1, 2, none⟩ = some (.float .f32 q.c) := cell_of_row w1 _ 2 _ _ _ hK1
  have f1_2 : w1.frozen? ⟨w.heap.size + 1, 2, none⟩ = false := frozen_of_row w1 _ 2 _ _ hK1
  have g1_3 : w1.cell? ⟨w.heap.size + 1, 3, none⟩ = some (.float .f32 q.x) := cell_of_row w1 _ 3 _ _ _ hK1
  have f1_3 : w1.frozen? ⟨w.heap.size + 1, 3, none⟩ = false := frozen_of_row w1 _ 3 _ _ hK1
  have g1_4 : w1.cell? ⟨w.heap.size + 1, 4, none⟩ = some (.float .f32 q.y) := cell_of_row w1 _ 4 _ _ _ hK1
  have f1_4 : w1.frozen? ⟨w.heap.size + 1, 4, none⟩ = false := frozen_of_row w1 _ 4 _ _ hK1
  have g1_5 : w1.cell? ⟨w.heap.size + 1, 5, none⟩ = some (.float .f32 q.z) := cell_of_row w1 _ 5 _ _ _ hK1
  have f1_5 : w1.frozen? ⟨w.heap.size + 1, 5, none⟩ = false := frozen_of_row w1 _ 5 _ _ hK1
  have l1 : w.heap.size + 1 < w1.heap.size := (Array.getElem?_eq_some_iff.1 hK1).1
  have g2_0 : w1.cell? ⟨w.heap.size + 1 + 1, 0, none⟩ = some (.float .f32 0) := cell_of_row w1 _ 0 _ _ _ hK2
  have f2_0 : w1.frozen? ⟨w.heap.size + 1 + 1, 0, none⟩ = false := frozen_of_row w1 _ 0 _ _ hK2
  have g2_1 : w1.cell? ⟨w.heap.size + 1 + 1, 1, none⟩ = some (.float .f32 0) := cell_of_row w1 _ 1 _ _ _ hK2
  have f2_1 : w1.frozen? ⟨w.heap.size + 1 + 1, 1, none⟩ = false := frozen_of_row w1 _ 1 _ _ hK2
  have g2_2 : w1.cell? ⟨w.heap.size + 1 + 1, 2, none⟩ = some (.float .f32 0) := cell_of_row w1 _ 2 _ _ _ hK2
  have f2_2 : w1.frozen? ⟨w.heap.size + 1 + 1, 2, none⟩ = false := frozen_of_row w1 _ 2 _ _ hK2
  have g2_3 : w1.cell? ⟨w.heap.size + 1 + 1, 3, none⟩ = some (.float .f32 0) := cell_of_row w1 _ 3 _ _ _ hK2
  have f2_3 : w1.frozen? ⟨w.heap.size + 1 + 1, 3, none⟩ = false := frozen_of_row w1 _ 3 _ _ hK2
  have g2_4 : w1.cell? ⟨w.heap.size + 1 + 1, 4, none⟩ = some (.float .f32 0) := cell_of_row w1 _ 4 _ _ _ hK2
  have f2_4 : w1.frozen? ⟨w.heap.size + 1 + 1, 4, none⟩ = false := frozen_of_row w1 _ 4 _ _ hK2
  have g2_5 : w1.cell? ⟨w.heap.size + 1 + 1, 5, none⟩ = some (.float .f32 0) := cell_of_row w1 _ 5 _ _ _ hK2
  have f2_5 : w1.frozen? ⟨w.heap.size + 1 + 1, 5, none⟩ = false := frozen_of_row w1 _ 5 _ _ hK2
  have l2 : w.heap.size + 1 + 1 < w1.heap.size := (Array.getElem?_eq_some_iff.1 hK2).1
  clear hb
  cases h1 : boxB p
  · go_wp2_with fail
    generalize hWs : (((((w1.setCell ⟨w.heap.size + 1 + 1, 0, none⟩ (.float .f32 0)).setCell ⟨w.heap.size + 1 + 1, 1, none⟩ (.float .f32 0)).setCell ⟨w.heap.size + 1 + 1, 2, none⟩ (.float .f32 0)).setCell ⟨w.heap.size + 1 + 1, 3, none⟩ (.float .f32 0)).setCell ⟨w.heap.size + 1 + 1, 4, none⟩ (.float .f32 0)).setCell ⟨w.heap.size + 1 + 1, 5, none⟩ (.float .f32 0) = w5
    have hS : w5.heap[w.heap.size + 1 + 1]? = some (.cells #[.float .f32 0, .float .f32 0, .float .f32 0, .float .f32 0, .float .f32 0, .float .f32 0] 30) := by
      subst hWs
      have s0 := heap_setCell_same (w1) _ 0 _ _ (.float .f32 0) hK2
      have s1 := heap_setCell_same ((w1).setCell ⟨w.heap.size + 1 + 1, 0, none⟩ (.float .f32 0)) _ 1 _ _ (.float .f32 0) s0
      have s2 := heap_setCell_same (((w1).setCell ⟨w.heap.size + 1 + 1, 0, none⟩ (.float .f32 0)).setCell ⟨w.heap.size + 1 + 1, 1, none⟩ (.float .f32 0)) _ 2 _ _ (.float .f32 0) s1
      have s3 := heap_setCell_same ((((w1).setCell ⟨w.heap.size + 1 + 1, 0, none⟩ (.float .f32 0)).setCell ⟨w.heap.size + 1 + 1, 1, none⟩ (.float .f32 0)).setCell ⟨w.heap.size + 1 + 1, 2, none⟩ (.float .f32 0)) _ 3 _ _ (.float .f32 0) s2
      have s4 := heap_setCell_same (((((w1).setCell ⟨w.heap.size + 1 + 1, 0, none⟩ (.float .f32 0)).setCell ⟨w.heap.size + 1 + 1, 1, none⟩ (.float .f32 0)).setCell ⟨w.heap.size + 1 + 1, 2, none⟩ (.float .f32 0)).setCell ⟨w.heap.size + 1 + 1, 3, none⟩ (.float .f32 0)) _ 4 _ _ (.float .f32 0) s3
      have s5 := heap_setCell_same ((((((w1).setCell ⟨w.heap.size + 1 + 1, 0, none⟩ (.float .f32 0)).setCell ⟨w.heap.size + 1 + 1, 1, none⟩ (.float .f32 0)).setCell ⟨w.heap.size + 1 + 1, 2, none⟩ (.float .f32 0)).setCell ⟨w.heap.size + 1 + 1, 3, none⟩ (.float .f32 0)).setCell ⟨w.heap.size + 1 + 1, 4, none⟩ (.float .f32 0)) _ 5 _ _ (.float .f32 0) s4
      simpa using s5
    have hO : ∀ q, q ≠ w.heap.size + 1 + 1 → w5.heap[q]? = w1.heap[q]? := fun q hq => by subst hWs; rw [heap_setCell_other _ _ _ _ hq, heap_setCell_other _ _ _ _ hq, heap_setCell_other _ _ _ _ hq, heap_setCell_other _ _ _ _ hq, heap_setCell_other _ _ _ _ hq, heap_setCell_other _ _ _ _ hq]
    have hB2 : Below w.heap.size w w5 := by
      subst hWs
      have hle : w.heap.size ≤ w.heap.size + 1 + 1 := by omega
      refine Below.setCell ?_ hle _
      refine Below.setCell ?_ hle _
      refine Below.setCell ?_ hle _
      refine Below.setCell ?_ hle _
      refine Below.setCell ?_ hle _
      refine Below.setCell ?_ hle _
      repeat (first | exact hB1 | refine below_drewN ?_ _)
    clear g0_0 f0_0 g0_1 f0_1 g0_2 f0_2 g0_3 f0_3 g0_4 f0_4 g0_5 f0_5 l0 g1_0 f1_0 g1_1 f1_1 g1_2 f1_2 g1_3 f1_3 g1_4 f1_4 g1_5 f1_5 l1 g2_0 f2_0 g2_1 f2_1 g2_2 f2_2 g2_3 f2_3 g2_4 f2_4 g2_5 f2_5 l2
    replace hK0 := (hO _ (by omega)).trans hK0
    replace hK1 := (hO _ (by omega)).trans hK1
    replace hK2 := hS
    clear hS hO hWs
    have g0_0 : w5.cell? ⟨w.heap.size, 0, none⟩ = some (.float .f32 p.a) := cell_of_row w5 _ 0 _ _ _ hK0
    have f0_0 : w5.frozen? ⟨w.heap.size, 0, none⟩ = false := frozen_of_row w5 _ 0 _ _ hK0
    have g0_1 : w5.cell? ⟨w.heap.size, 1, none⟩ = some (.float .f32 p.b) := cell_of_row w5 _ 1 _ _ _ hK0
    have f0_1 : w5.frozen? ⟨w.heap.size, 1, none⟩ = false := frozen_of_row w5 _ 1 _ _ hK0
    have g0_2 : w5.cell? ⟨w.heap.size, 2, none⟩ = some (.float .f32 p.c) := cell_of_row w5 _ 2 _ _ _ hK0
    have f0_2 : w5.frozen? ⟨w.heap.size, 2, none⟩ = false := frozen_of_row w5 _ 2 _ _ hK0
    have g0_3 : w5.cell? ⟨w.heap.size, 3, none⟩ = some (.float .f32 p.x) := cell_of_row w5 _ 3 _ _ _ hK0
    have f0_3 : w5.frozen? ⟨w.heap.size, 3, none⟩ = false := frozen_of_row w5 _ 3 _ _ hK0
    have g0_4 : w5.cell? ⟨w.heap.size, 4, none⟩ = some (.float .f32 p.y) := cell_of_row w5 _ 4 _ _ _ hK0
    have f0_4 : w5.frozen? ⟨w.heap.size, 4, none⟩ = false := frozen_of_row w5 _ 4 _ _ hK0
    have g0_5 : w5.cell? ⟨w.heap.size, 5, none⟩ = some (.float .f32 p.z) := cell_of_row w5 _ 5 _ _ _ hK0
    have f0_5 : w5.frozen? ⟨w.heap.size, 5, none⟩ = false := frozen_of_row w5 _ 5 _ _ hK0
    have l0 : w.heap.size < w5.heap.size := (Array.getElem?_eq_some_iff.1 hK0).1
    have g1_0 : w5.cell? ⟨w.heap.size + 1, 0, none⟩ = some (.float .f32 q.a) := cell_of_row w5 _ 0 _ _ _ hK1
    have f1_0 : w5.frozen? ⟨w.heap.size + 1, 0, none⟩ = false := frozen_of_row w5 _ 0 _ _ hK1
    have g1_1 : w5.cell? ⟨w.heap.size + 1, 1, none⟩ = some (.float .f32 q.b) := cell_of_row w5 _ 1 _ _ _ hK1
    have f1_1 : w5.frozen? ⟨w.heap.size + 1, 1, none⟩ = false := frozen_of_row w5 _ 1 _ _ hK1
    have g1_2 : w5.cell? ⟨w.heap.size + 1, 2, none⟩ = some (.float .f32 q.c) := cell_of_row w5 _ 2 _ _ _ hK1
    have f1_2 : w5.frozen? ⟨w.heap.size + 1, 2, none⟩ = false := frozen_of_row w5 _ 2 _ _ hK1
    have g1_3 : w5.cell? ⟨w.heap.size + 1, 3, none⟩ = some (.float .f32 q.x) := cell_of_row w5 _ 3 _ _ _ hK1
    have f1_3 : w5.frozen? ⟨w.heap.size + 1, 3, none⟩ = false := frozen_of_row w5 _ 3 _ _ hK1
    have g1_4 : w5.cell? ⟨w.heap.size + 1, 4, none⟩ = some (.float .f32 q.y) := cell_of_row w5 _ 4 _ _ _ hK1
    have f1_4 : w5.frozen? ⟨w.heap.size + 1, 4, none⟩ = false := frozen_of_row w5 _ 4 _ _ hK1
    have g1_5 : w5.cell? ⟨w.heap.size + 1, 5, none⟩ = some (.float .f32 q.z) := cell_of_row w5 _ 5 _ _ _ hK1
    have f1_5 : w5.frozen? ⟨w.heap.size + 1, 5, none⟩ = false := frozen_of_row w5 _ 5 _ _ hK1
    have l1 : w.heap.size + 1 < w5.heap.size := (Array.getElem?_eq_some_iff.1 hK1).1
    have g2_0 : w5.cell? ⟨w.heap.size + 1 + 1, 0, none⟩ = some (.float .f32 0) := cell_of_row w5 _ 0 _ _ _ hK2
    have f2_0 : w5.frozen? ⟨w.heap.size + 1 + 1, 0, none⟩ = false := frozen_of_row w5 _ 0 _ _ hK2
    have g2_1 : w5.cell? ⟨w.heap.size + 1 + 1, 1, none⟩ = some (.float .f32 0) := cell_of_row w5 _ 1 _ _ _ hK2
    have f2_1 : w5.frozen? ⟨w.heap.size + 1 + 1, 1, none⟩ = false := frozen_of_row w5 _ 1 _ _ hK2
    have g2_2 : w5.cell? ⟨w.heap.size + 1 + 1, 2, none⟩ = some (.float .f32 0) := cell_of_row w5 _ 2 _ _ _ hK2
    have f2_2 : w5.frozen? ⟨w.heap.size + 1 + 1, 2, none⟩ = false := frozen_of_row w5 _ 2 _ _ hK2
    have g2_3 : w5.cell? ⟨w.heap.size + 1 + 1, 3, none⟩ = some (.float .f32 0) := cell_of_row w5 _ 3 _ _ _ hK2
    have f2_3 : w5.frozen? ⟨w.heap.size + 1 + 1, 3, none⟩ = false := frozen_of_row w5 _ 3 _ _ hK2
    have g2_4 : w5.cell? ⟨w.heap.size + 1 + 1, 4, none⟩ = some (.float .f32 0) := cell_of_row w5 _ 4 _ _ _ hK2
    have f2_4 : w5.frozen? ⟨w.heap.size + 1 + 1, 4, none⟩ = false := frozen_of_row w5 _ 4 _ _ hK2
    have g2_5 : w5.cell? ⟨w.heap.size + 1 + 1, 5, none⟩ = some (.float .f32 0) := cell_of_row w5 _ 5 _ _ _ hK2
    have f2_5 : w5.frozen? ⟨w.heap.size + 1 + 1, 5, none⟩ = false := frozen_of_row w5 _ 5 _ _ hK2
    have l2 : w.heap.size + 1 + 1 < w5.heap.size := (Array.getElem?_eq_some_iff.1 hK2).1
    exact bodyPost_ret (v := .tuple #[.agg #[.float .f32 0, .float .f32 0, .float .f32 0, .float .f32 0, .float .f32 0, .float .f32 0], .bool false]) (by simp [results, Try.results28, go_sem, g2_0, g2_1, g2_2, g2_3, g2_4, g2_5]) rfl ⟨by rw [h1]; rfl, hB2⟩
  go_wp2_with fail
  refine (l04Is_ok q _ _ hK1).mono ?_
  rintro e w2 ⟨rfl, hb⟩
  clear g0_0 f0_0 g0_1 f0_1 g0_2 f0_2 g0_3 f0_3 g0_4 f0_4 g0_5 f0_5 l0 g1_0 f1_0 g1_1 f1_1 g1_2 f1_2 g1_3 f1_3 g1_4 f1_4 g1_5 f1_5 l1 g2_0 f2_0 g2_1 f2_1 g2_2 f2_2 g2_3 f2_3 g2_4 f2_4 g2_5 f2_5 l2
  have hE1 : Ext w1 w2 := hb
  have hB2 : Below w.heap.size w w2 := hB1.trans (hE1.mono hB1.size)
  replace hK0 := hE1.heap hK0
  replace hK1 := hE1.heap hK1
  replace hK2 := hE1.heap hK2
  have g0_0 : w2.cell? ⟨w.heap.size, 0, none⟩ = some (.float .f32 p.a) := cell_of_row w2 _ 0 _ _ _ hK0
  have f0_0 : w2.frozen? ⟨w.heap.size, 0, none⟩ = false := frozen_of_row w2 _ 0 _ _ hK0
  have g0_1 : w2.cell? ⟨w.heap.size, 1, none⟩ = some (.float .f32 p.b) := cell_of_row w2 _ 1 _ _ _ hK0
  have f0_1 : w2.frozen? ⟨w.heap.size, 1, none⟩ = false := frozen_of_row w2 _ 1 _ _ hK0
  have g0_2 : w2.cell? ⟨w.heap.size, 2, none⟩ = some (.float .f32 p.c) := cell_of_row w2 _ 2 _ _ _ hK0
  have f0_2 : w2.frozen? ⟨w.heap.size, 2, none⟩ = false := frozen_of_row w2 _ 2 _ _ hK0
  have g0_3 : w2.cell? ⟨w.heap.size, 3, none⟩ = some (.float .f32 p.x) := cell_of_row w2 _ 3 _ _ _ hK0
  have f0_3 : w2.frozen? ⟨w.heap.size, 3, none⟩ = false := frozen_of_row w2 _ 3 _ _ hK0
  have g0_4 : w2.cell? ⟨w.heap.size, 4, none⟩ = some (.float .f32 p.y) := cell_of_row w2 _ 4 _ _ _ hK0
  have f0_4 : w2.frozen? ⟨w.heap.size, 4, none⟩ = false := frozen_of_row w2 _ 4 _ _ hK0
  have g0_5 : w2.cell? ⟨w.heap.size, 5, none⟩ = some (.float .f32 p.z) := cell_of_row w2 _ 5 _ _ _ hK0
  have f0_5 : w2.frozen? ⟨w.heap.size, 5, none⟩ = false := frozen_of_row w2 _ 5 _ _ hK0
  have l0 : w.heap.size < w2.heap.size := (Array.getElem?_eq_some_iff.1 hK0).1
  have g1_0 : w2.cell? ⟨w.heap.size + 1, 0, none⟩ = some (.float .f32 q.a) := cell_of_row w2 _ 0 _ _ _ hK1
  have f1_0 : w2.frozen? ⟨w.heap.size + 1, 0, none⟩ = false := frozen_of_row w2 _ 0 _ _ hK1
  have g1_1 : w2.cell? ⟨w.heap.size + 1, 1, none⟩ = some (.float .f32 q.b) := cell_of_row w2 _ 1 _ _ _ hK1
  have f1_1 : w2.frozen? ⟨w.heap.size + 1, 1, none⟩ = false := frozen_of_row w2 _ 1 _ _ hK1
  have g1_2 : w2.cell? ⟨w.heap.size + 1, 2, none⟩ = some (.float .f32 q.c) := cell_of_row w2 _ 2 _ _ _ hK1
  have f1_2 : w2.frozen? ⟨w.heap.size + 1, 2, none⟩ = false := frozen_of_row w2 _ 2 _ _ hK1
  have g1_3 : w2.cell? ⟨w.heap.size + 1, 3, none⟩ = some (.float .f32 q.x) := cell_of_row w2 _ 3 _ _ _ hK1
  have f1_3 : w2.frozen? ⟨w.heap.size + 1, 3, none⟩ = false := frozen_of_row w2 _ 3 _ _ hK1
  have g1_4 : w2.cell? ⟨w.heap.size + 1, 4, none⟩ = some (.float .f32 q.y) := cell_of_row w2 _ 4 _ _ _ hK1
  have f1_4 : w2.frozen? ⟨w.heap.size + 1, 4, none⟩ = false := frozen_of_row w2 _ 4 _ _ hK1
  have g1_5 : w2.cell? ⟨w.heap.size + 1, 5, none⟩ = some (.float .f32 q.z) := cell_of_row w2 _ 5 _ _ _ hK1
  have f1_5 : w2.frozen? ⟨w.heap.size + 1, 5, none⟩ = false := frozen_of_row w2 _ 5 _ _ hK1
  have l1 : w.heap.size + 1 < w2.heap.size := (Array.getElem?_eq_some_iff.1 hK1).1
  have g2_0 : w2.cell? ⟨w.heap.size + 1 + 1, 0, none⟩ = some (.float .f32 0) := cell_of_row w2 _ 0 _ _ _ hK2
  have f2_0 : w2.frozen? ⟨w.heap.size + 1 + 1, 0, none⟩ = false := frozen_of_row w2 _ 0 _ _ hK2
  have g2_1 : w2.cell? ⟨w.heap.size + 1 + 1, 1, none⟩ = some (.float .f32 0) := cell_of_row w2 _ 1 _ _ _ hK2
  have f2_1 : w2.frozen? ⟨w.heap.size + 1 + 1, 1, none⟩ = false := frozen_of_row w2 _ 1 _ _ hK2
  have g2_2 : w2.cell? ⟨w.heap.size + 1 + 1, 2, none⟩ = some (.float .f32 0) := cell_of_row w2 _ 2 _ _ _ hK2
  have f2_2 : w2.frozen? ⟨w.heap.size + 1 + 1, 2, none⟩ = false := frozen_of_row w2 _ 2 _ _ hK2
  have g2_3 : w2.cell? ⟨w.heap.size + 1 + 1, 3, none⟩ = some (.float .f32 0) := cell_of_row w2 _ 3 _ _ _ hK2
  have f2_3 : w2.frozen? ⟨w.heap.size + 1 + 1, 3, none⟩ = false := frozen_of_row w2 _ 3 _ _ hK2
  have g2_4 : w2.cell? ⟨w.heap.size + 1 + 1, 4, none⟩ = some (.float .f32 0) := cell_of_row w2 _ 4 _ _ _ hK2
  have f2_4 : w2.frozen? ⟨w.heap.size + 1 + 1, 4, none⟩ = false := frozen_of_row w2 _ 4 _ _ hK2
  have g2_5 : w2.cell? ⟨w.heap.size + 1 + 1, 5, none⟩ = some (.float .f32 0) := cell_of_row w2 _ 5 _ _ _ hK2
  have f2_5 : w2.frozen? ⟨w.heap.size + 1 + 1, 5, none⟩ = false := frozen_of_row w2 _ 5 _ _ hK2
  have l2 : w.heap.size + 1 + 1 < w2.heap.size := (Array.getElem?_eq_some_iff.1 hK2).1
  clear hb
  cases h2 : boxB q
  · go_wp2_with fail
    generalize hWs : (((((w2.setCell ⟨w.heap.size + 1 + 1, 0, none⟩ (.float .f32 0)).setCell ⟨w.heap.size + 1 + 1, 1, none⟩ (.float .f32 0)).setCell ⟨w.heap.size + 1 + 1, 2, none⟩ (.float .f32 0)).setCell ⟨w.heap.size + 1 + 1, 3, none⟩ (.float .f32 0)).setCell ⟨w.heap.size + 1 + 1, 4, none⟩ (.float .f32 0)).setCell ⟨w.heap.size + 1 + 1, 5, none⟩ (.float .f32 0) = w5
    have hS : w5.heap[w.heap.size + 1 + 1]? = some (.cells #[.float .f32 0, .float .f32 0, .float .f32 0, .float .f32 0, .float .f32 0, .float .f32 0] 30) := by
      subst hWs
      have s0 := heap_setCell_same (w2) _ 0 _ _ (.float .f32 0) hK2
      have s1 := heap_setCell_same ((w2).setCell ⟨w.heap.size + 1 + 1, 0, none⟩ (.float .f32 0)) _ 1 _ _ (.float .f32 0) s0
      have s2 := heap_setCell_same (((w2).setCell ⟨w.heap.size + 1 + 1, 0, none⟩ (.float .f32 0)).setCell ⟨w.heap.size + 1 + 1, 1, none⟩ (.float .f32 0)) _ 2 _ _ (.float .f32 0) s1
      have s3 := heap_setCell_same ((((w2).setCell ⟨w.heap.size + 1 + 1, 0, none⟩ (.float .f32 0)).setCell ⟨w.heap.size + 1 + 1, 1, none⟩ (.float .f32 0)).setCell ⟨w.heap.size + 1 + 1, 2, none⟩ (.float .f32 0)) _ 3 _ _ (.float .f32 0) s2
      have s4 := heap_setCell_same (((((w2).setCell ⟨w.heap.size + 1 + 1, 0, none⟩ (.float .f32 0)).setCell ⟨w.heap.size + 1 + 1, 1, none⟩ (.float .f32 0)).setCell ⟨w.heap.size + 1 + 1, 2, none⟩ (.float .f32 0)).setCell ⟨w.heap.size + 1 + 1, 3, none⟩ (.float .f32 0)) _ 4 _ _ (.float .f32 0) s3
      have s5 := heap_setCell_same ((((((w2).setCell ⟨w.heap.size + 1 + 1, 0, none⟩ (.float .f32 0)).setCell ⟨w.heap.size + 1 + 1, 1, none⟩ (.float .f32 0)).setCell ⟨w.heap.size + 1 + 1, 2, none⟩ (.float .f32 0)).setCell ⟨w.heap.size + 1 + 1, 3, none⟩ (.float .f32 0)).setCell ⟨w.heap.size + 1 + 1, 4, none⟩ (.float .f32 0)) _ 5 _ _ (.float .f32 0) s4
      simpa using s5
    have hO : ∀ q, q ≠ w.heap.size + 1 + 1 → w5.heap[q]? = w2.heap[q]? := fun q hq => by subst hWs; rw [heap_setCell_other _ _ _ _ hq, heap_setCell_other _ _ _ _ hq, heap_setCell_other _ _ _ _ hq, heap_setCell_other _ _ _ _ hq, heap_setCell_other _ _ _ _ hq, heap_setCell_other _ _ _ _ hq]
    have hB3 : Below w.heap.size w w5 := by
      subst hWs
      have hle : w.heap.size ≤ w.heap.size + 1 + 1 := by omega
      refine Below.setCell ?_ hle _
      refine Below.setCell ?_ hle _
      refine Below.setCell ?_ hle _
      refine Below.setCell ?_ hle _
      refine Below.setCell ?_ hle _
      refine Below.setCell ?_ hle _
      repeat (first | exact hB2 | refine below_drewN ?_ _)
    clear g0_0 f0_0 g0_1 f0_1 g0_2 f0_2 g0_3 f0_3 g0_4 f0_4 g0_5 f0_5 l0 g1_0 f1_0 g1_1 f1_1 g1_2 f1_2 g1_3 f1_3 g1_4 f1_4 g1_5 f1_5 l1 g2_0 f2_0 g2_1 f2_1 g2_2 f2_2 g2_3 f2_3 g2_4 f2_4 g2_5 f2_5 l2
    replace hK0 := (hO _ (by omega)).trans hK0
    replace hK1 := (hO _ (by omega)).trans hK1
    replace hK2 := hS
    clear hS hO hWs
    have g0_0 : w5.cell? ⟨w.heap.size, 0, none⟩ = some (.float .f32 p.a) := cell_of_row w5 _ 0 _ _ _ hK0
    have f0_0 : w5.frozen? ⟨w.heap.size, 0, none⟩ = false := frozen_of_row w5 _ 0 _ _ hK0
    have g0_1 : w5.cell? ⟨w.heap.size, 1, none⟩ = some (.float .f32 p.b) := cell_of_row w5 _ 1 _ _ _ hK0
    have f0_1 : w5.frozen? ⟨w.heap.size, 1, none⟩ = false := frozen_of_row w5 _ 1 _ _ hK0
    have g0_2 : w5.cell? ⟨w.heap.size, 2, none⟩ = some (.float .f32 p.c) := cell_of_row w5 _ 2 _ _ _ hK0
    have f0_2 : w5.frozen? ⟨w.heap.size, 2, none⟩ = false := frozen_of_row w5 _ 2 _ _ hK0
    have g0_3 : w5.cell? ⟨w.heap.size, 3, none⟩ = some (.float .f32 p.x) := cell_of_row w5 _ 3 _ _ _ hK0
    have f0_3 : w5.frozen? ⟨w.heap.size, 3, none⟩ = false := frozen_of_row w5 _ 3 _ _ hK0
    have g0_4 : w5.cell? ⟨w.heap.size, 4, none⟩ = some (.float .f32 p.y) := cell_of_row w5 _ 4 _ _ _ hK0
    have f0_4 : w5.frozen? ⟨w.heap.size, 4, none⟩ = false := frozen_of_row w5 _ 4 _ _ hK0
    have g0_5 : w5.cell? ⟨w.heap.size, 5, none⟩ = some (.float .f32 p.z) := cell_of_row w5 _ 5 _ _ _ hK0
    have f0_5 : w5.frozen? ⟨w.heap.size, 5, none⟩ = false := frozen_of_row w5 _ 5 _ _ hK0
    have l0 : w.heap.size < w5.heap.size := (Array.getElem?_eq_some_iff.1 hK0).1
    have g1_0 : w5.cell? ⟨w.heap.size + 1, 0, none⟩ = some (.float .f32 q.a) := cell_of_row w5 _ 0 _ _ _ hK1
    have f1_0 : w5.frozen? ⟨w.heap.size + 1, 0, none⟩ = false := frozen_of_row w5 _ 0 _ _ hK1
    have g1_1 : w5.cell? ⟨w.heap.size + 1, 1, none⟩ = some (.float .f32 q.b) := cell_of_row w5 _ 1 _ _ _ hK1
    have f1_1 : w5.frozen? ⟨w.heap.size + 1, 1, none⟩ = false := frozen_of_row w5 _ 1 _ _ hK1
    have g1_2 : w5.cell? ⟨w.heap.size + 1, 2, none⟩ = some (.float .f32 q.c) := cell_of_row w5 _ 2 _ _ _ hK1
    have f1_2 : w5.frozen? ⟨w.heap.size + 1, 2, none⟩ = false := frozen_of_row w5 _ 2 _ _ hK1
    have g1_3 : w5.cell? ⟨w.heap.size + 1, 3, none⟩ = some (.float .f32 q.x) := cell_of_row w5 _ 3 _ _ _ hK1
    have f1_3 : w5.frozen? ⟨w.heap.size + 1, 3, none⟩ = false := frozen_of_row w5 _ 3 _ _ hK1
    have g1_4 : w5.cell? ⟨w.heap.size + 1, 4, none⟩ = some (.float .f32 q.y) := cell_of_row w5 _ 4 _ _ _ hK1
    have f1_4 : w5.frozen? ⟨w.heap.size + 1, 4, none⟩ = false := frozen_of_row w5 _ 4 _ _ hK1
    have g1_5 : w5.cell? ⟨w.heap.size + 1, 5, none⟩ = some (.float .f32 q.z) := cell_of_row w5 _ 5 _ _ _ hK1
    have f1_5 : w5.frozen? ⟨w.heap.size + 1, 5, none⟩ = false := frozen_of_row w5 _ 5 _ _ hK1
    have l1 : w.heap.size + 1 < w5.heap.size := (Array.getElem?_eq_some_iff.1 hK1).1
    have g2_0 : w5.cell? ⟨w.heap.size + 1 + 1, 0, none⟩ = some (.float .f32 0) := cell_of_row w5 _ 0 _ _ _ hK2
    have f2_0 : w5.frozen? ⟨w.heap.size + 1 + 1, 0, none⟩ = false := frozen_of_row w5 _ 0 _ _ hK2
    have g2_1 : w5.cell? ⟨w.heap.size + 1 + 1, 1, none⟩ = some (.float .f32 0) := cell_of_row w5 _ 1 _ _ _ hK2
    have f2_1 : w5.frozen? ⟨w.heap.size + 1 + 1, 1, none⟩ = false := frozen_of_row w5 _ 1 _ _ hK2
    have g2_2 : w5.cell? ⟨w.heap.size + 1 + 1, 2, none⟩ = some (.float .f32 0) := cell_of_row w5 _ 2 _ _ _ hK2
    have f2_2 : w5.frozen? ⟨w.heap.size + 1 + 1, 2, none⟩ = false := frozen_of_row w5 _ 2 _ _ hK2
    have g2_3 : w5.cell? ⟨w.heap.size + 1 + 1, 3, none⟩ = some (.float .f32 0) := cell_of_row w5 _ 3 _ _ _ hK2
    have f2_3 : w5.frozen? ⟨w.heap.size + 1 + 1, 3, none⟩ = false := frozen_of_row w5 _ 3 _ _ hK2
    have g2_4 : w5.cell? ⟨w.heap.size + 1 + 1, 4, none⟩ = some (.float .f32 0) := cell_of_row w5 _ 4 _ _ _ hK2
    have f2_4 : w5.frozen? ⟨w.heap.size + 1 + 1, 4, none⟩ = false := frozen_of_row w5 _ 4 _ _ hK2
    have g2_5 : w5.cell? ⟨w.heap.size + 1 + 1, 5, none⟩ = some (.float .f32 0) := cell_of_row w5 _ 5 _ _ _ hK2
    have f2_5 : w5.frozen? ⟨w.heap.size + 1 + 1, 5, none⟩ = false := frozen_of_row w5 _ 5 _ _ hK2
    have l2 : w.heap.size + 1 + 1 < w5.heap.size := (Array.getElem?_eq_some_iff.1 hK2).1
    exact bodyPost_ret (v := .tuple #[.agg #[.float .f32 0, .float .f32 0, .float .f32 0, .float .f32 0, .float .f32 0, .float .f32 0], .bool false]) (by simp [results, Try.results28, go_sem, g2_0, g2_1, g2_2, g2_3, g2_4, g2_5]) rfl ⟨by rw [h1, h2]; rfl, hB3⟩
  go_wp2_with fail
  refine wp_region_laterO 14 (SO (QL [(17, fun u => u = vec (greaterF p.a q.a) (greaterF p.b q.b) (greaterF p.c q.c)), (22, fun u => u = vec (lesserF p.x q.x) (lesserF p.y q.y) (lesserF p.z q.z)), (24, fun u => u = Value.tuple #[(okB (cutM p q)).v, .bool (boxB (cutM p q))])])) (stays_SO _) (by kernel_rfl) (by kernel_rfl) ?_
  repeat (first | (refine later_exO rfl (fun K hK => ?_); apply Exists.intro; refine ⟨fun w' hw' => ?_, ?_⟩; (obtain ⟨hcc, hff⟩ := Grew.cells hw'; clear hw'; go_simp; rfl); go_simp; refine hK _ ?_; clear hK K))
  (refine later_callO rfl (fun K hK => ?_); go_simp; refine ⟨_, _, fun _ _ => ⟨rfl, rfl⟩, fun w1 hw1 => ?_, fun u y1 hx1 hu => ?_⟩)
  · refine (l04High_ok _ _ _ _ _ _ _).mono ?_
    rintro e w2 ⟨rfl, hb⟩
    exact ⟨_, rfl, rfl, hb⟩
  obtain rfl : (fun u => u = vec (greaterF p.a q.a) (greaterF p.b q.b) (greaterF p.c q.c)) u := hu
  (refine hK _ _ hx1 ?_; clear hK K)
  repeat (first | (refine later_exO rfl (fun K hK => ?_); apply Exists.intro; refine ⟨fun w' hw' => ?_, ?_⟩; (obtain ⟨hcc, hff⟩ := Grew.cells hw'; clear hw'; go_simp; rfl); go_simp; refine hK _ ?_; clear hK K))
  (refine later_callO rfl (fun K hK => ?_); go_simp; refine ⟨_, _, fun _ _ => ⟨rfl, rfl⟩, fun w1 hw1 => ?_, fun u y2 hx2 hu => ?_⟩)
  · refine (l04Low_ok _ _ _ _ _ _ _).mono ?_
    rintro e w2 ⟨rfl, hb⟩
    exact ⟨_, rfl, rfl, hb⟩
  obtain rfl : (fun u => u = vec (lesserF p.x q.x) (lesserF p.y q.y) (lesserF p.z q.z)) u := hu
  (refine hK _ _ hx2 ?_; clear hK K)
  repeat (first | (refine later_exO rfl (fun K hK => ?_); apply Exists.intro; refine ⟨fun w' hw' => ?_, ?_⟩; (obtain ⟨hcc, hff⟩ := Grew.cells hw'; clear hw'; go_simp; rfl); go_simp; refine hK _ ?_; clear hK K))
  (refine later_callO rfl (fun K hK => ?_); go_simp; refine ⟨_, _, fun _ _ => ⟨rfl, rfl⟩, fun w1 hw1 => ?_, fun u y3 hx3 hu => ?_⟩)
  · refine (l04Give_ok (cutM p q) _).mono ?_
    rintro e w2 ⟨rfl, hb⟩
    exact ⟨_, rfl, rfl, hb⟩
  obtain rfl : (fun u => u = Value.tuple #[(okB (cutM p q)).v, .bool (boxB (cutM p q))]) u := hu
  (refine hK _ _ hx3 ?_; clear hK K)
  repeat (first | (refine later_exO rfl (fun K hK => ?_); apply Exists.intro; refine ⟨fun w' hw' => ?_, ?_⟩; (obtain ⟨hcc, hff⟩ := Grew.cells hw'; clear hw'; go_simp; rfl); go_simp; refine hK _ ?_; clear hK K))
  refine later_nilO ?_
  intro w4 hw4
  simp only [List.drop_succ_cons, List.drop_zero]
  clear g0_0 f0_0 g0_1 f0_1 g0_2 f0_2 g0_3 f0_3 g0_4 f0_4 g0_5 f0_5 l0 g1_0 f1_0 g1_1 f1_1 g1_2 f1_2 g1_3 f1_3 g1_4 f1_4 g1_5 f1_5 l1 g2_0 f2_0 g2_1 f2_1 g2_2 f2_2 g2_3 f2_3 g2_4 f2_4 g2_5 f2_5 l2
  have hE2 : Ext w2 w4 := (((hx1).trans hx2).trans hx3).trans hw4
  have hB3 : Below w.heap.size w w4 := hB2.trans (hE2.mono hB2.size)
  replace hK0 := hE2.heap hK0
  replace hK1 := hE2.heap hK1
  replace hK2 := hE2.heap hK2
  have g0_0 : w4.cell? ⟨w.heap.size, 0, none⟩ = some (.float .f32 p.a) := cell_of_row w4 _ 0 _ _ _ hK0
  have f0_0 : w4.frozen? ⟨w.heap.size, 0, none⟩ = false := frozen_of_row w4 _ 0 _ _ hK0
  have g0_1 : w4.cell? ⟨w.heap.size, 1, none⟩ = some (.float .f32 p.b) := cell_of_row w4 _ 1 _ _ _ hK0
  have f0_1 : w4.frozen? ⟨w.heap.size, 1, none⟩ = false := frozen_of_row w4 _ 1 _ _ hK0
  have g0_2 : w4.cell? ⟨w.heap.size, 2, none⟩ = some (.float .f32 p.c) := cell_of_row w4 _ 2 _ _ _ hK0
  have f0_2 : w4.frozen? ⟨w.heap.size, 2, none⟩ = false := frozen_of_row w4 _ 2 _ _ hK0
  have g0_3 : w4.cell? ⟨w.heap.size, 3, none⟩ = some (.float .f32 p.x) := cell_of_row w4 _ 3 _ _ _ hK0
  have f0_3 : w4.frozen? ⟨w.heap.size, 3, none⟩ = false := frozen_of_row w4 _ 3 _ _ hK0
  have g0_4 : w4.cell? ⟨w.heap.size, 4, none⟩ = some (.float .f32 p.y) := cell_of_row w4 _ 4 _ _ _ hK0
  have f0_4 : w4.frozen? ⟨w.heap.size, 4, none⟩ = false := frozen_of_row w4 _ 4 _ _ hK0
  have g0_5 : w4.cell? ⟨w.heap.size, 5, none⟩ = some (.float .f32 p.z) := cell_of_row w4 _ 5 _ _ _ hK0
  have f0_5 : w4.frozen? ⟨w.heap.size, 5, none⟩ = false := frozen_of_row w4 _ 5 _ _ hK0
  have l0 : w.heap.size < w4.heap.size := (Array.getElem?_eq_some_iff.1 hK0).1
  have g1_0 : w4.cell? ⟨w.heap.size + 1, 0, none⟩ = some (.float .f32 q.a) := cell_of_row w4 _ 0 _ _ _ hK1
  have f1_0 : w4.frozen? ⟨w.heap.size + 1, 0, none⟩ = false := frozen_of_row w4 _ 0 _ _ hK1
  have g1_1 : w4.cell? ⟨w.heap.size + 1, 1, none⟩ = some (.float .f32 q.b) := cell_of_row w4 _ 1 _ _ _ hK1
  have f1_1 : w4.frozen? ⟨w.heap.size + 1, 1, none⟩ = false := frozen_of_row w4 _ 1 _ _ hK1
  have g1_2 : w4.cell? ⟨w.heap.size + 1, 2, none⟩ = some (.float .f32 q.c) := cell_of_row w4 _ 2 _ _ _ hK1
  have f1_2 : w4.frozen? ⟨w.heap.size + 1, 2, none⟩ = false := frozen_of_row w4 _ 2 _ _ hK1
  have g1_3 : w4.cell? ⟨w.heap.size + 1, 3, none⟩ = some (.float .f32 q.x) := cell_of_row w4 _ 3 _ _ _ hK1
  have f1_3 : w4.frozen? ⟨w.heap.size + 1, 3, none⟩ = false := frozen_of_row w4 _ 3 _ _ hK1
  have g1_4 : w4.cell? ⟨w.heap.size + 1, 4, none⟩ = some (.float .f32 q.y) := cell_of_row w4 _ 4 _ _ _ hK1
  have f1_4 : w4.frozen? ⟨w.heap.size + 1, 4, none⟩ = false := frozen_of_row w4 _ 4 _ _ hK1
  have g1_5 : w4.cell? ⟨w.heap.size + 1, 5, none⟩ = some (.float .f32 q.z) := cell_of_row w4 _ 5 _ _ _ hK1
  have f1_5 : w4.frozen? ⟨w.heap.size + 1, 5, none⟩ = false := frozen_of_row w4 _ 5 _ _ hK1
  have l1 : w.heap.size + 1 < w4.heap.size := (Array.getElem?_eq_some_iff.1 hK1).1
  have g2_0 : w4.cell? ⟨w.heap.size + 1 + 1, 0, none⟩ = some (.float .f32 0) := cell_of_row w4 _ 0 _ _ _ hK2
  have f2_0 : w4.frozen? ⟨w.heap.size + 1 + 1, 0, none⟩ = false := frozen_of_row w4 _ 0 _ _ hK2
  have g2_1 : w4.cell? ⟨w.heap.size + 1 + 1, 1, none⟩ = some (.float .f32 0) := cell_of_row w4 _ 1 _ _ _ hK2
  have f2_1 : w4.frozen? ⟨w.heap.size + 1 + 1, 1, none⟩ = false := frozen_of_row w4 _ 1 _ _ hK2
  have g2_2 : w4.cell? ⟨w.heap.size + 1 + 1, 2, none⟩ = some (.float .f32 0) := cell_of_row w4 _ 2 _ _ _ hK2
  have f2_2 : w4.frozen? ⟨w.heap.size + 1 + 1, 2, none⟩ = false := frozen_of_row w4 _ 2 _ _ hK2
  have g2_3 : w4.cell? ⟨w.heap.size + 1 + 1, 3, none⟩ = some (.float .f32 0) := cell_of_row w4 _ 3 _ _ _ hK2
  have f2_3 : w4.frozen? ⟨w.heap.size + 1 + 1, 3, none⟩ = false := frozen_of_row w4 _ 3 _ _ hK2
  have g2_4 : w4.cell? ⟨w.heap.size + 1 + 1, 4, none⟩ = some (.float .f32 0) := cell_of_row w4 _ 4 _ _ _ hK2
  have f2_4 : w4.frozen? ⟨w.heap.size + 1 + 1, 4, none⟩ = false := frozen_of_row w4 _ 4 _ _ hK2
  have g2_5 : w4.cell? ⟨w.heap.size + 1 + 1, 5, none⟩ = some (.float .f32 0) := cell_of_row w4 _ 5 _ _ _ hK2
  have f2_5 : w4.frozen? ⟨w.heap.size + 1 + 1, 5, none⟩ = false := frozen_of_row w4 _ 5 _ _ hK2
  have l2 : w.heap.size + 1 + 1 < w4.heap.size := (Array.getElem?_eq_some_iff.1 hK2).1
  clear hw4 hx1 hx2 hx3
  go_wp2_with fail
  generalize hWs : (((((w4.setCell ⟨w.heap.size + 1 + 1, 0, none⟩ (.float .f32 (okB (cutM p q)).a)).setCell ⟨w.heap.size + 1 + 1, 1, none⟩ (.float .f32 (okB (cutM p q)).b)).setCell ⟨w.heap.size + 1 + 1, 2, none⟩ (.float .f32 (okB (cutM p q)).c)).setCell ⟨w.heap.size + 1 + 1, 3, none⟩ (.float .f32 (okB (cutM p q)).x)).setCell ⟨w.heap.size + 1 + 1, 4, none⟩ (.float .f32 (okB (cutM p q)).y)).setCell ⟨w.heap.size + 1 + 1, 5, none⟩ (.float .f32 (okB (cutM p q)).z) = w5
  have hS : w5.heap[w.heap.size + 1 + 1]? = some (.cells #[.float .f32 (okB (cutM p q)).a, .float .f32 (okB (cutM p q)).b, .float .f32 (okB (cutM p q)).c, .float .f32 (okB (cutM p q)).x, .float .f32 (okB (cutM p q)).y, .float .f32 (okB (cutM p q)).z] 30) := by
    subst hWs
    have s0 := heap_setCell_same (w4) _ 0 _ _ (.float .f32 (okB (cutM p q)).a) hK2
    have s1 := heap_setCell_same ((w4).setCell ⟨w.heap.size + 1 + 1, 0, none⟩ (.float .f32 (okB (cutM p q)).a)) _ 1 _ _ (.float .f32 (okB (cutM p q)).b) s0
    have s2 := heap_setCell_same (((w4).setCell ⟨w.heap.size + 1 + 1, 0, none⟩ (.float .f32 (okB (cutM p q)).a)).setCell ⟨w.heap.size + 1 + 1, 1, none⟩ (.float .f32 (okB (cutM p q)).b)) _ 2 _ _ (.float .f32 (okB (cutM p q)).c) s1
    have s3 := heap_setCell_same ((((w4).setCell ⟨w.heap.size + 1 + 1, 0, none⟩ (.float .f32 (okB (cutM p q)).a)).setCell ⟨w.heap.size + 1 + 1, 1, none⟩ (.float .f32 (okB (cutM p q)).b)).setCell ⟨w.heap.size + 1 + 1, 2, none⟩ (.float .f32 (okB (cutM p q)).c)) _ 3 _ _ (.float .f32 (okB (cutM p q)).x) s2
    have s4 := heap_setCell_same (((((w4).setCell ⟨w.heap.size + 1 + 1, 0, none⟩ (.float .f32 (okB (cutM p q)).a)).setCell ⟨w.heap.size + 1 + 1, 1, none⟩ (.float .f32 (okB (cutM p q)).b)).setCell ⟨w.heap.size + 1 + 1, 2, none⟩ (.float .f32 (okB (cutM p q)).c)).setCell ⟨w.heap.size + 1 + 1, 3, none⟩ (.float .f32 (okB (cutM p q)).x)) _ 4 _ _ (.float .f32 (okB (cutM p q)).y) s3
    have s5 := heap_setCell_same ((((((w4).setCell ⟨w.heap.size + 1 + 1, 0, none⟩ (.float .f32 (okB (cutM p q)).a)).setCell ⟨w.heap.size + 1 + 1, 1, none⟩ (.float .f32 (okB (cutM p q)).b)).setCell ⟨w.heap.size + 1 + 1, 2, none⟩ (.float .f32 (okB (cutM p q)).c)).setCell ⟨w.heap.size + 1 + 1, 3, none⟩ (.float .f32 (okB (cutM p q)).x)).setCell ⟨w.heap.size + 1 + 1, 4, none⟩ (.float .f32 (okB (cutM p q)).y)) _ 5 _ _ (.float .f32 (okB (cutM p q)).z) s4
    simpa using s5
  have hO : ∀ q, q ≠ w.heap.size + 1 + 1 → w5.heap[q]? = w4.heap[q]? := fun q hq => by subst hWs; rw [heap_setCell_other _ _ _ _ hq, heap_setCell_other _ _ _ _ hq, heap_setCell_other _ _ _ _ hq, heap_setCell_other _ _ _ _ hq, heap_setCell_other _ _ _ _ hq, heap_setCell_other _ _ _ _ hq]
  have hB4 : Below w.heap.size w w5 := by
    subst hWs
    have hle : w.heap.size ≤ w.heap.size + 1 + 1 := by omega
    refine Below.setCell ?_ hle _
    refine Below.setCell ?_ hle _
    refine Below.setCell ?_ hle _
    refine Below.setCell ?_ hle _
    refine Below.setCell ?_ hle _
    refine Below.setCell ?_ hle _
    repeat (first | exact hB3 | refine below_drewN ?_ _)
  clear g0_0 f0_0 g0_1 f0_1 g0_2 f0_2 g0_3 f0_3 g0_4 f0_4 g0_5 f0_5 l0 g1_0 f1_0 g1_1 f1_1 g1_2 f1_2 g1_3 f1_3 g1_4 f1_4 g1_5 f1_5 l1 g2_0 f2_0 g2_1 f2_1 g2_2 f2_2 g2_3 f2_3 g2_4 f2_4 g2_5 f2_5 l2
  replace hK0 := (hO _ (by omega)).trans hK0
  replace hK1 := (hO _ (by omega)).trans hK1
  replace hK2 := hS
  clear hS hO hWs
  have g0_0 : w5.cell? ⟨w.heap.size, 0, none⟩ = some (.float .f32 p.a) := cell_of_row w5 _ 0 _ _ _ hK0
  have f0_0 : w5.frozen? ⟨w.heap.size, 0, none⟩ = false := frozen_of_row w5 _ 0 _ _ hK0
  have g0_1 : w5.cell? ⟨w.heap.size, 1, none⟩ = some (.float .f32 p.b) := cell_of_row w5 _ 1 _ _ _ hK0
  have f0_1 : w5.frozen? ⟨w.heap.size, 1, none⟩ = false := frozen_of_row w5 _ 1 _ _ hK0
  have g0_2 : w5.cell? ⟨w.heap.size, 2, none⟩ = some (.float .f32 p.c) := cell_of_row w5 _ 2 _ _ _ hK0
  have f0_2 : w5.frozen? ⟨w.heap.size, 2, none⟩ = false := frozen_of_row w5 _ 2 _ _ hK0
  have g0_3 : w5.cell? ⟨w.heap.size, 3, none⟩ = some (.float .f32 p.x) := cell_of_row w5 _ 3 _ _ _ hK0
  have f0_3 : w5.frozen? ⟨w.heap.size, 3, none⟩ = false := frozen_of_row w5 _ 3 _ _ hK0
  have g0_4 : w5.cell? ⟨w.heap.size, 4, none⟩ = some (.float .f32 p.y) := cell_of_row w5 _ 4 _ _ _ hK0
  have f0_4 : w5.frozen? ⟨w.heap.size, 4, none⟩ = false := frozen_of_row w5 _ 4 _ _ hK0
  have g0_5 : w5.cell? ⟨w.heap.size, 5, none⟩ = some (.float .f32 p.z) := cell_of_row w5 _ 5 _ _ _ hK0
  have f0_5 : w5.frozen? ⟨w.heap.size, 5, none⟩ = false := frozen_of_row w5 _ 5 _ _ hK0
  have l0 : w.heap.size < w5.heap.size := (Array.getElem?_eq_some_iff.1 hK0).1
  have g1_0 : w5.cell? ⟨w.heap.size + 1, 0, none⟩ = some (.float .f32 q.a) := cell_of_row w5 _ 0 _ _ _ hK1
  have f1_0 : w5.frozen? ⟨w.heap.size + 1, 0, none⟩ = false := frozen_of_row w5 _ 0 _ _ hK1
  have g1_1 : w5.cell? ⟨w.heap.size + 1, 1, none⟩ = some (.float .f32 q.b) := cell_of_row w5 _ 1 _ _ _ hK1
  have f1_1 : w5.frozen? ⟨w.heap.size + 1, 1, none⟩ = false := frozen_of_row w5 _ 1 _ _ hK1
  have g1_2 : w5.cell? ⟨w.heap.size + 1, 2, none⟩ = some (.float .f32 q.c) := cell_of_row w5 _ 2 _ _ _ hK1
  have f1_2 : w5.frozen? ⟨w.heap.size + 1, 2, none⟩ = false := frozen_of_row w5 _ 2 _ _ hK1
  have g1_3 : w5.cell? ⟨w.heap.size + 1, 3, none⟩ = some (.float .f32 q.x) := cell_of_row w5 _ 3 _ _ _ hK1
  have f1_3 : w5.frozen? ⟨w.heap.size + 1, 3, none⟩ = false := frozen_of_row w5 _ 3 _ _ hK1
  have g1_4 : w5.cell? ⟨w.heap.size + 1, 4, none⟩ = some (.float .f32 q.y) := cell_of_row w5 _ 4 _ _ _ hK1
  have f1_4 : w5.frozen? ⟨w.heap.size + 1, 4, none⟩ = false := frozen_of_row w5 _ 4 _ _ hK1
  have g1_5 : w5.cell? ⟨w.heap.size + 1, 5, none⟩ = some (.float .f32 q.z) := cell_of_row w5 _ 5 _ _ _ hK1
  have f1_5 : w5.frozen? ⟨w.heap.size + 1, 5, none⟩ = false := frozen_of_row w5 _ 5 _ _ hK1
  have l1 : w.heap.size + 1 < w5.heap.size := (Array.getElem?_eq_some_iff.1 hK1).1
  have g2_0 : w5.cell? ⟨w.heap.size + 1 + 1, 0, none⟩ = some (.float .f32 (okB (cutM p q)).a) := cell_of_row w5 _ 0 _ _ _ hK2
  have f2_0 : w5.frozen? ⟨w.heap.size + 1 + 1, 0, none⟩ = false := frozen_of_row w5 _ 0 _ _ hK2
  have g2_1 : w5.cell? ⟨w.heap.size + 1 + 1, 1, none⟩ = some (.float .f32 (okB (cutM p q)).b) := cell_of_row w5 _ 1 _ _ _ hK2
  have f2_1 : w5.frozen? ⟨w.heap.size + 1 + 1, 1, none⟩ = false := frozen_of_row w5 _ 1 _ _ hK2
  have g2_2 : w5.cell? ⟨w.heap.size + 1 + 1, 2, none⟩ = some (.float .f32 (okB (cutM p q)).c) := cell_of_row w5 _ 2 _ _ _ hK2
  have f2_2 : w5.frozen? ⟨w.heap.size + 1 + 1, 2, none⟩ = false := frozen_of_row w5 _ 2 _ _ hK2
  have g2_3 : w5.cell? ⟨w.heap.size + 1 + 1, 3, none⟩ = some (.float .f32 (okB (cutM p q)).x) := cell_of_row w5 _ 3 _ _ _ hK2
  have f2_3 : w5.frozen? ⟨w.heap.size + 1 + 1, 3, none⟩ = false := frozen_of_row w5 _ 3 _ _ hK2
  have g2_4 : w5.cell? ⟨w.heap.size + 1 + 1, 4, none⟩ = some (.float .f32 (okB (cutM p q)).y) := cell_of_row w5 _ 4 _ _ _ hK2
  have f2_4 : w5.frozen? ⟨w.heap.size + 1 + 1, 4, none⟩ = false := frozen_of_row w5 _ 4 _ _ hK2
  have g2_5 : w5.cell? ⟨w.heap.size + 1 + 1, 5, none⟩ = some (.float .f32 (okB (cutM p q)).z) := cell_of_row w5 _ 5 _ _ _ hK2
  have f2_5 : w5.frozen? ⟨w.heap.size + 1 + 1, 5, none⟩ = false := frozen_of_row w5 _ 5 _ _ hK2
  have l2 : w.heap.size + 1 + 1 < w5.heap.size := (Array.getElem?_eq_some_iff.1 hK2).1
  exact bodyPost_ret (v := .tuple #[(okB (cutM p q)).v, .bool (boxB (cutM p q))]) (by simp [results, Try.results28, go_sem, g2_0, g2_1, g2_2, g2_3, g2_4, g2_5]) rfl ⟨by rw [h1, h2]; rfl, hB4⟩
end Go.Proofs.Ytaamfjokkphckaa
