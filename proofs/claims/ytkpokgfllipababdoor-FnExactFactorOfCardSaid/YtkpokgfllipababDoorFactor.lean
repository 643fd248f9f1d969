/- How much a distance can change: the program's walk. -/
import Derived.Test.YtkpokgfllipababDoorPartAt
namespace Go.Proofs.YtkpokgfllipababDoor
open Go.Proofs.FX Go.RowKit
set_option maxRecDepth 100000 in
theorem greaterN_ok (a b : Nat) (w : World) :
    Calls Tryd.prog 60 #[.float .f32 a, .float .f32 b] w fun e w' => e = .returned (.float .f32 (greaterF a b)) ∧ w = w' := by
  unfold greaterF fgt
  cases h : (FloatKind.f32.format.order b a == some .gt) <;>
  · go_enter Tryd.func60, Tryd.ntmps60
    go_wp2_with fail
    go_ret
    exact ⟨by simp, rfl⟩
set_option maxRecDepth 100000 in
theorem divideN_ok (a b c x y z : Nat) (w : World) :
    Calls Tryd.prog 76 #[vec a b c, vec x y z] w (Vec (quo32 a x) (quo32 b y) (quo32 c z) w) := by
  go_enter Tryd.func76, Tryd.ntmps76
  go_wp2_with (refine wpList_f32 rfl rfl rfl rfl rfl ?_; intro r n hr he)
  rename_i r1 n1 hr1 he1 r2 n2 hr2 he2
  exact bodyPost_ret (v := vec r1 r2 r) (by simp [results, Tryd.results76, go_sem]) rfl ⟨r1, r2, r, rfl, hr1, hr2, hr, he1, he2, he, by (repeat (first | exact Below.refl _ _ | assumption | refine below_drewN ?_ _ | refine Below.setCell ?_ (by first | omega | (simp <;> omega)) _ | refine Below.alloc ?_ (by first | omega | (simp <;> omega)) _))⟩
def by3 (a b c : Nat) : Nat := greaterF (greaterF (quo32 1065353216 a) (quo32 1065353216 b)) (quo32 1065353216 c)
set_option maxRecDepth 100000 in
theorem stretchFactor_ok (a b c : Nat) (w : World) :
    Calls Tryd.prog 61 #[.agg #[.float .f32 a, .float .f32 b, .float .f32 c]] w (Fn (by3 a b c) w) := by
  go_enter Tryd.func61, Tryd.ntmps61
  go_wp2_with fail
  generalize hW0 : w.alloc (.cells #[.float .f32 a, .float .f32 b, .float .f32 c] 110) = W0
  have hB0 : Below w.heap.size w W0 := by subst hW0; exact by (repeat (first | exact Below.refl _ _ | assumption | refine below_drewN ?_ _ | refine Below.setCell ?_ (by first | omega | (simp <;> omega)) _ | refine Below.alloc ?_ (by first | omega | (simp <;> omega)) _))
  have hK0 : W0.heap[w.heap.size]? = some (.cells #[.float .f32 a, .float .f32 b, .float .f32 c] 110) := by subst hW0; exact Go.heap_alloc_new _ _
  clear hW0
  have hZ0 : w.heap.size < W0.heap.size := (Array.getElem?_eq_some_iff.1 hK0).1
  have g0_0 : W0.cell? ⟨w.heap.size, 0, none⟩ = some (.float .f32 a) := cell_of_row W0 _ 0 _ _ _ hK0
  have f0_0 : W0.frozen? ⟨w.heap.size, 0, none⟩ = false := frozen_of_row W0 _ 0 _ _ hK0
  have g0_1 : W0.cell? ⟨w.heap.size, 1, none⟩ = some (.float .f32 b) := cell_of_row W0 _ 1 _ _ _ hK0
  have f0_1 : W0.frozen? ⟨w.heap.size, 1, none⟩ = false := frozen_of_row W0 _ 1 _ _ hK0
  have g0_2 : W0.cell? ⟨w.heap.size, 2, none⟩ = some (.float .f32 c) := cell_of_row W0 _ 2 _ _ _ hK0
  have f0_2 : W0.frozen? ⟨w.heap.size, 2, none⟩ = false := frozen_of_row W0 _ 2 _ _ hK0
  have l0 : w.heap.size < W0.heap.size := (Array.getElem?_eq_some_iff.1 hK0).1
  refine (divideN_ok _ _ _ _ _ _ _).mono ?_
  rintro e W1 ⟨q1, q2, q3, rfl, hq1, hq2, hq3, eq1, eq2, eq3, hb⟩
  clear g0_0 f0_0 g0_1 f0_1 g0_2 f0_2 l0
  have hE0 : Ext W0 W1 := hb
  have hB1 : Below w.heap.size w W1 := hB0.trans (hE0.mono hB0.size)
  replace hK0 := hE0.heap hK0
  have g0_0 : W1.cell? ⟨w.heap.size, 0, none⟩ = some (.float .f32 a) := cell_of_row W1 _ 0 _ _ _ hK0
  have f0_0 : W1.frozen? ⟨w.heap.size, 0, none⟩ = false := frozen_of_row W1 _ 0 _ _ hK0
  have g0_1 : W1.cell? ⟨w.heap.size, 1, none⟩ = some (.float .f32 b) := cell_of_row W1 _ 1 _ _ _ hK0
  have f0_1 : W1.frozen? ⟨w.heap.size, 1, none⟩ = false := frozen_of_row W1 _ 1 _ _ hK0
  have g0_2 : W1.cell? ⟨w.heap.size, 2, none⟩ = some (.float .f32 c) := cell_of_row W1 _ 2 _ _ _ hK0
  have f0_2 : W1.frozen? ⟨w.heap.size, 2, none⟩ = false := frozen_of_row W1 _ 2 _ _ hK0
  have l0 : w.heap.size < W1.heap.size := (Array.getElem?_eq_some_iff.1 hK0).1
  clear hb
  go_wp2_with fail
  clear g0_0 f0_0 g0_1 f0_1 g0_2 f0_2 l0
  generalize hWa : W1.alloc (.cells #[.float .f32 q1, .float .f32 q2, .float .f32 q3] 95) = W2
  have hE1 : Ext W1 W2 := by subst hWa; exact (Ext.refl _).alloc _
  have hN : W2.heap[W1.heap.size]? = some (.cells #[.float .f32 q1, .float .f32 q2, .float .f32 q3] 95) := by subst hWa; exact Go.heap_alloc_new _ _
  clear hWa
  have hB2 : Below w.heap.size w W2 := hB1.trans (hE1.mono hB1.size)
  have hs1 : w.heap.size + 1 ≤ W1.heap.size := by have := (Array.getElem?_eq_some_iff.1 hK0).1; omega
  replace hK0 := hE1.heap hK0
  have hK1 := hN
  clear hN
  have g0_0 : W2.cell? ⟨w.heap.size, 0, none⟩ = some (.float .f32 a) := cell_of_row W2 _ 0 _ _ _ hK0
  have f0_0 : W2.frozen? ⟨w.heap.size, 0, none⟩ = false := frozen_of_row W2 _ 0 _ _ hK0
  have g0_1 : W2.cell? ⟨w.heap.size, 1, none⟩ = some (.float .f32 b) := cell_of_row W2 _ 1 _ _ _ hK0
  have f0_1 : W2.frozen? ⟨w.heap.size, 1, none⟩ = false := frozen_of_row W2 _ 1 _ _ hK0
  have g0_2 : W2.cell? ⟨w.heap.size, 2, none⟩ = some (.float .f32 c) := cell_of_row W2 _ 2 _ _ _ hK0
  have f0_2 : W2.frozen? ⟨w.heap.size, 2, none⟩ = false := frozen_of_row W2 _ 2 _ _ hK0
  have l0 : w.heap.size < W2.heap.size := (Array.getElem?_eq_some_iff.1 hK0).1
  have g1_0 : W2.cell? ⟨W1.heap.size, 0, none⟩ = some (.float .f32 q1) := cell_of_row W2 _ 0 _ _ _ hK1
  have f1_0 : W2.frozen? ⟨W1.heap.size, 0, none⟩ = false := frozen_of_row W2 _ 0 _ _ hK1
  have g1_1 : W2.cell? ⟨W1.heap.size, 1, none⟩ = some (.float .f32 q2) := cell_of_row W2 _ 1 _ _ _ hK1
  have f1_1 : W2.frozen? ⟨W1.heap.size, 1, none⟩ = false := frozen_of_row W2 _ 1 _ _ hK1
  have g1_2 : W2.cell? ⟨W1.heap.size, 2, none⟩ = some (.float .f32 q3) := cell_of_row W2 _ 2 _ _ _ hK1
  have f1_2 : W2.frozen? ⟨W1.heap.size, 2, none⟩ = false := frozen_of_row W2 _ 2 _ _ hK1
  have l1 : W1.heap.size < W2.heap.size := (Array.getElem?_eq_some_iff.1 hK1).1
  refine wp_region_laterO 8 (SO (QL [(12, Eq (Value.float .f32 (greaterF q1 q2))), (15, Eq (Value.float .f32 (greaterF (greaterF q1 q2) q3)))])) (stays_SO _) (by kernel_rfl) (by kernel_rfl) ?_
  repeat (first | (refine later_exO rfl (fun K hK => ?_); apply Exists.intro; refine ⟨fun w' hw' => ?_, ?_⟩; (obtain ⟨hcc, hff⟩ := Grew.cells hw'; clear hw'; go_simp; rfl); go_simp; refine hK _ ?_; clear hK K))
  (refine later_callO rfl (fun K hK => ?_); go_simp; refine ⟨_, _, fun _ _ => ⟨rfl, rfl⟩, fun w1 hw1 => ?_, fun u y1 hx1 hu => ?_⟩)
  · refine (greaterN_ok _ _ _).mono ?_
    rintro e w2 ⟨rfl, rfl⟩
    exact ⟨_, rfl, rfl, Ext.refl _⟩
  obtain rfl : Eq (Value.float .f32 (greaterF q1 q2)) u := hu
  (refine hK _ _ hx1 ?_; clear hK K)
  repeat (first | (refine later_exO rfl (fun K hK => ?_); apply Exists.intro; refine ⟨fun w' hw' => ?_, ?_⟩; (obtain ⟨hcc, hff⟩ := Grew.cells hw'; clear hw'; go_simp; rfl); go_simp; refine hK _ ?_; clear hK K))
  (refine later_callO rfl (fun K hK => ?_); go_simp; refine ⟨_, _, fun _ _ => ⟨rfl, rfl⟩, fun w1 hw1 => ?_, fun u y2 hx2 hu => ?_⟩)
  · refine (greaterN_ok _ _ _).mono ?_
    rintro e w2 ⟨rfl, rfl⟩
    exact ⟨_, rfl, rfl, Ext.refl _⟩
  obtain rfl : Eq (Value.float .f32 (greaterF (greaterF q1 q2) q3)) u := hu
  (refine hK _ _ hx2 ?_; clear hK K)
  repeat (first | (refine later_exO rfl (fun K hK => ?_); apply Exists.intro; refine ⟨fun w' hw' => ?_, ?_⟩; (obtain ⟨hcc, hff⟩ := Grew.cells hw'; clear hw'; go_simp; rfl); go_simp; refine hK _ ?_; clear hK K))
  refine later_nilO ?_
  intro w4 hw4
  simp only [List.drop_succ_cons, List.drop_zero]
  clear g0_0 f0_0 g0_1 f0_1 g0_2 f0_2 l0 g1_0 f1_0 g1_1 f1_1 g1_2 f1_2 l1
  have hE2 : Ext W2 w4 := ((hx1).trans hx2).trans hw4
  have hB3 : Below w.heap.size w w4 := hB2.trans (hE2.mono hB2.size)
  replace hK0 := hE2.heap hK0
  replace hK1 := hE2.heap hK1
  have g0_0 : w4.cell? ⟨w.heap.size, 0, none⟩ = some (.float .f32 a) := cell_of_row w4 _ 0 _ _ _ hK0
  have f0_0 : w4.frozen? ⟨w.heap.size, 0, none⟩ = false := frozen_of_row w4 _ 0 _ _ hK0
  have g0_1 : w4.cell? ⟨w.heap.size, 1, none⟩ = some (.float .f32 b) := cell_of_row w4 _ 1 _ _ _ hK0
  have f0_1 : w4.frozen? ⟨w.heap.size, 1, none⟩ = false := frozen_of_row w4 _ 1 _ _ hK0
  have g0_2 : w4.cell? ⟨w.heap.size, 2, none⟩ = some (.float .f32 c) := cell_of_row w4 _ 2 _ _ _ hK0
  have f0_2 : w4.frozen? ⟨w.heap.size, 2, none⟩ = false := frozen_of_row w4 _ 2 _ _ hK0
  have l0 : w.heap.size < w4.heap.size := (Array.getElem?_eq_some_iff.1 hK0).1
  have g1_0 : w4.cell? ⟨W1.heap.size, 0, none⟩ = some (.float .f32 q1) := cell_of_row w4 _ 0 _ _ _ hK1
  have f1_0 : w4.frozen? ⟨W1.heap.size, 0, none⟩ = false := frozen_of_row w4 _ 0 _ _ hK1
  have g1_1 : w4.cell? ⟨W1.heap.size, 1, none⟩ = some (.float .f32 q2) := cell_of_row w4 _ 1 _ _ _ hK1
  have f1_1 : w4.frozen? ⟨W1.heap.size, 1, none⟩ = false := frozen_of_row w4 _ 1 _ _ hK1
  have g1_2 : w4.cell? ⟨W1.heap.size, 2, none⟩ = some (.float .f32 q3) := cell_of_row w4 _ 2 _ _ _ hK1
  have f1_2 : w4.frozen? ⟨W1.heap.size, 2, none⟩ = false := frozen_of_row w4 _ 2 _ _ hK1
  have l1 : W1.heap.size < w4.heap.size := (Array.getElem?_eq_some_iff.1 hK1).1
  clear hw4 hx1 hx2
  go_wp2_with fail
  go_ret
  exact ⟨_, rfl, greater_lt (greater_lt hq1 hq2) hq3, greater_eqv (greater_eqv eq1 eq2) eq3, hB3⟩
theorem ta_planeLeaf (I : TypeId) (z : Value) (w : World) : (Instr.typeAssert (.iface 98 z) I 98 true).run Tryd.prog w = .ok (.tuple #[z, .bool true]) w := by kernel_rfl
theorem ta_planeLeaf_ballLeaf (I : TypeId) (z : Value) (w : World) : (Instr.typeAssert (.iface 121 z) I 98 true).run Tryd.prog w = .ok (.tuple #[.agg #[.float .f32 0, .float .f32 0, .float .f32 0, .float .f32 0], .bool false]) w := by kernel_rfl
theorem ta_planeLeaf_boxLeaf (I : TypeId) (z : Value) (w : World) : (Instr.typeAssert (.iface 123 z) I 98 true).run Tryd.prog w = .ok (.tuple #[.agg #[.float .f32 0, .float .f32 0, .float .f32 0, .float .f32 0], .bool false]) w := by kernel_rfl
theorem ta_planeLeaf_tubeLeaf (I : TypeId) (z : Value) (w : World) : (Instr.typeAssert (.iface 125 z) I 98 true).run Tryd.prog w = .ok (.tuple #[.agg #[.float .f32 0, .float .f32 0, .float .f32 0, .float .f32 0], .bool false]) w := by kernel_rfl
theorem ta_planeLeaf_ringLeaf (I : TypeId) (z : Value) (w : World) : (Instr.typeAssert (.iface 127 z) I 98 true).run Tryd.prog w = .ok (.tuple #[.agg #[.float .f32 0, .float .f32 0, .float .f32 0, .float .f32 0], .bool false]) w := by kernel_rfl
theorem ta_planeLeaf_joined (I : TypeId) (z : Value) (w : World) : (Instr.typeAssert (.iface 102 z) I 98 true).run Tryd.prog w = .ok (.tuple #[.agg #[.float .f32 0, .float .f32 0, .float .f32 0, .float .f32 0], .bool false]) w := by kernel_rfl
theorem ta_planeLeaf_wrapped (I : TypeId) (z : Value) (w : World) : (Instr.typeAssert (.iface 106 z) I 98 true).run Tryd.prog w = .ok (.tuple #[.agg #[.float .f32 0, .float .f32 0, .float .f32 0, .float .f32 0], .bool false]) w := by kernel_rfl
theorem ta_joined (I : TypeId) (z : Value) (w : World) : (Instr.typeAssert (.iface 102 z) I 102 true).run Tryd.prog w = .ok (.tuple #[z, .bool true]) w := by kernel_rfl
theorem ta_joined_ballLeaf (I : TypeId) (z : Value) (w : World) : (Instr.typeAssert (.iface 121 z) I 102 true).run Tryd.prog w = .ok (.tuple #[.agg #[.nilIface, .nilIface, .nilIface], .bool false]) w := by kernel_rfl
theorem ta_joined_boxLeaf (I : TypeId) (z : Value) (w : World) : (Instr.typeAssert (.iface 123 z) I 102 true).run Tryd.prog w = .ok (.tuple #[.agg #[.nilIface, .nilIface, .nilIface], .bool false]) w := by kernel_rfl
theorem ta_joined_tubeLeaf (I : TypeId) (z : Value) (w : World) : (Instr.typeAssert (.iface 125 z) I 102 true).run Tryd.prog w = .ok (.tuple #[.agg #[.nilIface, .nilIface, .nilIface], .bool false]) w := by kernel_rfl
theorem ta_joined_ringLeaf (I : TypeId) (z : Value) (w : World) : (Instr.typeAssert (.iface 127 z) I 102 true).run Tryd.prog w = .ok (.tuple #[.agg #[.nilIface, .nilIface, .nilIface], .bool false]) w := by kernel_rfl
theorem ta_joined_wrapped (I : TypeId) (z : Value) (w : World) : (Instr.typeAssert (.iface 106 z) I 102 true).run Tryd.prog w = .ok (.tuple #[.agg #[.nilIface, .nilIface, .nilIface], .bool false]) w := by kernel_rfl
theorem ta_wrapped (I : TypeId) (z : Value) (w : World) : (Instr.typeAssert (.iface 106 z) I 106 true).run Tryd.prog w = .ok (.tuple #[z, .bool true]) w := by kernel_rfl
theorem ta_wrapped_ballLeaf (I : TypeId) (z : Value) (w : World) : (Instr.typeAssert (.iface 121 z) I 106 true).run Tryd.prog w = .ok (.tuple #[.agg #[.nilIface, .nilIface], .bool false]) w := by kernel_rfl
theorem ta_wrapped_boxLeaf (I : TypeId) (z : Value) (w : World) : (Instr.typeAssert (.iface 123 z) I 106 true).run Tryd.prog w = .ok (.tuple #[.agg #[.nilIface, .nilIface], .bool false]) w := by kernel_rfl
theorem ta_wrapped_tubeLeaf (I : TypeId) (z : Value) (w : World) : (Instr.typeAssert (.iface 125 z) I 106 true).run Tryd.prog w = .ok (.tuple #[.agg #[.nilIface, .nilIface], .bool false]) w := by kernel_rfl
theorem ta_wrapped_ringLeaf (I : TypeId) (z : Value) (w : World) : (Instr.typeAssert (.iface 127 z) I 106 true).run Tryd.prog w = .ok (.tuple #[.agg #[.nilIface, .nilIface], .bool false]) w := by kernel_rfl
theorem ta_stretchWrap (I : TypeId) (z : Value) (w : World) : (Instr.typeAssert (.iface 110 z) I 110 true).run Tryd.prog w = .ok (.tuple #[z, .bool true]) w := by kernel_rfl
theorem ta_stretchWrap_moveWrap (I : TypeId) (z : Value) (w : World) : (Instr.typeAssert (.iface 128 z) I 110 true).run Tryd.prog w = .ok (.tuple #[.agg #[.float .f32 0, .float .f32 0, .float .f32 0], .bool false]) w := by kernel_rfl
theorem ta_stretchWrap_scaleWrap (I : TypeId) (z : Value) (w : World) : (Instr.typeAssert (.iface 130 z) I 110 true).run Tryd.prog w = .ok (.tuple #[.agg #[.float .f32 0, .float .f32 0, .float .f32 0], .bool false]) w := by kernel_rfl
theorem ta_stretchWrap_turnWrap (I : TypeId) (z : Value) (w : World) : (Instr.typeAssert (.iface 132 z) I 110 true).run Tryd.prog w = .ok (.tuple #[.agg #[.float .f32 0, .float .f32 0, .float .f32 0], .bool false]) w := by kernel_rfl
theorem ta_stretchWrap_mirrorWrap (I : TypeId) (z : Value) (w : World) : (Instr.typeAssert (.iface 134 z) I 110 true).run Tryd.prog w = .ok (.tuple #[.agg #[.float .f32 0, .float .f32 0, .float .f32 0], .bool false]) w := by kernel_rfl
theorem ta_stretchWrap_foldWrap (I : TypeId) (z : Value) (w : World) : (Instr.typeAssert (.iface 136 z) I 110 true).run Tryd.prog w = .ok (.tuple #[.agg #[.float .f32 0, .float .f32 0, .float .f32 0], .bool false]) w := by kernel_rfl
theorem ta_stretchWrap_roundWrap (I : TypeId) (z : Value) (w : World) : (Instr.typeAssert (.iface 139 z) I 110 true).run Tryd.prog w = .ok (.tuple #[.agg #[.float .f32 0, .float .f32 0, .float .f32 0], .bool false]) w := by kernel_rfl
theorem ta_stretchWrap_shellWrap (I : TypeId) (z : Value) (w : World) : (Instr.typeAssert (.iface 140 z) I 110 true).run Tryd.prog w = .ok (.tuple #[.agg #[.float .f32 0, .float .f32 0, .float .f32 0], .bool false]) w := by kernel_rfl
/-- The trees whose kinds there are. -/
def TrK : Tr → Prop
  | .leaf _ k _ => k ≤ 4
  | .one _ k _ _ t => 9 ≤ k ∧ k ≤ 16 ∧ TrK t
  | .two _ k _ s t => 5 ≤ k ∧ k ≤ 8 ∧ TrK s ∧ TrK t
/-- What is known of a part. -/
def FacA (t : Tr) (v : Value) : Prop := ∀ w, Calls Tryd.prog 41 #[v] w (Fn (factorD t) w)
set_option maxRecDepth 100000 in
theorem factor_leaf0 (i : Nat) (xs : List Nat) : FacA (.leaf i 0 xs) (leafV 0 xs) := by
  intro w
  unfold leafV
  simp only [factorD]
  have T0 := ta_planeLeaf_ballLeaf
  have T1 := ta_joined_ballLeaf
  have T2 := ta_wrapped_ballLeaf
  go_enter Tryd.func41, Tryd.ntmps41
  go_wp2_with fail
  go_ret
  exact ⟨_, rfl, by decide, Eqv.refl _ _, Below.refl _ _⟩
set_option maxRecDepth 100000 in
theorem factor_leaf1 (i : Nat) (xs : List Nat) : FacA (.leaf i 1 xs) (leafV 1 xs) := by
  intro w
  unfold leafV
  simp only [factorD]
  have T0 := ta_planeLeaf_boxLeaf
  have T1 := ta_joined_boxLeaf
  have T2 := ta_wrapped_boxLeaf
  go_enter Tryd.func41, Tryd.ntmps41
  go_wp2_with fail
  go_ret
  exact ⟨_, rfl, by decide, Eqv.refl _ _, Below.refl _ _⟩
set_option maxRecDepth 100000 in
theorem factor_leaf2 (i : Nat) (xs : List Nat) : FacA (.leaf i 2 xs) (leafV 2 xs) := by
  intro w
  unfold leafV
  simp only [factorD]
  have T0 := ta_planeLeaf_tubeLeaf
  have T1 := ta_joined_tubeLeaf
  have T2 := ta_wrapped_tubeLeaf
  go_enter Tryd.func41, Tryd.ntmps41
  go_wp2_with fail
  go_ret
  exact ⟨_, rfl, by decide, Eqv.refl _ _, Below.refl _ _⟩
set_option maxRecDepth 100000 in
theorem factor_leaf3 (i : Nat) (xs : List Nat) : FacA (.leaf i 3 xs) (leafV 3 xs) := by
  intro w
  unfold leafV
  simp only [factorD]
  have T0 := ta_planeLeaf_ringLeaf
  have T1 := ta_joined_ringLeaf
  have T2 := ta_wrapped_ringLeaf
  go_enter Tryd.func41, Tryd.ntmps41
  go_wp2_with fail
  go_ret
  exact ⟨_, rfl, by decide, Eqv.refl _ _, Below.refl _ _⟩
set_option maxRecDepth 100000 in
theorem factor_leaf4 (i : Nat) (xs : List Nat) : FacA (.leaf i 4 xs) (leafV 4 xs) := by
  intro w
  unfold leafV
  simp only [factorD]
  generalize xs.getD 0 0 = a
  generalize xs.getD 1 0 = b
  generalize xs.getD 2 0 = c
  have T0 := ta_planeLeaf
  go_enter Tryd.func41, Tryd.ntmps41
  go_wp2_with fail
  refine (LongOf_ok _ _ _ _).mono ?_
  rintro e w2 ⟨r, rfl, hr, he, hb⟩
  have hBB : Below w.heap.size w w2 := Below.trans (by (repeat (first | exact Below.refl _ _ | assumption | refine below_drewN ?_ _ | refine Below.setCell ?_ (by first | omega | (simp <;> omega)) _ | refine Below.alloc ?_ (by first | omega | (simp <;> omega)) _))) (Below.mono hb (by simp <;> omega))
  clear hb
  go_wp2_with fail
  go_ret
  exact ⟨_, rfl, hr, he, hBB⟩
set_option maxRecDepth 100000 in
theorem factor_two (i k : Nat) (xs : List Nat) (s t : Tr) (a b : Value) (ha : FacA s a) (hb0 : FacA t b) (h1 : ∃ T z, a = .iface T z) (h2 : ∃ T z, b = .iface T z) (w : World) :
    Calls Tryd.prog 41 #[.iface 102 (.agg #[pairV k xs, a, b])] w (Fn (factorD (.two i k xs s t)) w) := by
  obtain ⟨Ta, za, rfl⟩ := h1
  obtain ⟨Tb, zb, rfl⟩ := h2
  obtain ⟨Tm, zm, hzm⟩ := pairV_iface k xs
  rw [hzm]
  simp only [factorD]
  generalize hf : factorD s = fs
  generalize hg : factorD t = ft
  have HA := Lib.hid ha
  have HB := Lib.hid hb0
  unfold FacA at HA HB
  rw [hf] at HA
  rw [hg] at HB
  clear ha hb0 hzm hf hg
  have T0 := ta_planeLeaf_joined
  have T1 := ta_joined
  go_enter Tryd.func41, Tryd.ntmps41
  go_wp2_with fail
  generalize hW0 : w.alloc (.cells #[.iface Tm zm, .iface Ta za, .iface Tb zb] 102) = W0
  have hB0 : Below w.heap.size w W0 := by subst hW0; exact by (repeat (first | exact Below.refl _ _ | assumption | refine below_drewN ?_ _ | refine Below.setCell ?_ (by first | omega | (simp <;> omega)) _ | refine Below.alloc ?_ (by first | omega | (simp <;> omega)) _))
  have hK0 : W0.heap[w.heap.size]? = some (.cells #[.iface Tm zm, .iface Ta za, .iface Tb zb] 102) := by subst hW0; exact Go.heap_alloc_new _ _
  clear hW0
  have hZ0 : w.heap.size < W0.heap.size := (Array.getElem?_eq_some_iff.1 hK0).1
  have g0_0 : W0.cell? ⟨w.heap.size, 0, none⟩ = some (.iface Tm zm) := cell_of_row W0 _ 0 _ _ _ hK0
  have f0_0 : W0.frozen? ⟨w.heap.size, 0, none⟩ = false := frozen_of_row W0 _ 0 _ _ hK0
  have g0_1 : W0.cell? ⟨w.heap.size, 1, none⟩ = some (.iface Ta za) := cell_of_row W0 _ 1 _ _ _ hK0
  have f0_1 : W0.frozen? ⟨w.heap.size, 1, none⟩ = false := frozen_of_row W0 _ 1 _ _ hK0
  have g0_2 : W0.cell? ⟨w.heap.size, 2, none⟩ = some (.iface Tb zb) := cell_of_row W0 _ 2 _ _ _ hK0
  have f0_2 : W0.frozen? ⟨w.heap.size, 2, none⟩ = false := frozen_of_row W0 _ 2 _ _ hK0
  have l0 : w.heap.size < W0.heap.size := (Array.getElem?_eq_some_iff.1 hK0).1
  refine wp_region_laterO 7 (SO (QL [(20, V1 fs), (23, V1 ft), (24, V1 (greaterF fs ft))])) (stays_SO _) (by kernel_rfl) (by kernel_rfl) ?_
  repeat (first | (refine later_exO rfl (fun K hK => ?_); apply Exists.intro; refine ⟨fun w' hw' => ?_, ?_⟩; (obtain ⟨hcc, hff⟩ := Grew.cells hw'; clear hw'; go_simp; rfl); go_simp; refine hK _ ?_; clear hK K))
  (refine later_callO rfl (fun K hK => ?_); go_simp; refine ⟨_, _, fun _ _ => ⟨rfl, rfl⟩, fun w1 hw1 => ?_, fun u y1 hx1 hu => ?_⟩)
  · refine (HA.out _).mono ?_
    rintro e w2 ⟨r1, rfl, h1, e1, hb⟩
    exact ⟨_, rfl, ⟨r1, rfl, h1, e1⟩, hb⟩
  obtain ⟨d1, rfl, hd1, ed1⟩ : V1 fs u := hu
  (refine hK _ _ hx1 ?_; clear hK K)
  repeat (first | (refine later_exO rfl (fun K hK => ?_); apply Exists.intro; refine ⟨fun w' hw' => ?_, ?_⟩; (obtain ⟨hcc, hff⟩ := Grew.cells hw'; clear hw'; go_simp; rfl); go_simp; refine hK _ ?_; clear hK K))
  (refine later_callO rfl (fun K hK => ?_); go_simp; refine ⟨_, _, fun _ _ => ⟨rfl, rfl⟩, fun w1 hw1 => ?_, fun u y2 hx2 hu => ?_⟩)
  · refine (HB.out _).mono ?_
    rintro e w2 ⟨r1, rfl, h1, e1, hb⟩
    exact ⟨_, rfl, ⟨r1, rfl, h1, e1⟩, hb⟩
  obtain ⟨d2, rfl, hd2, ed2⟩ : V1 ft u := hu
  (refine hK _ _ hx2 ?_; clear hK K)
  repeat (first | (refine later_exO rfl (fun K hK => ?_); apply Exists.intro; refine ⟨fun w' hw' => ?_, ?_⟩; (obtain ⟨hcc, hff⟩ := Grew.cells hw'; clear hw'; go_simp; rfl); go_simp; refine hK _ ?_; clear hK K))
  (refine later_callO rfl (fun K hK => ?_); go_simp; refine ⟨_, _, fun _ _ => ⟨rfl, rfl⟩, fun w1 hw1 => ?_, fun u y3 hx3 hu => ?_⟩)
  · refine (greaterN_ok _ _ _).mono ?_
    rintro e w2 ⟨rfl, rfl⟩
    exact ⟨_, rfl, ⟨_, rfl, greater_lt hd1 hd2, greater_eqv ed1 ed2⟩, Ext.refl _⟩
  obtain ⟨d3, rfl, hd3, ed3⟩ : V1 (greaterF fs ft) u := hu
  (refine hK _ _ hx3 ?_; clear hK K)
  repeat (first | (refine later_exO rfl (fun K hK => ?_); apply Exists.intro; refine ⟨fun w' hw' => ?_, ?_⟩; (obtain ⟨hcc, hff⟩ := Grew.cells hw'; clear hw'; go_simp; rfl); go_simp; refine hK _ ?_; clear hK K))
  refine later_nilO ?_
  intro w4 hw4
  simp only [List.drop_succ_cons, List.drop_zero]
  clear g0_0 f0_0 g0_1 f0_1 g0_2 f0_2 l0
  have hE0 : Ext W0 w4 := (((hx1).trans hx2).trans hx3).trans hw4
  have hB1 : Below w.heap.size w w4 := hB0.trans (hE0.mono hB0.size)
  replace hK0 := hE0.heap hK0
  have g0_0 : w4.cell? ⟨w.heap.size, 0, none⟩ = some (.iface Tm zm) := cell_of_row w4 _ 0 _ _ _ hK0
  have f0_0 : w4.frozen? ⟨w.heap.size, 0, none⟩ = false := frozen_of_row w4 _ 0 _ _ hK0
  have g0_1 : w4.cell? ⟨w.heap.size, 1, none⟩ = some (.iface Ta za) := cell_of_row w4 _ 1 _ _ _ hK0
  have f0_1 : w4.frozen? ⟨w.heap.size, 1, none⟩ = false := frozen_of_row w4 _ 1 _ _ hK0
  have g0_2 : w4.cell? ⟨w.heap.size, 2, none⟩ = some (.iface Tb zb) := cell_of_row w4 _ 2 _ _ _ hK0
  have f0_2 : w4.frozen? ⟨w.heap.size, 2, none⟩ = false := frozen_of_row w4 _ 2 _ _ hK0
  have l0 : w.heap.size < w4.heap.size := (Array.getElem?_eq_some_iff.1 hK0).1
  clear hw4 hx1 hx2 hx3
  go_wp2_with fail
  go_ret
  exact ⟨_, rfl, hd3, ed3, hB1⟩
set_option maxRecDepth 100000 in
theorem factor_one9 (c : Value) (f : Nat) (xa xb xc : Nat) (hc : ∀ w, Calls Tryd.prog 41 #[c] w (Fn f w)) (h1 : ∃ T z, c = .iface T z) (w : World) :
    Calls Tryd.prog 41 #[.iface 106 (.agg #[.iface 128 (.agg #[.float .f32 xa, .float .f32 xb, .float .f32 xc]), c])] w (Fn (f) w) := by
  obtain ⟨Ta, za, rfl⟩ := h1
  have HC := Lib.hid hc
  clear hc
  have T0 := ta_planeLeaf_wrapped
  have T1 := ta_joined_wrapped
  have T2 := ta_wrapped
  have T3 := ta_stretchWrap_moveWrap
  go_enter Tryd.func41, Tryd.ntmps41
  go_wp2_with fail
  generalize hW0 : w.alloc (.cells #[.iface 128 (.agg #[.float .f32 xa, .float .f32 xb, .float .f32 xc]), .iface Ta za] 106) = W0
  have hB0 : Below w.heap.size w W0 := by subst hW0; exact by (repeat (first | exact Below.refl _ _ | assumption | refine below_drewN ?_ _ | refine Below.setCell ?_ (by first | omega | (simp <;> omega)) _ | refine Below.alloc ?_ (by first | omega | (simp <;> omega)) _))
  have hK0 : W0.heap[w.heap.size]? = some (.cells #[.iface 128 (.agg #[.float .f32 xa, .float .f32 xb, .float .f32 xc]), .iface Ta za] 106) := by subst hW0; exact Go.heap_alloc_new _ _
  clear hW0
  have hZ0 : w.heap.size < W0.heap.size := (Array.getElem?_eq_some_iff.1 hK0).1
  have g0_0 : W0.cell? ⟨w.heap.size, 0, none⟩ = some (.iface 128 (.agg #[.float .f32 xa, .float .f32 xb, .float .f32 xc])) := cell_of_row W0 _ 0 _ _ _ hK0
  have f0_0 : W0.frozen? ⟨w.heap.size, 0, none⟩ = false := frozen_of_row W0 _ 0 _ _ hK0
  have g0_1 : W0.cell? ⟨w.heap.size, 1, none⟩ = some (.iface Ta za) := cell_of_row W0 _ 1 _ _ _ hK0
  have f0_1 : W0.frozen? ⟨w.heap.size, 1, none⟩ = false := frozen_of_row W0 _ 1 _ _ hK0
  have l0 : w.heap.size < W0.heap.size := (Array.getElem?_eq_some_iff.1 hK0).1
  refine (HC.out _).mono ?_
  rintro e W1 ⟨r1, rfl, h1, e1, hb⟩
  clear g0_0 f0_0 g0_1 f0_1 l0
  have hE0 : Ext W0 W1 := hb
  have hB1 : Below w.heap.size w W1 := hB0.trans (hE0.mono hB0.size)
  replace hK0 := hE0.heap hK0
  have g0_0 : W1.cell? ⟨w.heap.size, 0, none⟩ = some (.iface 128 (.agg #[.float .f32 xa, .float .f32 xb, .float .f32 xc])) := cell_of_row W1 _ 0 _ _ _ hK0
  have f0_0 : W1.frozen? ⟨w.heap.size, 0, none⟩ = false := frozen_of_row W1 _ 0 _ _ hK0
  have g0_1 : W1.cell? ⟨w.heap.size, 1, none⟩ = some (.iface Ta za) := cell_of_row W1 _ 1 _ _ _ hK0
  have f0_1 : W1.frozen? ⟨w.heap.size, 1, none⟩ = false := frozen_of_row W1 _ 1 _ _ hK0
  have l0 : w.heap.size < W1.heap.size := (Array.getElem?_eq_some_iff.1 hK0).1
  clear hb
  go_wp2_with fail
  go_ret
  exact ⟨_, rfl, h1, e1, hB1⟩
set_option maxRecDepth 100000 in
theorem factor_one10 (c : Value) (f : Nat) (xa : Nat) (hc : ∀ w, Calls Tryd.prog 41 #[c] w (Fn f w)) (h1 : ∃ T z, c = .iface T z) (w : World) :
    Calls Tryd.prog 41 #[.iface 106 (.agg #[.iface 130 (.agg #[.float .f32 xa]), c])] w (Fn (f) w) := by
  obtain ⟨Ta, za, rfl⟩ := h1
  have HC := Lib.hid hc
  clear hc
  have T0 := ta_planeLeaf_wrapped
  have T1 := ta_joined_wrapped
  have T2 := ta_wrapped
  have T3 := ta_stretchWrap_scaleWrap
  go_enter Tryd.func41, Tryd.ntmps41
  go_wp2_with fail
  generalize hW0 : w.alloc (.cells #[.iface 130 (.agg #[.float .f32 xa]), .iface Ta za] 106) = W0
  have hB0 : Below w.heap.size w W0 := by subst hW0; exact by (repeat (first | exact Below.refl _ _ | assumption | refine below_drewN ?_ _ | refine Below.setCell ?_ (by first | omega | (simp <;> omega)) _ | refine Below.alloc ?_ (by first | omega | (simp <;> omega)) _))
  have hK0 : W0.heap[w.heap.size]? = some (.cells #[.iface 130 (.agg #[.float .f32 xa]), .iface Ta za] 106) := by subst hW0; exact Go.heap_alloc_new _ _
  clear hW0
  have hZ0 : w.heap.size < W0.heap.size := (Array.getElem?_eq_some_iff.1 hK0).1
  have g0_0 : W0.cell? ⟨w.heap.size, 0, none⟩ = some (.iface 130 (.agg #[.float .f32 xa])) := cell_of_row W0 _ 0 _ _ _ hK0
  have f0_0 : W0.frozen? ⟨w.heap.size, 0, none⟩ = false := frozen_of_row W0 _ 0 _ _ hK0
  have g0_1 : W0.cell? ⟨w.heap.size, 1, none⟩ = some (.iface Ta za) := cell_of_row W0 _ 1 _ _ _ hK0
  have f0_1 : W0.frozen? ⟨w.heap.size, 1, none⟩ = false := frozen_of_row W0 _ 1 _ _ hK0
  have l0 : w.heap.size < W0.heap.size := (Array.getElem?_eq_some_iff.1 hK0).1
  refine (HC.out _).mono ?_
  rintro e W1 ⟨r1, rfl, h1, e1, hb⟩
  clear g0_0 f0_0 g0_1 f0_1 l0
  have hE0 : Ext W0 W1 := hb
  have hB1 : Below w.heap.size w W1 := hB0.trans (hE0.mono hB0.size)
  replace hK0 := hE0.heap hK0
  have g0_0 : W1.cell? ⟨w.heap.size, 0, none⟩ = some (.iface 130 (.agg #[.float .f32 xa])) := cell_of_row W1 _ 0 _ _ _ hK0
  have f0_0 : W1.frozen? ⟨w.heap.size, 0, none⟩ = false := frozen_of_row W1 _ 0 _ _ hK0
  have g0_1 : W1.cell? ⟨w.heap.size, 1, none⟩ = some (.iface Ta za) := cell_of_row W1 _ 1 _ _ _ hK0
  have f0_1 : W1.frozen? ⟨w.heap.size, 1, none⟩ = false := frozen_of_row W1 _ 1 _ _ hK0
  have l0 : w.heap.size < W1.heap.size := (Array.getElem?_eq_some_iff.1 hK0).1
  clear hb
  go_wp2_with fail
  go_ret
  exact ⟨_, rfl, h1, e1, hB1⟩
set_option maxRecDepth 100000 in
theorem factor_one11 (c : Value) (f : Nat) (xa xb xc : Nat) (hc : ∀ w, Calls Tryd.prog 41 #[c] w (Fn f w)) (h1 : ∃ T z, c = .iface T z) (w : World) :
    Calls Tryd.prog 41 #[.iface 106 (.agg #[.iface 110 (.agg #[.float .f32 xa, .float .f32 xb, .float .f32 xc]), c])] w (Fn (mul32 f (by3 xa xb xc)) w) := by
  obtain ⟨Ta, za, rfl⟩ := h1
  have HC := Lib.hid hc
  clear hc
  have T0 := ta_planeLeaf_wrapped
  have T1 := ta_joined_wrapped
  have T2 := ta_wrapped
  have T3 := ta_stretchWrap
  go_enter Tryd.func41, Tryd.ntmps41
  go_wp2_with fail
  generalize hW0 : w.alloc (.cells #[.iface 110 (.agg #[.float .f32 xa, .float .f32 xb, .float .f32 xc]), .iface Ta za] 106) = W0
  have hB0 : Below w.heap.size w W0 := by subst hW0; exact by (repeat (first | exact Below.refl _ _ | assumption | refine below_drewN ?_ _ | refine Below.setCell ?_ (by first | omega | (simp <;> omega)) _ | refine Below.alloc ?_ (by first | omega | (simp <;> omega)) _))
  have hK0 : W0.heap[w.heap.size]? = some (.cells #[.iface 110 (.agg #[.float .f32 xa, .float .f32 xb, .float .f32 xc]), .iface Ta za] 106) := by subst hW0; exact Go.heap_alloc_new _ _
  clear hW0
  have hZ0 : w.heap.size < W0.heap.size := (Array.getElem?_eq_some_iff.1 hK0).1
  have g0_0 : W0.cell? ⟨w.heap.size, 0, none⟩ = some (.iface 110 (.agg #[.float .f32 xa, .float .f32 xb, .float .f32 xc])) := cell_of_row W0 _ 0 _ _ _ hK0
  have f0_0 : W0.frozen? ⟨w.heap.size, 0, none⟩ = false := frozen_of_row W0 _ 0 _ _ hK0
  have g0_1 : W0.cell? ⟨w.heap.size, 1, none⟩ = some (.iface Ta za) := cell_of_row W0 _ 1 _ _ _ hK0
  have f0_1 : W0.frozen? ⟨w.heap.size, 1, none⟩ = false := frozen_of_row W0 _ 1 _ _ hK0
  have l0 : w.heap.size < W0.heap.size := (Array.getElem?_eq_some_iff.1 hK0).1
  refine (HC.out _).mono ?_
  rintro e W1 ⟨r1, rfl, h1, e1, hb⟩
  clear g0_0 f0_0 g0_1 f0_1 l0
  have hE0 : Ext W0 W1 := hb
  have hB1 : Below w.heap.size w W1 := hB0.trans (hE0.mono hB0.size)
  replace hK0 := hE0.heap hK0
  have g0_0 : W1.cell? ⟨w.heap.size, 0, none⟩ = some (.iface 110 (.agg #[.float .f32 xa, .float .f32 xb, .float .f32 xc])) := cell_of_row W1 _ 0 _ _ _ hK0
  have f0_0 : W1.frozen? ⟨w.heap.size, 0, none⟩ = false := frozen_of_row W1 _ 0 _ _ hK0
  have g0_1 : W1.cell? ⟨w.heap.size, 1, none⟩ = some (.iface Ta za) := cell_of_row W1 _ 1 _ _ _ hK0
  have f0_1 : W1.frozen? ⟨w.heap.size, 1, none⟩ = false := frozen_of_row W1 _ 1 _ _ hK0
  have l0 : w.heap.size < W1.heap.size := (Array.getElem?_eq_some_iff.1 hK0).1
  clear hb
  go_wp2_with fail
  clear g0_0 f0_0 g0_1 f0_1 l0
  generalize hWa : W1.alloc (.cells #[.float .f32 xa, .float .f32 xb, .float .f32 xc] 110) = W2
  have hE1 : Ext W1 W2 := by subst hWa; exact (Ext.refl _).alloc _
  have hN : W2.heap[W1.heap.size]? = some (.cells #[.float .f32 xa, .float .f32 xb, .float .f32 xc] 110) := by subst hWa; exact Go.heap_alloc_new _ _
  clear hWa
  have hB2 : Below w.heap.size w W2 := hB1.trans (hE1.mono hB1.size)
  have hs1 : w.heap.size + 1 ≤ W1.heap.size := by have := (Array.getElem?_eq_some_iff.1 hK0).1; omega
  replace hK0 := hE1.heap hK0
  have hK1 := hN
  clear hN
  have g0_0 : W2.cell? ⟨w.heap.size, 0, none⟩ = some (.iface 110 (.agg #[.float .f32 xa, .float .f32 xb, .float .f32 xc])) := cell_of_row W2 _ 0 _ _ _ hK0
  have f0_0 : W2.frozen? ⟨w.heap.size, 0, none⟩ = false := frozen_of_row W2 _ 0 _ _ hK0
  have g0_1 : W2.cell? ⟨w.heap.size, 1, none⟩ = some (.iface Ta za) := cell_of_row W2 _ 1 _ _ _ hK0
  have f0_1 : W2.frozen? ⟨w.heap.size, 1, none⟩ = false := frozen_of_row W2 _ 1 _ _ hK0
  have l0 : w.heap.size < W2.heap.size := (Array.getElem?_eq_some_iff.1 hK0).1
  have g1_0 : W2.cell? ⟨W1.heap.size, 0, none⟩ = some (.float .f32 xa) := cell_of_row W2 _ 0 _ _ _ hK1
  have f1_0 : W2.frozen? ⟨W1.heap.size, 0, none⟩ = false := frozen_of_row W2 _ 0 _ _ hK1
  have g1_1 : W2.cell? ⟨W1.heap.size, 1, none⟩ = some (.float .f32 xb) := cell_of_row W2 _ 1 _ _ _ hK1
  have f1_1 : W2.frozen? ⟨W1.heap.size, 1, none⟩ = false := frozen_of_row W2 _ 1 _ _ hK1
  have g1_2 : W2.cell? ⟨W1.heap.size, 2, none⟩ = some (.float .f32 xc) := cell_of_row W2 _ 2 _ _ _ hK1
  have f1_2 : W2.frozen? ⟨W1.heap.size, 2, none⟩ = false := frozen_of_row W2 _ 2 _ _ hK1
  have l1 : W1.heap.size < W2.heap.size := (Array.getElem?_eq_some_iff.1 hK1).1
  refine (stretchFactor_ok _ _ _ _).mono ?_
  rintro e W3 ⟨r2, rfl, h2, e2, hb⟩
  clear g0_0 f0_0 g0_1 f0_1 l0 g1_0 f1_0 g1_1 f1_1 g1_2 f1_2 l1
  have hE2 : Ext W2 W3 := hb
  have hB3 : Below w.heap.size w W3 := hB2.trans (hE2.mono hB2.size)
  replace hK0 := hE2.heap hK0
  replace hK1 := hE2.heap hK1
  have g0_0 : W3.cell? ⟨w.heap.size, 0, none⟩ = some (.iface 110 (.agg #[.float .f32 xa, .float .f32 xb, .float .f32 xc])) := cell_of_row W3 _ 0 _ _ _ hK0
  have f0_0 : W3.frozen? ⟨w.heap.size, 0, none⟩ = false := frozen_of_row W3 _ 0 _ _ hK0
  have g0_1 : W3.cell? ⟨w.heap.size, 1, none⟩ = some (.iface Ta za) := cell_of_row W3 _ 1 _ _ _ hK0
  have f0_1 : W3.frozen? ⟨w.heap.size, 1, none⟩ = false := frozen_of_row W3 _ 1 _ _ hK0
  have l0 : w.heap.size < W3.heap.size := (Array.getElem?_eq_some_iff.1 hK0).1
  have g1_0 : W3.cell? ⟨W1.heap.size, 0, none⟩ = some (.float .f32 xa) := cell_of_row W3 _ 0 _ _ _ hK1
  have f1_0 : W3.frozen? ⟨W1.heap.size, 0, none⟩ = false := frozen_of_row W3 _ 0 _ _ hK1
  have g1_1 : W3.cell? ⟨W1.heap.size, 1, none⟩ = some (.float .f32 xb) := cell_of_row W3 _ 1 _ _ _ hK1
  have f1_1 : W3.frozen? ⟨W1.heap.size, 1, none⟩ = false := frozen_of_row W3 _ 1 _ _ hK1
  have g1_2 : W3.cell? ⟨W1.heap.size, 2, none⟩ = some (.float .f32 xc) := cell_of_row W3 _ 2 _ _ _ hK1
  have f1_2 : W3.frozen? ⟨W1.heap.size, 2, none⟩ = false := frozen_of_row W3 _ 2 _ _ hK1
  have l1 : W1.heap.size < W3.heap.size := (Array.getElem?_eq_some_iff.1 hK1).1
  clear hb
  go_wp2_with (refine wpList_f32 rfl rfl rfl rfl rfl ?_; intro r n hr he)
  go_ret
  exact ⟨_, rfl, hr, he.trans (by rw [show mul32 f (by3 xa xb xc) = fop .mul .f32 r1 r2 from (fop_eqv e1 e2).symm]; exact Eqv.refl _ _), below_drewN hB3 _⟩
set_option maxRecDepth 100000 in
theorem factor_one12 (c : Value) (f : Nat) (ax : Int) (xa xb : Nat) (hc : ∀ w, Calls Tryd.prog 41 #[c] w (Fn f w)) (h1 : ∃ T z, c = .iface T z) (w : World) :
    Calls Tryd.prog 41 #[.iface 106 (.agg #[.iface 132 (.agg #[.int .i64 ax, .float .f32 xa, .float .f32 xb]), c])] w (Fn (f) w) := by
  obtain ⟨Ta, za, rfl⟩ := h1
  have HC := Lib.hid hc
  clear hc
  have T0 := ta_planeLeaf_wrapped
  have T1 := ta_joined_wrapped
  have T2 := ta_wrapped
  have T3 := ta_stretchWrap_turnWrap
  go_enter Tryd.func41, Tryd.ntmps41
  go_wp2_with fail
  generalize hW0 : w.alloc (.cells #[.iface 132 (.agg #[.int .i64 ax, .float .f32 xa, .float .f32 xb]), .iface Ta za] 106) = W0
  have hB0 : Below w.heap.size w W0 := by subst hW0; exact by (repeat (first | exact Below.refl _ _ | assumption | refine below_drewN ?_ _ | refine Below.setCell ?_ (by first | omega | (simp <;> omega)) _ | refine Below.alloc ?_ (by first | omega | (simp <;> omega)) _))
  have hK0 : W0.heap[w.heap.size]? = some (.cells #[.iface 132 (.agg #[.int .i64 ax, .float .f32 xa, .float .f32 xb]), .iface Ta za] 106) := by subst hW0; exact Go.heap_alloc_new _ _
  clear hW0
  have hZ0 : w.heap.size < W0.heap.size := (Array.getElem?_eq_some_iff.1 hK0).1
  have g0_0 : W0.cell? ⟨w.heap.size, 0, none⟩ = some (.iface 132 (.agg #[.int .i64 ax, .float .f32 xa, .float .f32 xb])) := cell_of_row W0 _ 0 _ _ _ hK0
  have f0_0 : W0.frozen? ⟨w.heap.size, 0, none⟩ = false := frozen_of_row W0 _ 0 _ _ hK0
  have g0_1 : W0.cell? ⟨w.heap.size, 1, none⟩ = some (.iface Ta za) := cell_of_row W0 _ 1 _ _ _ hK0
  have f0_1 : W0.frozen? ⟨w.heap.size, 1, none⟩ = false := frozen_of_row W0 _ 1 _ _ hK0
  have l0 : w.heap.size < W0.heap.size := (Array.getElem?_eq_some_iff.1 hK0).1
  refine (HC.out _).mono ?_
  rintro e W1 ⟨r1, rfl, h1, e1, hb⟩
  clear g0_0 f0_0 g0_1 f0_1 l0
  have hE0 : Ext W0 W1 := hb
  have hB1 : Below w.heap.size w W1 := hB0.trans (hE0.mono hB0.size)
  replace hK0 := hE0.heap hK0
  have g0_0 : W1.cell? ⟨w.heap.size, 0, none⟩ = some (.iface 132 (.agg #[.int .i64 ax, .float .f32 xa, .float .f32 xb])) := cell_of_row W1 _ 0 _ _ _ hK0
  have f0_0 : W1.frozen? ⟨w.heap.size, 0, none⟩ = false := frozen_of_row W1 _ 0 _ _ hK0
  have g0_1 : W1.cell? ⟨w.heap.size, 1, none⟩ = some (.iface Ta za) := cell_of_row W1 _ 1 _ _ _ hK0
  have f0_1 : W1.frozen? ⟨w.heap.size, 1, none⟩ = false := frozen_of_row W1 _ 1 _ _ hK0
  have l0 : w.heap.size < W1.heap.size := (Array.getElem?_eq_some_iff.1 hK0).1
  clear hb
  go_wp2_with fail
  go_ret
  exact ⟨_, rfl, h1, e1, hB1⟩
set_option maxRecDepth 100000 in
theorem factor_one13 (c : Value) (f : Nat) (ax : Int) (hc : ∀ w, Calls Tryd.prog 41 #[c] w (Fn f w)) (h1 : ∃ T z, c = .iface T z) (w : World) :
    Calls Tryd.prog 41 #[.iface 106 (.agg #[.iface 134 (.agg #[.int .i64 ax]), c])] w (Fn (f) w) := by
  obtain ⟨Ta, za, rfl⟩ := h1
  have HC := Lib.hid hc
  clear hc
  have T0 := ta_planeLeaf_wrapped
  have T1 := ta_joined_wrapped
  have T2 := ta_wrapped
  have T3 := ta_stretchWrap_mirrorWrap
  go_enter Tryd.func41, Tryd.ntmps41
  go_wp2_with fail
  generalize hW0 : w.alloc (.cells #[.iface 134 (.agg #[.int .i64 ax]), .iface Ta za] 106) = W0
  have hB0 : Below w.heap.size w W0 := by subst hW0; exact by (repeat (first | exact Below.refl _ _ | assumption | refine below_drewN ?_ _ | refine Below.setCell ?_ (by first | omega | (simp <;> omega)) _ | refine Below.alloc ?_ (by first | omega | (simp <;> omega)) _))
  have hK0 : W0.heap[w.heap.size]? = some (.cells #[.iface 134 (.agg #[.int .i64 ax]), .iface Ta za] 106) := by subst hW0; exact Go.heap_alloc_new _ _
  clear hW0
  have hZ0 : w.heap.size < W0.heap.size := (Array.getElem?_eq_some_iff.1 hK0).1
  have g0_0 : W0.cell? ⟨w.heap.size, 0, none⟩ = some (.iface 134 (.agg #[.int .i64 ax])) := cell_of_row W0 _ 0 _ _ _ hK0
  have f0_0 : W0.frozen? ⟨w.heap.size, 0, none⟩ = false := frozen_of_row W0 _ 0 _ _ hK0
  have g0_1 : W0.cell? ⟨w.heap.size, 1, none⟩ = some (.iface Ta za) := cell_of_row W0 _ 1 _ _ _ hK0
  have f0_1 : W0.frozen? ⟨w.heap.size, 1, none⟩ = false := frozen_of_row W0 _ 1 _ _ hK0
  have l0 : w.heap.size < W0.heap.size := (Array.getElem?_eq_some_iff.1 hK0).1
  refine (HC.out _).mono ?_
  rintro e W1 ⟨r1, rfl, h1, e1, hb⟩
  clear g0_0 f0_0 g0_1 f0_1 l0
  have hE0 : Ext W0 W1 := hb
  have hB1 : Below w.heap.size w W1 := hB0.trans (hE0.mono hB0.size)
  replace hK0 := hE0.heap hK0
  have g0_0 : W1.cell? ⟨w.heap.size, 0, none⟩ = some (.iface 134 (.agg #[.int .i64 ax])) := cell_of_row W1 _ 0 _ _ _ hK0
  have f0_0 : W1.frozen? ⟨w.heap.size, 0, none⟩ = false := frozen_of_row W1 _ 0 _ _ hK0
  have g0_1 : W1.cell? ⟨w.heap.size, 1, none⟩ = some (.iface Ta za) := cell_of_row W1 _ 1 _ _ _ hK0
  have f0_1 : W1.frozen? ⟨w.heap.size, 1, none⟩ = false := frozen_of_row W1 _ 1 _ _ hK0
  have l0 : w.heap.size < W1.heap.size := (Array.getElem?_eq_some_iff.1 hK0).1
  clear hb
  go_wp2_with fail
  go_ret
  exact ⟨_, rfl, h1, e1, hB1⟩
set_option maxRecDepth 100000 in
theorem factor_one14 (c : Value) (f : Nat) (ax : Int) (xa : Nat) (hc : ∀ w, Calls Tryd.prog 41 #[c] w (Fn f w)) (h1 : ∃ T z, c = .iface T z) (w : World) :
    Calls Tryd.prog 41 #[.iface 106 (.agg #[.iface 136 (.agg #[.int .i64 ax, .float .f32 xa]), c])] w (Fn (f) w) := by
  obtain ⟨Ta, za, rfl⟩ := h1
  have HC := Lib.hid hc
  clear hc
  have T0 := ta_planeLeaf_wrapped
  have T1 := ta_joined_wrapped
  have T2 := ta_wrapped
  have T3 := ta_stretchWrap_foldWrap
  go_enter Tryd.func41, Tryd.ntmps41
  go_wp2_with fail
  generalize hW0 : w.alloc (.cells #[.iface 136 (.agg #[.int .i64 ax, .float .f32 xa]), .iface Ta za] 106) = W0
  have hB0 : Below w.heap.size w W0 := by subst hW0; exact by (repeat (first | exact Below.refl _ _ | assumption | refine below_drewN ?_ _ | refine Below.setCell ?_ (by first | omega | (simp <;> omega)) _ | refine Below.alloc ?_ (by first | omega | (simp <;> omega)) _))
  have hK0 : W0.heap[w.heap.size]? = some (.cells #[.iface 136 (.agg #[.int .i64 ax, .float .f32 xa]), .iface Ta za] 106) := by subst hW0; exact Go.heap_alloc_new _ _
  clear hW0
  have hZ0 : w.heap.size < W0.heap.size := (Array.getElem?_eq_some_iff.1 hK0).1
  have g0_0 : W0.cell? ⟨w.heap.size, 0, none⟩ = some (.iface 136 (.agg #[.int .i64 ax, .float .f32 xa])) := cell_of_row W0 _ 0 _ _ _ hK0
  have f0_0 : W0.frozen? ⟨w.heap.size, 0, none⟩ = false := frozen_of_row W0 _ 0 _ _ hK0
  have g0_1 : W0.cell? ⟨w.heap.size, 1, none⟩ = some (.iface Ta za) := cell_of_row W0 _ 1 _ _ _ hK0
  have f0_1 : W0.frozen? ⟨w.heap.size, 1, none⟩ = false := frozen_of_row W0 _ 1 _ _ hK0
  have l0 : w.heap.size < W0.heap.size := (Array.getElem?_eq_some_iff.1 hK0).1
  refine (HC.out _).mono ?_
  rintro e W1 ⟨r1, rfl, h1, e1, hb⟩
  clear g0_0 f0_0 g0_1 f0_1 l0
  have hE0 : Ext W0 W1 := hb
  have hB1 : Below w.heap.size w W1 := hB0.trans (hE0.mono hB0.size)
  replace hK0 := hE0.heap hK0
  have g0_0 : W1.cell? ⟨w.heap.size, 0, none⟩ = some (.iface 136 (.agg #[.int .i64 ax, .float .f32 xa])) := cell_of_row W1 _ 0 _ _ _ hK0
  have f0_0 : W1.frozen? ⟨w.heap.size, 0, none⟩ = false := frozen_of_row W1 _ 0 _ _ hK0
  have g0_1 : W1.cell? ⟨w.heap.size, 1, none⟩ = some (.iface Ta za) := cell_of_row W1 _ 1 _ _ _ hK0
  have f0_1 : W1.frozen? ⟨w.heap.size, 1, none⟩ = false := frozen_of_row W1 _ 1 _ _ hK0
  have l0 : w.heap.size < W1.heap.size := (Array.getElem?_eq_some_iff.1 hK0).1
  clear hb
  go_wp2_with fail
  go_ret
  exact ⟨_, rfl, h1, e1, hB1⟩
set_option maxRecDepth 100000 in
theorem factor_one15 (c : Value) (f : Nat) (xa : Nat) (hc : ∀ w, Calls Tryd.prog 41 #[c] w (Fn f w)) (h1 : ∃ T z, c = .iface T z) (w : World) :
    Calls Tryd.prog 41 #[.iface 106 (.agg #[.iface 139 (.agg #[.float .f32 xa]), c])] w (Fn (f) w) := by
  obtain ⟨Ta, za, rfl⟩ := h1
  have HC := Lib.hid hc
  clear hc
  have T0 := ta_planeLeaf_wrapped
  have T1 := ta_joined_wrapped
  have T2 := ta_wrapped
  have T3 := ta_stretchWrap_roundWrap
  go_enter Tryd.func41, Tryd.ntmps41
  go_wp2_with fail
  generalize hW0 : w.alloc (.cells #[.iface 139 (.agg #[.float .f32 xa]), .iface Ta za] 106) = W0
  have hB0 : Below w.heap.size w W0 := by subst hW0; exact by (repeat (first | exact Below.refl _ _ | assumption | refine below_drewN ?_ _ | refine Below.setCell ?_ (by first | omega | (simp <;> omega)) _ | refine Below.alloc ?_ (by first | omega | (simp <;> omega)) _))
  have hK0 : W0.heap[w.heap.size]? = some (.cells #[.iface 139 (.agg #[.float .f32 xa]), .iface Ta za] 106) := by subst hW0; exact Go.heap_alloc_new _ _
  clear hW0
  have hZ0 : w.heap.size < W0.heap.size := (Array.getElem?_eq_some_iff.1 hK0).1
  have g0_0 : W0.cell? ⟨w.heap.size, 0, none⟩ = some (.iface 139 (.agg #[.float .f32 xa])) := cell_of_row W0 _ 0 _ _ _ hK0
  have f0_0 : W0.frozen? ⟨w.heap.size, 0, none⟩ = false := frozen_of_row W0 _ 0 _ _ hK0
  have g0_1 : W0.cell? ⟨w.heap.size, 1, none⟩ = some (.iface Ta za) := cell_of_row W0 _ 1 _ _ _ hK0
  have f0_1 : W0.frozen? ⟨w.heap.size, 1, none⟩ = false := frozen_of_row W0 _ 1 _ _ hK0
  have l0 : w.heap.size < W0.heap.size := (Array.getElem?_eq_some_iff.1 hK0).1
  refine (HC.out _).mono ?_
  rintro e W1 ⟨r1, rfl, h1, e1, hb⟩
  clear g0_0 f0_0 g0_1 f0_1 l0
  have hE0 : Ext W0 W1 := hb
  have hB1 : Below w.heap.size w W1 := hB0.trans (hE0.mono hB0.size)
  replace hK0 := hE0.heap hK0
  have g0_0 : W1.cell? ⟨w.heap.size, 0, none⟩ = some (.iface 139 (.agg #[.float .f32 xa])) := cell_of_row W1 _ 0 _ _ _ hK0
  have f0_0 : W1.frozen? ⟨w.heap.size, 0, none⟩ = false := frozen_of_row W1 _ 0 _ _ hK0
  have g0_1 : W1.cell? ⟨w.heap.size, 1, none⟩ = some (.iface Ta za) := cell_of_row W1 _ 1 _ _ _ hK0
  have f0_1 : W1.frozen? ⟨w.heap.size, 1, none⟩ = false := frozen_of_row W1 _ 1 _ _ hK0
  have l0 : w.heap.size < W1.heap.size := (Array.getElem?_eq_some_iff.1 hK0).1
  clear hb
  go_wp2_with fail
  go_ret
  exact ⟨_, rfl, h1, e1, hB1⟩
set_option maxRecDepth 100000 in
theorem factor_one16 (c : Value) (f : Nat) (xa : Nat) (hc : ∀ w, Calls Tryd.prog 41 #[c] w (Fn f w)) (h1 : ∃ T z, c = .iface T z) (w : World) :
    Calls Tryd.prog 41 #[.iface 106 (.agg #[.iface 140 (.agg #[.float .f32 xa]), c])] w (Fn (f) w) := by
  obtain ⟨Ta, za, rfl⟩ := h1
  have HC := Lib.hid hc
  clear hc
  have T0 := ta_planeLeaf_wrapped
  have T1 := ta_joined_wrapped
  have T2 := ta_wrapped
  have T3 := ta_stretchWrap_shellWrap
  go_enter Tryd.func41, Tryd.ntmps41
  go_wp2_with fail
  generalize hW0 : w.alloc (.cells #[.iface 140 (.agg #[.float .f32 xa]), .iface Ta za] 106) = W0
  have hB0 : Below w.heap.size w W0 := by subst hW0; exact by (repeat (first | exact Below.refl _ _ | assumption | refine below_drewN ?_ _ | refine Below.setCell ?_ (by first | omega | (simp <;> omega)) _ | refine Below.alloc ?_ (by first | omega | (simp <;> omega)) _))
  have hK0 : W0.heap[w.heap.size]? = some (.cells #[.iface 140 (.agg #[.float .f32 xa]), .iface Ta za] 106) := by subst hW0; exact Go.heap_alloc_new _ _
  clear hW0
  have hZ0 : w.heap.size < W0.heap.size := (Array.getElem?_eq_some_iff.1 hK0).1
  have g0_0 : W0.cell? ⟨w.heap.size, 0, none⟩ = some (.iface 140 (.agg #[.float .f32 xa])) := cell_of_row W0 _ 0 _ _ _ hK0
  have f0_0 : W0.frozen? ⟨w.heap.size, 0, none⟩ = false := frozen_of_row W0 _ 0 _ _ hK0
  have g0_1 : W0.cell? ⟨w.heap.size, 1, none⟩ = some (.iface Ta za) := cell_of_row W0 _ 1 _ _ _ hK0
  have f0_1 : W0.frozen? ⟨w.heap.size, 1, none⟩ = false := frozen_of_row W0 _ 1 _ _ hK0
  have l0 : w.heap.size < W0.heap.size := (Array.getElem?_eq_some_iff.1 hK0).1
  refine (HC.out _).mono ?_
  rintro e W1 ⟨r1, rfl, h1, e1, hb⟩
  clear g0_0 f0_0 g0_1 f0_1 l0
  have hE0 : Ext W0 W1 := hb
  have hB1 : Below w.heap.size w W1 := hB0.trans (hE0.mono hB0.size)
  replace hK0 := hE0.heap hK0
  have g0_0 : W1.cell? ⟨w.heap.size, 0, none⟩ = some (.iface 140 (.agg #[.float .f32 xa])) := cell_of_row W1 _ 0 _ _ _ hK0
  have f0_0 : W1.frozen? ⟨w.heap.size, 0, none⟩ = false := frozen_of_row W1 _ 0 _ _ hK0
  have g0_1 : W1.cell? ⟨w.heap.size, 1, none⟩ = some (.iface Ta za) := cell_of_row W1 _ 1 _ _ _ hK0
  have f0_1 : W1.frozen? ⟨w.heap.size, 1, none⟩ = false := frozen_of_row W1 _ 1 _ _ hK0
  have l0 : w.heap.size < W1.heap.size := (Array.getElem?_eq_some_iff.1 hK0).1
  clear hb
  go_wp2_with fail
  go_ret
  exact ⟨_, rfl, h1, e1, hB1⟩
theorem factorOf_ok : ∀ (t : Tr) (v : Value), TrK t → PartV t v → FacA t v
  | .leaf i k xs, v, hk, hv => by
    have hk : k ≤ 4 := hk
    obtain rfl : v = leafV k xs := hv
    rcases (by omega : k = 0 ∨ k = 1 ∨ k = 2 ∨ k = 3 ∨ k = 4) with rfl | rfl | rfl | rfl | rfl
    · exact factor_leaf0 i xs
    · exact factor_leaf1 i xs
    · exact factor_leaf2 i xs
    · exact factor_leaf3 i xs
    · exact factor_leaf4 i xs
  | .two i k xs s t, v, hk, hv => by
    obtain ⟨h5, h8, hs, ht⟩ := hk
    obtain ⟨a, b, rfl, ha, hb⟩ := hv
    exact fun w => factor_two i k xs s t a b (factorOf_ok s a hs ha) (factorOf_ok t b ht hb) (partV_iface s ha) (partV_iface t hb) w
  | .one i k ax xs t, v, hk, hv => by
    obtain ⟨h9, h16, ht⟩ := hk
    obtain ⟨u, c, rfl, hu, hc⟩ := hv
    have HT := factorOf_ok t c ht hc
    have hi := partV_iface t hc
    intro w
    rcases (by omega : k = 9 ∨ k = 10 ∨ k = 11 ∨ k = 12 ∨ k = 13 ∨ k = 14 ∨ k = 15 ∨ k = 16) with rfl | rfl | rfl | rfl | rfl | rfl | rfl | rfl
    · obtain rfl := hu
      exact factor_one9 c (factorD t) _ _ _ HT hi w
    · obtain rfl := hu
      exact factor_one10 c (factorD t) _ HT hi w
    · obtain rfl := hu
      exact factor_one11 c (factorD t) _ _ _ HT hi w
    · obtain ⟨x, y, rfl, -⟩ := hu
      exact factor_one12 c (factorD t) _ _ _ HT hi w
    · obtain rfl := hu
      exact factor_one13 c (factorD t) _ HT hi w
    · obtain ⟨x, rfl, -⟩ := hu
      exact factor_one14 c (factorD t) _ _ HT hi w
    · obtain rfl := hu
      exact factor_one15 c (factorD t) _ HT hi w
    · obtain rfl := hu
      exact factor_one16 c (factorD t) _ HT hi w
end Go.Proofs.YtkpokgfllipababDoor
