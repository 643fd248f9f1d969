/- Chapter 6: points of a grid, their indices; program and model. -/
import Derived.Test.YtnhcgjjcbdjofabGc
namespace Go.Proofs.FX
open Go Ieee
theorem product_comm (a b : Datum) : a.product b = b.product a := by
  cases a <;> cases b <;> simp [Datum.product, Bool.xor_comm, Nat.mul_comm, Int.add_comm]
theorem fop_mul_comm (k : FloatKind) (x y : Nat) : fop .mul k x y = fop .mul k y x := by
  unfold fop
  have : floatBits .mul k x y = floatBits .mul k y x := by
    show ((k.format.read x).product (k.format.read y)).map k.format.write = ((k.format.read y).product (k.format.read x)).map k.format.write
    rw [product_comm]
  rw [this]
end Go.Proofs.FX
namespace Go.Proofs.Ytnhcgjjcbdjofab
open Go.Proofs.FX Go.RowKit Go.Deep
def axB (n i : Int) : Bool := decide (0 ≤ i) && decide (i ≤ n - 1)
def hasB (X Y Z x y z : Int) : Bool := axB X x && (axB Y y && axB Z z)
def idxN (X Y x y z : Int) : Int := x + X * (y + Y * z)
def ptN (a s : Nat) (i : Int) : Nat := fop .add .f32 a (fop .mul .f32 s (floatOfInt .f32 i))
theorem ax_yes {n i : Int} (h : axB n i = true) : 0 ≤ i ∧ i < n := by unfold axB at h; simp at h; omega
theorem has_yes {X Y Z x y z : Int} (h : hasB X Y Z x y z = true) : (0 ≤ x ∧ x < X) ∧ (0 ≤ y ∧ y < Y) ∧ (0 ≤ z ∧ z < Z) := by
  unfold hasB at h
  simp only [Bool.and_eq_true] at h
  exact ⟨ax_yes h.1, ax_yes h.2.1, ax_yes h.2.2⟩
theorem mul_lt_bd {X a A : Int} (hX : 1 ≤ X) (ha : 0 ≤ a) (hA : a ≤ A - 1) : 0 ≤ X * a ∧ X * a ≤ X * A - X := by
  refine ⟨Int.mul_nonneg (by omega) ha, ?_⟩
  have := Int.mul_le_mul_of_nonneg_left hA (show (0 : Int) ≤ X by omega)
  rw [Int.mul_sub] at this
  simpa using this
theorem idx_bd {X Y Z x y z : Int} (hX : 1 ≤ X ∧ X ≤ 16) (hY : 1 ≤ Y ∧ Y ≤ 16) (hZ : 1 ≤ Z ∧ Z ≤ 16) (hx : 0 ≤ x ∧ x < X) (hy : 0 ≤ y ∧ y < Y) (hz : 0 ≤ z ∧ z < Z) :
    (0 ≤ Y * z ∧ Y * z ≤ 240) ∧ (0 ≤ y + Y * z ∧ y + Y * z ≤ 255) ∧ (0 ≤ X * (y + Y * z) ∧ X * (y + Y * z) ≤ 4080) ∧ 0 ≤ idxN X Y x y z ∧ idxN X Y x y z < X * Y * Z := by
  have h1 := mul_lt_bd (A := Z) hY.1 hz.1 (by omega)
  have h2 := mul_bd hY.1 hZ.1 hY.2 hZ.2
  have h5 : Y * z ≤ 240 := by
    have := Int.mul_le_mul hY.2 (show z ≤ 15 by omega) hz.1 (by omega)
    simpa using this
  have h3 := mul_lt_bd (X := X) (a := y + Y * z) (A := Y * Z) hX.1 (by omega) (by omega)
  have h4 : X * (y + Y * z) ≤ 4080 := by
    have := Int.mul_le_mul hX.2 (show y + Y * z ≤ 255 by omega) (by omega) (by omega)
    simpa using this
  unfold idxN
  rw [Int.mul_assoc]
  omega
abbrev spot3 (x y z : Int) : Value := .agg #[.int .i64 x, .int .i64 y, .int .i64 z]
@[go_sem] theorem spt_0 (a b c : Value) (w : World) : (Instr.index 89 (.agg #[a, b, c]) (.int .i64 0)).run Try.prog w = .ok a w := by
  simp [Instr.index, run_underlying Try.underlying89, asIntOf, part, go_sem]
@[go_sem] theorem spt_1 (a b c : Value) (w : World) : (Instr.index 89 (.agg #[a, b, c]) (.int .i64 1)).run Try.prog w = .ok b w := by
  simp [Instr.index, run_underlying Try.underlying89, asIntOf, part, go_sem]
@[go_sem] theorem spt_2 (a b c : Value) (w : World) : (Instr.index 89 (.agg #[a, b, c]) (.int .i64 2)).run Try.prog w = .ok c w := by
  simp [Instr.index, run_underlying Try.underlying89, asIntOf, part, go_sem]
theorem axB_cases (n i : Int) : (axB n i = false ∧ i < 0) ∨ (axB n i = false ∧ 0 ≤ i ∧ n ≤ i) ∨ (axB n i = true ∧ 0 ≤ i ∧ i < n) := by
  unfold axB
  by_cases h1 : 0 ≤ i
  · by_cases h2 : i ≤ n - 1
    · exact .inr (.inr ⟨by simp [h1, h2], h1, by omega⟩)
    · exact .inr (.inl ⟨by simp [h2], h1, by omega⟩)
  · exact .inl ⟨by simp [h1], by omega⟩
set_option maxHeartbeats 2000000 in
theorem has_ok (X Y Z x y z : Int) (w : World) :
    Calls Try.prog 58 #[ext3 X Y Z, spot3 x y z] w (Bn (hasB X Y Z x y z) w) := by
  rcases axB_cases X x with ⟨h0, k0⟩ | ⟨h0, k0, l0⟩ | ⟨h0, k0, l0⟩
  · have e : hasB X Y Z x y z = false := by unfold hasB; rw [h0]; rfl
    rw [e]
    clear e h0
    go_enter Try.func58, Try.ntmps58
    go_wp2_with fail
    refine wp_loop_rounds 4 ?_
    rw [rounds_succ]
    go_wp2_with fail
    go_ret
    exact ⟨rfl, (by (repeat (first | exact Below.refl _ _ | assumption | refine below_drewN ?_ _ | refine Below.setCell ?_ (by first | omega | (simp <;> omega)) _ | refine Below.alloc ?_ (by first | omega | (simp <;> omega)) _)))⟩
  · have e : hasB X Y Z x y z = false := by unfold hasB; rw [h0]; rfl
    rw [e]
    clear e h0
    go_enter Try.func58, Try.ntmps58
    go_wp2_with fail
    refine wp_loop_rounds 4 ?_
    rw [rounds_succ]
    go_wp2_with fail
    go_ret
    exact ⟨rfl, (by (repeat (first | exact Below.refl _ _ | assumption | refine below_drewN ?_ _ | refine Below.setCell ?_ (by first | omega | (simp <;> omega)) _ | refine Below.alloc ?_ (by first | omega | (simp <;> omega)) _)))⟩
  rcases axB_cases Y y with ⟨h1, k1⟩ | ⟨h1, k1, l1⟩ | ⟨h1, k1, l1⟩
  · have e : hasB X Y Z x y z = false := by unfold hasB; rw [h0, h1]; rfl
    rw [e]
    clear e h0 h1
    go_enter Try.func58, Try.ntmps58
    go_wp2_with fail
    refine wp_loop_rounds 4 ?_
    rw [rounds_succ]
    go_wp2_with fail
    rw [rounds_succ]
    go_wp2_with fail
    go_ret
    exact ⟨rfl, (by (repeat (first | exact Below.refl _ _ | assumption | refine below_drewN ?_ _ | refine Below.setCell ?_ (by first | omega | (simp <;> omega)) _ | refine Below.alloc ?_ (by first | omega | (simp <;> omega)) _)))⟩
  · have e : hasB X Y Z x y z = false := by unfold hasB; rw [h0, h1]; rfl
    rw [e]
    clear e h0 h1
    go_enter Try.func58, Try.ntmps58
    go_wp2_with fail
    refine wp_loop_rounds 4 ?_
    rw [rounds_succ]
    go_wp2_with fail
    rw [rounds_succ]
    go_wp2_with fail
    go_ret
    exact ⟨rfl, (by (repeat (first | exact Below.refl _ _ | assumption | refine below_drewN ?_ _ | refine Below.setCell ?_ (by first | omega | (simp <;> omega)) _ | refine Below.alloc ?_ (by first | omega | (simp <;> omega)) _)))⟩
  rcases axB_cases Z z with ⟨h2, k2⟩ | ⟨h2, k2, l2⟩ | ⟨h2, k2, l2⟩
  · have e : hasB X Y Z x y z = false := by unfold hasB; rw [h0, h1, h2]; rfl
    rw [e]
    clear e h0 h1 h2
    go_enter Try.func58, Try.ntmps58
    go_wp2_with fail
    refine wp_loop_rounds 4 ?_
    rw [rounds_succ]
    go_wp2_with fail
    rw [rounds_succ]
    go_wp2_with fail
    rw [rounds_succ]
    go_wp2_with fail
    go_ret
    exact ⟨rfl, (by (repeat (first | exact Below.refl _ _ | assumption | refine below_drewN ?_ _ | refine Below.setCell ?_ (by first | omega | (simp <;> omega)) _ | refine Below.alloc ?_ (by first | omega | (simp <;> omega)) _)))⟩
  · have e : hasB X Y Z x y z = false := by unfold hasB; rw [h0, h1, h2]; rfl
    rw [e]
    clear e h0 h1 h2
    go_enter Try.func58, Try.ntmps58
    go_wp2_with fail
    refine wp_loop_rounds 4 ?_
    rw [rounds_succ]
    go_wp2_with fail
    rw [rounds_succ]
    go_wp2_with fail
    rw [rounds_succ]
    go_wp2_with fail
    go_ret
    exact ⟨rfl, (by (repeat (first | exact Below.refl _ _ | assumption | refine below_drewN ?_ _ | refine Below.setCell ?_ (by first | omega | (simp <;> omega)) _ | refine Below.alloc ?_ (by first | omega | (simp <;> omega)) _)))⟩
  have e : hasB X Y Z x y z = true := by unfold hasB; rw [h0, h1, h2]; rfl
  rw [e]
  clear e h0 h1 h2
  go_enter Try.func58, Try.ntmps58
  go_wp2_with fail
  refine wp_loop_rounds 4 ?_
  rw [rounds_succ]
  go_wp2_with fail
  rw [rounds_succ]
  go_wp2_with fail
  rw [rounds_succ]
  go_wp2_with fail
  rw [rounds_succ]
  go_wp2_with fail
  go_ret
  exact ⟨rfl, (by (repeat (first | exact Below.refl _ _ | assumption | refine below_drewN ?_ _ | refine Below.setCell ?_ (by first | omega | (simp <;> omega)) _ | refine Below.alloc ?_ (by first | omega | (simp <;> omega)) _)))⟩
set_option maxHeartbeats 1000000 in
theorem indexOf_ok (X Y Z x y z : Int) (w : World) (hX : 1 ≤ X ∧ X ≤ 16) (hY : 1 ≤ Y ∧ Y ≤ 16) (hZ : 1 ≤ Z ∧ Z ≤ 16) (hx : 0 ≤ x ∧ x < X) (hy : 0 ≤ y ∧ y < Y) (hz : 0 ≤ z ∧ z < Z) :
    Calls Try.prog 59 #[ext3 X Y Z, spot3 x y z] w (fun e w' => e = .returned (.int .i64 (idxN X Y x y z)) ∧ Below w.heap.size w w') := by
  obtain ⟨⟨h1, h2⟩, ⟨h3, h4⟩, ⟨h5, h6⟩, h7, h8⟩ := idx_bd hX hY hZ hx hy hz
  have hP := (prod_bd hX hY hZ).2.2
  unfold idxN at h7 h8 ⊢
  have h9 : x + X * (y + Y * z) ≤ 4096 := by omega
  clear h8 hP
  go_enter Try.func59, Try.ntmps59
  go_wp2_with fail
  go_ret
  exact ⟨rfl, (by (repeat (first | exact Below.refl _ _ | assumption | refine below_drewN ?_ _ | refine Below.setCell ?_ (by first | omega | (simp <;> omega)) _ | refine Below.alloc ?_ (by first | omega | (simp <;> omega)) _)))⟩
end Go.Proofs.Ytnhcgjjcbdjofab
