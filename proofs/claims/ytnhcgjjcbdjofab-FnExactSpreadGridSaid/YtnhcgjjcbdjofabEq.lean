/- Numbers that are the same: tests tell the same. No program in sight. -/
import Derived.Test.YtnhcgjjcbdjofabFloat
namespace Go.Proofs.FX
open Go
theorem fin_eqv {k : FloatKind} {x y : Nat} (h : Eqv k x y) : fin k x = fin k y := by
  rcases h.cases with rfl | ⟨h1, h2⟩
  · rfl
  · have f1 : fin k x = false := by
      cases hf : fin k x with
      | false => rfl
      | true => rw [fin_num hf] at h1; cases h1
    have f2 : fin k y = false := by
      cases hf : fin k y with
      | false => rfl
      | true => rw [fin_num hf] at h2; cases h2
    rw [f1, f2]
theorem feq_eqv {k : FloatKind} {x x' y y' : Nat} (h : Eqv k x x') (g : Eqv k y y') : feq k x y = feq k x' y' := by unfold feq; rw [order_eqv h g]
theorem flt_eqv {k : FloatKind} {x x' y y' : Nat} (h : Eqv k x x') (g : Eqv k y y') : flt k x y = flt k x' y' := by unfold flt; rw [order_eqv h g]
theorem fgt_eqv {k : FloatKind} {x x' y y' : Nat} (h : Eqv k x x') (g : Eqv k y y') : fgt k x y = fgt k x' y' := by unfold fgt; rw [order_eqv h g]
theorem quo_zero : fin .f32 (fop .quo .f32 1065353216 0) = false ∧ fin .f32 (fop .quo .f32 1065353216 2147483648) = false := by decide +kernel
/-- 1 through a number that is zero is not finite. -/
theorem quo_zero_of {r : Nat} (hr : r < 4294967296) (h : feq .f32 r 0 = true) : fin .f32 (fop .quo .f32 1065353216 r) = false := by
  have := (zero32 hr).eq
  unfold feq at h
  rw [this, decide_eq_true_iff] at h
  rcases (by omega : r = 0 ∨ r = 2147483648) with rfl | rfl
  · exact quo_zero.1
  · exact quo_zero.2
end Go.Proofs.FX
