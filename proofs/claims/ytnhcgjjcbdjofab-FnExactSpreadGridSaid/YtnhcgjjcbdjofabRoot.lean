/- Square roots are small where what they are of is; narrowing them. -/
import Derived.Test.YtnhcgjjcbdjofabBound
import Derived.Test.YtnhcgjjcbdjofabNum
namespace Go.Proofs.FX
open Go Ieee
theorem rootFrom_sq (n : Nat) : ∀ (todo root : Nat), root * root ≤ n → Datum.rootFrom n todo root * Datum.rootFrom n todo root ≤ n
  | 0, root, h => h
  | todo + 1, root, h => by
    unfold Datum.rootFrom
    simp only
    by_cases hc : (root + 1 <<< todo) * (root + 1 <<< todo) ≤ n
    · rw [if_pos hc]; exact rootFrom_sq n todo _ hc
    · rw [if_neg hc]; exact rootFrom_sq n todo _ h
theorem root_bound {w m more i K R : Nat} {p : Int} (hK : K = 1202) (hR : R = 665) (hsq : w * w ≤ m * 2 ^ more) (hm : m * 2 ^ i ≤ sc K) (hp : 2 * p + 2 = -1074 + (i : Int) - (more : Int)) (h0 : m ≠ 0) (hq : 0 ≤ p + 600) :
    (2 * w + 1) * sc (p + 600).toNat ≤ sc R := by
  unfold sc at *
  have hi : i ≤ K := by
    refine Nat.le_of_not_lt fun hc => ?_
    have h1 : 2 ^ (K + 1) ≤ 2 ^ i := Nat.pow_le_pow_right (by omega) hc
    have h2 : 1 * 2 ^ i ≤ m * 2 ^ i := Nat.mul_le_mul_right _ (by omega)
    have h3 : 2 ^ K < 2 ^ (K + 1) := Nat.pow_lt_pow_right (by omega) (by omega)
    omega
  have hp2 : p ≤ 63 := by omega
  obtain ⟨A, hA⟩ : ∃ A : Nat, (A : Int) = 64 - p := ⟨(64 - p).toNat, by omega⟩
  have hw : w < 2 ^ A := by
    refine Nat.lt_of_not_le fun hc => ?_
    have h1 : 2 ^ A * 2 ^ A ≤ w * w := Nat.mul_le_mul hc hc
    have h2 : 2 ^ A * 2 ^ A * 2 ^ i ≤ m * 2 ^ more * 2 ^ i := Nat.mul_le_mul_right _ (Nat.le_trans h1 hsq)
    have h3 : m * 2 ^ more * 2 ^ i = m * 2 ^ i * 2 ^ more := by rw [Nat.mul_assoc, Nat.mul_comm (2 ^ more), ← Nat.mul_assoc]
    have h4 : m * 2 ^ i * 2 ^ more ≤ 2 ^ K * 2 ^ more := Nat.mul_le_mul_right _ hm
    rw [← Nat.pow_add, ← Nat.pow_add, h3] at h2
    rw [← Nat.pow_add] at h4
    have h5 : 2 ^ (K + more) < 2 ^ (A + A + i) := Nat.pow_lt_pow_right (by omega) (by omega)
    omega
  have h6 : 2 * w + 1 ≤ 2 ^ (A + 1) := by rw [Nat.pow_succ]; omega
  have h7 := Nat.mul_le_mul_right (2 ^ (p + 600).toNat) h6
  rw [← Nat.pow_add, show A + 1 + (p + 600).toNat = R by omega] at h7
  exact h7
theorem bd_sqrt {y : Nat} (h : Bd .f64 128 y) : Bd .f64 65 (fsqrt y) := by
  have ht : top .f64 65 ≤ FloatKind.f64.format.infRung := by decide +kernel
  cases hn : isNan .f64 y with
  | true => unfold fsqrt; rw [sqrt_nan hn]; exact bd_qnan _ _
  | false =>
    obtain ⟨h1, h2⟩ := h.mag hn (by decide +kernel)
    obtain ⟨m, i, hr, hm, _⟩ := Fm.read_num FloatKind.f64.format h1
    have e1 : m * 2 ^ i ≤ sc 1202 := by
      have e2 : m * 2 ^ i = Fm.magR FloatKind.f64.format (rung .f64 y) := hm
      rw [e2]; exact h2
    unfold fsqrt Ieee.Format.sqrt
    rw [show Ieee.double = FloatKind.f64.format from rfl, hr]
    unfold Ieee.Datum.root
    dsimp only
    by_cases m0 : m = 0
    · rw [if_pos m0]
      obtain ⟨r, hr2, hw⟩ := nearest_bd .f64 (Fm.neg FloatKind.f64.format y) m (FloatKind.f64.format.leastPlace + i) 65 1074 i (by rw [lp_least]; show -((1074 : Nat) : Int) + (i : Int) + ((1074 : Nat) : Int) = i; omega) (by rw [m0, Nat.zero_mul]; exact Nat.zero_le _)
      show Bd .f64 65 (FloatKind.f64.format.nearest _ _ _)
      rw [hw]; exact bd_word .f64 hr2 ht
    · rw [if_neg m0]
      cases hs : Fm.neg FloatKind.f64.format y with
      | true => exact bd_qnan _ _
      | false =>
        simp only [Bool.false_eq_true, if_false]
        generalize hm0 : 2 * (FloatKind.f64.format.fractionBits + 2) - m.log2 = more0
        have hmb : more0 ≤ 108 := by
          have : FloatKind.f64.format.fractionBits = 52 := by decide +kernel
          omega
        generalize hI : FloatKind.f64.format.leastPlace + (i : Int) = I
        have hI2 : I = -1074 + (i : Int) := by rw [← hI, lp_least]; rfl
        generalize hmo : more0 + ((I - (more0 : Int)) % 2).toNat = more
        have hmb2 : more ≤ 109 := by omega
        have hev : (I - (more : Int)) % 2 = 0 := by omega
        generalize hp : (I - (more : Int)) / 2 - 1 = p
        have hp2 : 2 * p + 2 = -1074 + (i : Int) - (more : Int) := by omega
        have hsq := rootFrom_sq (m <<< more) ((m <<< more).log2 / 2 + 1) 0 (Nat.zero_le _)
        generalize Datum.rootFrom (m <<< more) ((m <<< more).log2 / 2 + 1) 0 = w at hsq
        generalize hb : (w * w != m <<< more) = b
        rw [Nat.shiftLeft_eq] at hsq
        have hq : 0 ≤ p + 600 := by omega
        have hB := root_bound rfl rfl hsq e1 hp2 m0 hq
        obtain ⟨r, hr2, hw⟩ := nearest_bd .f64 false (2 * w + b.toNat) p 65 600 (p + 600).toNat (by omega) (by
          have h8 : (2 * w + b.toNat) * sc (p + 600).toNat ≤ (2 * w + 1) * sc (p + 600).toNat := Nat.mul_le_mul_right _ (by cases b <;> simp)
          exact Nat.le_trans h8 hB)
        show Bd .f64 65 (FloatKind.f64.format.nearest _ _ _)
        rw [hw]; exact bd_word .f64 hr2 ht
theorem inf_cases {x : Nat} (h : x % 2147483648 = 2139095040) (hx : x < 4294967296) : x = 2139095040 ∨ x = 4286578688 := by omega
theorem root_inf : fconv .f64 (fsqrt (widen 2139095040)) .f32 = some 2139095040 ∧ fconv .f64 (fsqrt (widen 4286578688)) .f32 = some (qnan .f32) := by decide +kernel
/-- The root of a 32-bit number is narrowed. -/
theorem root_narrow (x : Nat) (hx : x < 4294967296) : ∃ v, fconv .f64 (fsqrt (widen x)) .f32 = some v := by
  by_cases hf : fin .f32 x = true ∨ isNan .f32 x = true
  · exact narrow_some (bd_mono (bd_sqrt (bd_widen x hf)) (by omega))
  · have hr : x % 2147483648 = 2139095040 := by
      rw [fin32, isNan32, not_or] at hf
      simp only [decide_eq_true_eq] at hf
      omega
    rcases inf_cases hr hx with rfl | rfl
    · exact ⟨_, root_inf.1⟩
    · exact ⟨_, root_inf.2⟩
end Go.Proofs.FX
