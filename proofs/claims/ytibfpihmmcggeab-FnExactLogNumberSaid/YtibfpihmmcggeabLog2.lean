/- Logarithms: the number near 1, the exponent, bounds. -/
import Derived.Test.YtibfpihmmcggeabLog
import Derived.Test.YtibfpihmmcggeabAngleWalk
import Derived.Test.YtibfpihmmcggeabSineAll
namespace Go.Proofs.FX
open Go Ieee
def nearN (y : Nat) : Nat := (((y : Int) - 4604930618986332160) % 4503599627370496 + 4604930618986332160).toNat
def eN (y : Nat) : Int := ((y : Int) - 4604930618986332160) / 4503599627370496
theorem near_def {y r : Nat} {e : Int} (h1 : r075 ≤ r) (h2 : r < r15) (h : (r : Int) + e * 4503599627370496 = y) : r = nearN y ∧ e = eN y := by
  unfold nearN eN
  unfold r075 at h1
  unfold r15 at h2
  omega
theorem near_in (y : Nat) : r075 ≤ nearN y ∧ nearN y < r15 := by
  unfold nearN r075 r15
  omega
theorem inc_exact : ∀ n : Nat, n < 1200 → fop .add .f64 (floatOfInt .f64 (n : Int)) oneF = floatOfInt .f64 ((n : Int) + 1) ∧ isNan .f64 (floatOfInt .f64 ((n : Int) + 1)) = false := by decide +kernel
theorem dec_exact : ∀ n : Nat, n < 1200 → fop .sub .f64 (floatOfInt .f64 (-(n : Int))) oneF = floatOfInt .f64 (-((n : Int) + 1)) ∧ isNan .f64 (floatOfInt .f64 (-((n : Int) + 1))) = false := by decide +kernel
theorem e_bd : ∀ n : Nat, n < 1200 → rung .f64 (floatOfInt .f64 (n : Int)) ≤ top .f64 11 ∧ rung .f64 (floatOfInt .f64 (-(n : Int))) ≤ top .f64 11 := by decide +kernel
theorem eN_bd {y : Nat} (h : y < 9218868437227405312) : Bd .f64 11 (floatOfInt .f64 (eN y)) := by
  have h1 : -1200 < eN y ∧ eN y < 1200 := by unfold eN; omega
  refine .inr ?_
  rcases Int.lt_or_le (eN y) 0 with h0 | h0
  · obtain ⟨n, hn⟩ : ∃ n : Nat, eN y = -(n : Int) := ⟨(-(eN y)).toNat, by omega⟩
    rw [hn]; exact (e_bd n (by omega)).2
  · obtain ⟨n, hn⟩ : ∃ n : Nat, eN y = (n : Int) := ⟨(eN y).toNat, by omega⟩
    rw [hn]; exact (e_bd n (by omega)).1
theorem ge_test {r : Nat} (h : r < 9218868437227405312) : (FloatKind.f64.format.order r 4609434218613702656 == some .gt || FloatKind.f64.format.order r 4609434218613702656 == some .eq) = decide (r15 ≤ r) := by
  have n1 := (pos_facts h).2.2.1
  have n2 : isNan .f64 4609434218613702656 = false := by decide +kernel
  have e1 := fgt_key n1 n2
  have e2 := feq_key n1 n2
  unfold fgt at e1
  unfold feq at e2
  rw [e1, e2, key64 (by omega), key64 (by omega), if_pos (by omega), if_pos (by omega), ← Bool.decide_or]
  apply decide_eq_decide.2
  unfold r15
  omega
theorem lt_test {r : Nat} (h : r < 9218868437227405312) : (FloatKind.f64.format.order r 4604930618986332160 == some .lt) = decide (r < r075) := by
  have n1 := (pos_facts h).2.2.1
  have n2 : isNan .f64 4604930618986332160 = false := by decide +kernel
  have e1 := flt_key n1 n2
  unfold flt at e1
  rw [e1, key64 (by omega), key64 (by omega), if_pos (by omega), if_pos (by omega)]
  apply decide_eq_decide.2
  unfold r075
  omega
theorem add_swap {x y : Nat} (hx : rung .f64 x < FloatKind.f64.format.infRung) (hy : rung .f64 y < FloatKind.f64.format.infRung) : fop .add .f64 x y = fop .add .f64 y x := by
  unfold fop floatBits
  simp only
  rw [Fm.add_val FloatKind.f64.format hx hy, Fm.add_val FloatKind.f64.format hy hx, Int.add_comm, Bool.and_comm]
def ld (j : Nat) : Nat := floatOfInt .f64 (25 - 2 * (j : Int))
def lq (u : Nat) : Nat → Nat
  | 0 => 0
  | j + 1 => fop .add .f64 (fop .quo .f64 oneF (ld j)) (fop .mul .f64 u (lq u j))
def lsN (r : Nat) : Nat := fop .quo .f64 (fop .sub .f64 r oneF) (fop .add .f64 r oneF)
def lgS (s : Nat) : Nat := fop .mul .f64 twoF (fop .mul .f64 s (lq (fop .mul .f64 s s) 13))
def logW (y : Nat) : Nat := fop .add .f64 (lgS (lsN (nearN y))) (fop .mul .f64 (floatOfInt .f64 (eN y)) lnF)
theorem ld_big : ∀ j, j < 13 → top .f64 0 ≤ rung .f64 (ld j) ∧ rung .f64 (ld j) < FloatKind.f64.format.infRung := by decide +kernel
theorem lq_eqv {u v : Nat} (h : Eqv .f64 u v) : ∀ j, lq u j = lq v j
  | 0 => rfl
  | j + 1 => by unfold lq; rw [fop_eqv h (show Eqv .f64 (lq u j) (lq v j) by rw [lq_eqv h j]; exact Eqv.refl _ _)]
theorem lgS_eqv {a b : Nat} (h : Eqv .f64 a b) : lgS a = lgS b := by
  unfold lgS
  rw [fop_eqv h h, fop_eqv h (Eqv.refl .f64 (lq (fop .mul .f64 b b) 13))]
theorem lq_bd {u : Nat} (h : Bd .f64 4 u) : ∀ j, j ≤ 13 → Bd .f64 (5 * j) (lq u j)
  | 0, _ => bd_zero
  | j + 1, hj => by
    have ih := lq_bd h j (by omega)
    have h1 := bd_mul h ih (top_small (by omega))
    have h2 := bd_div nm_consts.1.2 (ld_big j (by omega)).1 (ld_big j (by omega)).2 (top_small (by omega))
    exact bd_mono (bd_add (bd_mono h2 (Nat.zero_le _)) h1 (Nat.le_of_lt (top_small (by omega)))).1 (by omega)
theorem near_nm (y : Nat) : Nm 1 (nearN y) ∧ Fm.neg FloatKind.f64.format (nearN y) = false := by
  have h := near_in y
  unfold r075 r15 at h
  obtain ⟨e1, e2, e3, -⟩ := pos_facts (y := nearN y) (by omega)
  refine ⟨⟨e3, .inr ?_⟩, e2⟩
  rw [e1]
  have : top .f64 1 = 4611686018427387904 := by decide +kernel
  omega
theorem lsN_bd (y : Nat) : Bd .f64 2 (lsN (nearN y)) := by
  obtain ⟨hn, hs⟩ := near_nm y
  have h1 : Nm 1 oneF := nm_consts.1.mono (by omega)
  have ha := one_add hn (by omega) hs
  have hc : fop .add .f64 (nearN y) oneF = fop .add .f64 oneF (nearN y) := add_swap (hn.rung (by omega)) (h1.rung (by omega))
  unfold lsN
  rw [hc]
  exact bd_div (bd_add hn.2 h1.2 (Nat.le_of_lt (top_small (by omega)))).2 ha.2.2 (ha.1.rung (by omega)) (top_small (by omega))
theorem logW_bd {y : Nat} (h : y < 9218868437227405312) : Bd .f64 127 (logW y) := by
  have hs := lsN_bd y
  unfold logW lgS
  have hu := bd_mul hs hs (top_small (by omega))
  have hq := lq_bd hu 13 (by omega)
  have h2 : Bd .f64 1 twoF := .inr (by decide +kernel)
  have hl : Bd .f64 0 lnF := .inr (by decide +kernel)
  have h3 := bd_mul h2 (bd_mul hs hq (top_small (by omega))) (top_small (by omega))
  have h4 := bd_mul (eN_bd h) hl (top_small (by omega))
  exact bd_mono (bd_add h3 (bd_mono h4 (by omega)) (Nat.le_of_lt (top_small (by omega)))).1 (by omega)
def fbits : Value → Nat
  | .float _ b => b
  | _ => 0
end Go.Proofs.FX
