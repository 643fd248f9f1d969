/- Logarithms: halves and doubles are exact; bounds. -/
import Derived.Test.YtibfpihmmcggeabAngle
import Derived.Test.YtibfpihmmcggeabSineWalk
namespace Go.Proofs.FX
open Go Ieee
abbrev twoF : Nat := 4611686018427387904
abbrev lnF : Nat := 4604418534313441775
abbrev r15 : Nat := 4609434218613702656
abbrev r075 : Nat := 4604930618986332160
theorem magR_normal (f : Format) (r : Nat) (h : f.binade ≤ r) : Fm.magR f (r + f.binade) = Fm.magR f r * 2 := by
  have hB := Fm.binade_pos f
  unfold Fm.magR
  rw [if_neg (by omega), if_neg (by omega), Nat.add_mod_right, Nat.add_div_right _ hB]
  have h1 : 1 ≤ r / f.binade := (Nat.one_le_div_iff hB).2 h
  rw [Nat.mul_assoc]
  congr 1
  rw [show (r / f.binade).succ - 1 = (r / f.binade - 1) + 1 by omega, Nat.pow_succ]
theorem two_facts : rung .f64 twoF = twoF ∧ Fm.neg FloatKind.f64.format twoF = false ∧ Fm.magR FloatKind.f64.format twoF = sc 1075 ∧ FloatKind.f64.format.read twoF = .number false 4503599627370496 (-51) := by
  refine ⟨by decide +kernel, by decide +kernel, ?_, by decide +kernel⟩
  have h : top .f64 1 = twoF := by decide +kernel
  rw [← h, magR_top]; rfl
/-- A positive number, by its bits. -/
theorem pos_facts {y : Nat} (h : y < 9218868437227405312) : rung .f64 y = y ∧ Fm.neg FloatKind.f64.format y = false ∧ isNan .f64 y = false ∧ fin .f64 y = true := by
  have e : rung .f64 y = y := by rw [rung64]; omega
  refine ⟨e, ?_, ?_, ?_⟩
  · have := neg64 (x := y) (by omega)
    rw [show Fm.neg FloatKind.f64.format y = neg .f64 y from rfl, this, decide_eq_false (by omega)]
  · rw [isNan64, decide_eq_false]; omega
  · exact fin_iff.2 (by rw [e, inf64]; exact h)
theorem word_pos {r : Nat} (h : r < 9218868437227405312) : FloatKind.f64.format.word false r = r := by
  obtain ⟨e1, e2, -, -⟩ := pos_facts h
  have := word_of .f64 (b := r) (by rw [width64]; omega)
  rwa [show neg .f64 r = false from e2, e1] at this
theorem dbl_exact {y z : Nat} (h1 : 4503599627370496 ≤ y) (hz : y + 4503599627370496 = z) (h2 : z < 9218868437227405312) : fop .mul .f64 y twoF = z := by
  obtain ⟨e1, e2, -, -⟩ := pos_facts (y := y) (by omega)
  obtain ⟨t1, t2, t3, -⟩ := two_facts
  have hm := magR_normal FloatKind.f64.format y (by rw [binade64]; exact h1)
  rw [binade64, hz] at hm
  have hn := Fm.nearest_magR FloatKind.f64.format false z (by rw [inf64]; omega)
  rw [hm, show (2 : Nat) = 2 ^ 1 from rfl, Fm.nearest_scale, word_pos h2] at hn
  have hy : y < 9218868437227405312 := by omega
  clear hz h1 h2
  unfold fop floatBits
  simp only
  rw [Fm.mul_val FloatKind.f64.format (by show rung .f64 y < _; rw [e1, inf64]; exact hy) (by show rung .f64 twoF < _; rw [t1]; decide +kernel)]
  rw [Option.getD_some]
  rw [e2, t2, show Fm.rung FloatKind.f64.format y = y from e1, show Fm.rung FloatKind.f64.format twoF = twoF from t1, t3, nearest_scale']
  have ep : (-1074 : Int) + -1074 + ((1075 : Nat) : Int) = -1074 + ((1 : Nat) : Int) := by omega
  rw [← hn, least64, ep]
  rfl
theorem half_exact {y : Nat} (h1 : 9007199254740992 ≤ y) (h2 : y < 9218868437227405312) : fop .quo .f64 y twoF = y - 4503599627370496 := by
  obtain ⟨e1, e2, -, -⟩ := pos_facts h2
  obtain ⟨t1, t2, -, t4⟩ := two_facts
  have hrd : ∃ m i : Nat, FloatKind.f64.format.read y = .number false m (FloatKind.f64.format.leastPlace + i) ∧ m * 2 ^ i = Fm.magR FloatKind.f64.format y ∧ m ≠ 0 ∧ m < 9007199254740992 := by
    refine ⟨4503599627370496 + y % 4503599627370496, y / 4503599627370496 - 1, ?_, ?_, by omega, by omega⟩
    · unfold Ieee.Format.read
      dsimp only
      rw [top64, binade64, inf64, show y % 9223372036854775808 = y by omega, if_neg (by omega), if_pos h2]
      rw [show (y / 9223372036854775808 % 2 == 1) = false by rw [beq_eq_false_iff_ne]; omega]
    · unfold Fm.magR
      rw [binade64, if_neg (by omega)]
  obtain ⟨m, i, hr, hm, m0, hm2⟩ := hrd
  unfold fop floatBits
  simp only [Ieee.Format.div]
  rw [hr, t4]
  unfold Ieee.Datum.quotient
  dsimp only
  rw [if_neg (by decide)]
  have hl : m.log2 ≤ 52 := by
    have := Nat.log2_lt m0 |>.2 (show m < 2 ^ 53 by omega)
    omega
  have hfb : FloatKind.f64.format.fractionBits = 52 := by decide +kernel
  have hnl : (4503599627370496 : Nat).log2 = 52 := by decide +kernel
  rw [hfb, hnl]
  obtain ⟨q, hq⟩ : ∃ q, 52 + 2 + 52 - m.log2 = q + 52 := ⟨54 - m.log2, by omega⟩
  rw [hq]
  have hsh : m <<< (q + 52) = (m * 2 ^ q) * 4503599627370496 := by
    rw [Nat.shiftLeft_eq, Nat.pow_add, ← Nat.mul_assoc]
  rw [hsh, Nat.mul_div_cancel _ (by decide), Nat.mul_mod_left]
  simp only [bne_self_eq_false, Bool.toNat_false, Nat.add_zero]
  rw [show 2 * (m * 2 ^ q) = m * 2 ^ (q + 1) by rw [Nat.pow_succ]; simp only [Nat.mul_comm, Nat.mul_left_comm]]
  simp only [Option.map_some, Option.getD_some, Ieee.Format.write]
  rw [Fm.nearest_scale]
  have hv := magR_normal FloatKind.f64.format (y - 4503599627370496) (by rw [binade64]; omega)
  rw [binade64, show y - 4503599627370496 + 4503599627370496 = y by omega, ← hm] at hv
  have hn := Fm.nearest_magR FloatKind.f64.format false (y - 4503599627370496) (by rw [inf64]; omega)
  rw [word_pos (by omega)] at hn
  rw [← hn]
  have e3 : FloatKind.f64.format.nearest false (m * 2 ^ i) (FloatKind.f64.format.leastPlace - 1) = FloatKind.f64.format.nearest false (Fm.magR FloatKind.f64.format (y - 4503599627370496)) FloatKind.f64.format.leastPlace := by
    rw [hv, show (2 : Nat) = 2 ^ 1 from rfl, Fm.nearest_scale]
    congr 1
  rw [← e3, Fm.nearest_scale, least64]
  have ep : (-1074 : Int) + (i : Int) - (-51) - ((q + 52 : Nat) : Int) - 1 + ((q + 1 : Nat) : Int) = -1074 - 1 + (i : Int) := by omega
  rw [← ep]
end Go.Proofs.FX
