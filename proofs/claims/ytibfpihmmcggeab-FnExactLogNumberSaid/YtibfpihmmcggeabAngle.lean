/- Bounds of angles. -/
import Derived.Test.YtibfpihmmcggeabSineFns
import Derived.Test.YtibfpihmmcggeabRoot
namespace Go.Proofs.FX
open Go Ieee
theorem le_log2_sc {L M : Nat} (h0 : M ≠ 0) (h : sc L ≤ M) : L ≤ M.log2 := by rw [Nat.le_log2 h0]; exact h
/-- What is at least 1 is not rounded below 1. -/
theorem nearest_one (s : Bool) (M : Nat) (h : sc 1074 ≤ M) : ∃ r, top .f64 0 ≤ r ∧ r ≤ FloatKind.f64.format.infRung ∧ FloatKind.f64.format.nearest s M FloatKind.f64.format.leastPlace = FloatKind.f64.format.word s r := by
  have h0 : M ≠ 0 := by have := sc_pos 1074; omega
  have hl : 1074 ≤ M.log2 := le_log2_sc h0 h
  refine ⟨_, ?_, Nat.min_le_right _ _, Fm.nearest_eq FloatKind.f64.format s M _ h0⟩
  have hfb : (FloatKind.f64.format.fractionBits : Int) = 52 := by decide +kernel
  have hti : top .f64 0 ≤ FloatKind.f64.format.infRung := by decide +kernel
  refine Nat.le_min.2 ⟨?_, hti⟩
  rw [hfb, least64, binade64]
  have e1 : max ((-1074 : Int) + (M.log2 : Int) - 52) (-1074) = -1074 + (M.log2 : Int) - 52 := by omega
  rw [e1, show ((-1074 : Int) - (-1074 + (M.log2 : Int) - 52)).toNat = 0 by omega, Nat.pow_zero, Nat.mul_one, show ((-1074 + (M.log2 : Int) - 52) - (-1074)).toNat = M.log2 - 52 by omega]
  have e2 : 4503599627370496 ≤ Fm.cutE M (M.log2 - 52) := by
    have h1 : 4503599627370496 ≤ M / 2 ^ (M.log2 - 52) := by
      rw [Nat.le_div_iff_mul_le (Nat.two_pow_pos _)]
      have h2 : 2 ^ M.log2 ≤ M := Nat.log2_self_le h0
      have h3 : 4503599627370496 * 2 ^ (M.log2 - 52) = 2 ^ M.log2 := by
        rw [show (4503599627370496 : Nat) = 2 ^ 52 from rfl, ← Nat.pow_add, show 52 + (M.log2 - 52) = M.log2 by omega]
      omega
    refine Nat.le_trans h1 ?_
    unfold Fm.cutE
    exact Nat.le_add_right _ _
  have e3 : top .f64 0 = 1023 * 4503599627370496 := by decide +kernel
  rw [e3]
  omega
theorem bd_quo_le {x y : Nat} (hxy : rung .f64 x ≤ rung .f64 y) (h0 : rung .f64 y ≠ 0) (hy2 : rung .f64 y < FloatKind.f64.format.infRung) : Nm 0 (fop .quo .f64 x y) := by
  obtain ⟨m, i, hr, hm, _⟩ := Fm.read_num FloatKind.f64.format (b := x) (Nat.lt_of_le_of_lt hxy hy2)
  obtain ⟨n, j, hs, hn', hz⟩ := Fm.read_num FloatKind.f64.format hy2
  have n0 : n ≠ 0 := fun h => h0 (hz.1 h)
  have hle : m * 2 ^ i ≤ n * 2 ^ (j + 0) := by
    rw [hm, Nat.add_zero, hn']
    exact Nat.le_of_not_lt fun hc => by have := (Fm.magR_lt_iff FloatKind.f64.format).1 hc; exact absurd this (Nat.not_lt.2 hxy)
  unfold fop floatBits
  simp only [Ieee.Format.div]
  rw [hr, hs]
  unfold Ieee.Datum.quotient
  dsimp only
  rw [if_neg n0]
  generalize hmore : FloatKind.f64.format.fractionBits + 2 + n.log2 - m.log2 = more
  have hB := quo_bound' (digits := FloatKind.f64.format.fractionBits + 2) hle n0 hmore.symm
  obtain ⟨r, hr2, hw⟩ := nearest_bd .f64 (Fm.neg FloatKind.f64.format x ^^ Fm.neg FloatKind.f64.format y) (2 * ((m <<< more) / n) + ((m <<< more) % n != 0).toNat) (FloatKind.f64.format.leastPlace + i - (FloatKind.f64.format.leastPlace + j) - more - 1) 0 (i + j + more + 1) (2 * i) (by omega) hB
  refine ⟨nearest_num _ _ _, ?_⟩
  show Bd .f64 0 (FloatKind.f64.format.nearest _ _ _)
  rw [hw]; exact bd_word .f64 hr2 (by decide +kernel)
/-- A root is not negative, but for -0. -/
theorem sqrt_num {y : Nat} (h : Nm 128 y) (hs : Fm.neg FloatKind.f64.format y = false) : Nm 128 (fsqrt y) ∧ Fm.neg FloatKind.f64.format (fsqrt y) = false := by
  have hb := bd_sqrt h.2
  have hr0 := h.rung (by omega)
  obtain ⟨m, i, hr, hm, _⟩ := Fm.read_num FloatKind.f64.format hr0
  have key : ∃ M p, fsqrt y = FloatKind.f64.format.nearest false M p := by
    unfold fsqrt Ieee.Format.sqrt
    rw [show Ieee.double = FloatKind.f64.format from rfl, hr, hs]
    unfold Ieee.Datum.root
    dsimp only
    by_cases m0 : m = 0
    · rw [if_pos m0]; exact ⟨_, _, rfl⟩
    · rw [if_neg m0]
      simp only [Bool.false_eq_true, if_false]
      exact ⟨_, _, rfl⟩
  obtain ⟨M, p, e⟩ := key
  obtain ⟨r, hri, hw⟩ := nearest_signs .f64 M p
  refine ⟨⟨by rw [e]; exact nearest_num _ _ _, bd_mono hb (by omega)⟩, ?_⟩
  rw [e, hw]
  exact neg_word .f64 false r (Nat.lt_of_le_of_lt hri (inf_lt_top .f64))
/-- 1 and what is not negative. -/
theorem one_add {e y : Nat} (h : Nm e y) (he : e ≤ 200) (hs : Fm.neg FloatKind.f64.format y = false) : Nm (e + 1) (fop .add .f64 oneF y) ∧ Fm.neg FloatKind.f64.format (fop .add .f64 oneF y) = false ∧ top .f64 0 ≤ rung .f64 (fop .add .f64 oneF y) := by
  have h1 : Nm e oneF := nm_consts.1.mono (by omega)
  have hN := (h1.add h (by omega)).1
  have v1 : Fm.val FloatKind.f64.format oneF = sc 1074 := by
    have hn : Fm.neg FloatKind.f64.format oneF = false := by decide +kernel
    unfold Fm.val
    rw [hn]
    have : Fm.magR FloatKind.f64.format (Fm.rung FloatKind.f64.format oneF) = sc 1074 := by
      rw [show Fm.rung FloatKind.f64.format oneF = top .f64 0 by decide +kernel, magR_top]; rfl
    simp only [Bool.false_eq_true, if_false]
    rw [this]
  have v2 : Fm.val FloatKind.f64.format y = (Fm.magR FloatKind.f64.format (Fm.rung FloatKind.f64.format y) : Int) := by
    unfold Fm.val; rw [hs]; rfl
  have hp := sc_pos 1074
  have e1 : ∃ M, sc 1074 ≤ M ∧ fop .add .f64 oneF y = FloatKind.f64.format.nearest false M FloatKind.f64.format.leastPlace := by
    unfold fop floatBits
    simp only
    rw [Fm.add_val FloatKind.f64.format (h1.rung (by omega)) (h.rung (by omega)), v1, v2]
    simp only [Option.getD_some]
    generalize Fm.magR FloatKind.f64.format (Fm.rung FloatKind.f64.format y) = Y
    generalize sc 1074 = S at *
    refine ⟨S + Y, by omega, ?_⟩
    rw [if_neg (by omega), show decide ((S : Int) + (Y : Int) < 0) = false by rw [decide_eq_false_iff_not]; omega, show ((S : Int) + (Y : Int)).natAbs = S + Y by omega]
  obtain ⟨M, hM, e2⟩ := e1
  obtain ⟨r, hr1, hr2, hw⟩ := nearest_one false M hM
  have hlt := Nat.lt_of_le_of_lt hr2 (inf_lt_top .f64)
  refine ⟨hN, ?_, ?_⟩
  · rw [e2, hw]; exact neg_word .f64 false r hlt
  · rw [e2, hw, rung_word .f64 false r hlt]; exact hr1
theorem square_pos {t : Nat} (h : Nm 0 t) : Nm 0 (fop .mul .f64 t t) ∧ Fm.neg FloatKind.f64.format (fop .mul .f64 t t) = false := by
  have hN := h.mul h (by omega)
  refine ⟨hN, ?_⟩
  have hr := h.rung (by omega)
  unfold fop floatBits
  simp only
  rw [Fm.mul_val FloatKind.f64.format hr hr]
  simp only [Option.getD_some, Bool.xor_self]
  obtain ⟨r, hri, hw⟩ := nearest_signs .f64 (Fm.magR FloatKind.f64.format (Fm.rung FloatKind.f64.format t) * Fm.magR FloatKind.f64.format (Fm.rung FloatKind.f64.format t)) (FloatKind.f64.format.leastPlace + FloatKind.f64.format.leastPlace)
  rw [hw]
  exact neg_word .f64 false r (Nat.lt_of_le_of_lt hri (inf_lt_top .f64))
def tstep (t : Nat) : Nat := fop .quo .f64 t (fop .add .f64 oneF (fsqrt (fop .add .f64 oneF (fop .mul .f64 t t))))
theorem tstep_bd {t : Nat} (h : Bd .f64 0 t) : Bd .f64 0 (tstep t) := by
  unfold tstep
  cases hn : isNan .f64 t with
  | true => rw [fop_nan (.inl hn)]; exact bd_qnan _ _
  | false =>
    obtain ⟨a1, a2⟩ := square_pos ⟨hn, h⟩
    obtain ⟨b1, b2, _⟩ := one_add a1 (by omega) a2
    obtain ⟨c1, c2⟩ := sqrt_num (b1.mono (by omega)) b2
    obtain ⟨d1, _, d3⟩ := one_add c1 (by omega) c2
    exact bd_div h d3 (d1.rung (by omega)) (by decide +kernel)
end Go.Proofs.FX
