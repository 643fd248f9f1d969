/- Rounding to an integer, with ties to even, between a widening and a narrowing. -/
import Derived.Test.YtaamfjokkphckabGreatDoorRoot
import Derived.Laws.Externs
namespace Go.Proofs.FX
open Go Ieee
/-- The nearest integer, as a 64-bit number. -/
def rte (b : Nat) : Nat := if isNan .f64 b then qnan .f64 else FloatKind.f64.format.write ((FloatKind.f64.format.read b).integral .even)
def rndF (c : Nat) : Nat := narrow (rte (widen c))
theorem rte_eqv {x y : Nat} (h : Eqv .f64 x y) : rte x = rte y := by
  rcases h.cases with rfl | ⟨h1, h2⟩
  · rfl
  · unfold rte; rw [if_pos h1, if_pos h2]
theorem rndF_eqv {x y : Nat} (h : Eqv .f32 x y) : rndF x = rndF y := by unfold rndF; rw [widen_eqv h]
theorem rte_lt (b : Nat) : rte b < 18446744073709551616 := by
  unfold rte
  split
  · decide
  · exact width64 ▸ FloatKind.f64.format.write_lt _
theorem nearest_sc (f : Ieee.Format) (s : Bool) (m e : Nat) (p : Int) : f.nearest s (m * sc e) p = f.nearest s m (p + e) := Fm.nearest_scale f s m e p
theorem rte_parts {b : Nat} (hf : rung .f64 b < 9218868437227405312) : ∃ n d, rte b = FloatKind.f64.format.nearest (neg .f64 b) (Fm.cutE n d) 0 ∧ n * sc 1074 = Fm.magR FloatKind.f64.format (rung .f64 b) * sc d := by
  have hn : isNan .f64 b = false := isNan_rung.2 (by rw [inf64]; omega)
  obtain ⟨m, e, hr, hm, _⟩ := Fm.read_num FloatKind.f64.format (b := b) (by rw [inf64]; exact hf)
  refine ⟨m <<< (FloatKind.f64.format.leastPlace + (e : Int)).toNat, (-(FloatKind.f64.format.leastPlace + (e : Int))).toNat, ?_, ?_⟩
  · unfold rte
    rw [hn, hr]
    simp only [Bool.false_eq_true, if_false, Datum.integral, Format.write, Fm.cut_even]
  · rw [show Fm.magR FloatKind.f64.format (rung .f64 b) = m * sc e from hm.symm, Nat.shiftLeft_eq, least64]
    show m * sc _ * sc 1074 = m * sc e * sc _
    rw [Nat.mul_assoc, ← sc_add, Nat.mul_assoc, ← sc_add]
    congr 2
    omega
theorem rte_small {b : Nat} (hf : rung .f64 b < 9218868437227405312) (h : Fm.magR FloatKind.f64.format (rung .f64 b) < sc 1098) : Bd .f64 24 (rte b) := by
  obtain ⟨n, d, hr, hn⟩ := rte_parts hf
  have h1 : n < sc (24 + d) := by
    have h2 : n * sc 1074 < sc (24 + d) * sc 1074 := by
      rw [hn, ← sc_add, show 24 + d + 1074 = 1098 + d by omega, sc_add]
      exact Nat.mul_lt_mul_of_pos_right h (sc_pos d)
    exact Nat.lt_of_mul_lt_mul_right h2
  have h3 : n / 2 ^ d < sc 24 := by
    rw [Nat.div_lt_iff_lt_mul (Nat.two_pow_pos d)]
    have : sc 24 * 2 ^ d = sc (24 + d) := by rw [sc_add]; rfl
    rw [this]; exact h1
  have h4 : Fm.cutE n d ≤ sc 24 := by
    unfold Fm.cutE
    have : ∀ x : Bool, x.toNat ≤ 1 := fun x => by cases x <;> decide
    have := this (decide (2 ^ d < 2 * (n % 2 ^ d)) || (2 ^ d == 2 * (n % 2 ^ d) && n / 2 ^ d % 2 == 1))
    omega
  rw [hr]
  obtain ⟨r, hr2, hw⟩ := nearest_bd .f64 (neg .f64 b) (Fm.cutE n d) 0 24 0 0 (by omega) (by
    rw [show sc 0 = 1 from rfl, Nat.mul_one]; exact h4)
  rw [hw]
  exact bd_word .f64 hr2 (by decide +kernel)
theorem rte_whole {b W : Nat} (hb : b < 18446744073709551616) (hf : rung .f64 b < 9218868437227405312) (h : Fm.magR FloatKind.f64.format (rung .f64 b) = W * sc 1074) : rte b = b := by
  obtain ⟨n, d, hr, hn⟩ := rte_parts hf
  have h1 : n = W * 2 ^ d := by
    rw [h, Nat.mul_assoc, ← sc_add, show 1074 + d = d + 1074 by omega, sc_add, ← Nat.mul_assoc] at hn
    exact Nat.eq_of_mul_eq_mul_right (sc_pos 1074) hn
  rw [hr, h1, Fm.cutE_exact]
  have h2 := nearest_sc FloatKind.f64.format (neg .f64 b) W 1074 (-1074)
  rw [show (-1074 : Int) + (1074 : Nat) = 0 by omega] at h2
  rw [← h2, ← h, ← least64, Fm.nearest_magR _ _ _ (by rw [inf64]; omega)]
  exact word_of .f64 (by rw [width64]; exact hb)
theorem fconv_back {c : Nat} (hf : rung .f32 c < 2139095040) : ∃ v, fconv .f64 (widen c) .f32 = some v := by
  have w := widened c
  have hn : isNan .f64 (widen c) = false := by rw [w.nan]; exact isNan_rung.2 (by rw [inf32]; omega)
  obtain ⟨h1, h2⟩ := w.mag hf
  obtain ⟨m, i, hr, hm, _⟩ := Fm.read_num FloatKind.f64.format (b := widen c) (by rw [inf64]; exact h1)
  unfold fconv floatToFloatBits
  rw [hn, if_neg (by decide), if_neg (by decide)]
  simp only [FloatKind.decode, hr]
  have hm' : m * sc i = Fm.magR FloatKind.f32.format (rung .f32 c) * sc 925 := by
    have e : m * sc i = Fm.magR FloatKind.f64.format (rung .f64 (widen c)) := hm
    rw [e, h2]
  have hle : rung .f32 c ≤ FloatKind.f32.format.infRung := by rw [inf32]; omega
  have e1 : ∀ s, FloatKind.f32.encode (.number s m (FloatKind.f64.format.leastPlace + i)) = FloatKind.f32.format.word s (rung .f32 c) := by
    intro s
    show FloatKind.f32.format.nearest _ _ _ = _
    rw [least64, ← nearest_sc, hm', nearest_sc, show (-1074 : Int) + (925 : Nat) = FloatKind.f32.format.leastPlace by rw [least32]; rfl, Fm.nearest_magR _ _ _ hle]
  have hd : ∀ s, (FloatKind.f32.format.read (FloatKind.f32.format.word s (rung .f32 c))).isInfinity = false := by
    intro s
    have hlt : Fm.rung FloatKind.f32.format (FloatKind.f32.format.word s (rung .f32 c)) < FloatKind.f32.format.infRung := by
      have := rung_word .f32 s (rung .f32 c) (by have := inf_lt_top .f32; rw [inf32] at *; omega)
      rw [show Fm.rung FloatKind.f32.format (FloatKind.f32.format.word s (rung .f32 c)) = rung .f32 c from this, inf32]; exact hf
    obtain ⟨m', e', hq, _⟩ := Fm.read_num FloatKind.f32.format hlt
    rw [hq]; rfl
  have e2 := e1 (Fm.neg FloatKind.f64.format (widen c))
  have hd2 : (FloatKind.f32.format.read (FloatKind.f32.encode (.number (Fm.neg FloatKind.f64.format (widen c)) m (FloatKind.f64.format.leastPlace + i)))).isInfinity = false := by rw [e2]; exact hd _
  simp only [hd2]
  exact ⟨_, rfl⟩
theorem rnd_some (c : Nat) (hc : c < 4294967296) : ∃ v, fconv .f64 (rte (widen c)) .f32 = some v := by
  have w := widened c
  cases hn : isNan .f32 c with
  | true =>
    have : rte (widen c) = qnan .f64 := by unfold rte; rw [w.nan, hn]; rfl
    rw [this]; exact ⟨qnan .f32, by decide +kernel⟩
  | false =>
    rw [isNan32, decide_eq_false_iff_not] at hn
    by_cases hi : c % 2147483648 = 2139095040
    · rcases inf_cases hi hc with rfl | rfl
      · exact ⟨2139095040, by decide +kernel⟩
      · exact ⟨4286578688, by decide +kernel⟩
    · have hf : rung .f32 c < 2139095040 := by rw [rung32]; omega
      obtain ⟨h1, h2⟩ := w.mag hf
      by_cases hs : rung .f32 c < top .f32 24
      · refine narrow_some (bd_mono (rte_small h1 ?_) (by omega))
        rw [h2]
        have := Fm.magR_lt FloatKind.f32.format hs
        rw [magR_top] at this
        have h3 : Fm.magR FloatKind.f32.format (rung .f32 c) * sc 925 < sc (lp .f32 + 24) * sc 925 := Nat.mul_lt_mul_of_pos_right this (sc_pos _)
        rw [← sc_add] at h3
        exact h3
      · have ht : 1266679808 ≤ rung .f32 c := by
          have : top .f32 24 = 1266679808 := by decide +kernel
          omega
        have hW : ∃ W, Fm.magR FloatKind.f64.format (rung .f64 (widen c)) = W * sc 1074 := by
          refine ⟨(8388608 + rung .f32 c % 8388608) * sc (rung .f32 c / 8388608 - 150), ?_⟩
          rw [h2]
          unfold Fm.magR
          rw [binade32, if_neg (by omega)]
          show (8388608 + rung .f32 c % 8388608) * sc (rung .f32 c / 8388608 - 1) * sc 925 = _
          rw [Nat.mul_assoc, Nat.mul_assoc, ← sc_add, ← sc_add]
          congr 2
          omega
        obtain ⟨W, hW⟩ := hW
        rw [rte_whole (widened c).lt h1 hW]
        exact fconv_back hf
end Go.Proofs.FX
