/- Bounds on the sizes of numbers: no sum, product, quotient or root of small ones is too great to be narrowed. -/
import Derived.Test.YtnhcgjjcbdjofabFloat
namespace Go.Proofs.FX
open Go

namespace Fm
open Ieee
variable (f : Format)
/-- What is not more than a rung's worth is not rounded beyond it. -/
theorem nearest_le (s : Bool) (m k r : Nat) (h : m ≤ magR f r * 2 ^ k) : ∃ r', r' ≤ r ∧ f.nearest s m (f.leastPlace - k) = f.word s r' := by
  have hB := binade_pos f
  by_cases h0 : m = 0
  · subst h0
    exact ⟨0, Nat.zero_le _, by unfold Format.nearest; rfl⟩
  · rw [nearest_eq f s m _ h0]
    generalize hl : max (f.leastPlace - (k : Int) + (m.log2 : Int) - f.fractionBits) f.leastPlace = l
    obtain ⟨d, hd⟩ : ∃ d : Nat, l = f.leastPlace + d := ⟨(l - f.leastPlace).toNat, by omega⟩
    have e1 : (l - f.leastPlace).toNat = d := by omega
    have e2 : (f.leastPlace - (k : Int) - l).toNat = 0 := by omega
    have e3 : (l - (f.leastPlace - (k : Int))).toNat = d + k := by omega
    rw [e1, e2, e3, Nat.pow_zero, Nat.mul_one]
    have hlog := (Nat.log2_eq_iff h0).1 rfl
    have hBf : f.binade = 2 ^ f.fractionBits := rfl
    have hp : 0 < 2 ^ (d + k) := Nat.two_pow_pos _
    have hq : magR f (d * f.binade + m / 2 ^ (d + k)) = m / 2 ^ (d + k) * 2 ^ d := by
      have hlt : m / 2 ^ (d + k) < 2 * f.binade := by
        rw [Nat.div_lt_iff_lt_mul hp, hBf, show 2 * 2 ^ f.fractionBits * 2 ^ (d + k) = 2 ^ (f.fractionBits + 1 + (d + k)) by rw [Nat.pow_add 2 (f.fractionBits + 1), Nat.pow_succ, Nat.mul_comm 2]]
        exact Nat.lt_of_lt_of_le hlog.2 (Nat.pow_le_pow_right (by omega) (by omega))
      by_cases hd0 : d = 0
      · subst hd0
        generalize m / 2 ^ (0 + k) = q at *
        rw [Nat.zero_mul, Nat.zero_add, Nat.pow_zero, Nat.mul_one]
        unfold magR
        split
        · rfl
        · rename_i hge
          have a1 : q / f.binade = 1 := by rw [Nat.div_eq_iff hB]; omega
          have a2 : q % f.binade = q - f.binade := by rw [Nat.mod_eq_sub_mod (by omega), Nat.mod_eq_of_lt (by omega)]
          rw [a1, a2]; simp; omega
      · have hge : f.binade ≤ m / 2 ^ (d + k) := by
          rw [Nat.le_div_iff_mul_le hp, hBf, ← Nat.pow_add]
          exact Nat.le_trans (Nat.pow_le_pow_right (by omega) (by omega)) hlog.1
        generalize m / 2 ^ (d + k) = q at *
        have a1 : (d * f.binade + q) / f.binade = d + 1 := by
          rw [Nat.mul_comm, Nat.mul_add_div hB]
          have : q / f.binade = 1 := by rw [Nat.div_eq_iff hB]; omega
          omega
        have a2 : (d * f.binade + q) % f.binade = q - f.binade := by
          rw [Nat.mul_comm, Nat.mul_add_mod, Nat.mod_eq_sub_mod (by omega), Nat.mod_eq_of_lt (by omega)]
        unfold magR
        have hne : ¬ d * f.binade + q < f.binade := by omega
        rw [if_neg hne, a1, a2]
        congr 1
        omega
    have hdm := Nat.div_add_mod m (2 ^ (d + k))
    have hpk : 0 < 2 ^ k := Nat.two_pow_pos _
    have hle : d * f.binade + m / 2 ^ (d + k) ≤ r := by
      refine Nat.le_of_not_lt fun hc => ?_
      have h1 := magR_lt f hc
      rw [hq] at h1
      have h2 : m / 2 ^ (d + k) * 2 ^ d * 2 ^ k ≤ m := by
        rw [Nat.mul_assoc, ← Nat.pow_add]; exact Nat.div_mul_le_self _ _
      have h3 := Nat.mul_lt_mul_of_pos_right h1 hpk
      omega
    refine ⟨min (d * f.binade + cutE m (d + k)) f.infRung, ?_, rfl⟩
    refine Nat.le_trans (Nat.min_le_left _ _) ?_
    unfold cutE
    cases hup : (decide (2 ^ (d + k) < 2 * (m % 2 ^ (d + k))) || (2 ^ (d + k) == 2 * (m % 2 ^ (d + k)) && m / 2 ^ (d + k) % 2 == 1)) with
    | false => simpa using hle
    | true =>
      have hrest : 0 < m % 2 ^ (d + k) := by
        simp only [Bool.or_eq_true, decide_eq_true_eq, Bool.and_eq_true, beq_iff_eq] at hup
        rcases hup with hup | ⟨hup, _⟩ <;> omega
      have hlt : d * f.binade + m / 2 ^ (d + k) < r := by
        rw [← magR_lt_iff f, hq]
        refine Nat.lt_of_not_le fun hc => ?_
        have h2 : m / 2 ^ (d + k) * 2 ^ d * 2 ^ k < m := by
          rw [Nat.mul_assoc, ← Nat.pow_add, Nat.mul_comm]; omega
        have h3 := Nat.mul_le_mul_right (2 ^ k) hc
        omega
      simp only [Bool.toNat_true]
      omega
end Fm

/-- The rung of 2 to the power of e. -/
def bias : FloatKind → Nat
  | .f32 => 127
  | .f64 => 1023
def top (k : FloatKind) (e : Nat) : Nat := (e + bias k) * k.format.binade
def lp : FloatKind → Nat
  | .f32 => 149
  | .f64 => 1074
theorem lp_least (k : FloatKind) : k.format.leastPlace = -(lp k : Int) := by cases k <;> decide +kernel
theorem magR_top (k : FloatKind) (e : Nat) : Fm.magR k.format (top k e) = sc (lp k + e) := by
  have hB := Fm.binade_pos k.format
  unfold Fm.magR top sc
  have h1 : ¬ (e + bias k) * k.format.binade < k.format.binade := by
    have : 1 ≤ e + bias k := by cases k <;> simp [bias] <;> omega
    have := Nat.mul_le_mul_right k.format.binade this
    omega
  rw [if_neg h1, Nat.mul_mod_left, Nat.mul_div_cancel _ hB, Nat.add_zero]
  have hf : k.format.binade = 2 ^ k.format.fractionBits := rfl
  rw [hf, ← Nat.pow_add]
  congr 1
  cases k
  · show 23 + (e + 127 - 1) = 149 + e
    omega
  · show 52 + (e + 1023 - 1) = 1074 + e
    omega
/-- At most 2 to the power of e, or no number. -/
def Bd (k : FloatKind) (e b : Nat) : Prop := isNan k b = true ∨ rung k b ≤ top k e

theorem sc_add (a b : Nat) : sc (a + b) = sc a * sc b := by unfold sc; rw [Nat.pow_add]
theorem nearest_bd (k : FloatKind) (s : Bool) (m : Nat) (p : Int) (e N q : Nat) (hq : p + N = q) (h : m * sc q ≤ sc (e + N)) :
    ∃ r, r ≤ top k e ∧ k.format.nearest s m p = k.format.word s r := by
  have hs := Fm.nearest_scale k.format s m (q + lp k) (p - (q + lp k : Nat))
  rw [show p - ((q + lp k : Nat) : Int) + ((q + lp k : Nat) : Int) = p by omega] at hs
  rw [← hs, show p - ((q + lp k : Nat) : Int) = k.format.leastPlace - (N : Int) by rw [lp_least]; omega]
  refine Fm.nearest_le k.format s _ N (top k e) ?_
  rw [magR_top]
  show m * sc (q + lp k) ≤ sc (lp k + e) * sc N
  rw [← sc_add, sc_add q, ← Nat.mul_assoc, show lp k + e + N = e + N + lp k by omega, sc_add (e + N)]
  exact Nat.mul_le_mul_right _ h
theorem bd_word (k : FloatKind) {s : Bool} {r e : Nat} (hr : r ≤ top k e) (he : top k e ≤ k.format.infRung) : Bd k e (k.format.word s r) := by
  refine .inr ?_
  rw [rung_word k s r (Nat.lt_of_le_of_lt (Nat.le_trans hr he) (inf_lt_top k))]
  exact hr
theorem bd_mono {k : FloatKind} {e e' b : Nat} (h : Bd k e b) (hee : e ≤ e') : Bd k e' b := by
  rcases h with h | h
  · exact .inl h
  · exact .inr (Nat.le_trans h (Nat.mul_le_mul_right _ (by omega)))
theorem bd_qnan (k : FloatKind) (e : Nat) : Bd k e (qnan k) := .inl (isNan_qnan k)
theorem Bd.eqv {k : FloatKind} {e x y : Nat} (h : Bd k e x) (hx : Eqv k y x) : Bd k e y := by
  rcases hx.cases with rfl | ⟨h1, _⟩
  · exact h
  · exact .inl h1
/-- Small numbers: what a bound says of those that are no not-a-numbers. -/
theorem Bd.mag {k : FloatKind} {e b : Nat} (h : Bd k e b) (hn : isNan k b = false) (he : top k e < k.format.infRung) : rung k b < k.format.infRung ∧ Fm.magR k.format (rung k b) ≤ sc (lp k + e) := by
  rcases h with h | h
  · rw [h] at hn; cases hn
  · refine ⟨Nat.lt_of_le_of_lt h he, ?_⟩
    rw [← magR_top]
    exact Nat.le_of_not_lt fun hc => by have := (Fm.magR_lt_iff k.format).1 hc; omega
theorem fop_nan {op : BinOp} {k : FloatKind} {x y : Nat} (h : isNan k x = true ∨ isNan k y = true) : fop op k x y = qnan k := by
  unfold fop
  rcases h with h | h
  · rw [floatBits_nan_left _ h]; rfl
  · rw [floatBits_nan_right _ h]; rfl
theorem val_le {k : FloatKind} {b M : Nat} (h : Fm.magR k.format (rung k b) ≤ M) : (Fm.val k.format b).natAbs ≤ M := by
  unfold Fm.val; split <;> simp <;> exact h
theorem lp_place (k : FloatKind) : k.format.leastPlace + (lp k : Nat) = (0 : Nat) := by rw [lp_least]; omega

theorem bd_add {k : FloatKind} {e x y : Nat} (hx : Bd k e x) (hy : Bd k e y) (he : top k (e + 1) ≤ k.format.infRung) : Bd k (e + 1) (fop .add k x y) ∧ Bd k (e + 1) (fop .sub k x y) := by
  have he' : top k e < k.format.infRung := by
    have hB := Fm.binade_pos k.format
    unfold top at he ⊢
    rw [show e + 1 + bias k = (e + bias k) + 1 by omega, Nat.succ_mul] at he
    omega
  cases hn : isNan k x with
  | true => rw [fop_nan (.inl hn), fop_nan (.inl hn)]; exact ⟨bd_qnan _ _, bd_qnan _ _⟩
  | false =>
    cases hm : isNan k y with
    | true => rw [fop_nan (.inr hm), fop_nan (.inr hm)]; exact ⟨bd_qnan _ _, bd_qnan _ _⟩
    | false =>
      obtain ⟨h1, h2⟩ := hx.mag hn he'
      obtain ⟨h3, h4⟩ := hy.mag hm he'
      have v1 := val_le h2
      have v2 := val_le h4
      have hs : sc (lp k + e) + sc (lp k + e) = sc (e + 1 + lp k) := by
        unfold sc; rw [show e + 1 + lp k = (lp k + e) + 1 by omega, Nat.pow_succ]; omega
      constructor
      · unfold fop floatBits
        simp only
        rw [Fm.add_val _ h1 h3]
        simp only [Option.getD_some]
        obtain ⟨r, hr, hw⟩ := nearest_bd k (if Fm.val k.format x + Fm.val k.format y = 0 then Fm.neg k.format x && Fm.neg k.format y else decide (Fm.val k.format x + Fm.val k.format y < 0)) (Fm.val k.format x + Fm.val k.format y).natAbs k.format.leastPlace (e + 1) (lp k) 0 (lp_place k)
          (by unfold sc at *; rw [Nat.pow_zero, Nat.mul_one]; omega)
        rw [hw]; exact bd_word k hr he
      · unfold fop floatBits
        simp only
        rw [Fm.sub_val _ h1 h3]
        simp only [Option.getD_some]
        obtain ⟨r, hr, hw⟩ := nearest_bd k (if Fm.val k.format x - Fm.val k.format y = 0 then Fm.neg k.format x && !Fm.neg k.format y else decide (Fm.val k.format x - Fm.val k.format y < 0)) (Fm.val k.format x - Fm.val k.format y).natAbs k.format.leastPlace (e + 1) (lp k) 0 (lp_place k)
          (by unfold sc at *; rw [Nat.pow_zero, Nat.mul_one]; omega)
        rw [hw]; exact bd_word k hr he
theorem bd_mul {k : FloatKind} {e g x y : Nat} (hx : Bd k e x) (hy : Bd k g y) (he : top k (e + g) < k.format.infRung) : Bd k (e + g) (fop .mul k x y) := by
  have le1 : top k e < k.format.infRung := Nat.lt_of_le_of_lt (Nat.mul_le_mul_right _ (by omega)) he
  have le2 : top k g < k.format.infRung := Nat.lt_of_le_of_lt (Nat.mul_le_mul_right _ (by omega)) he
  cases hn : isNan k x with
  | true => rw [fop_nan (.inl hn)]; exact bd_qnan _ _
  | false =>
    cases hm : isNan k y with
    | true => rw [fop_nan (.inr hm)]; exact bd_qnan _ _
    | false =>
      obtain ⟨h1, h2⟩ := hx.mag hn le1
      obtain ⟨h3, h4⟩ := hy.mag hm le2
      unfold fop floatBits
      simp only
      rw [Fm.mul_val _ h1 h3]
      simp only [Option.getD_some]
      obtain ⟨r, hr, hw⟩ := nearest_bd k (Fm.neg k.format x ^^ Fm.neg k.format y) (Fm.magR k.format (rung k x) * Fm.magR k.format (rung k y)) (k.format.leastPlace + k.format.leastPlace) (e + g) (lp k + lp k) 0
        (by rw [lp_least]; omega) (by
          have := Nat.mul_le_mul h2 h4
          rw [← sc_add] at this
          rw [show sc 0 = 1 from rfl, Nat.mul_one, show e + g + (lp k + lp k) = lp k + e + (lp k + g) by omega]
          exact this)
      have hw' : k.format.nearest (Fm.neg k.format x ^^ Fm.neg k.format y) (Fm.magR k.format (Fm.rung k.format x) * Fm.magR k.format (Fm.rung k.format y)) (k.format.leastPlace + k.format.leastPlace) = k.format.word (Fm.neg k.format x ^^ Fm.neg k.format y) r := hw
      rw [hw']; exact bd_word k hr (Nat.le_of_lt he)
/-- A small number is narrowed. -/
theorem narrow_some {b : Nat} (h : Bd .f64 127 b) : ∃ v, fconv .f64 b .f32 = some v := by
  unfold fconv
  cases hn : isNan .f64 b with
  | true => exact ⟨_, rfl⟩
  | false =>
    have ht : top .f64 127 < FloatKind.f64.format.infRung := by decide +kernel
    obtain ⟨h1, h2⟩ := h.mag hn ht
    obtain ⟨m, i, hr, hm, _⟩ := Fm.read_num FloatKind.f64.format h1
    unfold floatToFloatBits
    rw [if_neg (by decide)]
    simp only [FloatKind.decode, hr]
    have ht2 : top .f32 127 < FloatKind.f32.format.infRung := by decide +kernel
    obtain ⟨r, hr2, hw⟩ := nearest_bd .f32 (Fm.neg FloatKind.f64.format b) m (FloatKind.f64.format.leastPlace + i) 127 (lp .f64) i (by rw [lp_least]; omega) (by
      have e1 : m * sc i = Fm.magR FloatKind.f64.format (rung .f64 b) := hm
      rw [e1, show 127 + lp .f64 = lp .f64 + 127 by omega]; exact h2)
    have hd : (FloatKind.f32.format.read (FloatKind.f32.encode (.number (Fm.neg FloatKind.f64.format b) m (FloatKind.f64.format.leastPlace + i)))).isInfinity = false := by
      have hlt : Fm.rung FloatKind.f32.format (FloatKind.f32.encode (.number (Fm.neg FloatKind.f64.format b) m (FloatKind.f64.format.leastPlace + i))) < FloatKind.f32.format.infRung := by
        show rung .f32 (FloatKind.f32.format.nearest _ _ _) < _
        rw [hw, rung_word .f32 _ r (by have := inf_lt_top .f32; omega)]
        omega
      obtain ⟨m', e', hq, _⟩ := Fm.read_num FloatKind.f32.format hlt
      rw [hq]; rfl
    simp only [hd]
    exact ⟨_, rfl⟩
def narrow (b : Nat) : Nat := (fconv .f64 b .f32).getD 0
theorem narrow_eq {b : Nat} (h : Bd .f64 127 b) : fconv .f64 b .f32 = some (narrow b) := by
  obtain ⟨v, hv⟩ := narrow_some h
  unfold narrow; rw [hv]; rfl
theorem narrow_eqv {x y : Nat} (h : Eqv .f64 x y) : narrow x = narrow y := by unfold narrow; rw [fconv_eqv h]
/-- A widened number is small. -/
theorem bd_widen (x : Nat) (hf : fin .f32 x = true ∨ isNan .f32 x = true) : Bd .f64 128 (widen x) := by
  have w := widened x
  rcases hf with hf | hf
  · refine .inr ?_
    have hlt := fin_iff.1 hf
    rw [inf32] at hlt
    obtain ⟨h1, h2⟩ := w.mag hlt
    refine Nat.le_of_not_lt fun hc => ?_
    have h3 := Fm.magR_lt FloatKind.f64.format hc
    rw [magR_top, h2] at h3
    have h4 := magR32_lt hlt
    have h5 : Fm.magR FloatKind.f32.format (rung .f32 x) * sc 925 < sc (lp .f64 + 128) := mul_sc_lt h4 (by show 277 + 925 ≤ 1074 + 128; omega)
    omega
  · exact .inl (by rw [w.nan]; exact hf)
end Go.Proofs.FX
