/- Parts of whole numbers; opposites narrowed. -/
import Derived.Test.YtaamfjokkphckabGreatDoorDiv
import Derived.Laws.FloatArith
namespace Go.Proofs.FX
open Go Ieee
set_option maxRecDepth 100000 in
theorem cut_zero (s : Bool) (n d : Nat) : Toward.zero.cut s n d = n / 2 ^ d := by
  unfold Toward.cut
  simp only [Bool.toNat_false, Nat.add_zero, Nat.one_shiftLeft]
  rcases Nat.le_total d (n.log2 + 2) with h | h
  · rw [Nat.min_eq_left h]
  · rw [Nat.min_eq_right h]
    have h1 : n < 2 ^ (n.log2 + 1) := Nat.lt_log2_self
    have h2 : (2 : Nat) ^ (n.log2 + 1) ≤ 2 ^ (n.log2 + 2) := Nat.pow_le_pow_right (by omega) (by omega)
    have h3 : (2 : Nat) ^ (n.log2 + 2) ≤ 2 ^ d := Nat.pow_le_pow_right (by omega) h
    rw [Nat.div_eq_of_lt (by omega), Nat.div_eq_of_lt (by omega)]
set_option maxRecDepth 100000 in
theorem sc_div1 (m : Nat) {i L : Nat} (h : L ≤ i) : m * 2 ^ (i - L) = m * 2 ^ i / sc L := by
  unfold sc
  obtain ⟨c, rfl⟩ : ∃ c, i = c + L := ⟨i - L, by omega⟩
  rw [Nat.add_sub_cancel, Nat.pow_add, ← Nat.mul_assoc, Nat.mul_div_cancel _ (Nat.two_pow_pos _)]
set_option maxRecDepth 100000 in
theorem sc_div2 (m : Nat) {i L : Nat} (h : i ≤ L) : m / 2 ^ (L - i) = m * 2 ^ i / sc L := by
  unfold sc
  obtain ⟨c, rfl⟩ : ∃ c, L = c + i := ⟨L - i, by omega⟩
  rw [Nat.add_sub_cancel, Nat.pow_add, Nat.mul_div_mul_right _ _ (Nat.two_pow_pos _)]
set_option maxRecDepth 100000 in
theorem mul_sc_lt' {t a b : Nat} (h : t < sc b) : t * sc a < sc (a + b) := by
  rw [sc_add, Nat.mul_comm]
  exact Nat.mul_lt_mul_of_pos_left h (sc_pos _)
set_option maxRecDepth 100000 in
theorem magR_exists' (f : Format) (q s : Nat) (h : s < 2 * f.binade) : ∃ r, Fm.magR f r = s * sc q := Fm.magR_exists f q s h
set_option maxRecDepth 100000 in
theorem nearest_scale' (f : Format) (s : Bool) (m e : Nat) (p : Int) : f.nearest s (m * sc e) p = f.nearest s m (p + e) := Fm.nearest_scale f s m e p
/-- The whole number in a number, without its sign; with it. -/
def tzN (y : Nat) : Nat := Fm.magR FloatKind.f64.format (rung .f64 y) / sc 1074
def tz (y : Nat) : Int := if Fm.neg FloatKind.f64.format y then -(tzN y : Int) else tzN y
set_option maxRecDepth 100000 in
theorem mag52 {y : Nat} (h : rung .f64 y < top .f64 52) : Fm.magR FloatKind.f64.format (rung .f64 y) < sc (1074 + 52) := by
  have h1 := Fm.magR_lt FloatKind.f64.format h
  rw [magR_top] at h1; exact h1
set_option maxRecDepth 100000 in
theorem tzN_lt {y : Nat} (h : rung .f64 y < top .f64 52) : tzN y < 4503599627370496 := by
  unfold tzN
  rw [Nat.div_lt_iff_lt_mul (sc_pos _)]
  have := mag52 h
  have e : sc (1074 + 52) = 4503599627370496 * sc 1074 := by
    rw [sc_add, Nat.mul_comm, show sc 52 = 4503599627370496 from rfl]
  omega
set_option maxRecDepth 100000 in
theorem trunc_val {y : Nat} (h : rung .f64 y < top .f64 52) : floatToIntVal .f64 y .i64 = some (tz y) := by
  have ht : top .f64 52 ≤ FloatKind.f64.format.infRung := by decide +kernel
  have hlt := tzN_lt h
  obtain ⟨m, i, hr, hm, _⟩ := Fm.read_num FloatKind.f64.format (b := y) (by exact Nat.lt_of_lt_of_le h ht)
  have hN : Toward.zero.cut (Fm.neg FloatKind.f64.format y) (m <<< (FloatKind.f64.format.leastPlace + (i : Int)).toNat) (-(FloatKind.f64.format.leastPlace + (i : Int))).toNat = tzN y := by
    rw [cut_zero, Nat.shiftLeft_eq]
    unfold tzN
    have hm' : m * 2 ^ i = Fm.magR FloatKind.f64.format (rung .f64 y) := hm
    rw [← hm', least64]
    rcases Nat.le_total 1074 i with hi | hi
    · rw [show (-((-1074 : Int) + (i : Int))).toNat = 0 by omega, show ((-1074 : Int) + (i : Int)).toNat = i - 1074 by omega, Nat.pow_zero, Nat.div_one]
      exact sc_div1 m hi
    · rw [show (-((-1074 : Int) + (i : Int))).toNat = 1074 - i by omega, show ((-1074 : Int) + (i : Int)).toNat = 0 by omega, Nat.pow_zero, Nat.mul_one]
      exact sc_div2 m hi
  unfold floatToIntVal
  have hd : (FloatKind.f64.decode y).toInt .zero = some (tz y) := by
    show (FloatKind.f64.format.read y).toInt .zero = _
    rw [hr]
    unfold Datum.toInt Datum.integral
    simp only
    rw [hN]
    unfold signed tz
    simp only [Nat.shiftLeft_zero]
  rw [hd]
  simp only
  rw [if_pos]
  unfold tz
  have e1 : IntKind.i64.min = -9223372036854775808 := by decide +kernel
  have e2 : IntKind.i64.max = 9223372036854775807 := by decide +kernel
  rw [e1, e2]
  split <;> omega
set_option maxRecDepth 100000 in
/-- A whole number as a number, exactly. -/
theorem whole_val {y : Nat} (h : rung .f64 y < top .f64 52) : ∃ r, floatOfInt .f64 (tz y) = FloatKind.f64.format.word (decide (tz y < 0)) r ∧ Fm.magR FloatKind.f64.format r = tzN y * sc 1074 ∧ r < FloatKind.f64.format.infRung := by
  have hlt := tzN_lt h
  obtain ⟨r, hr⟩ := magR_exists' FloatKind.f64.format 1074 (tzN y) (by rw [binade64]; omega)
  have hri : r < FloatKind.f64.format.infRung := by
    refine Nat.lt_of_not_le fun hc => ?_
    have h1 : ¬ Fm.magR FloatKind.f64.format r < Fm.magR FloatKind.f64.format (top .f64 52) := fun h2 => by
      have := (Fm.magR_lt_iff FloatKind.f64.format).1 h2
      have ht : top .f64 52 ≤ FloatKind.f64.format.infRung := by decide +kernel
      omega
    rw [hr, magR_top] at h1
    have h3 : tzN y * sc 1074 < sc (lp .f64 + 52) := by
      exact mul_sc_lt' (a := 1074) (b := 52) hlt
    exact h1 h3
  refine ⟨r, ?_, hr, hri⟩
  have e : (tz y).natAbs = tzN y := by unfold tz; split <;> omega
  show FloatKind.f64.format.nearest (decide (tz y < 0)) (tz y).natAbs 0 = _
  rw [e, ← Fm.nearest_magR FloatKind.f64.format _ r (Nat.le_of_lt hri), hr, nearest_scale', least64]
  rfl
set_option maxRecDepth 100000 in
theorem frac_bd {y : Nat} (h : rung .f64 y < top .f64 52) : Bd .f64 0 (fop .sub .f64 y (floatOfInt .f64 (tz y))) := by
  have ht : top .f64 52 ≤ FloatKind.f64.format.infRung := by decide +kernel
  obtain ⟨r, hw, hm, hr⟩ := whole_val h
  have hrs : r < FloatKind.f64.format.signWeight := Nat.lt_trans hr (inf_lt_top .f64)
  have h2 : rung .f64 (floatOfInt .f64 (tz y)) = r := by rw [hw]; exact rung_word .f64 _ r hrs
  have h3 : Fm.neg FloatKind.f64.format (floatOfInt .f64 (tz y)) = decide (tz y < 0) := by rw [hw]; exact neg_word .f64 _ r hrs
  unfold fop floatBits
  simp only
  rw [Fm.sub_val FloatKind.f64.format (a := y) (Nat.lt_of_lt_of_le h ht) (by show rung .f64 _ < _; rw [h2]; exact hr)]
  simp only [Option.getD_some]
  have hv : (Fm.val FloatKind.f64.format y - Fm.val FloatKind.f64.format (floatOfInt .f64 (tz y))).natAbs < sc 1074 := by
    unfold Fm.val
    have h2' : Fm.rung FloatKind.f64.format (floatOfInt .f64 (tz y)) = r := h2
    rw [h3, h2', hm]
    have hdm := Nat.div_add_mod (Fm.magR FloatKind.f64.format (rung .f64 y)) (sc 1074)
    have hml := Nat.mod_lt (Fm.magR FloatKind.f64.format (rung .f64 y)) (sc_pos 1074)
    have hq : tzN y = Fm.magR FloatKind.f64.format (rung .f64 y) / sc 1074 := rfl
    rw [← hq, Nat.mul_comm] at hdm
    have hM : Fm.magR FloatKind.f64.format (Fm.rung FloatKind.f64.format y) = Fm.magR FloatKind.f64.format (rung .f64 y) := rfl
    rw [hM]
    generalize Fm.magR FloatKind.f64.format (rung .f64 y) = M at *
    unfold tz
    generalize tzN y = t at *
    clear hq
    generalize hP : t * sc 1074 = P at *
    have hz : t = 0 → P = 0 := by rintro rfl; rw [← hP]; simp
    generalize sc 1074 = S at *
    cases hs : Fm.neg FloatKind.f64.format y
    · simp only [Bool.false_eq_true, if_false]
      rw [if_neg (by simp)]
      omega
    · simp only [if_true]
      by_cases h0 : t = 0
      · have := hz h0
        subst h0
        simp
        omega
      · rw [if_pos (by simp; omega)]
        omega
  obtain ⟨r', hr', hw'⟩ := nearest_bd .f64 (if Fm.val FloatKind.f64.format y - Fm.val FloatKind.f64.format (floatOfInt .f64 (tz y)) = 0 then Fm.neg FloatKind.f64.format y && !Fm.neg FloatKind.f64.format (floatOfInt .f64 (tz y)) else decide (Fm.val FloatKind.f64.format y - Fm.val FloatKind.f64.format (floatOfInt .f64 (tz y)) < 0)) (Fm.val FloatKind.f64.format y - Fm.val FloatKind.f64.format (floatOfInt .f64 (tz y))).natAbs FloatKind.f64.format.leastPlace 0 1074 0 (by rw [least64]; rfl) (by
    rw [show sc 0 = 1 from rfl, Nat.mul_one, Nat.zero_add]; exact Nat.le_of_lt hv)
  rw [hw']; exact bd_word .f64 hr' (by decide +kernel)
set_option maxRecDepth 100000 in
/-- The two signs of a rounded number differ in the sign alone. -/
theorem nearest_signs (k : FloatKind) (m : Nat) (p : Int) : ∃ r, r ≤ k.format.infRung ∧ ∀ s, k.format.nearest s m p = k.format.word s r := by
  by_cases h : m = 0
  · refine ⟨0, Nat.zero_le _, fun s => ?_⟩
    unfold Format.nearest; rw [if_pos h]
  · exact ⟨_, Nat.min_le_right _ _, fun s => Fm.nearest_eq k.format s m p h⟩
set_option maxRecDepth 100000 in
theorem narrow_num {b : Nat} (h : Bd .f64 127 b) (hn : isNan .f64 b = false) :
    narrow b = FloatKind.f32.format.nearest (Fm.neg FloatKind.f64.format b) (Fm.magR FloatKind.f64.format (rung .f64 b)) FloatKind.f64.format.leastPlace := by
  obtain ⟨h1, h2⟩ := h.mag hn (by decide +kernel)
  obtain ⟨m, i, hr, hm, _⟩ := Fm.read_num FloatKind.f64.format h1
  have hv := narrow_eq h
  unfold fconv at hv
  rw [hn] at hv
  simp only [Bool.false_eq_true, if_false] at hv
  unfold floatToFloatBits at hv
  rw [if_neg (by decide)] at hv
  have hd : FloatKind.f64.decode b = .number (Fm.neg FloatKind.f64.format b) m (FloatKind.f64.format.leastPlace + i) := hr
  simp only [hd] at hv
  split at hv
  · cases hv
  · have e := Option.some.inj hv
    rw [← e]
    show FloatKind.f32.format.nearest _ _ _ = _
    have hm' : m * 2 ^ i = Fm.magR FloatKind.f64.format (rung .f64 b) := hm
    rw [← hm', Fm.nearest_scale]
set_option maxRecDepth 100000 in
theorem negFloat64 (x : Nat) (h : x < 18446744073709551616) : Op.negFloat .f64 x = if x < 9223372036854775808 then x + 9223372036854775808 else x - 9223372036854775808 := by
  have e : Op.negFloat .f64 x = x ^^^ 2 ^ 63 := rfl
  rw [e, xor_top 63 x h]
  split <;> omega
set_option maxRecDepth 100000 in
theorem neg64_facts {x : Nat} (h : x < 18446744073709551616) : Op.negFloat .f64 x < 18446744073709551616 ∧ rung .f64 (Op.negFloat .f64 x) = rung .f64 x ∧ Fm.neg FloatKind.f64.format (Op.negFloat .f64 x) = !Fm.neg FloatKind.f64.format x ∧ isNan .f64 (Op.negFloat .f64 x) = isNan .f64 x := by
  have hl : Op.negFloat .f64 x < 18446744073709551616 := by rw [negFloat64 x h]; split <;> omega
  refine ⟨hl, ?_, ?_, ?_⟩
  · rw [rung64, rung64, negFloat64 x h]; split <;> omega
  · have e1 := neg64 h
    have e2 := neg64 hl
    show neg .f64 _ = !neg .f64 x
    rw [e1, e2, negFloat64 x h]
    by_cases hx : x < 9223372036854775808
    · rw [if_pos hx, decide_eq_true (by omega), decide_eq_false (by omega)]; rfl
    · rw [if_neg hx, decide_eq_false (by omega), decide_eq_true (by omega)]; rfl
  · rw [isNan64, isNan64, negFloat64 x h]
    apply decide_eq_decide.2
    split <;> omega
set_option maxRecDepth 100000 in
theorem flip_word (s : Bool) {r : Nat} (h : r < 2147483648) : flip32 (FloatKind.f32.format.word s r) = FloatKind.f32.format.word (!s) r := by
  have e (t : Bool) : FloatKind.f32.format.word t r = if t then 2147483648 + r else r := by
    unfold Format.word; rw [top32]
  rw [e, e]
  unfold flip32
  cases s
  · show (if r < 2147483648 then r + 2147483648 else r - 2147483648) = 2147483648 + r
    rw [if_pos h]; omega
  · show (if 2147483648 + r < 2147483648 then 2147483648 + r + 2147483648 else 2147483648 + r - 2147483648) = r
    rw [if_neg (by omega)]; omega
set_option maxRecDepth 100000 in
/-- Narrowing an opposite. -/
theorem narrow_neg {x : Nat} (hl : x < 18446744073709551616) (h : Bd .f64 127 x) : Bd .f64 127 (Op.negFloat .f64 x) ∧ Eqv .f32 (flip32 (narrow x)) (narrow (Op.negFloat .f64 x)) := by
  obtain ⟨h1, h2, h3, h4⟩ := neg64_facts hl
  have hb : Bd .f64 127 (Op.negFloat .f64 x) := by
    rcases h with h | h
    · exact .inl (by rw [h4]; exact h)
    · exact .inr (by rw [h2]; exact h)
  refine ⟨hb, ?_⟩
  cases hn : isNan .f64 x with
  | true =>
    have e1 : narrow x = qnan .f32 := by unfold narrow fconv; rw [hn]; rfl
    have e2 : narrow (Op.negFloat .f64 x) = qnan .f32 := by unfold narrow fconv; rw [h4, hn]; rfl
    rw [e1, e2]
    exact eqv_nan (by decide +kernel) (isNan_qnan _)
  | false =>
    rw [narrow_num h hn, narrow_num hb (by rw [h4]; exact hn), h3, h2]
    obtain ⟨r, hr, hw⟩ := nearest_signs .f32 (Fm.magR FloatKind.f64.format (rung .f64 x)) FloatKind.f64.format.leastPlace
    rw [hw, hw, flip_word _ (by rw [inf32] at hr; omega)]
    exact Eqv.refl _ _
end Go.Proofs.FX
