/- Quotients by what is not less than 1 are not greater. -/
import Derived.Test.YtaamfjokkphckabGreatDoorBound
namespace Go.Proofs.FX
open Go Ieee
set_option maxRecDepth 100000 in
theorem quo_bound' {m n i j e more digits : Nat} (hmn : m * 2 ^ i ≤ n * 2 ^ (j + e)) (_hn0 : n ≠ 0) (hmore : more = digits + n.log2 - m.log2) :
    (2 * ((m <<< more) / n) + ((m <<< more) % n != 0).toNat) * 2 ^ (2 * i) ≤ 2 ^ (e + (i + j + more + 1)) := by
  by_cases h0 : m = 0
  · subst h0; simp
  have hlog : m.log2 + i ≤ n.log2 + j + e := by
    refine Nat.le_of_not_lt fun hc => ?_
    have h1 : 2 ^ (m.log2 + i) ≤ m * 2 ^ i := by rw [Nat.pow_add]; exact Nat.mul_le_mul_right _ (Nat.log2_self_le h0)
    have h2 : n * 2 ^ (j + e) < 2 ^ (n.log2 + 1 + (j + e)) := by rw [Nat.pow_add 2 (n.log2 + 1)]; exact Nat.mul_lt_mul_of_pos_right Nat.lt_log2_self (Nat.two_pow_pos _)
    have h3 : 2 ^ (n.log2 + 1 + (j + e)) ≤ 2 ^ (m.log2 + i) := Nat.pow_le_pow_right (by omega) (by omega)
    omega
  obtain ⟨T, hT⟩ : ∃ T : Nat, T + i = e + j + more := ⟨e + j + more - i, by omega⟩
  have hD : m <<< more ≤ n * 2 ^ T := by
    rw [Nat.shiftLeft_eq]
    refine Nat.le_of_mul_le_mul_right (c := 2 ^ i) ?_ (Nat.two_pow_pos i)
    rw [Nat.mul_assoc n, ← Nat.pow_add, hT, Nat.mul_assoc m, Nat.mul_comm (2 ^ more), ← Nat.mul_assoc, show e + j + more = j + e + more by omega, Nat.pow_add 2 (j + e), ← Nat.mul_assoc n]
    exact Nat.mul_le_mul_right _ hmn
  have hQ : 2 * ((m <<< more) / n) + ((m <<< more) % n != 0).toNat ≤ 2 ^ (T + 1) := by
    generalize m <<< more = D at hD
    have hdm := Nat.div_add_mod D n
    have hle : D / n ≤ 2 ^ T := Nat.div_le_of_le_mul hD
    rw [Nat.pow_succ]
    by_cases hz : D % n = 0
    · rw [hz]; simp; omega
    · have hlt : D / n < 2 ^ T := by
        refine Nat.lt_of_le_of_ne hle fun he => ?_
        rw [he] at hdm
        omega
      have : ((D % n != 0).toNat) ≤ 1 := Bool.toNat_le _
      omega
  have h4 := Nat.mul_le_mul_right (2 ^ (2 * i)) hQ
  rw [← Nat.pow_add, show T + 1 + 2 * i = e + (i + j + more + 1) by omega] at h4
  exact h4
set_option maxRecDepth 100000 in
theorem quo_bound {m n i j e more lp digits : Nat} (hm : m * 2 ^ i ≤ 2 ^ (lp + e)) (hn : 2 ^ lp ≤ n * 2 ^ j) (hmore : more = digits + n.log2 - m.log2) :
    (2 * ((m <<< more) / n) + ((m <<< more) % n != 0).toNat) * 2 ^ (2 * i) ≤ 2 ^ (e + (i + j + more + 1)) := by
  have hn0 : n ≠ 0 := by
    rintro rfl
    have := Nat.two_pow_pos lp
    omega
  have hmn : m * 2 ^ i ≤ n * 2 ^ (j + e) := by
    have h1 := Nat.mul_le_mul_right (2 ^ e) hn
    rw [← Nat.pow_add, Nat.mul_assoc, ← Nat.pow_add] at h1
    exact Nat.le_trans hm h1
  exact quo_bound' hmn hn0 hmore
set_option maxRecDepth 100000 in
theorem bd_div {k : FloatKind} {e x y : Nat} (hx : Bd k e x) (hy : top k 0 ≤ rung k y) (hy2 : rung k y < k.format.infRung) (he : top k e < k.format.infRung) : Bd k e (fop .quo k x y) := by
  cases hn : isNan k x with
  | true => rw [fop_nan (.inl hn)]; exact bd_qnan _ _
  | false =>
    obtain ⟨h1, h2⟩ := hx.mag hn he
    obtain ⟨m, i, hr, hm, _⟩ := Fm.read_num k.format h1
    obtain ⟨n, j, hs, hn', hz⟩ := Fm.read_num k.format hy2
    have e1 : m * 2 ^ i ≤ 2 ^ (lp k + e) := by
      have e2 : m * 2 ^ i = Fm.magR k.format (rung k x) := hm
      rw [e2]; exact h2
    have e3 : 2 ^ lp k ≤ n * 2 ^ j := by
      have e2 : n * 2 ^ j = Fm.magR k.format (rung k y) := hn'
      rw [e2]
      have h5 := magR_top k 0
      have h6 : ¬ Fm.magR k.format (rung k y) < Fm.magR k.format (top k 0) := fun hc => by have := (Fm.magR_lt_iff k.format).1 hc; omega
      rw [h5] at h6
      have h7 : sc (lp k + 0) = 2 ^ lp k := rfl
      omega
    have n0 : n ≠ 0 := by
      rintro rfl
      have := Nat.two_pow_pos (lp k)
      omega
    unfold fop floatBits
    simp only [Ieee.Format.div]
    rw [hr, hs]
    unfold Ieee.Datum.quotient
    dsimp only
    rw [if_neg n0]
    generalize hmore : k.format.fractionBits + 2 + n.log2 - m.log2 = more
    have hB := quo_bound (digits := k.format.fractionBits + 2) e1 e3 hmore.symm
    obtain ⟨r, hr2, hw⟩ := nearest_bd k (Fm.neg k.format x ^^ Fm.neg k.format y) (2 * ((m <<< more) / n) + ((m <<< more) % n != 0).toNat) (k.format.leastPlace + i - (k.format.leastPlace + j) - more - 1) e (i + j + more + 1) (2 * i) (by omega) hB
    show Bd k e (k.format.nearest _ _ _)
    rw [hw]; exact bd_word k hr2 (Nat.le_of_lt he)
end Go.Proofs.FX
