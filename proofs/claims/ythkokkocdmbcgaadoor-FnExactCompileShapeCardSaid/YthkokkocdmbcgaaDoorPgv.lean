/- Valid programs and empty nodes, as plain functions: the program's way and the model's way tell the same. No program in sight. -/
import Derived.Test.YthkokkocdmbcgaaDoorPg
import Derived.Test.YthkokkocdmbcgaaDoorValid
namespace Go.Proofs.FX
open Go
def aloneB (nd : Nd) : Bool := nd.a == 0 && ((ru nd.k.toNat).ax || nd.b == 0)
def hasB (k st : Int) : Bool := if k = 9 ∨ k = 11 ∨ k = 12 ∨ k = 13 ∨ k = 14 then st == 0 else if k = 10 then (st == 0 || st == 2) else if (ru k.toNat).c == 0 then st == 1 else st == 2
def inB (r m : Int) : Bool := decide (0 ≤ r) && decide (r < m)
def regB (pp pv : Int) (s : St) : Bool := if s.k = 0 then inB s.t pp && (!(s.t == 0) && (inB s.a pp && s.b == 0)) else if s.k = 1 then inB s.t pv && (inB s.a pp && s.b == 0) else
  if (ru s.nd.k.toNat).c == 2 then inB s.t pv && (inB s.a pv && inB s.b pv) else inB s.t pv && (inB s.a pv && s.b == 0)
def stB (pp pv : Int) (s : St) : Bool := nodeOk s.nd && (aloneB s.nd && (hasB s.nd.k s.k && regB pp pv s))
def rcB (c : Int) : Bool := decide (1 ≤ c) && decide (c ≤ 18)
def vpB (pp pv : Int) (ss : List St) : Bool := decide ((rcB pp = true ∧ rcB pv = true ∧ 1 ≤ ss.length ∧ ss.length ≤ 40) ∧ (∀ i, i < ss.length → stB pp pv (ss.getD i st0) = true) ∧ (ss.getD (ss.length - 1) st0).t = 0)
-- the model's
def btw (n a b : Int) : Bool := decide (a ≤ n) && decide (n ≤ b)
def bareB (nd : Nd) : Bool := btw nd.k 0 16 && (numsOk (ru nd.k.toNat) nd.xs && (nd.a == 0 && (if (ru nd.k.toNat).ax then btw nd.b 0 2 else nd.b == 0)))
def stepM (pp pv : Int) (s : St) : Bool := bareB s.nd && (if s.k = 0 then btw s.nd.k 9 14 && (btw s.t 1 (pp - 1) && (btw s.a 0 (pp - 1) && s.b == 0))
  else if s.k = 1 then (ru s.nd.k.toNat).c == 0 && (btw s.t 0 (pv - 1) && (btw s.a 0 (pp - 1) && s.b == 0))
  else if s.k = 2 then !((ru s.nd.k.toNat).c == 0) && (!(btw s.nd.k 9 14 && !(s.nd.k == 10)) && (btw s.t 0 (pv - 1) && (btw s.a 0 (pv - 1) && (if (ru s.nd.k.toNat).c == 2 then btw s.b 0 (pv - 1) else s.b == 0))))
  else false)
def vpM (pp pv : Int) (ss : List St) : Bool := decide ((rcB pp = true ∧ rcB pv = true ∧ 1 ≤ ss.length ∧ ss.length ≤ 40) ∧ (∀ i, i < ss.length → stepM pp pv (ss.getD i st0) = true) ∧ (ss.getD (ss.length - 1) st0).t = 0 ∧ (ss.getD (ss.length - 1) st0).k ≠ 0)
theorem ru_kinds : ∀ k : Nat, k < 17 → (ru k).ax = (btw (k : Int) 12 14) ∧ ((ru k).c == 0) = btw (k : Int) 0 4 ∧ ((ru k).c == 2) = btw (k : Int) 5 8 ∧ ((ru k).c == 1) = btw (k : Int) 9 16 := by decide
theorem bare_eq (nd : Nd) : bareB nd = (nodeOk nd && aloneB nd) := by
  by_cases hk : 0 ≤ nd.k ∧ nd.k < 17
  · obtain ⟨k, hkn⟩ : ∃ k : Nat, nd.k = k := ⟨nd.k.toNat, by omega⟩
    have hk17 : k < 17 := by omega
    obtain ⟨h1, h2, h3, h4⟩ := ru_kinds k hk17
    unfold bareB nodeOk aloneB axOk
    rw [hkn, Int.toNat_natCast, h1, h2, h4]
    have e1 : btw (k : Int) 0 16 = true := by unfold btw; rw [decide_eq_true (by omega), decide_eq_true (by omega)]; rfl
    have e2 : decide (0 ≤ (k : Int) ∧ (k : Int) < 17) = true := decide_eq_true (by omega)
    rw [e1, e2]
    generalize numsOk (ru k) nd.xs = n
    by_cases ha : btw (k : Int) 12 14 = true
    · rw [ha]
      unfold btw
      cases n <;> cases hh : (nd.a == 0) <;> simp
    · rw [Bool.not_eq_true] at ha
      rw [ha]
      have e3 : btw (k : Int) 0 4 = true ∨ btw (k : Int) 0 4 = false := by cases btw (k : Int) 0 4 <;> simp
      rcases e3 with e3 | e3
      · rw [e3]; cases n <;> cases hh : (nd.a == 0) <;> cases hg : (nd.b == 0) <;> simp
      · rw [e3]; cases n <;> cases hh : (nd.a == 0) <;> cases hg : (nd.b == 0) <;> simp
  · have e1 : btw nd.k 0 16 = false := by
      unfold btw
      by_cases h : 0 ≤ nd.k
      · rw [decide_eq_false (show ¬ nd.k ≤ 16 by omega), Bool.and_false]
      · rw [decide_eq_false h, Bool.false_and]
    have e2 : nodeOk nd = false := by unfold nodeOk; rw [decide_eq_false hk, Bool.false_and]
    unfold bareB
    rw [e1, e2, Bool.false_and, Bool.false_and]
theorem btw_iff (n a b : Int) : btw n a b = true ↔ a ≤ n ∧ n ≤ b := by unfold btw; simp
theorem inB_iff (n m : Int) : inB n m = true ↔ 0 ≤ n ∧ n < m := by unfold inB; simp
theorem btw_in (n m : Int) : btw n 0 (m - 1) = inB n m := by rw [Bool.eq_iff_iff, btw_iff, inB_iff]; omega
theorem nodeOk_k {nd : Nd} (h : nodeOk nd = true) : 0 ≤ nd.k ∧ nd.k < 17 := by
  unfold nodeOk at h
  rw [Bool.and_eq_true, decide_eq_true_iff] at h
  exact h.1
theorem st_eq (pp pv : Int) (s : St) : stepM pp pv s = stB pp pv s := by
  unfold stepM stB
  rw [bare_eq, Bool.and_assoc]
  cases hn : nodeOk s.nd
  · simp
  cases ha : aloneB s.nd
  · simp
  simp only [Bool.true_and]
  obtain ⟨hk0, hk1⟩ := nodeOk_k hn
  obtain ⟨k, hkn⟩ : ∃ k : Nat, s.nd.k = k := ⟨s.nd.k.toNat, by omega⟩
  have hk17 : k < 17 := by omega
  obtain ⟨h1, h2, h3, h4⟩ := ru_kinds k hk17
  unfold hasB regB
  rw [hkn, Int.toNat_natCast, h2, h3]
  simp only [btw_in]
  have ht : btw s.t 1 (pp - 1) = (inB s.t pp && !(s.t == 0)) := by
    rw [Bool.eq_iff_iff, btw_iff, Bool.and_eq_true, inB_iff]; simp; omega
  rw [ht]
  clear hn ha h1 h2 h3 h4 ht
  have hc : k = 0 ∨ k = 1 ∨ k = 2 ∨ k = 3 ∨ k = 4 ∨ k = 5 ∨ k = 6 ∨ k = 7 ∨ k = 8 ∨ k = 9 ∨ k = 10 ∨ k = 11 ∨ k = 12 ∨ k = 13 ∨ k = 14 ∨ k = 15 ∨ k = 16 := by omega
  generalize inB s.t pp = b1
  generalize inB s.t pv = b2
  generalize inB s.a pp = b3
  generalize inB s.a pv = b4
  generalize inB s.b pv = b5
  generalize (s.b == 0) = b6
  generalize (s.t == 0) = b7
  generalize s.k = x
  by_cases x0 : x = 0
  · subst x0
    rcases hc with rfl | rfl | rfl | rfl | rfl | rfl | rfl | rfl | rfl | rfl | rfl | rfl | rfl | rfl | rfl | rfl | rfl <;> revert b1 b2 b3 b4 b5 b6 b7 <;> decide
  by_cases x1 : x = 1
  · subst x1
    rcases hc with rfl | rfl | rfl | rfl | rfl | rfl | rfl | rfl | rfl | rfl | rfl | rfl | rfl | rfl | rfl | rfl | rfl <;> revert b1 b2 b3 b4 b5 b6 b7 <;> decide
  by_cases x2 : x = 2
  · subst x2
    rcases hc with rfl | rfl | rfl | rfl | rfl | rfl | rfl | rfl | rfl | rfl | rfl | rfl | rfl | rfl | rfl | rfl | rfl <;> revert b1 b2 b3 b4 b5 b6 b7 <;> decide
  have e0 : (x == 0) = false := by simpa using x0
  have e1 : (x == 1) = false := by simpa using x1
  have e2 : (x == 2) = false := by simpa using x2
  rw [if_neg x0, if_neg x1, if_neg x2, e0, e1, e2]
  split <;> simp
theorem vp_eq (pp pv : Int) (ss : List St) : vpM pp pv ss = vpB pp pv ss := by
  unfold vpM vpB
  congr 1
  simp only [st_eq, eq_iff_iff]
  constructor
  · rintro ⟨h1, h2, h3, -⟩; exact ⟨h1, h2, h3⟩
  · rintro ⟨h1, h2, h3⟩
    refine ⟨h1, h2, h3, fun h0 => ?_⟩
    have h := h2 (ss.length - 1) (by omega)
    unfold stB regB at h
    rw [if_pos h0, h3] at h
    simp at h
end Go.Proofs.FX
