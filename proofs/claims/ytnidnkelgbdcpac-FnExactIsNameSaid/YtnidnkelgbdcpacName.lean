/- Names. -/
import Derived.Test.YtnidnkelgbdcpacNum
import Derived.Lib.Hide
namespace Go.Proofs.Ytnidnkelgbdcpac
open Go.Proofs.FX Go.RowKit
def gd (c : UInt8) : Prop := 97 ≤ (c.toNat : Int) ∧ (c.toNat : Int) ≤ 122
def good (s : ByteArray) (k : Nat) : Prop := ∀ j (h : j < s.size), j < k → gd s[j]
open Classical in
noncomputable def nm (s : ByteArray) : Bool := decide (1 ≤ s.size ∧ s.size ≤ 8 ∧ good s s.size)
open Classical in
theorem nm_bad {s : ByteArray} {k : Nat} (hk : k < s.size) (h : ¬ gd s[k]) : nm s = false := by
  unfold nm; exact decide_eq_false fun h' => h (h'.2.2 k hk hk)
open Classical in
theorem nm_long {s : ByteArray} (h : s.size < 1 ∨ 8 < s.size) : nm s = false := by
  unfold nm; exact decide_eq_false fun h' => by omega
open Classical in
theorem nm_yes {s : ByteArray} (h : 1 ≤ s.size) (h2 : s.size ≤ 8) (hg : good s s.size) : nm s = true := by
  unfold nm; exact decide_eq_true ⟨h, h2, hg⟩
theorem good_snoc {s : ByteArray} {k : Nat} (hg : good s k) (hk : k < s.size) (h : gd s[k]) : good s (k + 1) := by
  intro j hj hjk
  by_cases e : j = k
  · subst e; exact h
  · exact hg j hj (by omega)
theorem IsName_ok (s : ByteArray) (w : World) (hs : s.size ≤ maxLen) :
    Calls Try.prog 20 #[.string s] w fun e w' => e = .returned (.bool (nm s)) ∧ w = w' := by
  unfold maxLen at hs
  by_cases hb : 1 ≤ s.size ∧ s.size ≤ 8
  · obtain ⟨hb1, hb2⟩ := hb
    go_enter Try.func20, Try.ntmps20
    go_wp2
    go_loop [14] (fun i => ∃ k : Nat, k ≤ s.size ∧ i = .int .i64 k ∧ good s k) (fun i => s.size - (intOf i).toNat)
    case atStart => exact ⟨0, Nat.zero_le _, rfl, fun j _ h => absurd h (Nat.not_lt_zero j)⟩
    case round =>
      obtain ⟨k, hk, rfl, hg⟩ := hrel
      have HG := Lib.hid hg
      clear hg
      by_cases hlt : k < s.size
      · go_wp2
        all_goals first
          | (go_ret; exact ⟨by rw [nm_bad hlt (by unfold gd; omega)]; rfl, rfl⟩)
          | (go_round
             case rel => exact ⟨k + 1, by omega, by go_num, good_snoc HG.out hlt (by unfold gd; omega)⟩
             case measure => simp [intOf]; omega)
      · have hkk : k = s.size := by omega
        have hgs : good s s.size := by have := HG.out; rwa [hkk] at this
        clear HG
        go_wp2
        all_goals
          go_ret
          exact ⟨by rw [nm_yes hb1 hb2 hgs]; rfl, rfl⟩
  · go_enter Try.func20, Try.ntmps20
    go_wp2
    all_goals
      go_ret
      exact ⟨by rw [nm_long (by omega)]; rfl, rfl⟩
theorem specIsName_ok (s : ByteArray) (w : World) (hs : s.size ≤ maxLen) :
    Calls Try.prog 19 #[.string s] w fun e w' => e = .returned (.bool (nm s)) ∧ w = w' := by
  unfold maxLen at hs
  go_enter Try.func19, Try.ntmps19
  go_wp2
  go_loop [3] (fun i => ∃ k : Nat, k ≤ s.size ∧ i = .int .i64 k ∧ good s k) (fun i => s.size - (intOf i).toNat)
  case atStart => exact ⟨0, Nat.zero_le _, rfl, fun j _ h => absurd h (Nat.not_lt_zero j)⟩
  case round =>
    obtain ⟨k, hk, rfl, hg⟩ := hrel
    have HG := Lib.hid hg
    clear hg
    by_cases hlt : k < s.size
    · go_wp2
      all_goals first
        | (go_ret; exact ⟨by rw [nm_bad hlt (by unfold gd; omega)]; rfl, rfl⟩)
        | (go_round
           case rel => exact ⟨k + 1, by omega, by go_num, good_snoc HG.out hlt (by unfold gd; omega)⟩
           case measure => simp [intOf]; omega)
    · have hkk : k = s.size := by omega
      have hgs : good s s.size := by have := HG.out; rwa [hkk] at this
      clear HG
      by_cases hb : 1 ≤ s.size ∧ s.size ≤ 8
      · obtain ⟨hb1, hb2⟩ := hb
        go_wp2
        all_goals
          go_ret
          exact ⟨by rw [nm_yes hb1 hb2 hgs]; first | rfl | (simp; omega), rfl⟩
      · go_wp2
        all_goals
          go_ret
          exact ⟨by rw [nm_long (by omega)]; first | rfl | (simp; omega), rfl⟩
end Go.Proofs.Ytnidnkelgbdcpac
