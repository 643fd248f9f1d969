/- Check numbers. -/
import Derived.Test.YtnidnkelgbdcpadNum
import Derived.Lib.Hide
namespace Go.Proofs.Ytnidnkelgbdcpad
open Go.Proofs.FX Go.RowKit
theorem ret_i {k : IntKind} {a b : Int} (h : a = b) : Ending.returned (.int k a) = .returned (.int k b) := by rw [h]
def ck (l : List UInt8) (n : Int) : Int := l.foldl (fun a c => (659 * a + (c.toNat : Int) + 29).tmod 65003) n
theorem ck_snoc (l : List UInt8) (c : UInt8) (n : Int) : ck (l ++ [c]) n = (659 * ck l n + (c.toNat : Int) + 29).tmod 65003 := by
  unfold ck; rw [List.foldl_append]; rfl
theorem ck_step {a : Int} (c : UInt8) (h : 0 ≤ a) : 0 ≤ (659 * a + (c.toNat : Int) + 29).tmod 65003 ∧ (659 * a + (c.toNat : Int) + 29).tmod 65003 < 65003 := by
  rw [Int.tmod_eq_emod_of_nonneg (by omega)]; omega
theorem ck_bd (l : List UInt8) {n : Int} (h : 0 ≤ n ∧ n < 65003) : 0 ≤ ck l n ∧ ck l n < 65003 := by
  induction l generalizing n with
  | nil => exact h
  | cons c l ih => exact ih (ck_step c h.1)
theorem take_snoc' (s : ByteArray) (k : Nat) (h : k < s.size) : s.data.toList.take (k + 1) = s.data.toList.take k ++ [s[k]] := by
  rw [List.take_succ_eq_append_getElem (by simpa using h)]; rfl
theorem wrap3 (c : UInt8) {a : Int} (h0 : 0 ≤ a) (h1 : a < 65003) : wrap64 (wrap64 (659 * a + wrap64 (c.toNat : Int)) + 29) = 659 * a + (c.toNat : Int) + 29 := by
  have hc := c.toNat_lt
  have e (x : Int) (h : -9223372036854775808 ≤ x) (h2 : x ≤ 9223372036854775807) : wrap64 x = x := by unfold wrap64; omega
  rw [e (c.toNat : Int) (by omega) (by omega), e (659 * a + (c.toNat : Int)) (by omega) (by omega), e _ (by omega) (by omega)]
theorem l01Check_ok (n : Int) (s : ByteArray) (w : World) (hs : s.size ≤ maxLen) (h0 : 0 ≤ n) (h1 : n < 65003) :
    Calls Try.prog 7 #[.int .i64 n, .string s] w fun e w' => e = .returned (.int .i64 (ck s.data.toList n)) ∧ w = w' := by
  unfold maxLen at hs
  go_enter Try.func7, Try.ntmps7
  go_wp2
  go_loop [0, 5] (fun c i => ∃ k : Nat, k ≤ s.size ∧ i = .int .i64 k ∧ c = .int .i64 (ck (s.data.toList.take k) n)) (fun _ i => s.size - (intOf i).toNat)
  case atStart => exact ⟨0, Nat.zero_le _, rfl, rfl⟩
  case round =>
    obtain ⟨k, hk, rfl, rfl⟩ := hrel
    obtain ⟨b0, b1⟩ := ck_bd (s.data.toList.take k) ⟨h0, h1⟩
    by_cases hlt : k < s.size
    · have hsn := ck_snoc (s.data.toList.take k) s[k] n
      have hb := ck_step s[k] b0
      have hts := take_snoc' s k hlt
      rw [← hts] at hsn
      have HS := Lib.hid hsn
      clear hsn hts
      generalize ck (s.data.toList.take k) n = a at *
      go_wp2
      go_round
      case rel => exact ⟨k + 1, by omega, by go_num, by rw [HS.out, wrap3 s[k] b0 b1]⟩
      case measure => simp [intOf]; omega
    · go_wp2
      go_ret
      exact ⟨ret_i (by rw [List.take_of_length_le (by simp; omega)]), rfl⟩
theorem CheckOf_ok (n : Int) (s : ByteArray) (w : World) (hs : s.size ≤ maxLen) (h0 : 0 ≤ n) (h1 : n < 65003) :
    Calls Try.prog 5 #[.int .i64 n, .string s] w fun e w' => e = .returned (.tuple #[.int .i64 (ck s.data.toList n), .bool true]) ∧ w = w' := by
  unfold maxLen at hs
  go_enter Try.func5, Try.ntmps5
  go_wp2
  go_loop [6, 17] (fun c i => ∃ k : Nat, k ≤ s.size ∧ i = .int .i64 k ∧ c = .int .i64 (ck (s.data.toList.take k) n)) (fun _ i => s.size - (intOf i).toNat)
  case atStart => exact ⟨0, Nat.zero_le _, rfl, rfl⟩
  case round =>
    obtain ⟨k, hk, rfl, rfl⟩ := hrel
    obtain ⟨b0, b1⟩ := ck_bd (s.data.toList.take k) ⟨h0, h1⟩
    by_cases hlt : k < s.size
    · have hsn := ck_snoc (s.data.toList.take k) s[k] n
      have hb := ck_step s[k] b0
      have hts := take_snoc' s k hlt
      rw [← hts] at hsn
      have HS := Lib.hid hsn
      clear hsn hts
      generalize ck (s.data.toList.take k) n = a at *
      go_wp2
      go_round
      case rel => exact ⟨k + 1, by omega, by go_num, by rw [HS.out, wrap3 s[k] b0 b1]⟩
      case measure => simp [intOf]; omega
    · have he : s.data.toList.take k = s.data.toList := List.take_of_length_le (by simp; omega)
      rw [he]
      go_wp2
      go_ret2
      exact ⟨rfl, rfl⟩
theorem CheckOf_no (n : Int) (s : ByteArray) (w : World) (h : n < 0 ∨ 65002 < n) :
    Calls Try.prog 5 #[.int .i64 n, .string s] w fun e w' => e = .returned (.tuple #[.int .i64 0, .bool false]) ∧ w = w' := by
  by_cases h0 : n < 0
  · go_enter Try.func5, Try.ntmps5
    go_wp2
    go_ret2
    exact ⟨rfl, rfl⟩
  · have h2 : 65003 ≤ n := by omega
    go_enter Try.func5, Try.ntmps5
    go_wp2
    go_ret2
    exact ⟨rfl, rfl⟩
theorem specCheckOf_ok (n : Int) (s : ByteArray) (w : World) (hs : s.size ≤ maxLen) (h0 : 0 ≤ n) (h1 : n < 65003) :
    Calls Try.prog 4 #[.int .i64 n, .string s] w fun e w' => e = .returned (.tuple #[.int .i64 (ck s.data.toList n), .bool true]) ∧ w = w' := by
  go_enter Try.func4, Try.ntmps4
  go_wp2_with first | (go_at_call 6; refine (l00In_yes _ _ _ _ (by omega) (by omega)).mono ?_; rintro e w' ⟨rfl, rfl⟩) | (go_at_call 7; refine (l01Check_ok _ _ _ (by assumption) (by assumption) (by assumption)).mono ?_; rintro e w' ⟨rfl, rfl⟩)
  go_ret2
  exact ⟨rfl, rfl⟩
theorem specCheckOf_no (n : Int) (s : ByteArray) (w : World) (h : n < 0 ∨ 65002 < n) :
    Calls Try.prog 4 #[.int .i64 n, .string s] w fun e w' => e = .returned (.tuple #[.int .i64 0, .bool false]) ∧ w = w' := by
  go_enter Try.func4, Try.ntmps4
  go_wp2_with (go_at_call 6; refine (l00In_no _ _ _ _ (by omega)).mono ?_; rintro e w' ⟨rfl, rfl⟩)
  go_ret2
  exact ⟨rfl, rfl⟩
end Go.Proofs.Ytnidnkelgbdcpad
