/- Numbers next to zero. -/
import Derived.Test.YtnidnkelgbdcpabNum
namespace Go.Proofs.Ytnidnkelgbdcpab
open Go.Proofs.FX Go.RowKit
theorem qnan32 : qnan .f32 = 2143289344 := rfl
def flush (x : Nat) : Nat := if x % 2147483648 < 8388608 then (if x < 2147483648 then 0 else 2147483648) else x
theorem flush_lt {x : Nat} (h : x < 4294967296) : flush x < 4294967296 := by unfold flush; (repeat' split) <;> omega
def subn (x : Nat) : Bool := decide (0 < x % 2147483648 ∧ x % 2147483648 < 8388608)
/-- Against the least normal number, and its opposite. -/
theorem least_tests {x : Nat} (h : x < 4294967296) :
    (FloatKind.f32.format.order 2155872256 x == some .lt) = decide (x % 2147483648 ≤ 2139095040 ∧ (x < 2147483648 ∨ x < 2155872256)) ∧
    (FloatKind.f32.format.order x 8388608 == some .lt) = decide (x % 2147483648 ≤ 2139095040 ∧ (x < 8388608 ∨ 2147483648 ≤ x)) := by
  have n1 : isNan .f32 2155872256 = false := by decide +kernel
  have n2 : isNan .f32 8388608 = false := by decide +kernel
  cases hn : isNan .f32 x with
  | true =>
    have hb := hn
    rw [isNan32, decide_eq_true_iff] at hb
    rw [order_nan_right _ hn, order_nan_left _ hn, decide_eq_false (by omega), decide_eq_false (by omega)]
    exact ⟨rfl, rfl⟩
  | false =>
    have hb := hn
    rw [isNan32, decide_eq_false_iff_not] at hb
    have e1 := flt_key n1 hn
    have e2 := flt_key hn n2
    unfold flt at e1 e2
    rw [key32 (show 2155872256 < 4294967296 by omega), key32 h] at e1
    rw [key32 (show 8388608 < 4294967296 by omega), key32 h] at e2
    rw [e1, e2]
    constructor
    · apply decide_eq_decide.2; split <;> split <;> omega
    · apply decide_eq_decide.2; split <;> split <;> omega

theorem IsSubnormal_ok (x : Nat) (w : World) (hx : x < 4294967296) :
    Calls Try.prog 23 #[.float .f32 x] w fun e w' => e = .returned (.bool (subn x)) ∧ w = w' := by
  obtain ⟨-, -, e3, -, -⟩ := zero32 hx
  obtain ⟨e1, e2⟩ := least_tests hx
  by_cases h0 : x % 2147483648 = 0
  · have hs : subn x = false := by unfold subn; rw [decide_eq_false (by omega)]
    rw [decide_eq_true h0] at e3
    clear e1 e2 h0
    go_enter Try.func23, Try.ntmps23
    go_wp2
    go_ret
    exact ⟨by rw [hs]; rfl, rfl⟩
  · rw [decide_eq_false h0] at e3
    by_cases h1 : x % 2147483648 < 8388608
    · have hs : subn x = true := by unfold subn; rw [decide_eq_true (by omega)]
      rw [decide_eq_true (by omega)] at e1 e2
      clear h0
      go_enter Try.func23, Try.ntmps23
      go_wp2
      go_ret
      exact ⟨by rw [hs]; rfl, rfl⟩
    · have hs : subn x = false := by unfold subn; rw [decide_eq_false (by omega)]
      by_cases h2 : x % 2147483648 ≤ 2139095040 ∧ (x < 2147483648 ∨ x < 2155872256)
      · rw [decide_eq_true h2] at e1
        rw [decide_eq_false (by omega)] at e2
        clear h0 h2
        go_enter Try.func23, Try.ntmps23
        go_wp2
        go_ret
        exact ⟨by rw [hs]; rfl, rfl⟩
      · rw [decide_eq_false h2] at e1
        clear h0 h2 e2
        go_enter Try.func23, Try.ntmps23
        go_wp2
        go_ret
        exact ⟨by rw [hs]; rfl, rfl⟩
theorem exp_zero {x : Nat} (hx : x < 4294967296) : bits .and .i64 (canon .f32 x : Int) 2139095040 = if x % 2147483648 < 8388608 then 0 else ((canon .f32 x / 8388608 % 256 * 8388608 : Nat) : Int) := by
  have hc : canon .f32 x < 4294967296 := by unfold canon; rw [qnan32]; split <;> omega
  rw [i64_and_exp _ hc]
  split
  · rename_i h
    have : canon .f32 x = x := canon_num (by rw [isNan32, decide_eq_false (by omega)])
    rw [this]
    have : x / 8388608 % 256 = 0 := by omega
    rw [this]; rfl
  · rfl
theorem exp_some {x : Nat} (hx : x < 4294967296) (h : ¬ x % 2147483648 < 8388608) : (bits .and .i64 (canon .f32 x : Int) 2139095040 == 0) = false := by
  rw [exp_zero hx, if_neg h, beq_eq_false_iff_ne]
  have : canon .f32 x / 8388608 % 256 ≠ 0 := by
    cases hn : isNan .f32 x with
    | true => rw [canon_nan hn, qnan32]; omega
    | false =>
      rw [canon_num hn]
      rw [isNan32, decide_eq_false_iff_not] at hn
      omega
  omega
theorem specIsSubnormal_ok (x : Nat) (w : World) (hx : x < 4294967296) :
    Calls Try.prog 22 #[.float .f32 x] w fun e w' => e = .returned (.bool (subn x)) ∧ w = w' := by
  obtain ⟨-, -, e3, -, -⟩ := zero32 hx
  by_cases h0 : x % 2147483648 = 0
  · have hs : subn x = false := by unfold subn; rw [decide_eq_false (by omega)]
    rw [decide_eq_true h0] at e3
    clear h0
    go_enter Try.func22, Try.ntmps22
    go_wp2
    go_ret
    exact ⟨by rw [hs]; rfl, rfl⟩
  · rw [decide_eq_false h0] at e3
    by_cases h1 : x % 2147483648 < 8388608
    · have hs : subn x = true := by unfold subn; rw [decide_eq_true (by omega)]
      have hz := exp_zero hx
      rw [if_pos h1] at hz
      clear h0
      go_enter Try.func22, Try.ntmps22
      go_wp2_with (go_at_call 50; refine (l01Bits_ok _ _ (by assumption)).mono ?_; rintro e w' ⟨rfl, rfl⟩)
      go_ret
      exact ⟨by rw [hs]; rfl, rfl⟩
    · have hs : subn x = false := by unfold subn; rw [decide_eq_false (by omega)]
      have hz := exp_some hx h1
      clear h0
      go_enter Try.func22, Try.ntmps22
      go_wp2_with (go_at_call 50; refine (l01Bits_ok _ _ (by assumption)).mono ?_; rintro e w' ⟨rfl, rfl⟩)
      go_ret
      exact ⟨by rw [hs]; rfl, rfl⟩
theorem FlushNumber_ok (x : Nat) (w : World) (hx : x < 4294967296) :
    Calls Try.prog 21 #[.float .f32 x] w fun e w' => e = .returned (.float .f32 (flush x)) ∧ w = w' := by
  have hz := u32_and31 x hx
  cases hs : subn x
  · go_enter Try.func21, Try.ntmps21
    go_wp2_with (go_at_call 23; refine (IsSubnormal_ok _ _ (by assumption)).mono ?_; rintro e w' ⟨rfl, rfl⟩)
    go_ret
    refine ⟨?_, rfl⟩
    have : flush x = x := by
      unfold subn at hs
      rw [decide_eq_false_iff_not] at hs
      unfold flush
      split
      · split <;> omega
      · rfl
    rw [this]; rfl
  · have hf : flush x = if x < 2147483648 then 0 else 2147483648 := by
      unfold subn at hs
      rw [decide_eq_true_iff] at hs
      unfold flush
      rw [if_pos hs.2]
    rw [← hf] at hz
    clear hf
    go_enter Try.func21, Try.ntmps21
    go_wp2_with (go_at_call 23; refine (IsSubnormal_ok _ _ (by assumption)).mono ?_; rintro e w' ⟨rfl, rfl⟩)
    go_ret
    exact ⟨rfl, rfl⟩
theorem l01Flush_ok (x : Nat) (w : World) (hx : x < 4294967296) :
    Calls Try.prog 47 #[.float .f32 x] w fun e w' => e = .returned (.float .f32 (flush x)) ∧ w = w' := by
  by_cases h1 : x % 2147483648 < 8388608
  · have hc : canon .f32 x = x := canon_num (by rw [isNan32, decide_eq_false (by omega)])
    have hz := exp_zero hx
    rw [if_pos h1, hc] at hz
    have hb := i64_and31 x hx
    have hf : flush x = if x < 2147483648 then 0 else 2147483648 := by unfold flush; rw [if_pos h1]
    rw [← hf] at hb
    have hl := flush_lt hx
    clear hf
    go_enter Try.func47, Try.ntmps47
    go_wp2_with first | (go_at_call 50; refine (l01Bits_ok _ _ (by assumption)).mono ?_; rintro e w' ⟨rfl, rfl⟩) | (go_at_call 76; refine (l01From_ok _ _ (by omega) (by omega)).mono ?_; rintro e w' ⟨rfl, rfl⟩)
    go_ret
    exact ⟨rfl, rfl⟩
  · have hz := exp_some hx h1
    go_enter Try.func47, Try.ntmps47
    go_wp2_with first | (go_at_call 50; refine (l01Bits_ok _ _ (by assumption)).mono ?_; rintro e w' ⟨rfl, rfl⟩)
    go_ret
    exact ⟨by unfold flush; rw [if_neg h1]; rfl, rfl⟩
theorem specFlush_ok (x : Nat) (w : World) (hx : x < 4294967296) :
    Calls Try.prog 20 #[.float .f32 x] w fun e w' => e = .returned (.float .f32 (flush x)) ∧ w = w' := by
  go_enter Try.func20, Try.ntmps20
  go_wp2_with (go_at_call 47; refine (l01Flush_ok _ _ (by assumption)).mono ?_; rintro e w' ⟨rfl, rfl⟩)
  go_ret
  exact ⟨rfl, rfl⟩
end Go.Proofs.Ytnidnkelgbdcpab
