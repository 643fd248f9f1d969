/- Numbers: what the functions on single numbers return. -/
import Derived.Test.YtnidnkelgbdcpaaBits
namespace Go.Proofs.Ytnidnkelgbdcpaa
open Go.Proofs.FX Go.RowKit
@[go_sem] theorem x_f64bits (x : Nat) (w : World) : (callFunc 74 #[.float .f64 x]).run Try.prog w = .ok (.value (.int .u64 x)) w := by kernel_rfl
@[go_sem] theorem x_f64from (x : Int) (w : World) : (callFunc 73 #[.int .u64 x]).run Try.prog w = .ok (.value (.float .f64 x.toNat)) w := by kernel_rfl
@[go_sem] theorem x_f32from (x : Int) (w : World) : (callFunc 60 #[.int .u32 x]).run Try.prog w = .ok (.value (.float .f32 x.toNat)) w := by kernel_rfl
theorem Abs_ok (x : Nat) (w : World) (hx : x < 18446744073709551616) :
    Calls Try.prog 47 #[.float .f64 x] w fun e w' => e = .returned (.float .f64 (x % 9223372036854775808)) ∧ w = w' := by
  have e := u64_drop63 x hx
  go_enter Try.func47, Try.ntmps47
  go_wp2
  go_ret
  exact ⟨rfl, rfl⟩
theorem IsInf_up (r : Nat) (w : World) :
    Calls Try.prog 51 #[.float .f64 r, .int .i64 1] w fun e w' => e = .returned (.bool (fgt .f64 r 9218868437227405311)) ∧ w = w' := by
  go_enter Try.func51, Try.ntmps51
  go_wp2
  go_ret
  exact ⟨rfl, rfl⟩
theorem IsInf_w (r x : Nat) (w : World) (hx : x < 4294967296) (hr : r < 18446744073709551616) (he : Eqv .f64 r (widen x)) :
    Calls Try.prog 51 #[.float .f64 r, .int .i64 1] w fun e w' => e = .returned (.bool (decide (x = 2139095040))) ∧ w = w' := by
  rw [← inf_test hx hr he]
  exact IsInf_up r w
theorem opposite_ok (x : Nat) (w : World) (hx : x < 4294967296) :
    Calls Try.prog 54 #[.float .f32 x] w fun e w' => e = .returned (.float .f32 (flip32 x)) ∧ w = w' := by
  have e := u32_xor31 x hx
  go_enter Try.func54, Try.ntmps54
  go_wp2
  go_ret
  exact ⟨rfl, rfl⟩
theorem l01From_ok (n : Int) (w : World) (h0 : 0 ≤ n) (h1 : n ≤ 4294967295) :
    Calls Try.prog 58 #[.int .i64 n] w fun e w' => e = .returned (.float .f32 n.toNat) ∧ w = w' := by
  go_enter Try.func58, Try.ntmps58
  go_wp2
  go_ret
  exact ⟨rfl, rfl⟩
theorem l01Finite_ok (x : Nat) (w : World) :
    Calls Try.prog 63 #[.float .f32 x] w (Fb (fin .f32 x) w) := by
  go_enter Try.func63, Try.ntmps63
  go_wp2_with (refine wpList_f32 rfl rfl rfl rfl rfl ?_; intro r n hr he)
  go_ret
  exact ⟨n, by rw [← finite_test he]; rfl, rfl⟩
theorem specIsFinite_ok (x : Nat) (w : World) :
    Calls Try.prog 25 #[.float .f32 x] w (Fb (fin .f32 x) w) := by
  go_enter Try.func25, Try.ntmps25
  go_wp2_with (go_at_call 63; refine (l01Finite_ok _ _).mono ?_; rintro e w' ⟨n, rfl, rfl⟩)
  go_ret
  exact ⟨n, rfl, rfl⟩
theorem IsFinite_ok (x : Nat) (w : World) :
    Calls Try.prog 26 #[.float .f32 x] w (Fb (fin .f32 x) w) := by
  go_enter Try.func26, Try.ntmps26
  go_wp2_with first | (refine wpList_widen rfl rfl rfl Try.underlying24 Try.underlying30 ?_; intro r n hr he) | (go_at_call 47; refine (Abs_ok _ _ (by assumption)).mono ?_; rintro e w' ⟨rfl, rfl⟩)
  go_ret
  exact ⟨n, by rw [← max_test he]; rfl, rfl⟩
theorem l01Next_ok (x : Nat) (w : World) (hx : x < 4294967296) :
    Calls Try.prog 67 #[.float .f32 x] w fun e w' => e = .returned (.float .f32 (nx x)) ∧ w = w' := by
  obtain ⟨e1, e2, -, e3, -⟩ := zero32 hx
  by_cases h1 : 2139095040 < x % 2147483648
  · rw [decide_eq_true h1] at e1
    go_enter Try.func67, Try.ntmps67
    go_wp2_with first | (go_at_call 64; refine (l01Bits_ok _ _ (by assumption)).mono ?_; rintro e w' ⟨rfl, rfl⟩) | (go_at_call 58; refine (l01From_ok _ _ (by omega) (by omega)).mono ?_; rintro e w' ⟨rfl, rfl⟩)
    go_ret
    exact ⟨by unfold nx; rw [if_pos h1]; rfl, rfl⟩
  · have hc : canon .f32 x = x := canon_num (by rw [isNan32, decide_eq_false h1])
    rw [decide_eq_false h1] at e1
    by_cases h2 : x = 2139095040
    · subst h2
      go_enter Try.func67, Try.ntmps67
      go_wp2_with first | (go_at_call 64; refine (l01Bits_ok _ _ (by assumption)).mono ?_; rintro e w' ⟨rfl, rfl⟩) | (go_at_call 58; refine (l01From_ok _ _ (by omega) (by omega)).mono ?_; rintro e w' ⟨rfl, rfl⟩)
      go_ret
      exact ⟨rfl, rfl⟩
    · have b2 : ((x : Int) == 2139095040) = false := by rw [beq_eq_false_iff_ne]; omega
      by_cases h3 : x % 2147483648 = 0
      · rw [decide_eq_true h3] at e2
        have hh := Lib.hid h3; clear h3
        go_enter Try.func67, Try.ntmps67
        go_wp2_with first | (go_at_call 64; refine (l01Bits_ok _ _ (by assumption)).mono ?_; rintro e w' ⟨rfl, rfl⟩) | (go_at_call 58; refine (l01From_ok _ _ (by omega) (by omega)).mono ?_; rintro e w' ⟨rfl, rfl⟩)
        go_ret
        exact ⟨by unfold nx; rw [if_neg h1, if_neg h2, if_pos hh.out]; rfl, rfl⟩
      · rw [decide_eq_false h3] at e2
        by_cases h4 : x < 2147483648
        · rw [decide_eq_true (by omega)] at e3
          go_enter Try.func67, Try.ntmps67
          go_wp2_with first | (go_at_call 64; refine (l01Bits_ok _ _ (by assumption)).mono ?_; rintro e w' ⟨rfl, rfl⟩) | (go_at_call 58; refine (l01From_ok _ _ (by omega) (by omega)).mono ?_; rintro e w' ⟨rfl, rfl⟩)
          go_ret
          refine ⟨?_, rfl⟩
          have : ((x : Int) + 1).toNat = nx x := by unfold nx; rw [if_neg h1, if_neg h2, if_neg h3, if_pos h4]; omega
          rw [← this]; rfl
        · rw [decide_eq_false (by omega)] at e3
          go_enter Try.func67, Try.ntmps67
          go_wp2_with first | (go_at_call 64; refine (l01Bits_ok _ _ (by assumption)).mono ?_; rintro e w' ⟨rfl, rfl⟩) | (go_at_call 58; refine (l01From_ok _ _ (by omega) (by omega)).mono ?_; rintro e w' ⟨rfl, rfl⟩)
          go_ret
          refine ⟨?_, rfl⟩
          have : x - 1 = nx x := by unfold nx; rw [if_neg h1, if_neg h2, if_neg h3, if_neg h4]
          rw [← this]; rfl
theorem specNextUp_ok (x : Nat) (w : World) (hx : x < 4294967296) :
    Calls Try.prog 34 #[.float .f32 x] w fun e w' => e = .returned (.float .f32 (nx x)) ∧ w = w' := by
  go_enter Try.func34, Try.ntmps34
  go_wp2_with (go_at_call 67; refine (l01Next_ok _ _ (by assumption)).mono ?_; rintro e w' ⟨rfl, rfl⟩)
  go_ret
  exact ⟨rfl, rfl⟩
theorem specNextDown_ok (x : Nat) (w : World) (hx : x < 4294967296) :
    Calls Try.prog 36 #[.float .f32 x] w fun e w' => e = .returned (.float .f32 (flip32 (nx (flip32 x)))) ∧ w = w' := by
  have e1 := negFloat32 x hx
  have e2 := negFloat32 (nx (flip32 x)) (nx_lt (flip32_lt hx))
  have hf := flip32_lt hx
  go_enter Try.func36, Try.ntmps36
  go_wp2_with (go_at_call 67; refine (l01Next_ok _ _ (by assumption)).mono ?_; rintro e w' ⟨rfl, rfl⟩)
  go_ret
  exact ⟨rfl, rfl⟩
theorem NextUp_ok (x : Nat) (w : World) (hx : x < 4294967296) :
    Calls Try.prog 35 #[.float .f32 x] w (fun e w' => ∃ n, e = .returned (.float .f32 (nx x)) ∧ w' = w.drewN n) := by
  obtain ⟨e1, e2, -, -, e3⟩ := zero32 hx
  by_cases h1 : 2139095040 < x % 2147483648
  · rw [decide_eq_true h1] at e1
    go_enter Try.func35, Try.ntmps35
    go_wp2
    go_ret
    exact ⟨0, by unfold nx; rw [if_pos h1]; rfl, rfl⟩
  · rw [decide_eq_false h1] at e1
    by_cases h2 : x = 2139095040
    · subst h2
      go_enter Try.func35, Try.ntmps35
      go_wp2_with first | (refine upon_widen Try.underlying24 Try.underlying30 ?_; intro r n hr he) | (go_at_call 51; refine (IsInf_w _ 2139095040 _ (by omega) (by assumption) (by assumption)).mono ?_; rintro e w' ⟨rfl, rfl⟩)
      go_ret
      exact ⟨_, rfl, rfl⟩
    · by_cases h3 : x % 2147483648 = 0
      · rw [decide_eq_true h3] at e2
        have hh := Lib.hid h3; clear h3
        go_enter Try.func35, Try.ntmps35
        go_wp2_with first | (refine upon_widen Try.underlying24 Try.underlying30 ?_; intro r n hr he) | (go_at_call 51; refine (IsInf_w _ x _ (by omega) (by assumption) (by assumption)).mono ?_; rintro e w' ⟨rfl, rfl⟩)
        go_ret
        exact ⟨_, by unfold nx; rw [if_neg h1, if_neg h2, if_pos hh.out]; rfl, rfl⟩
      · rw [decide_eq_false h3] at e2
        by_cases h4 : x < 2147483648
        · rw [decide_eq_false (by omega)] at e3
          go_enter Try.func35, Try.ntmps35
          go_wp2_with first | (refine upon_widen Try.underlying24 Try.underlying30 ?_; intro r n hr he) | (go_at_call 51; refine (IsInf_w _ x _ (by omega) (by assumption) (by assumption)).mono ?_; rintro e w' ⟨rfl, rfl⟩)
          go_ret
          exact ⟨_, by unfold nx; rw [if_neg h1, if_neg h2, if_neg h3, if_pos h4]; rfl, rfl⟩
        · rw [decide_eq_true (by omega)] at e3
          go_enter Try.func35, Try.ntmps35
          go_wp2_with first | (refine upon_widen Try.underlying24 Try.underlying30 ?_; intro r n hr he) | (go_at_call 51; refine (IsInf_w _ x _ (by omega) (by assumption) (by assumption)).mono ?_; rintro e w' ⟨rfl, rfl⟩)
          go_ret
          exact ⟨_, by unfold nx; rw [if_neg h1, if_neg h2, if_neg h3, if_neg h4]; rfl, rfl⟩
theorem NextDown_ok (x : Nat) (w : World) (hx : x < 4294967296) :
    Calls Try.prog 37 #[.float .f32 x] w (fun e w' => ∃ n, e = .returned (.float .f32 (flip32 (nx (flip32 x)))) ∧ w' = w.drewN n) := by
  have hf := flip32_lt hx
  have hg := nx_lt hf
  go_enter Try.func37, Try.ntmps37
  go_wp2_with first | (go_at_call 54; refine (opposite_ok _ _ (by assumption)).mono ?_; rintro e w' ⟨rfl, rfl⟩) | (go_at_call 35; refine (NextUp_ok _ _ (by assumption)).mono ?_; rintro e w' ⟨n, rfl, rfl⟩)
  go_ret
  exact ⟨_, rfl, rfl⟩
/-- Two numbers that are the same. -/
theorem sameFloat_ok (x y : Nat) (w : World) (h : Eqv .f64 x y) :
    Calls Try.prog 31 #[.float .f64 x, .float .f64 y] w (Fb true w) := by
  have n1 := ne_self .f64 x
  have n2 := ne_self .f64 y
  rcases h.cases with rfl | ⟨h1, h2⟩
  · cases hn : isNan .f64 x <;> rw [hn] at n1
    · have e1 : (FloatKind.f64.format.order x x == some .eq) = true := by rw [order_self_num hn]; rfl
      go_enter Try.func31, Try.ntmps31
      go_wp2_with (refine wpList_f64 rfl rfl rfl rfl rfl ?_; intro r n hr he)
      · rename_i r1 m1 hr1 he1
        go_ret
        exact ⟨_, by rw [order_eqv (he1.trans he.symm) (Eqv.refl _ 0)]; simp, rfl⟩
      · go_ret
        exact ⟨0, rfl, rfl⟩
    · go_enter Try.func31, Try.ntmps31
      go_wp2
      go_ret
      exact ⟨0, rfl, rfl⟩
  · rw [h1] at n1
    rw [h2] at n2
    go_enter Try.func31, Try.ntmps31
    go_wp2
    go_ret
    exact ⟨0, rfl, rfl⟩
theorem l00In_yes (n a b : Int) (w : World) (h1 : a ≤ n) (h2 : n ≤ b) :
    Calls Try.prog 65 #[.int .i64 n, .int .i64 a, .int .i64 b] w fun e w' => e = .returned (.bool true) ∧ w = w' := by
  go_enter Try.func65, Try.ntmps65
  go_wp2
  go_ret
  exact ⟨rfl, rfl⟩
theorem l00In_no (n a b : Int) (w : World) (h : n < a ∨ b < n) :
    Calls Try.prog 65 #[.int .i64 n, .int .i64 a, .int .i64 b] w fun e w' => e = .returned (.bool false) ∧ w = w' := by
  by_cases h1 : n < a
  · go_enter Try.func65, Try.ntmps65
    go_wp2
    go_ret
    exact ⟨rfl, rfl⟩
  · have h2 : decide (n ≤ b) = false := by rw [decide_eq_false_iff_not]; omega
    go_enter Try.func65, Try.ntmps65
    go_wp2
    go_ret
    exact ⟨rfl, rfl⟩
theorem FromBits_no (n : Int) (w : World) (h : n < 0 ∨ 4294967295 < n) :
    Calls Try.prog 30 #[.int .i64 n] w fun e w' => e = .returned (.tuple #[.float .f32 0, .bool false]) ∧ w = w' := by
  by_cases h0 : n < 0
  · go_enter Try.func30, Try.ntmps30
    go_wp2
    go_ret2
    exact ⟨rfl, rfl⟩
  · have h2 : 4294967295 < n := by omega
    go_enter Try.func30, Try.ntmps30
    go_wp2
    go_ret2
    exact ⟨rfl, rfl⟩
theorem FromBits_yes (n : Int) (w : World) (h0 : 0 ≤ n) (h1 : n ≤ 4294967295) :
    Calls Try.prog 30 #[.int .i64 n] w fun e w' => e = .returned (.tuple #[.float .f32 n.toNat, .bool true]) ∧ w = w' := by
  go_enter Try.func30, Try.ntmps30
  go_wp2
  go_ret2
  exact ⟨rfl, rfl⟩
theorem specFromBits_no (n : Int) (w : World) (h : n < 0 ∨ 4294967295 < n) :
    Calls Try.prog 29 #[.int .i64 n] w fun e w' => e = .returned (.tuple #[.float .f32 0, .bool false]) ∧ w = w' := by
  go_enter Try.func29, Try.ntmps29
  go_wp2_with (go_at_call 65; refine (l00In_no _ _ _ _ (by omega)).mono ?_; rintro e w' ⟨rfl, rfl⟩)
  go_ret2
  exact ⟨rfl, rfl⟩
theorem specFromBits_yes (n : Int) (w : World) (h0 : 0 ≤ n) (h1 : n ≤ 4294967295) :
    Calls Try.prog 29 #[.int .i64 n] w fun e w' => e = .returned (.tuple #[.float .f32 n.toNat, .bool true]) ∧ w = w' := by
  go_enter Try.func29, Try.ntmps29
  go_wp2_with first | (go_at_call 65; refine (l00In_yes _ _ _ _ (by omega) (by omega)).mono ?_; rintro e w' ⟨rfl, rfl⟩) | (go_at_call 58; refine (l01From_ok _ _ (by omega) (by omega)).mono ?_; rintro e w' ⟨rfl, rfl⟩)
  go_ret2
  exact ⟨rfl, rfl⟩
end Go.Proofs.Ytnidnkelgbdcpaa
