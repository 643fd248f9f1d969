/- Numbers: what the functions on single numbers return. -/
import Derived.Test.YtnhcgjjcbdjofabBits
namespace Go.Proofs.Ytnhcgjjcbdjofab
open Go.Proofs.FX Go.RowKit
@[go_sem] theorem x_f64bits (x : Nat) (w : World) : (callFunc 76 #[.float .f64 x]).run Try.prog w = .ok (.value (.int .u64 x)) w := by kernel_rfl
@[go_sem] theorem x_f64from (x : Int) (w : World) : (callFunc 75 #[.int .u64 x]).run Try.prog w = .ok (.value (.float .f64 x.toNat)) w := by kernel_rfl
@[go_sem] theorem x_f32from (x : Int) (w : World) : (callFunc 73 #[.int .u32 x]).run Try.prog w = .ok (.value (.float .f32 x.toNat)) w := by kernel_rfl
theorem Abs_ok (x : Nat) (w : World) (hx : x < 18446744073709551616) :
    Calls Try.prog 74 #[.float .f64 x] w fun e w' => e = .returned (.float .f64 (x % 9223372036854775808)) ∧ w = w' := by
  have e := u64_drop63 x hx
  go_enter Try.func74, Try.ntmps74
  go_wp2
  go_ret
  exact ⟨rfl, rfl⟩
theorem l01From_ok (n : Int) (w : World) (h0 : 0 ≤ n) (h1 : n ≤ 4294967295) :
    Calls Try.prog 70 #[.int .i64 n] w fun e w' => e = .returned (.float .f32 n.toNat) ∧ w = w' := by
  go_enter Try.func70, Try.ntmps70
  go_wp2
  go_ret
  exact ⟨rfl, rfl⟩
theorem l01Finite_ok (x : Nat) (w : World) :
    Calls Try.prog 50 #[.float .f32 x] w (Fb (fin .f32 x) w) := by
  go_enter Try.func50, Try.ntmps50
  go_wp2_with (refine wpList_f32 rfl rfl rfl rfl rfl ?_; intro r n hr he)
  go_ret
  exact ⟨n, by rw [← finite_test he]; rfl, rfl⟩
theorem IsFinite_ok (x : Nat) (w : World) :
    Calls Try.prog 72 #[.float .f32 x] w (Fb (fin .f32 x) w) := by
  go_enter Try.func72, Try.ntmps72
  go_wp2_with first | (refine wpList_widen rfl rfl rfl Try.underlying22 Try.underlying53 ?_; intro r n hr he) | (go_at_call 74; refine (Abs_ok _ _ (by assumption)).mono ?_; rintro e w' ⟨rfl, rfl⟩)
  go_ret
  exact ⟨n, by rw [← max_test he]; rfl, rfl⟩
/-- Two numbers that are the same. -/
theorem sameFloat_ok (x y : Nat) (w : World) (h : Eqv .f64 x y) :
    Calls Try.prog 37 #[.float .f64 x, .float .f64 y] w (Fb true w) := by
  have n1 := ne_self .f64 x
  have n2 := ne_self .f64 y
  rcases h.cases with rfl | ⟨h1, h2⟩
  · cases hn : isNan .f64 x <;> rw [hn] at n1
    · have e1 : (FloatKind.f64.format.order x x == some .eq) = true := by rw [order_self_num hn]; rfl
      go_enter Try.func37, Try.ntmps37
      go_wp2_with (refine wpList_f64 rfl rfl rfl rfl rfl ?_; intro r n hr he)
      · rename_i r1 m1 hr1 he1
        go_ret
        exact ⟨_, by rw [order_eqv (he1.trans he.symm) (Eqv.refl _ 0)]; simp, rfl⟩
      · go_ret
        exact ⟨0, rfl, rfl⟩
    · go_enter Try.func37, Try.ntmps37
      go_wp2
      go_ret
      exact ⟨0, rfl, rfl⟩
  · rw [h1] at n1
    rw [h2] at n2
    go_enter Try.func37, Try.ntmps37
    go_wp2
    go_ret
    exact ⟨0, rfl, rfl⟩
theorem l00In_yes (n a b : Int) (w : World) (h1 : a ≤ n) (h2 : n ≤ b) :
    Calls Try.prog 28 #[.int .i64 n, .int .i64 a, .int .i64 b] w fun e w' => e = .returned (.bool true) ∧ w = w' := by
  go_enter Try.func28, Try.ntmps28
  go_wp2
  go_ret
  exact ⟨rfl, rfl⟩
theorem l00In_no (n a b : Int) (w : World) (h : n < a ∨ b < n) :
    Calls Try.prog 28 #[.int .i64 n, .int .i64 a, .int .i64 b] w fun e w' => e = .returned (.bool false) ∧ w = w' := by
  by_cases h1 : n < a
  · go_enter Try.func28, Try.ntmps28
    go_wp2
    go_ret
    exact ⟨rfl, rfl⟩
  · have h2 : decide (n ≤ b) = false := by rw [decide_eq_false_iff_not]; omega
    go_enter Try.func28, Try.ntmps28
    go_wp2
    go_ret
    exact ⟨rfl, rfl⟩
end Go.Proofs.Ytnhcgjjcbdjofab
