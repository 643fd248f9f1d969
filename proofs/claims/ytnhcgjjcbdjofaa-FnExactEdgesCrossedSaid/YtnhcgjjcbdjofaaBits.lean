/- The functions on the bits of numbers: what each of them returns, over the translated program. -/
import Derived.Test.YtnhcgjjcbdjofaaChecked
import Derived.Test.YtnhcgjjcbdjofaaFloat
import Derived.Outline
import Derived.Lib.Hide
namespace Go.Proofs.Ytnhcgjjcbdjofaa
open Go.Proofs.FX Go.RowKit

@[go_sem] theorem x_f32bits (x : Nat) (w : World) : (callFunc 116 #[.float .f32 x]).run Try.prog w = .ok (.value (.int .u32 x)) w := by kernel_rfl
theorem l01Bits_ok (x : Nat) (w : World) (hx : x < 4294967296) :
    Calls Try.prog 97 #[.float .f32 x] w fun e w' => e = .returned (.int .i64 (canon .f32 x)) ∧ w = w' := by
  have e := ne_self .f32 x
  cases hn : isNan .f32 x <;> rw [hn] at e
  · go_enter Try.func97, Try.ntmps97
    go_wp2
    go_ret
    exact ⟨by rw [canon_num hn]; rfl, rfl⟩
  · go_enter Try.func97, Try.ntmps97
    go_wp2
    go_ret
    exact ⟨by rw [canon_nan hn]; rfl, rfl⟩
theorem BitsOf_ok (x : Nat) (w : World) (hx : x < 4294967296) :
    Calls Try.prog 99 #[.float .f32 x] w fun e w' => e = .returned (.int .i64 (canon .f32 x)) ∧ w = w' := by
  have e := ne_self .f32 x
  cases hn : isNan .f32 x <;> rw [hn] at e
  · go_enter Try.func99, Try.ntmps99
    go_wp2
    go_ret
    exact ⟨by rw [canon_num hn]; rfl, rfl⟩
  · go_enter Try.func99, Try.ntmps99
    go_wp2
    go_ret
    exact ⟨by rw [canon_nan hn]; rfl, rfl⟩
def sm (x y : Nat) : Bool := ((canon .f32 x : Int) == (canon .f32 y : Int))
theorem l01Same_ok (x y : Nat) (w : World) (hx : x < 4294967296) (hy : y < 4294967296) :
    Calls Try.prog 58 #[.float .f32 x, .float .f32 y] w fun e w' => e = .returned (.bool (sm x y)) ∧ w = w' := by
  go_enter Try.func58, Try.ntmps58
  go_wp2_with (go_at_call 97; refine (l01Bits_ok _ _ (by assumption)).mono ?_; rintro e w' ⟨rfl, rfl⟩)
  go_ret
  exact ⟨rfl, rfl⟩
theorem SameNumber_ok (x y : Nat) (w : World) (hx : x < 4294967296) (hy : y < 4294967296) :
    Calls Try.prog 62 #[.float .f32 x, .float .f32 y] w fun e w' => e = .returned (.bool (sm x y)) ∧ w = w' := by
  go_enter Try.func62, Try.ntmps62
  go_wp2_with (go_at_call 99; refine (BitsOf_ok _ _ (by assumption)).mono ?_; rintro e w' ⟨rfl, rfl⟩)
  go_ret
  exact ⟨rfl, rfl⟩
end Go.Proofs.Ytnhcgjjcbdjofaa
