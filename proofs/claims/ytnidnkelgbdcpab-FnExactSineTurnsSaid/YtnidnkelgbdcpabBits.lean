/- The functions on the bits of numbers: what each of them returns, over the translated program. -/
import Derived.Test.YtnidnkelgbdcpabChecked
import Derived.Test.YtnidnkelgbdcpabFloat
import Derived.Outline
import Derived.Lib.Hide
namespace Go.Proofs.Ytnidnkelgbdcpab
open Go.Proofs.FX Go.RowKit

@[go_sem] theorem x_f32bits (x : Nat) (w : World) : (callFunc 49 #[.float .f32 x]).run Try.prog w = .ok (.value (.int .u32 x)) w := by kernel_rfl
theorem l01Bits_ok (x : Nat) (w : World) (hx : x < 4294967296) :
    Calls Try.prog 50 #[.float .f32 x] w fun e w' => e = .returned (.int .i64 (canon .f32 x)) ∧ w = w' := by
  have e := ne_self .f32 x
  cases hn : isNan .f32 x <;> rw [hn] at e
  · go_enter Try.func50, Try.ntmps50
    go_wp2
    go_ret
    exact ⟨by rw [canon_num hn]; rfl, rfl⟩
  · go_enter Try.func50, Try.ntmps50
    go_wp2
    go_ret
    exact ⟨by rw [canon_nan hn]; rfl, rfl⟩
def sm (x y : Nat) : Bool := ((canon .f32 x : Int) == (canon .f32 y : Int))
end Go.Proofs.Ytnidnkelgbdcpab
