/- The functions on the bits of numbers: what each of them returns, over the translated program. -/
import Derived.Test.YtojdncdbagbloaaDoorChecked
import Derived.Test.YtojdncdbagbloaaDoorFloat
import Derived.Outline
import Derived.Lib.Hide
namespace Go.Proofs.YtojdncdbagbloaaDoor
open Go.Proofs.FX Go.RowKit

@[go_sem] theorem x_f32bits (x : Nat) (w : World) : (callFunc 160 #[.float .f32 x]).run Tryd.prog w = .ok (.value (.int .u32 x)) w := by kernel_rfl
theorem l01Bits_ok (x : Nat) (w : World) (hx : x < 4294967296) :
    Calls Tryd.prog 137 #[.float .f32 x] w fun e w' => e = .returned (.int .i64 (canon .f32 x)) ∧ w = w' := by
  have e := ne_self .f32 x
  cases hn : isNan .f32 x <;> rw [hn] at e
  · go_enter Tryd.func137, Tryd.ntmps137
    go_wp2
    go_ret
    exact ⟨by rw [canon_num hn]; rfl, rfl⟩
  · go_enter Tryd.func137, Tryd.ntmps137
    go_wp2
    go_ret
    exact ⟨by rw [canon_nan hn]; rfl, rfl⟩
theorem BitsOf_ok (x : Nat) (w : World) (hx : x < 4294967296) :
    Calls Tryd.prog 131 #[.float .f32 x] w fun e w' => e = .returned (.int .i64 (canon .f32 x)) ∧ w = w' := by
  have e := ne_self .f32 x
  cases hn : isNan .f32 x <;> rw [hn] at e
  · go_enter Tryd.func131, Tryd.ntmps131
    go_wp2
    go_ret
    exact ⟨by rw [canon_num hn]; rfl, rfl⟩
  · go_enter Tryd.func131, Tryd.ntmps131
    go_wp2
    go_ret
    exact ⟨by rw [canon_nan hn]; rfl, rfl⟩
def sm (x y : Nat) : Bool := ((canon .f32 x : Int) == (canon .f32 y : Int))
theorem SameNumber_ok (x y : Nat) (w : World) (hx : x < 4294967296) (hy : y < 4294967296) :
    Calls Tryd.prog 127 #[.float .f32 x, .float .f32 y] w fun e w' => e = .returned (.bool (sm x y)) ∧ w = w' := by
  go_enter Tryd.func127, Tryd.ntmps127
  go_wp2_with (go_at_call 131; refine (BitsOf_ok _ _ (by assumption)).mono ?_; rintro e w' ⟨rfl, rfl⟩)
  go_ret
  exact ⟨rfl, rfl⟩
end Go.Proofs.YtojdncdbagbloaaDoor
