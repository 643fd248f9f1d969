/- The functions on the bits of numbers: what each of them returns, over the translated program. -/
import Derived.Test.YtaamfjokkphckabGreatDoorChecked
import Derived.Test.YtaamfjokkphckabGreatDoorFloat
import Derived.Outline
import Derived.Lib.Hide
namespace Go.Proofs.YtaamfjokkphckabGreatDoor
open Go.Proofs.FX Go.RowKit

@[go_sem] theorem x_f32bits (x : Nat) (w : World) : (callFunc 94 #[.float .f32 x]).run Tryz.prog w = .ok (.value (.int .u32 x)) w := by kernel_rfl
def sm (x y : Nat) : Bool := ((canon .f32 x : Int) == (canon .f32 y : Int))
end Go.Proofs.YtaamfjokkphckabGreatDoor
