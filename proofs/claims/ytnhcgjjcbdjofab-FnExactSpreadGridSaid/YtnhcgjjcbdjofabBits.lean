/- The functions on the bits of numbers: what each of them returns, over the translated program. -/
import Derived.Test.YtnhcgjjcbdjofabChecked
import Derived.Test.YtnhcgjjcbdjofabFloat
import Derived.Outline
import Derived.Lib.Hide
namespace Go.Proofs.Ytnhcgjjcbdjofab
open Go.Proofs.FX Go.RowKit

def sm (x y : Nat) : Bool := ((canon .f32 x : Int) == (canon .f32 y : Int))
end Go.Proofs.Ytnhcgjjcbdjofab
