/- Shapes: counted, copied, compared. -/
import Derived.Test.YtkpokgfllipabaaNum
import Derived.Test.YtkpokgfllipabaaSums
import Derived.Test.YtkpokgfllipabaaShp
namespace Go.Proofs.Ytkpokgfllipabaa
open Go.Proofs.FX Go.RowKit Go.Deep
def szF (left : Int) (n : Nat) : Int := if left - n < 0 then -1 else left - n
abbrev ndv (n : Nd) (u : Value) : Value := .agg #[.int .i64 n.k, .int .i64 n.a, .int .i64 n.b, u]
end Go.Proofs.Ytkpokgfllipabaa
