/- Shapes: lists of nodes copied. -/
import Derived.Test.YtkpokgfllipabaaShapes2
import Derived.Test.YtkpokgfllipabaaRow
namespace Go.Proofs.Ytkpokgfllipabaa
open Go.Proofs.FX Go.RowKit Go.Deep
end Go.Proofs.Ytkpokgfllipabaa
