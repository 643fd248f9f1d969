/- Shapes: lists of nodes copied. -/
import Derived.Test.YtnhcgjjcbdjofaaShapes2
import Derived.Test.YtnhcgjjcbdjofaaRow
namespace Go.Proofs.Ytnhcgjjcbdjofaa
open Go.Proofs.FX Go.RowKit Go.Deep
end Go.Proofs.Ytnhcgjjcbdjofaa
