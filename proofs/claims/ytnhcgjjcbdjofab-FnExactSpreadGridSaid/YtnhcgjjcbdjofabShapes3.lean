/- Shapes: lists of nodes copied. -/
import Derived.Test.YtnhcgjjcbdjofabShapes2
import Derived.Test.YtnhcgjjcbdjofabRow
namespace Go.Proofs.Ytnhcgjjcbdjofab
open Go.Proofs.FX Go.RowKit Go.Deep
end Go.Proofs.Ytnhcgjjcbdjofab
