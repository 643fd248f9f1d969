/- Shapes: lists of nodes copied. -/
import Derived.Test.YthkokkocdmbcgaaShapes2
import Derived.Test.YthkokkocdmbcgaaRow
namespace Go.Proofs.Ythkokkocdmbcgaa
open Go.Proofs.FX Go.RowKit Go.Deep
end Go.Proofs.Ythkokkocdmbcgaa
