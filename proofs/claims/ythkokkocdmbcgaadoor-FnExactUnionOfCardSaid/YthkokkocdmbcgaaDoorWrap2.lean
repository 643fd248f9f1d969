/- A shape below a node: the model's walk. -/
import Derived.Test.YthkokkocdmbcgaaDoorWrap
import Derived.Test.YthkokkocdmbcgaaDoorPut
namespace Go.Proofs.YthkokkocdmbcgaaDoor
open Go.Proofs.FX Go.RowKit Go.Deep
theorem sh0 : (fun x : Int => x + 0) = fun x => x := by funext x; omega
end Go.Proofs.YthkokkocdmbcgaaDoor
