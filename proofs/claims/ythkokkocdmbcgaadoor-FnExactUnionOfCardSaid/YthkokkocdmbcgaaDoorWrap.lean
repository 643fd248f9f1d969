/- A shape below a node: the program's walk. -/
import Derived.Test.YthkokkocdmbcgaaDoorCopyS
import Derived.Test.YthkokkocdmbcgaaDoorTail
namespace Go.Proofs.FX
open Go Go.RowKit Go.ChangeShapes Go.WideShapes Go.Deep
/-- What two calls give: a row of nodes of one's own, and a number. -/
def SRN (W : World) (tn tf : TypeId) (fc fr : FuncId) (ns : List Nd) (r : Int) : FuncId → Array Value → Value → World → Prop := fun f _ u w => (f = fc → ∃ us, NRo W.heap.size tn tf w u ns us) ∧ (f = fr → u = .int .i64 r)
theorem stays_SRN (W : World) (tn tf : TypeId) (fc fr : FuncId) (ns : List Nd) (r : Int) : Stays (SRN W tn tf fc fr ns r) := by
  rintro f args u w w' ⟨h1, h2⟩ hx
  exact ⟨fun e => by obtain ⟨us, h⟩ := h1 e; exact ⟨us, h.below hx⟩, h2⟩
end Go.Proofs.FX
namespace Go.Proofs.YthkokkocdmbcgaaDoor
open Go.Proofs.FX Go.RowKit Go.Deep
end Go.Proofs.YthkokkocdmbcgaaDoor
