/- Shapes: compared. -/
import Derived.Test.YtnhcgjjcbdjofabShapes3
namespace Go.Proofs.Ytnhcgjjcbdjofab
open Go.Proofs.FX Go.RowKit Go.Deep
/-- Two lists of the same nodes. -/
def EqvN (m n : Nd) : Prop := m.k = n.k ∧ m.a = n.a ∧ m.b = n.b ∧ EqvL m.xs n.xs
def EqvS (ms ns : List Nd) : Prop := ms.length = ns.length ∧ ∀ i, i < ms.length → EqvN (ms.getD i nd0) (ns.getD i nd0)
theorem EqvS.refl (ns : List Nd) : EqvS ns ns := ⟨rfl, fun _ _ => ⟨rfl, rfl, rfl, EqvL.refl _⟩⟩
end Go.Proofs.Ytnhcgjjcbdjofab
