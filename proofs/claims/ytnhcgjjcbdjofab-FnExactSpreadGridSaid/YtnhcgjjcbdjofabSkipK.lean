/- A guarded operation that is skipped, normalised at once. -/
import Derived.Test.YtnhcgjjcbdjofabLaterO
namespace Go.Proofs.FX
open Go Go.RowKit
theorem later_skipK {P : Program} {ops : Array Oper} {W : World} {S : Option Tmp → FuncId → Array Value → Value → World → Prop} {Q : Act → World → Prop} {a : Act} {w : World} {o : Oper} {rest : List Oper} (hw : Region.wanted o (yielded ops a.tmps) = false)
    (h : ∀ K : Act → Prop, (∀ a, wpLaterO P ops W S Q rest a w → K a) → K (a.put o.dst undef)) : wpLaterO P ops W S Q (o :: rest) a w := later_skipO hw (h _ fun _ h => h)
end Go.Proofs.FX
