/- A vector between two others; the same vector. -/
import Derived.Test.YtnhcgjjcbdjofabVec2
namespace Go.Proofs.Ytnhcgjjcbdjofab
open Go.Proofs.FX Go.RowKit
/-- Three functions, each with a property of its value. -/
def S3 (kl ks : FuncId) (Vl Vs Va : Value → Prop) : FuncId → Array Value → Value → World → Prop := fun f _ u _ => if f = kl then Vl u else if f = ks then Vs u else Va u
set_option maxRecDepth 100000 in
theorem stays_S3 (kl ks : FuncId) (Vl Vs Va : Value → Prop) : Stays (S3 kl ks Vl Vs Va) := fun _ _ _ _ _ h _ => h
end Go.Proofs.Ytnhcgjjcbdjofab
