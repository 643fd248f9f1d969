/- Sines: the model's walk. -/
import Derived.Test.YtkpokgfllipababDoorSineWalk
namespace Go.Proofs.YtkpokgfllipababDoor
open Go.Proofs.FX Go.RowKit
def Sw (b : Bool) (z : Nat) (w : World) (e : Ending) (w' : World) : Prop := ∃ s n, e = .returned (.float .f64 (if b then Op.negFloat .f64 s else s)) ∧ s < 18446744073709551616 ∧ Eqv .f64 s (ser z) ∧ w' = w.drewN n
end Go.Proofs.YtkpokgfllipababDoor
