/- Closed facts on the program, for the cards. -/
import Derived.Test.YtojdncdbagbloaaDoorCards
import Derived.ProofKit
namespace Go.Proofs.YtojdncdbagbloaaDoor
open Go
theorem kfMain : Tryd.prog.mainIs = some (true, "668fb588db9174244f6923c0e3a406934a6978792c0832157c48add4073f1146".toList) := by kernel_rfl
theorem kfLooks : true = Tryd.prog.looks [] := by kernel_rfl
end Go.Proofs.YtojdncdbagbloaaDoor
