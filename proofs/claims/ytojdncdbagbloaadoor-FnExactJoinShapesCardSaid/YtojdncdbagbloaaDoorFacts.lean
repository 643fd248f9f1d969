/- Closed facts on the program, each for itself. -/
import Derived.Test.YtojdncdbagbloaaDoorRows
import Derived.ProofKit
import Derived.JoinedOf
namespace Go.Proofs.YtojdncdbagbloaaDoor
open Go
theorem and_mk {a b : Bool} (ha : a = true) (hb : b = true) : (a && b) = true := by rw [ha, hb]; rfl
theorem kfLaid : (laidOutB Tryd.prog) = true := by kernel_rfl
theorem kfMaps : (mapsRowed Tryd.prog) = true := by kernel_rfl
theorem kfHeard : (Tryd.prog.stopsHeard) = true := by kernel_rfl
theorem kfEnter : (Tryd.prog.mayEnter) = true := by kernel_rfl
theorem kfKeys : (({ program := "", sum := "", func := "", spec := "" } : OpenClaim).plainKeys == Tryd.prog.plainKeys) = true := by kernel_rfl
theorem kfLifts : (({ program := "", sum := "", func := "", spec := "" } : OpenClaim).lifted == Tryd.prog.liftsFinal) = true := by kernel_rfl
theorem kfMake : (Tryd.prog.make == some ({ program := "", sum := "", func := "", spec := "" } : OpenClaim).make) = true := by kernel_rfl
end Go.Proofs.YtojdncdbagbloaaDoor
