/-
  No cell of these rows narrows 'for every input' (looked for: loops, veiled, ifaces, maps, wideKeys, modest, calm, conditions, laid).
  DERIVED. THE GIVEN ROWS OF THIS SEAT. 6 by the template 'for every input the law returns true; each argument reads behind the call as it read before'; 0 by the template 'total and deterministic' (their statements: YtkpokgfllipabaaTotals.lean).
  GIVEN WITH THE SEED: the statements are not yours to turn. If you find one false, say at which input.
  Laid BY PROGRAM, IN A SANDBOX (cutbox-rows.mjs): the forced cells as the released guide's own fill.sh prints them over the translation a4d2aecb1813d24e… (all of the seat's roots in one cut). By AI agents, Wed Nov 11 2026. No macro, syntax, notation, axiom, sorry.
-/
import Derived.Test.YtkpokgfllipabaaChecked
import GoSem.Claim
import GoSem.ClaimJoined
import GoSem.ClaimMapViews
import Derived.JoinedTies
import Derived.KernelRfl
namespace Go.Proofs.Ytkpokgfllipabaa
/- THE CELL 'sum', in the pinned program and in every row, IS THE sha256 OF THE DUMP (.gsa) THAT YtkpokgfllipabaaProg.lean LOADS. Nothing in Lean hashes anything: it is a label: what it is worth is what the hold of that sum in a sandbox is worth. -/
noncomputable def Try.pinned : Pinned := { name := "ytkpokgfllipabaa", sum := "a4d2aecb1813d24ee9efbb81a755272f3488268f4a273da16453318eb8898242", checked := Try.checked }
namespace Rows
def none {H : Type} : Left H := { results := [], args := [] }

/-- 'laws.FnExactUnitOf': WHATEVER THE INPUT: true; the input reads as it did. -/
def fnExactUnitOfSpec : ChangeSpec := { name := "fnExactUnitOf", fn := fun _ => fun
  | [d] => { results := [.lit (.bool true)], args := [d] }
  | _ => none }
def fnExactUnitOfRow : OpenClaim := { program := "ytkpokgfllipabaa", sum := "a4d2aecb1813d24ee9efbb81a755272f3488268f4a273da16453318eb8898242", func := "loop.example/g01193/laws.FnExactUnitOf", spec := "fnExactUnitOf", inPlace := ["math.sqrt", "math.Float64bits", "math.Float64frombits"], unfollowed := true, recurses := true, apart := false }
def FnExactUnitOfSaid : Prop := fnExactUnitOfRow.holds Try.pinned (OpenSpec.ofChange fnExactUnitOfSpec)

/-- ITS FALSE NEIGHBOUR: 'it returns false'. Refute it at one input. -/
def fnExactUnitOfWrong : ChangeSpec := { name := "fnExactUnitOf", fn := fun _ => fun
  | [d] => { results := [.lit (.bool false)], args := [d] }
  | _ => none }
def FnExactUnitOfWrongFalsely : Prop := fnExactUnitOfRow.holds Try.pinned (OpenSpec.ofChange fnExactUnitOfWrong)

/-- 'laws.FnExactValidRay': WHATEVER THE INPUT: true; the input reads as it did. -/
def fnExactValidRaySpec : ChangeSpec := { name := "fnExactValidRay", fn := fun _ => fun
  | [d] => { results := [.lit (.bool true)], args := [d] }
  | _ => none }
def fnExactValidRayRow : OpenClaim := { program := "ytkpokgfllipabaa", sum := "a4d2aecb1813d24ee9efbb81a755272f3488268f4a273da16453318eb8898242", func := "loop.example/g01193/laws.FnExactValidRay", spec := "fnExactValidRay", inPlace := ["math.sqrt", "math.Float64bits", "math.Float64frombits"], unfollowed := true, recurses := true, apart := false }
def FnExactValidRaySaid : Prop := fnExactValidRayRow.holds Try.pinned (OpenSpec.ofChange fnExactValidRaySpec)

/-- ITS FALSE NEIGHBOUR: 'it returns false'. Refute it at one input. -/
def fnExactValidRayWrong : ChangeSpec := { name := "fnExactValidRay", fn := fun _ => fun
  | [d] => { results := [.lit (.bool false)], args := [d] }
  | _ => none }
def FnExactValidRayWrongFalsely : Prop := fnExactValidRayRow.holds Try.pinned (OpenSpec.ofChange fnExactValidRayWrong)

/-- 'laws.FnExactValidMarch': WHATEVER THE INPUT: true; the input reads as it did. -/
def fnExactValidMarchSpec : ChangeSpec := { name := "fnExactValidMarch", fn := fun _ => fun
  | [d] => { results := [.lit (.bool true)], args := [d] }
  | _ => none }
def fnExactValidMarchRow : OpenClaim := { program := "ytkpokgfllipabaa", sum := "a4d2aecb1813d24ee9efbb81a755272f3488268f4a273da16453318eb8898242", func := "loop.example/g01193/laws.FnExactValidMarch", spec := "fnExactValidMarch", inPlace := ["math.Float64bits", "math.Float64frombits"], apart := false }
def FnExactValidMarchSaid : Prop := fnExactValidMarchRow.holds Try.pinned (OpenSpec.ofChange fnExactValidMarchSpec)

/-- ITS FALSE NEIGHBOUR: 'it returns false'. Refute it at one input. -/
def fnExactValidMarchWrong : ChangeSpec := { name := "fnExactValidMarch", fn := fun _ => fun
  | [d] => { results := [.lit (.bool false)], args := [d] }
  | _ => none }
def FnExactValidMarchWrongFalsely : Prop := fnExactValidMarchRow.holds Try.pinned (OpenSpec.ofChange fnExactValidMarchWrong)

/-- 'laws.FnExactPlaceOn': WHATEVER THE INPUT: true; the input reads as it did. -/
def fnExactPlaceOnSpec : ChangeSpec := { name := "fnExactPlaceOn", fn := fun _ => fun
  | [d1, d2] => { results := [.lit (.bool true)], args := [d1, d2] }
  | _ => none }
def fnExactPlaceOnRow : OpenClaim := { program := "ytkpokgfllipabaa", sum := "a4d2aecb1813d24ee9efbb81a755272f3488268f4a273da16453318eb8898242", func := "loop.example/g01193/laws.FnExactPlaceOn", spec := "fnExactPlaceOn", inPlace := ["math.sqrt", "math.Float64bits", "math.Float64frombits"], unfollowed := true, recurses := true, apart := false }
def FnExactPlaceOnSaid : Prop := fnExactPlaceOnRow.holds Try.pinned (OpenSpec.ofChange fnExactPlaceOnSpec)

/-- ITS FALSE NEIGHBOUR: 'it returns false'. Refute it at one input. -/
def fnExactPlaceOnWrong : ChangeSpec := { name := "fnExactPlaceOn", fn := fun _ => fun
  | [d1, d2] => { results := [.lit (.bool false)], args := [d1, d2] }
  | _ => none }
def FnExactPlaceOnWrongFalsely : Prop := fnExactPlaceOnRow.holds Try.pinned (OpenSpec.ofChange fnExactPlaceOnWrong)

/-- 'laws.FnExactSignChanges': WHATEVER THE INPUT: true; the input reads as it did. -/
def fnExactSignChangesSpec : ChangeSpec := { name := "fnExactSignChanges", fn := fun _ => fun
  | [d] => { results := [.lit (.bool true)], args := [d] }
  | _ => none }
def fnExactSignChangesRow : OpenClaim := { program := "ytkpokgfllipabaa", sum := "a4d2aecb1813d24ee9efbb81a755272f3488268f4a273da16453318eb8898242", func := "loop.example/g01193/laws.FnExactSignChanges", spec := "fnExactSignChanges", apart := false }
def FnExactSignChangesSaid : Prop := fnExactSignChangesRow.holds Try.pinned (OpenSpec.ofChange fnExactSignChangesSpec)

/-- ITS FALSE NEIGHBOUR: 'it returns false'. Refute it at one input. -/
def fnExactSignChangesWrong : ChangeSpec := { name := "fnExactSignChanges", fn := fun _ => fun
  | [d] => { results := [.lit (.bool false)], args := [d] }
  | _ => none }
def FnExactSignChangesWrongFalsely : Prop := fnExactSignChangesRow.holds Try.pinned (OpenSpec.ofChange fnExactSignChangesWrong)

/-- 'laws.FnAngles': WHATEVER THE INPUT: true; the input reads as it did. -/
def fnAnglesSpec : ChangeSpec := { name := "fnAngles", fn := fun _ => fun
  | [d1, d2] => { results := [.lit (.bool true)], args := [d1, d2] }
  | _ => none }
def fnAnglesRow : OpenClaim := { program := "ytkpokgfllipabaa", sum := "a4d2aecb1813d24ee9efbb81a755272f3488268f4a273da16453318eb8898242", func := "loop.example/g01193/laws.FnAngles", spec := "fnAngles", inPlace := ["math.Float64bits", "math.Float64frombits", "math.sqrt", "math.Float32bits", "math.Float32frombits"], unfollowed := true, recurses := true, apart := false }
def FnAnglesSaid : Prop := fnAnglesRow.holds Try.pinned (OpenSpec.ofChange fnAnglesSpec)

/-- ITS FALSE NEIGHBOUR: 'it returns false'. Refute it at one input. -/
def fnAnglesWrong : ChangeSpec := { name := "fnAngles", fn := fun _ => fun
  | [d1, d2] => { results := [.lit (.bool false)], args := [d1, d2] }
  | _ => none }
def FnAnglesWrongFalsely : Prop := fnAnglesRow.holds Try.pinned (OpenSpec.ofChange fnAnglesWrong)

/- THE SECOND FORM. 'bulk': how many values and letters a reading holds, each counted each time it is reached (what is shared counts as often as it is met; a slice's spare places count too). A statement '..UptoSaid' is the law's where the arguments, and the package variables that the reading takes, are together of bulk at most 1048576: NARROWER than '..Said'. Prove '..Said' where nothing that the law and all that it calls make is longer than what came in: it says more and counts as full. Else prove '..UptoSaid'. A law counts once. -/
mutual
def uptoBulk {H : Type} : DataW H → Nat
  | .lit (.string bytes) => bytes.length + 1
  | .lit _ => 1
  | .nil => 1
  | .ptr d => uptoBulk d + 1
  | .slice elems spare => uptoBulkAll elems + uptoBulkAll spare + 1
  | .agg parts => uptoBulkAll parts + 1
  | .iface _ d => uptoBulk d + 1
  | .map entries => uptoBulkEntries entries + 1
  | .held _ => 1
def uptoBulkAll {H : Type} : List (DataW H) → Nat
  | [] => 0
  | d :: r => uptoBulk d + uptoBulkAll r
def uptoBulkEntries {H : Type} : List (Lit × DataW H) → Nat
  | [] => 0
  | x :: r => uptoBulkEntry x + uptoBulkEntries r
def uptoBulkEntry {H : Type} : Lit × DataW H → Nat
  | (.string bytes, d) => bytes.length + uptoBulk d + 1
  | (_, d) => uptoBulk d + 1
 end
def uptoSmall : (H : Type) → List (DataW H) → Bool := fun _ ds => decide (uptoBulkAll ds ≤ 1048576)
def OpenSpec.upto (s : _root_.Go.ChangeSpec) : _root_.Go.OpenSpec := { _root_.Go.OpenSpec.ofChange s with cond := some uptoSmall }

/-- 'laws.FnExactUnitOf', WHERE WHAT IT READS IS OF BULK AT MOST 1048576: true; the input reads as it did. -/
def fnExactUnitOfUptoRow : OpenClaim := { program := "ytkpokgfllipabaa", sum := "a4d2aecb1813d24ee9efbb81a755272f3488268f4a273da16453318eb8898242", func := "loop.example/g01193/laws.FnExactUnitOf", spec := "fnExactUnitOf", inPlace := ["math.sqrt", "math.Float64bits", "math.Float64frombits"], unfollowed := true, recurses := true, apart := false, narrowed := true }
def FnExactUnitOfUptoSaid : Prop := fnExactUnitOfUptoRow.holds Try.pinned (OpenSpec.upto fnExactUnitOfSpec)

/-- 'laws.FnExactValidRay', WHERE WHAT IT READS IS OF BULK AT MOST 1048576: true; the input reads as it did. -/
def fnExactValidRayUptoRow : OpenClaim := { program := "ytkpokgfllipabaa", sum := "a4d2aecb1813d24ee9efbb81a755272f3488268f4a273da16453318eb8898242", func := "loop.example/g01193/laws.FnExactValidRay", spec := "fnExactValidRay", inPlace := ["math.sqrt", "math.Float64bits", "math.Float64frombits"], unfollowed := true, recurses := true, apart := false, narrowed := true }
def FnExactValidRayUptoSaid : Prop := fnExactValidRayUptoRow.holds Try.pinned (OpenSpec.upto fnExactValidRaySpec)

/-- 'laws.FnExactValidMarch', WHERE WHAT IT READS IS OF BULK AT MOST 1048576: true; the input reads as it did. -/
def fnExactValidMarchUptoRow : OpenClaim := { program := "ytkpokgfllipabaa", sum := "a4d2aecb1813d24ee9efbb81a755272f3488268f4a273da16453318eb8898242", func := "loop.example/g01193/laws.FnExactValidMarch", spec := "fnExactValidMarch", inPlace := ["math.Float64bits", "math.Float64frombits"], apart := false, narrowed := true }
def FnExactValidMarchUptoSaid : Prop := fnExactValidMarchUptoRow.holds Try.pinned (OpenSpec.upto fnExactValidMarchSpec)

/-- 'laws.FnExactPlaceOn', WHERE WHAT IT READS IS OF BULK AT MOST 1048576: true; the input reads as it did. -/
def fnExactPlaceOnUptoRow : OpenClaim := { program := "ytkpokgfllipabaa", sum := "a4d2aecb1813d24ee9efbb81a755272f3488268f4a273da16453318eb8898242", func := "loop.example/g01193/laws.FnExactPlaceOn", spec := "fnExactPlaceOn", inPlace := ["math.sqrt", "math.Float64bits", "math.Float64frombits"], unfollowed := true, recurses := true, apart := false, narrowed := true }
def FnExactPlaceOnUptoSaid : Prop := fnExactPlaceOnUptoRow.holds Try.pinned (OpenSpec.upto fnExactPlaceOnSpec)

/-- 'laws.FnExactSignChanges', WHERE WHAT IT READS IS OF BULK AT MOST 1048576: true; the input reads as it did. -/
def fnExactSignChangesUptoRow : OpenClaim := { program := "ytkpokgfllipabaa", sum := "a4d2aecb1813d24ee9efbb81a755272f3488268f4a273da16453318eb8898242", func := "loop.example/g01193/laws.FnExactSignChanges", spec := "fnExactSignChanges", apart := false, narrowed := true }
def FnExactSignChangesUptoSaid : Prop := fnExactSignChangesUptoRow.holds Try.pinned (OpenSpec.upto fnExactSignChangesSpec)

/-- 'laws.FnAngles', WHERE WHAT IT READS IS OF BULK AT MOST 1048576: true; the input reads as it did. -/
def fnAnglesUptoRow : OpenClaim := { program := "ytkpokgfllipabaa", sum := "a4d2aecb1813d24ee9efbb81a755272f3488268f4a273da16453318eb8898242", func := "loop.example/g01193/laws.FnAngles", spec := "fnAngles", inPlace := ["math.Float64bits", "math.Float64frombits", "math.sqrt", "math.Float32bits", "math.Float32frombits"], unfollowed := true, recurses := true, apart := false, narrowed := true }
def FnAnglesUptoSaid : Prop := fnAnglesUptoRow.holds Try.pinned (OpenSpec.upto fnAnglesSpec)

end Rows
end Go.Proofs.Ytkpokgfllipabaa
