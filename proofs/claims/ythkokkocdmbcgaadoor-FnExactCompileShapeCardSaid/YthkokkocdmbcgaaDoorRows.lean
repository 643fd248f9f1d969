/-
  NARROWER THAN 'FOR EVERY INPUT', by the rows' own cells (each row's printed sentence says how): FnExactUnionOf: laid · FnExactValidProgram: laid · FnExactCompileShape: laid · FnExactStepsOfKind: laid · FnExactIsEmptyNode: laid.
  DERIVED. THE GIVEN ROWS OF THIS SEAT. 5 by the template 'for every input the law returns true; each argument reads behind the call as it read before'; 0 by the template 'total and deterministic' (their statements: YthkokkocdmbcgaaDoorTotals.lean).
  GIVEN WITH THE SEED: the statements are not yours to turn. If you find one false, say at which input.
  Laid BY PROGRAM, IN A SANDBOX (cutbox-rows.mjs): the forced cells as the released guide's own fill.sh prints them over the translation 584f25dfca62a466… (all of the seat's roots in one cut). By AI agents, Wed Nov 11 2026. No macro, syntax, notation, axiom, sorry.
-/
import Derived.Test.YthkokkocdmbcgaaDoorChecked
import GoSem.Claim
import GoSem.ClaimJoined
import GoSem.ClaimMapViews
import Derived.JoinedTies
import Derived.KernelRfl
namespace Go.Proofs.YthkokkocdmbcgaaDoor
/- THE CELL 'sum', in the pinned program and in every row, IS THE sha256 OF THE DUMP (.gsa) THAT YthkokkocdmbcgaaDoorProg.lean LOADS. Nothing in Lean hashes anything: it is a label: what it is worth is what the hold of that sum in a sandbox is worth. -/
noncomputable def Tryd.pinned : Pinned := { name := "ythkokkocdmbcgaadoor", sum := "584f25dfca62a466728c789d410a034e54a4238247e544e36280580abbc41e1c", checked := Tryd.checked }
namespace Rows
def none {H : Type} : Left H := { results := [], args := [] }

/- WHAT THE LISTED PACKAGE-LEVEL VARIABLES READ AS WHEN THE CALL BEGINS. Each datum BY PROGRAM (the guide's laid-datum.mjs) off the statement by which the dump's own 'gosem.cut.vars' lays the variable. In a bare row this is a premise. The card (YthkokkocdmbcgaaDoorCards.lean) ties it to the program's text. -/
def laid_loop_example_g01193_impl_rules {H : Type} : DataW H := .agg [.agg [.lit (.int .i64 0), .lit (.bool false), .lit (.int .i64 1), .lit (.int .i64 1)], .agg [.lit (.int .i64 0), .lit (.bool false), .lit (.int .i64 3), .lit (.int .i64 1)], .agg [.lit (.int .i64 0), .lit (.bool false), .lit (.int .i64 2), .lit (.int .i64 1)], .agg [.lit (.int .i64 0), .lit (.bool false), .lit (.int .i64 2), .lit (.int .i64 1)], .agg [.lit (.int .i64 0), .lit (.bool false), .lit (.int .i64 4), .lit (.int .i64 0)], .agg [.lit (.int .i64 2), .lit (.bool false), .lit (.int .i64 0), .lit (.int .i64 0)], .agg [.lit (.int .i64 2), .lit (.bool false), .lit (.int .i64 0), .lit (.int .i64 0)], .agg [.lit (.int .i64 2), .lit (.bool false), .lit (.int .i64 0), .lit (.int .i64 0)], .agg [.lit (.int .i64 2), .lit (.bool false), .lit (.int .i64 1), .lit (.int .i64 2)], .agg [.lit (.int .i64 1), .lit (.bool false), .lit (.int .i64 3), .lit (.int .i64 0)], .agg [.lit (.int .i64 1), .lit (.bool false), .lit (.int .i64 1), .lit (.int .i64 2)], .agg [.lit (.int .i64 1), .lit (.bool false), .lit (.int .i64 3), .lit (.int .i64 2)], .agg [.lit (.int .i64 1), .lit (.bool true), .lit (.int .i64 1), .lit (.int .i64 0)], .agg [.lit (.int .i64 1), .lit (.bool true), .lit (.int .i64 0), .lit (.int .i64 0)], .agg [.lit (.int .i64 1), .lit (.bool true), .lit (.int .i64 1), .lit (.int .i64 2)], .agg [.lit (.int .i64 1), .lit (.bool false), .lit (.int .i64 1), .lit (.int .i64 0)], .agg [.lit (.int .i64 1), .lit (.bool false), .lit (.int .i64 1), .lit (.int .i64 1)]]

/-- 'laws.FnExactUnionOf': WHATEVER THE INPUT: true; the input reads as it did. -/
def fnExactUnionOfSpec : ChangeSpec := { name := "fnExactUnionOf", vars := ["loop.example/g01193/impl.rules"], fn := fun _ => fun
  | [d, g1] => { results := [.lit (.bool true)], args := [d], vars := [g1] }
  | _ => none }
def fnExactUnionOfRow : OpenClaim := { program := "ythkokkocdmbcgaadoor", sum := "584f25dfca62a466728c789d410a034e54a4238247e544e36280580abbc41e1c", func := "loop.example/g01193/laws.FnExactUnionOf", spec := "fnExactUnionOf", inPlace := ["math.Float64bits", "math.Float64frombits"], unfollowed := true, recurses := true, named := ["loop.example/g01193/impl.rules"], apart := false, laid := [("loop.example/g01193/impl.rules", laid_loop_example_g01193_impl_rules)] }
def FnExactUnionOfSaid : Prop := fnExactUnionOfRow.holds Tryd.pinned (OpenSpec.ofChange fnExactUnionOfSpec)

/-- ITS FALSE NEIGHBOUR: 'it returns false'. Refute it at one input. -/
def fnExactUnionOfWrong : ChangeSpec := { name := "fnExactUnionOf", vars := ["loop.example/g01193/impl.rules"], fn := fun _ => fun
  | [d, g1] => { results := [.lit (.bool false)], args := [d], vars := [g1] }
  | _ => none }
def FnExactUnionOfWrongFalsely : Prop := fnExactUnionOfRow.holds Tryd.pinned (OpenSpec.ofChange fnExactUnionOfWrong)

/-- 'laws.FnExactValidProgram': WHATEVER THE INPUT: true; the input reads as it did. -/
def fnExactValidProgramSpec : ChangeSpec := { name := "fnExactValidProgram", vars := ["loop.example/g01193/impl.rules"], fn := fun _ => fun
  | [d, g1] => { results := [.lit (.bool true)], args := [d], vars := [g1] }
  | _ => none }
def fnExactValidProgramRow : OpenClaim := { program := "ythkokkocdmbcgaadoor", sum := "584f25dfca62a466728c789d410a034e54a4238247e544e36280580abbc41e1c", func := "loop.example/g01193/laws.FnExactValidProgram", spec := "fnExactValidProgram", inPlace := ["math.Float64bits", "math.Float64frombits"], unfollowed := true, recurses := true, named := ["loop.example/g01193/impl.rules"], apart := false, laid := [("loop.example/g01193/impl.rules", laid_loop_example_g01193_impl_rules)] }
def FnExactValidProgramSaid : Prop := fnExactValidProgramRow.holds Tryd.pinned (OpenSpec.ofChange fnExactValidProgramSpec)

/-- ITS FALSE NEIGHBOUR: 'it returns false'. Refute it at one input. -/
def fnExactValidProgramWrong : ChangeSpec := { name := "fnExactValidProgram", vars := ["loop.example/g01193/impl.rules"], fn := fun _ => fun
  | [d, g1] => { results := [.lit (.bool false)], args := [d], vars := [g1] }
  | _ => none }
def FnExactValidProgramWrongFalsely : Prop := fnExactValidProgramRow.holds Tryd.pinned (OpenSpec.ofChange fnExactValidProgramWrong)

/-- 'laws.FnExactCompileShape': WHATEVER THE INPUT: true; the input reads as it did. -/
def fnExactCompileShapeSpec : ChangeSpec := { name := "fnExactCompileShape", vars := ["loop.example/g01193/impl.rules"], fn := fun _ => fun
  | [d, g1] => { results := [.lit (.bool true)], args := [d], vars := [g1] }
  | _ => none }
def fnExactCompileShapeRow : OpenClaim := { program := "ythkokkocdmbcgaadoor", sum := "584f25dfca62a466728c789d410a034e54a4238247e544e36280580abbc41e1c", func := "loop.example/g01193/laws.FnExactCompileShape", spec := "fnExactCompileShape", inPlace := ["math.Float32bits", "math.Float64bits", "math.Float64frombits"], recurses := true, named := ["loop.example/g01193/impl.rules"], apart := false, laid := [("loop.example/g01193/impl.rules", laid_loop_example_g01193_impl_rules)] }
def FnExactCompileShapeSaid : Prop := fnExactCompileShapeRow.holds Tryd.pinned (OpenSpec.ofChange fnExactCompileShapeSpec)

/-- ITS FALSE NEIGHBOUR: 'it returns false'. Refute it at one input. -/
def fnExactCompileShapeWrong : ChangeSpec := { name := "fnExactCompileShape", vars := ["loop.example/g01193/impl.rules"], fn := fun _ => fun
  | [d, g1] => { results := [.lit (.bool false)], args := [d], vars := [g1] }
  | _ => none }
def FnExactCompileShapeWrongFalsely : Prop := fnExactCompileShapeRow.holds Tryd.pinned (OpenSpec.ofChange fnExactCompileShapeWrong)

/-- 'laws.FnExactStepsOfKind': WHATEVER THE INPUT: true; the input reads as it did. -/
def fnExactStepsOfKindSpec : ChangeSpec := { name := "fnExactStepsOfKind", vars := ["loop.example/g01193/impl.rules"], fn := fun _ => fun
  | [d1, d2, g1] => { results := [.lit (.bool true)], args := [d1, d2], vars := [g1] }
  | _ => none }
def fnExactStepsOfKindRow : OpenClaim := { program := "ythkokkocdmbcgaadoor", sum := "584f25dfca62a466728c789d410a034e54a4238247e544e36280580abbc41e1c", func := "loop.example/g01193/laws.FnExactStepsOfKind", spec := "fnExactStepsOfKind", inPlace := ["math.Float64bits", "math.Float64frombits"], unfollowed := true, recurses := true, named := ["loop.example/g01193/impl.rules"], apart := false, laid := [("loop.example/g01193/impl.rules", laid_loop_example_g01193_impl_rules)] }
def FnExactStepsOfKindSaid : Prop := fnExactStepsOfKindRow.holds Tryd.pinned (OpenSpec.ofChange fnExactStepsOfKindSpec)

/-- ITS FALSE NEIGHBOUR: 'it returns false'. Refute it at one input. -/
def fnExactStepsOfKindWrong : ChangeSpec := { name := "fnExactStepsOfKind", vars := ["loop.example/g01193/impl.rules"], fn := fun _ => fun
  | [d1, d2, g1] => { results := [.lit (.bool false)], args := [d1, d2], vars := [g1] }
  | _ => none }
def FnExactStepsOfKindWrongFalsely : Prop := fnExactStepsOfKindRow.holds Tryd.pinned (OpenSpec.ofChange fnExactStepsOfKindWrong)

/-- 'laws.FnExactIsEmptyNode': WHATEVER THE INPUT: true; the input reads as it did. -/
def fnExactIsEmptyNodeSpec : ChangeSpec := { name := "fnExactIsEmptyNode", vars := ["loop.example/g01193/impl.rules"], fn := fun _ => fun
  | [d, g1] => { results := [.lit (.bool true)], args := [d], vars := [g1] }
  | _ => none }
def fnExactIsEmptyNodeRow : OpenClaim := { program := "ythkokkocdmbcgaadoor", sum := "584f25dfca62a466728c789d410a034e54a4238247e544e36280580abbc41e1c", func := "loop.example/g01193/laws.FnExactIsEmptyNode", spec := "fnExactIsEmptyNode", inPlace := ["math.Float32bits", "math.Float64bits", "math.Float64frombits"], named := ["loop.example/g01193/impl.rules"], apart := false, laid := [("loop.example/g01193/impl.rules", laid_loop_example_g01193_impl_rules)] }
def FnExactIsEmptyNodeSaid : Prop := fnExactIsEmptyNodeRow.holds Tryd.pinned (OpenSpec.ofChange fnExactIsEmptyNodeSpec)

/-- ITS FALSE NEIGHBOUR: 'it returns false'. Refute it at one input. -/
def fnExactIsEmptyNodeWrong : ChangeSpec := { name := "fnExactIsEmptyNode", vars := ["loop.example/g01193/impl.rules"], fn := fun _ => fun
  | [d, g1] => { results := [.lit (.bool false)], args := [d], vars := [g1] }
  | _ => none }
def FnExactIsEmptyNodeWrongFalsely : Prop := fnExactIsEmptyNodeRow.holds Tryd.pinned (OpenSpec.ofChange fnExactIsEmptyNodeWrong)

/- THE SECOND FORM. 'bulk': how many values and letters a reading holds, each counted each time it is reached (what is shared counts as often as it is met; a slice's spare places count too). A statement '..UptoSaid' is the law's where the arguments, and the package variables that the reading takes, are together of bulk at most 1048576: NARROWER than '..Said'. Prove '..Said' where nothing that the law and all that it calls make is longer than what came in: it says more and counts as full. Else prove '..UptoSaid'. A law counts once. -/
mutual
def uptoBulk {H : Type} : DataW H → Nat
  | .lit (.string bytes) => bytes.length + 1
  | .lit _ => 1
  | .nil => 1
  | .ptr d => uptoBulk d + 1
  | .slice elems spare => uptoBulkAll elems + uptoBulkAll spare + 1
  | .agg parts => uptoBulkAll parts + 1
  | .iface _ d => uptoBulk d + 1
  | .map entries => uptoBulkEntries entries + 1
  | .held _ => 1
def uptoBulkAll {H : Type} : List (DataW H) → Nat
  | [] => 0
  | d :: r => uptoBulk d + uptoBulkAll r
def uptoBulkEntries {H : Type} : List (Lit × DataW H) → Nat
  | [] => 0
  | x :: r => uptoBulkEntry x + uptoBulkEntries r
def uptoBulkEntry {H : Type} : Lit × DataW H → Nat
  | (.string bytes, d) => bytes.length + uptoBulk d + 1
  | (_, d) => uptoBulk d + 1
 end
def uptoSmall : (H : Type) → List (DataW H) → Bool := fun _ ds => decide (uptoBulkAll ds ≤ 1048576)
def OpenSpec.upto (s : _root_.Go.ChangeSpec) : _root_.Go.OpenSpec := { _root_.Go.OpenSpec.ofChange s with cond := some uptoSmall }

/-- 'laws.FnExactUnionOf', WHERE WHAT IT READS IS OF BULK AT MOST 1048576: true; the input reads as it did. -/
def fnExactUnionOfUptoRow : OpenClaim := { program := "ythkokkocdmbcgaadoor", sum := "584f25dfca62a466728c789d410a034e54a4238247e544e36280580abbc41e1c", func := "loop.example/g01193/laws.FnExactUnionOf", spec := "fnExactUnionOf", inPlace := ["math.Float64bits", "math.Float64frombits"], unfollowed := true, recurses := true, named := ["loop.example/g01193/impl.rules"], apart := false, laid := [("loop.example/g01193/impl.rules", laid_loop_example_g01193_impl_rules)], narrowed := true }
def FnExactUnionOfUptoSaid : Prop := fnExactUnionOfUptoRow.holds Tryd.pinned (OpenSpec.upto fnExactUnionOfSpec)

/-- 'laws.FnExactValidProgram', WHERE WHAT IT READS IS OF BULK AT MOST 1048576: true; the input reads as it did. -/
def fnExactValidProgramUptoRow : OpenClaim := { program := "ythkokkocdmbcgaadoor", sum := "584f25dfca62a466728c789d410a034e54a4238247e544e36280580abbc41e1c", func := "loop.example/g01193/laws.FnExactValidProgram", spec := "fnExactValidProgram", inPlace := ["math.Float64bits", "math.Float64frombits"], unfollowed := true, recurses := true, named := ["loop.example/g01193/impl.rules"], apart := false, laid := [("loop.example/g01193/impl.rules", laid_loop_example_g01193_impl_rules)], narrowed := true }
def FnExactValidProgramUptoSaid : Prop := fnExactValidProgramUptoRow.holds Tryd.pinned (OpenSpec.upto fnExactValidProgramSpec)

/-- 'laws.FnExactCompileShape', WHERE WHAT IT READS IS OF BULK AT MOST 1048576: true; the input reads as it did. -/
def fnExactCompileShapeUptoRow : OpenClaim := { program := "ythkokkocdmbcgaadoor", sum := "584f25dfca62a466728c789d410a034e54a4238247e544e36280580abbc41e1c", func := "loop.example/g01193/laws.FnExactCompileShape", spec := "fnExactCompileShape", inPlace := ["math.Float32bits", "math.Float64bits", "math.Float64frombits"], recurses := true, named := ["loop.example/g01193/impl.rules"], apart := false, laid := [("loop.example/g01193/impl.rules", laid_loop_example_g01193_impl_rules)], narrowed := true }
def FnExactCompileShapeUptoSaid : Prop := fnExactCompileShapeUptoRow.holds Tryd.pinned (OpenSpec.upto fnExactCompileShapeSpec)

/-- 'laws.FnExactStepsOfKind', WHERE WHAT IT READS IS OF BULK AT MOST 1048576: true; the input reads as it did. -/
def fnExactStepsOfKindUptoRow : OpenClaim := { program := "ythkokkocdmbcgaadoor", sum := "584f25dfca62a466728c789d410a034e54a4238247e544e36280580abbc41e1c", func := "loop.example/g01193/laws.FnExactStepsOfKind", spec := "fnExactStepsOfKind", inPlace := ["math.Float64bits", "math.Float64frombits"], unfollowed := true, recurses := true, named := ["loop.example/g01193/impl.rules"], apart := false, laid := [("loop.example/g01193/impl.rules", laid_loop_example_g01193_impl_rules)], narrowed := true }
def FnExactStepsOfKindUptoSaid : Prop := fnExactStepsOfKindUptoRow.holds Tryd.pinned (OpenSpec.upto fnExactStepsOfKindSpec)

/-- 'laws.FnExactIsEmptyNode', WHERE WHAT IT READS IS OF BULK AT MOST 1048576: true; the input reads as it did. -/
def fnExactIsEmptyNodeUptoRow : OpenClaim := { program := "ythkokkocdmbcgaadoor", sum := "584f25dfca62a466728c789d410a034e54a4238247e544e36280580abbc41e1c", func := "loop.example/g01193/laws.FnExactIsEmptyNode", spec := "fnExactIsEmptyNode", inPlace := ["math.Float32bits", "math.Float64bits", "math.Float64frombits"], named := ["loop.example/g01193/impl.rules"], apart := false, laid := [("loop.example/g01193/impl.rules", laid_loop_example_g01193_impl_rules)], narrowed := true }
def FnExactIsEmptyNodeUptoSaid : Prop := fnExactIsEmptyNodeUptoRow.holds Tryd.pinned (OpenSpec.upto fnExactIsEmptyNodeSpec)

end Rows
end Go.Proofs.YthkokkocdmbcgaaDoor
