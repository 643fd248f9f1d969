/-
  NARROWER THAN 'FOR EVERY INPUT', by the rows' own cells (each row's printed sentence says how): FnExactValidShape: laid · FnExactOneNode: laid · FnExactJoinShapes: laid · FnExactWrapShape: laid · FnExactUnionOf: laid · FnExactPartOf: laid · FnExactDepthOf: laid · FnExactLeavesOf: laid · FnExactFactorOf: laid · FnSigns: laid · FnLeaves: laid.
  DERIVED. THE GIVEN ROWS OF THIS SEAT. 11 by the template 'for every input the law returns true; each argument reads behind the call as it read before'; 0 by the template 'total and deterministic' (their statements: YtibfpihmmcggeaaDoorTotals.lean).
  GIVEN WITH THE SEED: the statements are not yours to turn. If you find one false, say at which input.
  Laid BY PROGRAM, IN A SANDBOX (cutbox-rows.mjs): the forced cells as the released guide's own fill.sh prints them over the translation 2e15a73cba478f08… (all of the seat's roots in one cut). By AI agents, Wed Nov 11 2026. No macro, syntax, notation, axiom, sorry.
-/
import Derived.Test.YtibfpihmmcggeaaDoorChecked
import GoSem.Claim
import GoSem.ClaimJoined
import GoSem.ClaimMapViews
import Derived.JoinedTies
import Derived.KernelRfl
namespace Go.Proofs.YtibfpihmmcggeaaDoor
/- THE CELL 'sum', in the pinned program and in every row, IS THE sha256 OF THE DUMP (.gsa) THAT YtibfpihmmcggeaaDoorProg.lean LOADS. Nothing in Lean hashes anything: it is a label: what it is worth is what the hold of that sum in a sandbox is worth. -/
noncomputable def Tryd.pinned : Pinned := { name := "ytibfpihmmcggeaadoor", sum := "2e15a73cba478f08a1bf6e95d87c3420b98a7a7ca9ca1416b5e45c8c18d41c04", checked := Tryd.checked }
namespace Rows
def none {H : Type} : Left H := { results := [], args := [] }

/- WHAT THE LISTED PACKAGE-LEVEL VARIABLES READ AS WHEN THE CALL BEGINS. Each datum BY PROGRAM (the guide's laid-datum.mjs) off the statement by which the dump's own 'gosem.cut.vars' lays the variable. In a bare row this is a premise. The card (YtibfpihmmcggeaaDoorCards.lean) ties it to the program's text. -/
def laid_loop_example_g01193_impl_rules {H : Type} : DataW H := .agg [.agg [.lit (.int .i64 0), .lit (.bool false), .lit (.int .i64 1), .lit (.int .i64 1)], .agg [.lit (.int .i64 0), .lit (.bool false), .lit (.int .i64 3), .lit (.int .i64 1)], .agg [.lit (.int .i64 0), .lit (.bool false), .lit (.int .i64 2), .lit (.int .i64 1)], .agg [.lit (.int .i64 0), .lit (.bool false), .lit (.int .i64 2), .lit (.int .i64 1)], .agg [.lit (.int .i64 0), .lit (.bool false), .lit (.int .i64 4), .lit (.int .i64 0)], .agg [.lit (.int .i64 2), .lit (.bool false), .lit (.int .i64 0), .lit (.int .i64 0)], .agg [.lit (.int .i64 2), .lit (.bool false), .lit (.int .i64 0), .lit (.int .i64 0)], .agg [.lit (.int .i64 2), .lit (.bool false), .lit (.int .i64 0), .lit (.int .i64 0)], .agg [.lit (.int .i64 2), .lit (.bool false), .lit (.int .i64 1), .lit (.int .i64 2)], .agg [.lit (.int .i64 1), .lit (.bool false), .lit (.int .i64 3), .lit (.int .i64 0)], .agg [.lit (.int .i64 1), .lit (.bool false), .lit (.int .i64 1), .lit (.int .i64 2)], .agg [.lit (.int .i64 1), .lit (.bool false), .lit (.int .i64 3), .lit (.int .i64 2)], .agg [.lit (.int .i64 1), .lit (.bool true), .lit (.int .i64 1), .lit (.int .i64 0)], .agg [.lit (.int .i64 1), .lit (.bool true), .lit (.int .i64 0), .lit (.int .i64 0)], .agg [.lit (.int .i64 1), .lit (.bool true), .lit (.int .i64 1), .lit (.int .i64 2)], .agg [.lit (.int .i64 1), .lit (.bool false), .lit (.int .i64 1), .lit (.int .i64 0)], .agg [.lit (.int .i64 1), .lit (.bool false), .lit (.int .i64 1), .lit (.int .i64 1)]]

/-- 'laws.FnExactValidShape': WHATEVER THE INPUT: true; the input reads as it did. -/
def fnExactValidShapeSpec : ChangeSpec := { name := "fnExactValidShape", vars := ["loop.example/g01193/impl.rules"], fn := fun _ => fun
  | [d, g1] => { results := [.lit (.bool true)], args := [d], vars := [g1] }
  | _ => none }
def fnExactValidShapeRow : OpenClaim := { program := "ytibfpihmmcggeaadoor", sum := "2e15a73cba478f08a1bf6e95d87c3420b98a7a7ca9ca1416b5e45c8c18d41c04", func := "loop.example/g01193/laws.FnExactValidShape", spec := "fnExactValidShape", inPlace := ["math.Float64bits", "math.Float64frombits"], named := ["loop.example/g01193/impl.rules"], apart := false, laid := [("loop.example/g01193/impl.rules", laid_loop_example_g01193_impl_rules)] }
def FnExactValidShapeSaid : Prop := fnExactValidShapeRow.holds Tryd.pinned (OpenSpec.ofChange fnExactValidShapeSpec)

/-- ITS FALSE NEIGHBOUR: 'it returns false'. Refute it at one input. -/
def fnExactValidShapeWrong : ChangeSpec := { name := "fnExactValidShape", vars := ["loop.example/g01193/impl.rules"], fn := fun _ => fun
  | [d, g1] => { results := [.lit (.bool false)], args := [d], vars := [g1] }
  | _ => none }
def FnExactValidShapeWrongFalsely : Prop := fnExactValidShapeRow.holds Tryd.pinned (OpenSpec.ofChange fnExactValidShapeWrong)

/-- 'laws.FnExactOneNode': WHATEVER THE INPUT: true; the input reads as it did. -/
def fnExactOneNodeSpec : ChangeSpec := { name := "fnExactOneNode", vars := ["loop.example/g01193/impl.rules"], fn := fun _ => fun
  | [d1, d2, g1] => { results := [.lit (.bool true)], args := [d1, d2], vars := [g1] }
  | _ => none }
def fnExactOneNodeRow : OpenClaim := { program := "ytibfpihmmcggeaadoor", sum := "2e15a73cba478f08a1bf6e95d87c3420b98a7a7ca9ca1416b5e45c8c18d41c04", func := "loop.example/g01193/laws.FnExactOneNode", spec := "fnExactOneNode", inPlace := ["math.Float64bits", "math.Float64frombits"], named := ["loop.example/g01193/impl.rules"], apart := false, laid := [("loop.example/g01193/impl.rules", laid_loop_example_g01193_impl_rules)] }
def FnExactOneNodeSaid : Prop := fnExactOneNodeRow.holds Tryd.pinned (OpenSpec.ofChange fnExactOneNodeSpec)

/-- ITS FALSE NEIGHBOUR: 'it returns false'. Refute it at one input. -/
def fnExactOneNodeWrong : ChangeSpec := { name := "fnExactOneNode", vars := ["loop.example/g01193/impl.rules"], fn := fun _ => fun
  | [d1, d2, g1] => { results := [.lit (.bool false)], args := [d1, d2], vars := [g1] }
  | _ => none }
def FnExactOneNodeWrongFalsely : Prop := fnExactOneNodeRow.holds Tryd.pinned (OpenSpec.ofChange fnExactOneNodeWrong)

/-- 'laws.FnExactJoinShapes': WHATEVER THE INPUT: true; the input reads as it did. -/
def fnExactJoinShapesSpec : ChangeSpec := { name := "fnExactJoinShapes", vars := ["loop.example/g01193/impl.rules"], fn := fun _ => fun
  | [d1, d2, d3, d4, g1] => { results := [.lit (.bool true)], args := [d1, d2, d3, d4], vars := [g1] }
  | _ => none }
def fnExactJoinShapesRow : OpenClaim := { program := "ytibfpihmmcggeaadoor", sum := "2e15a73cba478f08a1bf6e95d87c3420b98a7a7ca9ca1416b5e45c8c18d41c04", func := "loop.example/g01193/laws.FnExactJoinShapes", spec := "fnExactJoinShapes", inPlace := ["math.Float64bits", "math.Float64frombits"], unfollowed := true, recurses := true, named := ["loop.example/g01193/impl.rules"], apart := false, laid := [("loop.example/g01193/impl.rules", laid_loop_example_g01193_impl_rules)] }
def FnExactJoinShapesSaid : Prop := fnExactJoinShapesRow.holds Tryd.pinned (OpenSpec.ofChange fnExactJoinShapesSpec)

/-- ITS FALSE NEIGHBOUR: 'it returns false'. Refute it at one input. -/
def fnExactJoinShapesWrong : ChangeSpec := { name := "fnExactJoinShapes", vars := ["loop.example/g01193/impl.rules"], fn := fun _ => fun
  | [d1, d2, d3, d4, g1] => { results := [.lit (.bool false)], args := [d1, d2, d3, d4], vars := [g1] }
  | _ => none }
def FnExactJoinShapesWrongFalsely : Prop := fnExactJoinShapesRow.holds Tryd.pinned (OpenSpec.ofChange fnExactJoinShapesWrong)

/-- 'laws.FnExactWrapShape': WHATEVER THE INPUT: true; the input reads as it did. -/
def fnExactWrapShapeSpec : ChangeSpec := { name := "fnExactWrapShape", vars := ["loop.example/g01193/impl.rules"], fn := fun _ => fun
  | [d1, d2, d3, d4, g1] => { results := [.lit (.bool true)], args := [d1, d2, d3, d4], vars := [g1] }
  | _ => none }
def fnExactWrapShapeRow : OpenClaim := { program := "ytibfpihmmcggeaadoor", sum := "2e15a73cba478f08a1bf6e95d87c3420b98a7a7ca9ca1416b5e45c8c18d41c04", func := "loop.example/g01193/laws.FnExactWrapShape", spec := "fnExactWrapShape", inPlace := ["math.Float64bits", "math.Float64frombits"], unfollowed := true, recurses := true, named := ["loop.example/g01193/impl.rules"], apart := false, laid := [("loop.example/g01193/impl.rules", laid_loop_example_g01193_impl_rules)] }
def FnExactWrapShapeSaid : Prop := fnExactWrapShapeRow.holds Tryd.pinned (OpenSpec.ofChange fnExactWrapShapeSpec)

/-- ITS FALSE NEIGHBOUR: 'it returns false'. Refute it at one input. -/
def fnExactWrapShapeWrong : ChangeSpec := { name := "fnExactWrapShape", vars := ["loop.example/g01193/impl.rules"], fn := fun _ => fun
  | [d1, d2, d3, d4, g1] => { results := [.lit (.bool false)], args := [d1, d2, d3, d4], vars := [g1] }
  | _ => none }
def FnExactWrapShapeWrongFalsely : Prop := fnExactWrapShapeRow.holds Tryd.pinned (OpenSpec.ofChange fnExactWrapShapeWrong)

/-- 'laws.FnExactUnionOf': WHATEVER THE INPUT: true; the input reads as it did. -/
def fnExactUnionOfSpec : ChangeSpec := { name := "fnExactUnionOf", vars := ["loop.example/g01193/impl.rules"], fn := fun _ => fun
  | [d, g1] => { results := [.lit (.bool true)], args := [d], vars := [g1] }
  | _ => none }
def fnExactUnionOfRow : OpenClaim := { program := "ytibfpihmmcggeaadoor", sum := "2e15a73cba478f08a1bf6e95d87c3420b98a7a7ca9ca1416b5e45c8c18d41c04", func := "loop.example/g01193/laws.FnExactUnionOf", spec := "fnExactUnionOf", inPlace := ["math.Float64bits", "math.Float64frombits"], unfollowed := true, recurses := true, named := ["loop.example/g01193/impl.rules"], apart := false, laid := [("loop.example/g01193/impl.rules", laid_loop_example_g01193_impl_rules)] }
def FnExactUnionOfSaid : Prop := fnExactUnionOfRow.holds Tryd.pinned (OpenSpec.ofChange fnExactUnionOfSpec)

/-- ITS FALSE NEIGHBOUR: 'it returns false'. Refute it at one input. -/
def fnExactUnionOfWrong : ChangeSpec := { name := "fnExactUnionOf", vars := ["loop.example/g01193/impl.rules"], fn := fun _ => fun
  | [d, g1] => { results := [.lit (.bool false)], args := [d], vars := [g1] }
  | _ => none }
def FnExactUnionOfWrongFalsely : Prop := fnExactUnionOfRow.holds Tryd.pinned (OpenSpec.ofChange fnExactUnionOfWrong)

/-- 'laws.FnExactPartOf': WHATEVER THE INPUT: true; the input reads as it did. -/
def fnExactPartOfSpec : ChangeSpec := { name := "fnExactPartOf", vars := ["loop.example/g01193/impl.rules"], fn := fun _ => fun
  | [d1, d2, g1] => { results := [.lit (.bool true)], args := [d1, d2], vars := [g1] }
  | _ => none }
def fnExactPartOfRow : OpenClaim := { program := "ytibfpihmmcggeaadoor", sum := "2e15a73cba478f08a1bf6e95d87c3420b98a7a7ca9ca1416b5e45c8c18d41c04", func := "loop.example/g01193/laws.FnExactPartOf", spec := "fnExactPartOf", inPlace := ["math.Float64bits", "math.Float64frombits"], unfollowed := true, recurses := true, named := ["loop.example/g01193/impl.rules"], apart := false, laid := [("loop.example/g01193/impl.rules", laid_loop_example_g01193_impl_rules)] }
def FnExactPartOfSaid : Prop := fnExactPartOfRow.holds Tryd.pinned (OpenSpec.ofChange fnExactPartOfSpec)

/-- ITS FALSE NEIGHBOUR: 'it returns false'. Refute it at one input. -/
def fnExactPartOfWrong : ChangeSpec := { name := "fnExactPartOf", vars := ["loop.example/g01193/impl.rules"], fn := fun _ => fun
  | [d1, d2, g1] => { results := [.lit (.bool false)], args := [d1, d2], vars := [g1] }
  | _ => none }
def FnExactPartOfWrongFalsely : Prop := fnExactPartOfRow.holds Tryd.pinned (OpenSpec.ofChange fnExactPartOfWrong)

/-- 'laws.FnExactDepthOf': WHATEVER THE INPUT: true; the input reads as it did. -/
def fnExactDepthOfSpec : ChangeSpec := { name := "fnExactDepthOf", vars := ["loop.example/g01193/impl.rules"], fn := fun _ => fun
  | [d, g1] => { results := [.lit (.bool true)], args := [d], vars := [g1] }
  | _ => none }
def fnExactDepthOfRow : OpenClaim := { program := "ytibfpihmmcggeaadoor", sum := "2e15a73cba478f08a1bf6e95d87c3420b98a7a7ca9ca1416b5e45c8c18d41c04", func := "loop.example/g01193/laws.FnExactDepthOf", spec := "fnExactDepthOf", inPlace := ["math.Float64bits", "math.Float64frombits"], named := ["loop.example/g01193/impl.rules"], apart := false, laid := [("loop.example/g01193/impl.rules", laid_loop_example_g01193_impl_rules)] }
def FnExactDepthOfSaid : Prop := fnExactDepthOfRow.holds Tryd.pinned (OpenSpec.ofChange fnExactDepthOfSpec)

/-- ITS FALSE NEIGHBOUR: 'it returns false'. Refute it at one input. -/
def fnExactDepthOfWrong : ChangeSpec := { name := "fnExactDepthOf", vars := ["loop.example/g01193/impl.rules"], fn := fun _ => fun
  | [d, g1] => { results := [.lit (.bool false)], args := [d], vars := [g1] }
  | _ => none }
def FnExactDepthOfWrongFalsely : Prop := fnExactDepthOfRow.holds Tryd.pinned (OpenSpec.ofChange fnExactDepthOfWrong)

/-- 'laws.FnExactLeavesOf': WHATEVER THE INPUT: true; the input reads as it did. -/
def fnExactLeavesOfSpec : ChangeSpec := { name := "fnExactLeavesOf", vars := ["loop.example/g01193/impl.rules"], fn := fun _ => fun
  | [d, g1] => { results := [.lit (.bool true)], args := [d], vars := [g1] }
  | _ => none }
def fnExactLeavesOfRow : OpenClaim := { program := "ytibfpihmmcggeaadoor", sum := "2e15a73cba478f08a1bf6e95d87c3420b98a7a7ca9ca1416b5e45c8c18d41c04", func := "loop.example/g01193/laws.FnExactLeavesOf", spec := "fnExactLeavesOf", inPlace := ["math.Float64bits", "math.Float64frombits"], named := ["loop.example/g01193/impl.rules"], apart := false, laid := [("loop.example/g01193/impl.rules", laid_loop_example_g01193_impl_rules)] }
def FnExactLeavesOfSaid : Prop := fnExactLeavesOfRow.holds Tryd.pinned (OpenSpec.ofChange fnExactLeavesOfSpec)

/-- ITS FALSE NEIGHBOUR: 'it returns false'. Refute it at one input. -/
def fnExactLeavesOfWrong : ChangeSpec := { name := "fnExactLeavesOf", vars := ["loop.example/g01193/impl.rules"], fn := fun _ => fun
  | [d, g1] => { results := [.lit (.bool false)], args := [d], vars := [g1] }
  | _ => none }
def FnExactLeavesOfWrongFalsely : Prop := fnExactLeavesOfRow.holds Tryd.pinned (OpenSpec.ofChange fnExactLeavesOfWrong)

/-- 'laws.FnExactFactorOf': WHATEVER THE INPUT: true; the input reads as it did. -/
def fnExactFactorOfSpec : ChangeSpec := { name := "fnExactFactorOf", vars := ["loop.example/g01193/impl.rules"], fn := fun _ => fun
  | [d, g1] => { results := [.lit (.bool true)], args := [d], vars := [g1] }
  | _ => none }
def fnExactFactorOfRow : OpenClaim := { program := "ytibfpihmmcggeaadoor", sum := "2e15a73cba478f08a1bf6e95d87c3420b98a7a7ca9ca1416b5e45c8c18d41c04", func := "loop.example/g01193/laws.FnExactFactorOf", spec := "fnExactFactorOf", inPlace := ["math.sqrt", "math.Float64bits", "math.Float64frombits", "math.Float32bits", "math.Float32frombits"], unfollowed := true, recurses := true, named := ["loop.example/g01193/impl.rules"], apart := false, laid := [("loop.example/g01193/impl.rules", laid_loop_example_g01193_impl_rules)] }
def FnExactFactorOfSaid : Prop := fnExactFactorOfRow.holds Tryd.pinned (OpenSpec.ofChange fnExactFactorOfSpec)

/-- ITS FALSE NEIGHBOUR: 'it returns false'. Refute it at one input. -/
def fnExactFactorOfWrong : ChangeSpec := { name := "fnExactFactorOf", vars := ["loop.example/g01193/impl.rules"], fn := fun _ => fun
  | [d, g1] => { results := [.lit (.bool false)], args := [d], vars := [g1] }
  | _ => none }
def FnExactFactorOfWrongFalsely : Prop := fnExactFactorOfRow.holds Tryd.pinned (OpenSpec.ofChange fnExactFactorOfWrong)

/-- 'laws.FnSigns': WHATEVER THE INPUT: true; the input reads as it did. -/
def fnSignsSpec : ChangeSpec := { name := "fnSigns", vars := ["loop.example/g01193/impl.rules"], fn := fun _ => fun
  | [d1, d2, g1] => { results := [.lit (.bool true)], args := [d1, d2], vars := [g1] }
  | _ => none }
def fnSignsRow : OpenClaim := { program := "ytibfpihmmcggeaadoor", sum := "2e15a73cba478f08a1bf6e95d87c3420b98a7a7ca9ca1416b5e45c8c18d41c04", func := "loop.example/g01193/laws.FnSigns", spec := "fnSigns", inPlace := ["math.Float64bits", "math.Float64frombits", "math.Float32bits", "math.Float32frombits"], unfollowed := true, recurses := true, named := ["loop.example/g01193/impl.rules"], apart := false, laid := [("loop.example/g01193/impl.rules", laid_loop_example_g01193_impl_rules)] }
def FnSignsSaid : Prop := fnSignsRow.holds Tryd.pinned (OpenSpec.ofChange fnSignsSpec)

/-- ITS FALSE NEIGHBOUR: 'it returns false'. Refute it at one input. -/
def fnSignsWrong : ChangeSpec := { name := "fnSigns", vars := ["loop.example/g01193/impl.rules"], fn := fun _ => fun
  | [d1, d2, g1] => { results := [.lit (.bool false)], args := [d1, d2], vars := [g1] }
  | _ => none }
def FnSignsWrongFalsely : Prop := fnSignsRow.holds Tryd.pinned (OpenSpec.ofChange fnSignsWrong)

/-- 'laws.FnLeaves': WHATEVER THE INPUT: true; the input reads as it did. -/
def fnLeavesSpec : ChangeSpec := { name := "fnLeaves", vars := ["loop.example/g01193/impl.rules"], fn := fun _ => fun
  | [d1, d2, g1] => { results := [.lit (.bool true)], args := [d1, d2], vars := [g1] }
  | _ => none }
def fnLeavesRow : OpenClaim := { program := "ytibfpihmmcggeaadoor", sum := "2e15a73cba478f08a1bf6e95d87c3420b98a7a7ca9ca1416b5e45c8c18d41c04", func := "loop.example/g01193/laws.FnLeaves", spec := "fnLeaves", inPlace := ["math.Float64bits", "math.Float64frombits", "math.Float32bits", "math.Float32frombits"], unfollowed := true, recurses := true, named := ["loop.example/g01193/impl.rules"], apart := false, laid := [("loop.example/g01193/impl.rules", laid_loop_example_g01193_impl_rules)] }
def FnLeavesSaid : Prop := fnLeavesRow.holds Tryd.pinned (OpenSpec.ofChange fnLeavesSpec)

/-- ITS FALSE NEIGHBOUR: 'it returns false'. Refute it at one input. -/
def fnLeavesWrong : ChangeSpec := { name := "fnLeaves", vars := ["loop.example/g01193/impl.rules"], fn := fun _ => fun
  | [d1, d2, g1] => { results := [.lit (.bool false)], args := [d1, d2], vars := [g1] }
  | _ => none }
def FnLeavesWrongFalsely : Prop := fnLeavesRow.holds Tryd.pinned (OpenSpec.ofChange fnLeavesWrong)

/- THE SECOND FORM. 'bulk': how many values and letters a reading holds, each counted each time it is reached (what is shared counts as often as it is met; a slice's spare places count too). A statement '..UptoSaid' is the law's where the arguments, and the package variables that the reading takes, are together of bulk at most 1048576: NARROWER than '..Said'. Prove '..Said' where nothing that the law and all that it calls make is longer than what came in: it says more and counts as full. Else prove '..UptoSaid'. A law counts once. -/
mutual
def uptoBulk {H : Type} : DataW H → Nat
  | .lit (.string bytes) => bytes.length + 1
  | .lit _ => 1
  | .nil => 1
  | .ptr d => uptoBulk d + 1
  | .slice elems spare => uptoBulkAll elems + uptoBulkAll spare + 1
  | .agg parts => uptoBulkAll parts + 1
  | .iface _ d => uptoBulk d + 1
  | .map entries => uptoBulkEntries entries + 1
  | .held _ => 1
def uptoBulkAll {H : Type} : List (DataW H) → Nat
  | [] => 0
  | d :: r => uptoBulk d + uptoBulkAll r
def uptoBulkEntries {H : Type} : List (Lit × DataW H) → Nat
  | [] => 0
  | x :: r => uptoBulkEntry x + uptoBulkEntries r
def uptoBulkEntry {H : Type} : Lit × DataW H → Nat
  | (.string bytes, d) => bytes.length + uptoBulk d + 1
  | (_, d) => uptoBulk d + 1
 end
def uptoSmall : (H : Type) → List (DataW H) → Bool := fun _ ds => decide (uptoBulkAll ds ≤ 1048576)
def OpenSpec.upto (s : _root_.Go.ChangeSpec) : _root_.Go.OpenSpec := { _root_.Go.OpenSpec.ofChange s with cond := some uptoSmall }

/-- 'laws.FnExactValidShape', WHERE WHAT IT READS IS OF BULK AT MOST 1048576: true; the input reads as it did. -/
def fnExactValidShapeUptoRow : OpenClaim := { program := "ytibfpihmmcggeaadoor", sum := "2e15a73cba478f08a1bf6e95d87c3420b98a7a7ca9ca1416b5e45c8c18d41c04", func := "loop.example/g01193/laws.FnExactValidShape", spec := "fnExactValidShape", inPlace := ["math.Float64bits", "math.Float64frombits"], named := ["loop.example/g01193/impl.rules"], apart := false, laid := [("loop.example/g01193/impl.rules", laid_loop_example_g01193_impl_rules)], narrowed := true }
def FnExactValidShapeUptoSaid : Prop := fnExactValidShapeUptoRow.holds Tryd.pinned (OpenSpec.upto fnExactValidShapeSpec)

/-- 'laws.FnExactOneNode', WHERE WHAT IT READS IS OF BULK AT MOST 1048576: true; the input reads as it did. -/
def fnExactOneNodeUptoRow : OpenClaim := { program := "ytibfpihmmcggeaadoor", sum := "2e15a73cba478f08a1bf6e95d87c3420b98a7a7ca9ca1416b5e45c8c18d41c04", func := "loop.example/g01193/laws.FnExactOneNode", spec := "fnExactOneNode", inPlace := ["math.Float64bits", "math.Float64frombits"], named := ["loop.example/g01193/impl.rules"], apart := false, laid := [("loop.example/g01193/impl.rules", laid_loop_example_g01193_impl_rules)], narrowed := true }
def FnExactOneNodeUptoSaid : Prop := fnExactOneNodeUptoRow.holds Tryd.pinned (OpenSpec.upto fnExactOneNodeSpec)

/-- 'laws.FnExactJoinShapes', WHERE WHAT IT READS IS OF BULK AT MOST 1048576: true; the input reads as it did. -/
def fnExactJoinShapesUptoRow : OpenClaim := { program := "ytibfpihmmcggeaadoor", sum := "2e15a73cba478f08a1bf6e95d87c3420b98a7a7ca9ca1416b5e45c8c18d41c04", func := "loop.example/g01193/laws.FnExactJoinShapes", spec := "fnExactJoinShapes", inPlace := ["math.Float64bits", "math.Float64frombits"], unfollowed := true, recurses := true, named := ["loop.example/g01193/impl.rules"], apart := false, laid := [("loop.example/g01193/impl.rules", laid_loop_example_g01193_impl_rules)], narrowed := true }
def FnExactJoinShapesUptoSaid : Prop := fnExactJoinShapesUptoRow.holds Tryd.pinned (OpenSpec.upto fnExactJoinShapesSpec)

/-- 'laws.FnExactWrapShape', WHERE WHAT IT READS IS OF BULK AT MOST 1048576: true; the input reads as it did. -/
def fnExactWrapShapeUptoRow : OpenClaim := { program := "ytibfpihmmcggeaadoor", sum := "2e15a73cba478f08a1bf6e95d87c3420b98a7a7ca9ca1416b5e45c8c18d41c04", func := "loop.example/g01193/laws.FnExactWrapShape", spec := "fnExactWrapShape", inPlace := ["math.Float64bits", "math.Float64frombits"], unfollowed := true, recurses := true, named := ["loop.example/g01193/impl.rules"], apart := false, laid := [("loop.example/g01193/impl.rules", laid_loop_example_g01193_impl_rules)], narrowed := true }
def FnExactWrapShapeUptoSaid : Prop := fnExactWrapShapeUptoRow.holds Tryd.pinned (OpenSpec.upto fnExactWrapShapeSpec)

/-- 'laws.FnExactUnionOf', WHERE WHAT IT READS IS OF BULK AT MOST 1048576: true; the input reads as it did. -/
def fnExactUnionOfUptoRow : OpenClaim := { program := "ytibfpihmmcggeaadoor", sum := "2e15a73cba478f08a1bf6e95d87c3420b98a7a7ca9ca1416b5e45c8c18d41c04", func := "loop.example/g01193/laws.FnExactUnionOf", spec := "fnExactUnionOf", inPlace := ["math.Float64bits", "math.Float64frombits"], unfollowed := true, recurses := true, named := ["loop.example/g01193/impl.rules"], apart := false, laid := [("loop.example/g01193/impl.rules", laid_loop_example_g01193_impl_rules)], narrowed := true }
def FnExactUnionOfUptoSaid : Prop := fnExactUnionOfUptoRow.holds Tryd.pinned (OpenSpec.upto fnExactUnionOfSpec)

/-- 'laws.FnExactPartOf', WHERE WHAT IT READS IS OF BULK AT MOST 1048576: true; the input reads as it did. -/
def fnExactPartOfUptoRow : OpenClaim := { program := "ytibfpihmmcggeaadoor", sum := "2e15a73cba478f08a1bf6e95d87c3420b98a7a7ca9ca1416b5e45c8c18d41c04", func := "loop.example/g01193/laws.FnExactPartOf", spec := "fnExactPartOf", inPlace := ["math.Float64bits", "math.Float64frombits"], unfollowed := true, recurses := true, named := ["loop.example/g01193/impl.rules"], apart := false, laid := [("loop.example/g01193/impl.rules", laid_loop_example_g01193_impl_rules)], narrowed := true }
def FnExactPartOfUptoSaid : Prop := fnExactPartOfUptoRow.holds Tryd.pinned (OpenSpec.upto fnExactPartOfSpec)

/-- 'laws.FnExactDepthOf', WHERE WHAT IT READS IS OF BULK AT MOST 1048576: true; the input reads as it did. -/
def fnExactDepthOfUptoRow : OpenClaim := { program := "ytibfpihmmcggeaadoor", sum := "2e15a73cba478f08a1bf6e95d87c3420b98a7a7ca9ca1416b5e45c8c18d41c04", func := "loop.example/g01193/laws.FnExactDepthOf", spec := "fnExactDepthOf", inPlace := ["math.Float64bits", "math.Float64frombits"], named := ["loop.example/g01193/impl.rules"], apart := false, laid := [("loop.example/g01193/impl.rules", laid_loop_example_g01193_impl_rules)], narrowed := true }
def FnExactDepthOfUptoSaid : Prop := fnExactDepthOfUptoRow.holds Tryd.pinned (OpenSpec.upto fnExactDepthOfSpec)

/-- 'laws.FnExactLeavesOf', WHERE WHAT IT READS IS OF BULK AT MOST 1048576: true; the input reads as it did. -/
def fnExactLeavesOfUptoRow : OpenClaim := { program := "ytibfpihmmcggeaadoor", sum := "2e15a73cba478f08a1bf6e95d87c3420b98a7a7ca9ca1416b5e45c8c18d41c04", func := "loop.example/g01193/laws.FnExactLeavesOf", spec := "fnExactLeavesOf", inPlace := ["math.Float64bits", "math.Float64frombits"], named := ["loop.example/g01193/impl.rules"], apart := false, laid := [("loop.example/g01193/impl.rules", laid_loop_example_g01193_impl_rules)], narrowed := true }
def FnExactLeavesOfUptoSaid : Prop := fnExactLeavesOfUptoRow.holds Tryd.pinned (OpenSpec.upto fnExactLeavesOfSpec)

/-- 'laws.FnExactFactorOf', WHERE WHAT IT READS IS OF BULK AT MOST 1048576: true; the input reads as it did. -/
def fnExactFactorOfUptoRow : OpenClaim := { program := "ytibfpihmmcggeaadoor", sum := "2e15a73cba478f08a1bf6e95d87c3420b98a7a7ca9ca1416b5e45c8c18d41c04", func := "loop.example/g01193/laws.FnExactFactorOf", spec := "fnExactFactorOf", inPlace := ["math.sqrt", "math.Float64bits", "math.Float64frombits", "math.Float32bits", "math.Float32frombits"], unfollowed := true, recurses := true, named := ["loop.example/g01193/impl.rules"], apart := false, laid := [("loop.example/g01193/impl.rules", laid_loop_example_g01193_impl_rules)], narrowed := true }
def FnExactFactorOfUptoSaid : Prop := fnExactFactorOfUptoRow.holds Tryd.pinned (OpenSpec.upto fnExactFactorOfSpec)

/-- 'laws.FnSigns', WHERE WHAT IT READS IS OF BULK AT MOST 1048576: true; the input reads as it did. -/
def fnSignsUptoRow : OpenClaim := { program := "ytibfpihmmcggeaadoor", sum := "2e15a73cba478f08a1bf6e95d87c3420b98a7a7ca9ca1416b5e45c8c18d41c04", func := "loop.example/g01193/laws.FnSigns", spec := "fnSigns", inPlace := ["math.Float64bits", "math.Float64frombits", "math.Float32bits", "math.Float32frombits"], unfollowed := true, recurses := true, named := ["loop.example/g01193/impl.rules"], apart := false, laid := [("loop.example/g01193/impl.rules", laid_loop_example_g01193_impl_rules)], narrowed := true }
def FnSignsUptoSaid : Prop := fnSignsUptoRow.holds Tryd.pinned (OpenSpec.upto fnSignsSpec)

/-- 'laws.FnLeaves', WHERE WHAT IT READS IS OF BULK AT MOST 1048576: true; the input reads as it did. -/
def fnLeavesUptoRow : OpenClaim := { program := "ytibfpihmmcggeaadoor", sum := "2e15a73cba478f08a1bf6e95d87c3420b98a7a7ca9ca1416b5e45c8c18d41c04", func := "loop.example/g01193/laws.FnLeaves", spec := "fnLeaves", inPlace := ["math.Float64bits", "math.Float64frombits", "math.Float32bits", "math.Float32frombits"], unfollowed := true, recurses := true, named := ["loop.example/g01193/impl.rules"], apart := false, laid := [("loop.example/g01193/impl.rules", laid_loop_example_g01193_impl_rules)], narrowed := true }
def FnLeavesUptoSaid : Prop := fnLeavesUptoRow.holds Tryd.pinned (OpenSpec.upto fnLeavesSpec)

end Rows
end Go.Proofs.YtibfpihmmcggeaaDoor
