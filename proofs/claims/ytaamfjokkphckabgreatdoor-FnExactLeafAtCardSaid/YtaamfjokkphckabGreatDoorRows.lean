/-
  NARROWER THAN 'FOR EVERY INPUT', by the rows' own cells (each row's printed sentence says how): FnExactIsInside: laid · FnExactLeafAt: laid · FnExactCrossingAt: laid.
  DERIVED. THE GIVEN ROWS OF THIS SEAT. 3 by the template 'for every input the law returns true; each argument reads behind the call as it read before'; 0 by the template 'total and deterministic' (their statements: YtaamfjokkphckabGreatDoorTotals.lean).
  GIVEN WITH THE SEED: the statements are not yours to turn. If you find one false, say at which input.
  Laid BY PROGRAM, IN A SANDBOX (cutbox-rows.mjs): the forced cells as the released guide's own fill.sh prints them over the translation 2fc11e37231ce1b8… (all of the seat's roots in one cut). By AI agents, Wed Nov 11 2026. No macro, syntax, notation, axiom, sorry.
-/
import Derived.Test.YtaamfjokkphckabGreatDoorChecked
import GoSem.Claim
import GoSem.ClaimJoined
import GoSem.ClaimMapViews
import Derived.JoinedTies
import Derived.KernelRfl
namespace Go.Proofs.YtaamfjokkphckabGreatDoor
/- THE CELL 'sum', in the pinned program and in every row, IS THE sha256 OF THE DUMP (.gsa) THAT YtaamfjokkphckabGreatDoorProg.lean LOADS. Nothing in Lean hashes anything: it is a label: what it is worth is what the hold of that sum in a sandbox is worth. -/
noncomputable def Tryz.pinned : Pinned := { name := "ytaamfjokkphckabgreatdoor", sum := "2fc11e37231ce1b89d84ac0feec60936cad0504878337978df87a703950a7d87", checked := Tryz.checked }
namespace Rows
def none {H : Type} : Left H := { results := [], args := [] }

/- WHAT THE LISTED PACKAGE-LEVEL VARIABLES READ AS WHEN THE CALL BEGINS. Each datum BY PROGRAM (the guide's laid-datum.mjs) off the statement by which the dump's own 'gosem.cut.vars' lays the variable. In a bare row this is a premise. The card (YtaamfjokkphckabGreatDoorCards.lean) ties it to the program's text. -/
def laid_loop_example_g01193_impl_rules {H : Type} : DataW H := .agg [.agg [.lit (.int .i64 0), .lit (.bool false), .lit (.int .i64 1), .lit (.int .i64 1)], .agg [.lit (.int .i64 0), .lit (.bool false), .lit (.int .i64 3), .lit (.int .i64 1)], .agg [.lit (.int .i64 0), .lit (.bool false), .lit (.int .i64 2), .lit (.int .i64 1)], .agg [.lit (.int .i64 0), .lit (.bool false), .lit (.int .i64 2), .lit (.int .i64 1)], .agg [.lit (.int .i64 0), .lit (.bool false), .lit (.int .i64 4), .lit (.int .i64 0)], .agg [.lit (.int .i64 2), .lit (.bool false), .lit (.int .i64 0), .lit (.int .i64 0)], .agg [.lit (.int .i64 2), .lit (.bool false), .lit (.int .i64 0), .lit (.int .i64 0)], .agg [.lit (.int .i64 2), .lit (.bool false), .lit (.int .i64 0), .lit (.int .i64 0)], .agg [.lit (.int .i64 2), .lit (.bool false), .lit (.int .i64 1), .lit (.int .i64 2)], .agg [.lit (.int .i64 1), .lit (.bool false), .lit (.int .i64 3), .lit (.int .i64 0)], .agg [.lit (.int .i64 1), .lit (.bool false), .lit (.int .i64 1), .lit (.int .i64 2)], .agg [.lit (.int .i64 1), .lit (.bool false), .lit (.int .i64 3), .lit (.int .i64 2)], .agg [.lit (.int .i64 1), .lit (.bool true), .lit (.int .i64 1), .lit (.int .i64 0)], .agg [.lit (.int .i64 1), .lit (.bool true), .lit (.int .i64 0), .lit (.int .i64 0)], .agg [.lit (.int .i64 1), .lit (.bool true), .lit (.int .i64 1), .lit (.int .i64 2)], .agg [.lit (.int .i64 1), .lit (.bool false), .lit (.int .i64 1), .lit (.int .i64 0)], .agg [.lit (.int .i64 1), .lit (.bool false), .lit (.int .i64 1), .lit (.int .i64 1)]]

/-- 'laws.FnExactIsInside': WHATEVER THE INPUT: true; the input reads as it did. -/
def fnExactIsInsideSpec : ChangeSpec := { name := "fnExactIsInside", vars := ["loop.example/g01193/impl.rules"], fn := fun _ => fun
  | [d1, d2, g1] => { results := [.lit (.bool true)], args := [d1, d2], vars := [g1] }
  | _ => none }
def fnExactIsInsideRow : OpenClaim := { program := "ytaamfjokkphckabgreatdoor", sum := "2fc11e37231ce1b89d84ac0feec60936cad0504878337978df87a703950a7d87", func := "loop.example/g01193/laws.FnExactIsInside", spec := "fnExactIsInside", inPlace := ["math.Float64frombits", "math.RoundToEven", "math.sqrt", "math.Float64bits", "math.Float32bits", "math.Float32frombits"], unfollowed := true, recurses := true, named := ["loop.example/g01193/impl.rules"], apart := false, laid := [("loop.example/g01193/impl.rules", laid_loop_example_g01193_impl_rules)] }
def FnExactIsInsideSaid : Prop := fnExactIsInsideRow.holds Tryz.pinned (OpenSpec.ofChange fnExactIsInsideSpec)

/-- ITS FALSE NEIGHBOUR: 'it returns false'. Refute it at one input. -/
def fnExactIsInsideWrong : ChangeSpec := { name := "fnExactIsInside", vars := ["loop.example/g01193/impl.rules"], fn := fun _ => fun
  | [d1, d2, g1] => { results := [.lit (.bool false)], args := [d1, d2], vars := [g1] }
  | _ => none }
def FnExactIsInsideWrongFalsely : Prop := fnExactIsInsideRow.holds Tryz.pinned (OpenSpec.ofChange fnExactIsInsideWrong)

/-- 'laws.FnExactLeafAt': WHATEVER THE INPUT: true; the input reads as it did. -/
def fnExactLeafAtSpec : ChangeSpec := { name := "fnExactLeafAt", vars := ["loop.example/g01193/impl.rules"], fn := fun _ => fun
  | [d1, d2, g1] => { results := [.lit (.bool true)], args := [d1, d2], vars := [g1] }
  | _ => none }
def fnExactLeafAtRow : OpenClaim := { program := "ytaamfjokkphckabgreatdoor", sum := "2fc11e37231ce1b89d84ac0feec60936cad0504878337978df87a703950a7d87", func := "loop.example/g01193/laws.FnExactLeafAt", spec := "fnExactLeafAt", inPlace := ["math.Float64frombits", "math.RoundToEven", "math.sqrt", "math.Float64bits", "math.Float32bits", "math.Float32frombits"], unfollowed := true, recurses := true, named := ["loop.example/g01193/impl.rules"], apart := false, laid := [("loop.example/g01193/impl.rules", laid_loop_example_g01193_impl_rules)] }
def FnExactLeafAtSaid : Prop := fnExactLeafAtRow.holds Tryz.pinned (OpenSpec.ofChange fnExactLeafAtSpec)

/-- ITS FALSE NEIGHBOUR: 'it returns false'. Refute it at one input. -/
def fnExactLeafAtWrong : ChangeSpec := { name := "fnExactLeafAt", vars := ["loop.example/g01193/impl.rules"], fn := fun _ => fun
  | [d1, d2, g1] => { results := [.lit (.bool false)], args := [d1, d2], vars := [g1] }
  | _ => none }
def FnExactLeafAtWrongFalsely : Prop := fnExactLeafAtRow.holds Tryz.pinned (OpenSpec.ofChange fnExactLeafAtWrong)

/-- 'laws.FnExactCrossingAt': WHATEVER THE INPUT: true; the input reads as it did. -/
def fnExactCrossingAtSpec : ChangeSpec := { name := "fnExactCrossingAt", vars := ["loop.example/g01193/impl.rules"], fn := fun _ => fun
  | [d1, d2, d3, d4, g1] => { results := [.lit (.bool true)], args := [d1, d2, d3, d4], vars := [g1] }
  | _ => none }
def fnExactCrossingAtRow : OpenClaim := { program := "ytaamfjokkphckabgreatdoor", sum := "2fc11e37231ce1b89d84ac0feec60936cad0504878337978df87a703950a7d87", func := "loop.example/g01193/laws.FnExactCrossingAt", spec := "fnExactCrossingAt", inPlace := ["math.Float64frombits", "math.RoundToEven", "math.sqrt", "math.Float64bits", "math.Float32bits", "math.Float32frombits"], unfollowed := true, recurses := true, named := ["loop.example/g01193/impl.rules"], apart := false, laid := [("loop.example/g01193/impl.rules", laid_loop_example_g01193_impl_rules)] }
def FnExactCrossingAtSaid : Prop := fnExactCrossingAtRow.holds Tryz.pinned (OpenSpec.ofChange fnExactCrossingAtSpec)

/-- ITS FALSE NEIGHBOUR: 'it returns false'. Refute it at one input. -/
def fnExactCrossingAtWrong : ChangeSpec := { name := "fnExactCrossingAt", vars := ["loop.example/g01193/impl.rules"], fn := fun _ => fun
  | [d1, d2, d3, d4, g1] => { results := [.lit (.bool false)], args := [d1, d2, d3, d4], vars := [g1] }
  | _ => none }
def FnExactCrossingAtWrongFalsely : Prop := fnExactCrossingAtRow.holds Tryz.pinned (OpenSpec.ofChange fnExactCrossingAtWrong)

/- THE SECOND FORM. 'bulk': how many values and letters a reading holds, each counted each time it is reached (what is shared counts as often as it is met; a slice's spare places count too). A statement '..UptoSaid' is the law's where the arguments, and the package variables that the reading takes, are together of bulk at most 1048576: NARROWER than '..Said'. Prove '..Said' where nothing that the law and all that it calls make is longer than what came in: it says more and counts as full. Else prove '..UptoSaid'. A law counts once. -/
mutual
def uptoBulk {H : Type} : DataW H → Nat
  | .lit (.string bytes) => bytes.length + 1
  | .lit _ => 1
  | .nil => 1
  | .ptr d => uptoBulk d + 1
  | .slice elems spare => uptoBulkAll elems + uptoBulkAll spare + 1
  | .agg parts => uptoBulkAll parts + 1
  | .iface _ d => uptoBulk d + 1
  | .map entries => uptoBulkEntries entries + 1
  | .held _ => 1
def uptoBulkAll {H : Type} : List (DataW H) → Nat
  | [] => 0
  | d :: r => uptoBulk d + uptoBulkAll r
def uptoBulkEntries {H : Type} : List (Lit × DataW H) → Nat
  | [] => 0
  | x :: r => uptoBulkEntry x + uptoBulkEntries r
def uptoBulkEntry {H : Type} : Lit × DataW H → Nat
  | (.string bytes, d) => bytes.length + uptoBulk d + 1
  | (_, d) => uptoBulk d + 1
 end
def uptoSmall : (H : Type) → List (DataW H) → Bool := fun _ ds => decide (uptoBulkAll ds ≤ 1048576)
def OpenSpec.upto (s : _root_.Go.ChangeSpec) : _root_.Go.OpenSpec := { _root_.Go.OpenSpec.ofChange s with cond := some uptoSmall }

/-- 'laws.FnExactIsInside', WHERE WHAT IT READS IS OF BULK AT MOST 1048576: true; the input reads as it did. -/
def fnExactIsInsideUptoRow : OpenClaim := { program := "ytaamfjokkphckabgreatdoor", sum := "2fc11e37231ce1b89d84ac0feec60936cad0504878337978df87a703950a7d87", func := "loop.example/g01193/laws.FnExactIsInside", spec := "fnExactIsInside", inPlace := ["math.Float64frombits", "math.RoundToEven", "math.sqrt", "math.Float64bits", "math.Float32bits", "math.Float32frombits"], unfollowed := true, recurses := true, named := ["loop.example/g01193/impl.rules"], apart := false, laid := [("loop.example/g01193/impl.rules", laid_loop_example_g01193_impl_rules)], narrowed := true }
def FnExactIsInsideUptoSaid : Prop := fnExactIsInsideUptoRow.holds Tryz.pinned (OpenSpec.upto fnExactIsInsideSpec)

/-- 'laws.FnExactLeafAt', WHERE WHAT IT READS IS OF BULK AT MOST 1048576: true; the input reads as it did. -/
def fnExactLeafAtUptoRow : OpenClaim := { program := "ytaamfjokkphckabgreatdoor", sum := "2fc11e37231ce1b89d84ac0feec60936cad0504878337978df87a703950a7d87", func := "loop.example/g01193/laws.FnExactLeafAt", spec := "fnExactLeafAt", inPlace := ["math.Float64frombits", "math.RoundToEven", "math.sqrt", "math.Float64bits", "math.Float32bits", "math.Float32frombits"], unfollowed := true, recurses := true, named := ["loop.example/g01193/impl.rules"], apart := false, laid := [("loop.example/g01193/impl.rules", laid_loop_example_g01193_impl_rules)], narrowed := true }
def FnExactLeafAtUptoSaid : Prop := fnExactLeafAtUptoRow.holds Tryz.pinned (OpenSpec.upto fnExactLeafAtSpec)

/-- 'laws.FnExactCrossingAt', WHERE WHAT IT READS IS OF BULK AT MOST 1048576: true; the input reads as it did. -/
def fnExactCrossingAtUptoRow : OpenClaim := { program := "ytaamfjokkphckabgreatdoor", sum := "2fc11e37231ce1b89d84ac0feec60936cad0504878337978df87a703950a7d87", func := "loop.example/g01193/laws.FnExactCrossingAt", spec := "fnExactCrossingAt", inPlace := ["math.Float64frombits", "math.RoundToEven", "math.sqrt", "math.Float64bits", "math.Float32bits", "math.Float32frombits"], unfollowed := true, recurses := true, named := ["loop.example/g01193/impl.rules"], apart := false, laid := [("loop.example/g01193/impl.rules", laid_loop_example_g01193_impl_rules)], narrowed := true }
def FnExactCrossingAtUptoSaid : Prop := fnExactCrossingAtUptoRow.holds Tryz.pinned (OpenSpec.upto fnExactCrossingAtSpec)

end Rows
end Go.Proofs.YtaamfjokkphckabGreatDoor
