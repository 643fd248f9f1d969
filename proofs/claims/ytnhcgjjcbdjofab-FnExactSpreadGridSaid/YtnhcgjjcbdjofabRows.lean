/-
  No cell of these rows narrows 'for every input' (looked for: loops, veiled, ifaces, maps, wideKeys, modest, calm, conditions, laid).
  DERIVED. THE GIVEN ROWS OF THIS SEAT. 4 by the template 'for every input the law returns true; each argument reads behind the call as it read before'; 0 by the template 'total and deterministic' (their statements: YtnhcgjjcbdjofabTotals.lean).
  GIVEN WITH THE SEED: the statements are not yours to turn. If you find one false, say at which input.
  Laid BY PROGRAM, IN A SANDBOX (cutbox-rows.mjs): the forced cells as the released guide's own fill.sh prints them over the translation 65a9799f8fb07299… (all of the seat's roots in one cut). By AI agents, Wed Nov 11 2026. No macro, syntax, notation, axiom, sorry.
-/
import Derived.Test.YtnhcgjjcbdjofabChecked
import GoSem.Claim
import GoSem.ClaimJoined
import GoSem.ClaimMapViews
import Derived.JoinedTies
import Derived.KernelRfl
namespace Go.Proofs.Ytnhcgjjcbdjofab
/- THE CELL 'sum', in the pinned program and in every row, IS THE sha256 OF THE DUMP (.gsa) THAT YtnhcgjjcbdjofabProg.lean LOADS. Nothing in Lean hashes anything: it is a label: what it is worth is what the hold of that sum in a sandbox is worth. -/
noncomputable def Try.pinned : Pinned := { name := "ytnhcgjjcbdjofab", sum := "65a9799f8fb072997122bae71aed604e399173302da255c52a68f95aa926d93b", checked := Try.checked }
namespace Rows
def none {H : Type} : Left H := { results := [], args := [] }

/-- 'laws.FnExactSweepGrid': WHATEVER THE INPUT: true; the input reads as it did. -/
def fnExactSweepGridSpec : ChangeSpec := { name := "fnExactSweepGrid", fn := fun _ => fun
  | [d1, d2] => { results := [.lit (.bool true)], args := [d1, d2] }
  | _ => none }
def fnExactSweepGridRow : OpenClaim := { program := "ytnhcgjjcbdjofab", sum := "65a9799f8fb072997122bae71aed604e399173302da255c52a68f95aa926d93b", func := "loop.example/g01193/laws.FnExactSweepGrid", spec := "fnExactSweepGrid", inPlace := ["math.Float64bits", "math.Float64frombits"], unfollowed := true, recurses := true, apart := false }
def FnExactSweepGridSaid : Prop := fnExactSweepGridRow.holds Try.pinned (OpenSpec.ofChange fnExactSweepGridSpec)

/-- ITS FALSE NEIGHBOUR: 'it returns false'. Refute it at one input. -/
def fnExactSweepGridWrong : ChangeSpec := { name := "fnExactSweepGrid", fn := fun _ => fun
  | [d1, d2] => { results := [.lit (.bool false)], args := [d1, d2] }
  | _ => none }
def FnExactSweepGridWrongFalsely : Prop := fnExactSweepGridRow.holds Try.pinned (OpenSpec.ofChange fnExactSweepGridWrong)

/-- 'laws.FnExactSpreadGrid': WHATEVER THE INPUT: true; the input reads as it did. -/
def fnExactSpreadGridSpec : ChangeSpec := { name := "fnExactSpreadGrid", fn := fun _ => fun
  | [d] => { results := [.lit (.bool true)], args := [d] }
  | _ => none }
def fnExactSpreadGridRow : OpenClaim := { program := "ytnhcgjjcbdjofab", sum := "65a9799f8fb072997122bae71aed604e399173302da255c52a68f95aa926d93b", func := "loop.example/g01193/laws.FnExactSpreadGrid", spec := "fnExactSpreadGrid", inPlace := ["math.Float64bits", "math.Float64frombits"], unfollowed := true, recurses := true, apart := false }
def FnExactSpreadGridSaid : Prop := fnExactSpreadGridRow.holds Try.pinned (OpenSpec.ofChange fnExactSpreadGridSpec)

/-- ITS FALSE NEIGHBOUR: 'it returns false'. Refute it at one input. -/
def fnExactSpreadGridWrong : ChangeSpec := { name := "fnExactSpreadGrid", fn := fun _ => fun
  | [d] => { results := [.lit (.bool false)], args := [d] }
  | _ => none }
def FnExactSpreadGridWrongFalsely : Prop := fnExactSpreadGridRow.holds Try.pinned (OpenSpec.ofChange fnExactSpreadGridWrong)

/-- 'laws.FnExactPartsInside': WHATEVER THE INPUT: true; the input reads as it did. -/
def fnExactPartsInsideSpec : ChangeSpec := { name := "fnExactPartsInside", fn := fun _ => fun
  | [d] => { results := [.lit (.bool true)], args := [d] }
  | _ => none }
def fnExactPartsInsideRow : OpenClaim := { program := "ytnhcgjjcbdjofab", sum := "65a9799f8fb072997122bae71aed604e399173302da255c52a68f95aa926d93b", func := "loop.example/g01193/laws.FnExactPartsInside", spec := "fnExactPartsInside", inPlace := ["math.Float64bits", "math.Float64frombits"], unfollowed := true, recurses := true, apart := false }
def FnExactPartsInsideSaid : Prop := fnExactPartsInsideRow.holds Try.pinned (OpenSpec.ofChange fnExactPartsInsideSpec)

/-- ITS FALSE NEIGHBOUR: 'it returns false'. Refute it at one input. -/
def fnExactPartsInsideWrong : ChangeSpec := { name := "fnExactPartsInside", fn := fun _ => fun
  | [d] => { results := [.lit (.bool false)], args := [d] }
  | _ => none }
def FnExactPartsInsideWrongFalsely : Prop := fnExactPartsInsideRow.holds Try.pinned (OpenSpec.ofChange fnExactPartsInsideWrong)

/-- 'laws.FnInside': WHATEVER THE INPUT: true; the input reads as it did. -/
def fnInsideSpec : ChangeSpec := { name := "fnInside", fn := fun _ => fun
  | [d1, d2] => { results := [.lit (.bool true)], args := [d1, d2] }
  | _ => none }
def fnInsideRow : OpenClaim := { program := "ytnhcgjjcbdjofab", sum := "65a9799f8fb072997122bae71aed604e399173302da255c52a68f95aa926d93b", func := "loop.example/g01193/laws.FnInside", spec := "fnInside", inPlace := ["math.Float32frombits", "math.Float64bits", "math.Float64frombits"], unfollowed := true, recurses := true, apart := false }
def FnInsideSaid : Prop := fnInsideRow.holds Try.pinned (OpenSpec.ofChange fnInsideSpec)

/-- ITS FALSE NEIGHBOUR: 'it returns false'. Refute it at one input. -/
def fnInsideWrong : ChangeSpec := { name := "fnInside", fn := fun _ => fun
  | [d1, d2] => { results := [.lit (.bool false)], args := [d1, d2] }
  | _ => none }
def FnInsideWrongFalsely : Prop := fnInsideRow.holds Try.pinned (OpenSpec.ofChange fnInsideWrong)

/- THE SECOND FORM. 'bulk': how many values and letters a reading holds, each counted each time it is reached (what is shared counts as often as it is met; a slice's spare places count too). A statement '..UptoSaid' is the law's where the arguments, and the package variables that the reading takes, are together of bulk at most 1048576: NARROWER than '..Said'. Prove '..Said' where nothing that the law and all that it calls make is longer than what came in: it says more and counts as full. Else prove '..UptoSaid'. A law counts once. -/
mutual
def uptoBulk {H : Type} : DataW H → Nat
  | .lit (.string bytes) => bytes.length + 1
  | .lit _ => 1
  | .nil => 1
  | .ptr d => uptoBulk d + 1
  | .slice elems spare => uptoBulkAll elems + uptoBulkAll spare + 1
  | .agg parts => uptoBulkAll parts + 1
  | .iface _ d => uptoBulk d + 1
  | .map entries => uptoBulkEntries entries + 1
  | .held _ => 1
def uptoBulkAll {H : Type} : List (DataW H) → Nat
  | [] => 0
  | d :: r => uptoBulk d + uptoBulkAll r
def uptoBulkEntries {H : Type} : List (Lit × DataW H) → Nat
  | [] => 0
  | x :: r => uptoBulkEntry x + uptoBulkEntries r
def uptoBulkEntry {H : Type} : Lit × DataW H → Nat
  | (.string bytes, d) => bytes.length + uptoBulk d + 1
  | (_, d) => uptoBulk d + 1
 end
def uptoSmall : (H : Type) → List (DataW H) → Bool := fun _ ds => decide (uptoBulkAll ds ≤ 1048576)
def OpenSpec.upto (s : _root_.Go.ChangeSpec) : _root_.Go.OpenSpec := { _root_.Go.OpenSpec.ofChange s with cond := some uptoSmall }

/-- 'laws.FnExactSweepGrid', WHERE WHAT IT READS IS OF BULK AT MOST 1048576: true; the input reads as it did. -/
def fnExactSweepGridUptoRow : OpenClaim := { program := "ytnhcgjjcbdjofab", sum := "65a9799f8fb072997122bae71aed604e399173302da255c52a68f95aa926d93b", func := "loop.example/g01193/laws.FnExactSweepGrid", spec := "fnExactSweepGrid", inPlace := ["math.Float64bits", "math.Float64frombits"], unfollowed := true, recurses := true, apart := false, narrowed := true }
def FnExactSweepGridUptoSaid : Prop := fnExactSweepGridUptoRow.holds Try.pinned (OpenSpec.upto fnExactSweepGridSpec)

/-- 'laws.FnExactSpreadGrid', WHERE WHAT IT READS IS OF BULK AT MOST 1048576: true; the input reads as it did. -/
def fnExactSpreadGridUptoRow : OpenClaim := { program := "ytnhcgjjcbdjofab", sum := "65a9799f8fb072997122bae71aed604e399173302da255c52a68f95aa926d93b", func := "loop.example/g01193/laws.FnExactSpreadGrid", spec := "fnExactSpreadGrid", inPlace := ["math.Float64bits", "math.Float64frombits"], unfollowed := true, recurses := true, apart := false, narrowed := true }
def FnExactSpreadGridUptoSaid : Prop := fnExactSpreadGridUptoRow.holds Try.pinned (OpenSpec.upto fnExactSpreadGridSpec)

/-- 'laws.FnExactPartsInside', WHERE WHAT IT READS IS OF BULK AT MOST 1048576: true; the input reads as it did. -/
def fnExactPartsInsideUptoRow : OpenClaim := { program := "ytnhcgjjcbdjofab", sum := "65a9799f8fb072997122bae71aed604e399173302da255c52a68f95aa926d93b", func := "loop.example/g01193/laws.FnExactPartsInside", spec := "fnExactPartsInside", inPlace := ["math.Float64bits", "math.Float64frombits"], unfollowed := true, recurses := true, apart := false, narrowed := true }
def FnExactPartsInsideUptoSaid : Prop := fnExactPartsInsideUptoRow.holds Try.pinned (OpenSpec.upto fnExactPartsInsideSpec)

/-- 'laws.FnInside', WHERE WHAT IT READS IS OF BULK AT MOST 1048576: true; the input reads as it did. -/
def fnInsideUptoRow : OpenClaim := { program := "ytnhcgjjcbdjofab", sum := "65a9799f8fb072997122bae71aed604e399173302da255c52a68f95aa926d93b", func := "loop.example/g01193/laws.FnInside", spec := "fnInside", inPlace := ["math.Float32frombits", "math.Float64bits", "math.Float64frombits"], unfollowed := true, recurses := true, apart := false, narrowed := true }
def FnInsideUptoSaid : Prop := fnInsideUptoRow.holds Try.pinned (OpenSpec.upto fnInsideSpec)

end Rows
end Go.Proofs.Ytnhcgjjcbdjofab
