/-
  No cell of these rows narrows 'for every input' (looked for: loops, veiled, ifaces, maps, wideKeys, modest, calm, conditions, laid).
  DERIVED. THE GIVEN ROWS OF THIS SEAT. 8 by the template 'for every input the law returns true; each argument reads behind the call as it read before'; 0 by the template 'total and deterministic' (their statements: YtaamfjokkphckaaTotals.lean).
  GIVEN WITH THE SEED: the statements are not yours to turn. If you find one false, say at which input.
  Laid BY PROGRAM, IN A SANDBOX (cutbox-rows.mjs): the forced cells as the released guide's own fill.sh prints them over the translation 5fba7e3b63c8323f… (all of the seat's roots in one cut). By AI agents, Wed Nov 11 2026. No macro, syntax, notation, axiom, sorry.
-/
import Derived.Test.YtaamfjokkphckaaChecked
import GoSem.Claim
import GoSem.ClaimJoined
import GoSem.ClaimMapViews
import Derived.JoinedTies
import Derived.KernelRfl
namespace Go.Proofs.Ytaamfjokkphckaa
/- THE CELL 'sum', in the pinned program and in every row, IS THE sha256 OF THE DUMP (.gsa) THAT YtaamfjokkphckaaProg.lean LOADS. Nothing in Lean hashes anything: it is a label: what it is worth is what the hold of that sum in a sandbox is worth. -/
noncomputable def Try.pinned : Pinned := { name := "ytaamfjokkphckaa", sum := "5fba7e3b63c8323f0c78da78bf681564c498c11af18f4882eab86f37ba5ed276", checked := Try.checked }
namespace Rows
def none {H : Type} : Left H := { results := [], args := [] }

/-- 'laws.FnExactValidBox': WHATEVER THE INPUT: true; the input reads as it did. -/
def fnExactValidBoxSpec : ChangeSpec := { name := "fnExactValidBox", fn := fun _ => fun
  | [d] => { results := [.lit (.bool true)], args := [d] }
  | _ => none }
def fnExactValidBoxRow : OpenClaim := { program := "ytaamfjokkphckaa", sum := "5fba7e3b63c8323f0c78da78bf681564c498c11af18f4882eab86f37ba5ed276", func := "loop.example/g01193/laws.FnExactValidBox", spec := "fnExactValidBox", inPlace := ["math.Float64bits", "math.Float64frombits"], apart := false }
def FnExactValidBoxSaid : Prop := fnExactValidBoxRow.holds Try.pinned (OpenSpec.ofChange fnExactValidBoxSpec)

/-- ITS FALSE NEIGHBOUR: 'it returns false'. Refute it at one input. -/
def fnExactValidBoxWrong : ChangeSpec := { name := "fnExactValidBox", fn := fun _ => fun
  | [d] => { results := [.lit (.bool false)], args := [d] }
  | _ => none }
def FnExactValidBoxWrongFalsely : Prop := fnExactValidBoxRow.holds Try.pinned (OpenSpec.ofChange fnExactValidBoxWrong)

/-- 'laws.FnExactIsInBox': WHATEVER THE INPUT: true; the input reads as it did. -/
def fnExactIsInBoxSpec : ChangeSpec := { name := "fnExactIsInBox", fn := fun _ => fun
  | [d1, d2] => { results := [.lit (.bool true)], args := [d1, d2] }
  | _ => none }
def fnExactIsInBoxRow : OpenClaim := { program := "ytaamfjokkphckaa", sum := "5fba7e3b63c8323f0c78da78bf681564c498c11af18f4882eab86f37ba5ed276", func := "loop.example/g01193/laws.FnExactIsInBox", spec := "fnExactIsInBox", inPlace := ["math.Float64bits", "math.Float64frombits"], apart := false }
def FnExactIsInBoxSaid : Prop := fnExactIsInBoxRow.holds Try.pinned (OpenSpec.ofChange fnExactIsInBoxSpec)

/-- ITS FALSE NEIGHBOUR: 'it returns false'. Refute it at one input. -/
def fnExactIsInBoxWrong : ChangeSpec := { name := "fnExactIsInBox", fn := fun _ => fun
  | [d1, d2] => { results := [.lit (.bool false)], args := [d1, d2] }
  | _ => none }
def FnExactIsInBoxWrongFalsely : Prop := fnExactIsInBoxRow.holds Try.pinned (OpenSpec.ofChange fnExactIsInBoxWrong)

/-- 'laws.FnExactSizeRange': WHATEVER THE INPUT: true; the input reads as it did. -/
def fnExactSizeRangeSpec : ChangeSpec := { name := "fnExactSizeRange", fn := fun _ => fun
  | [d] => { results := [.lit (.bool true)], args := [d] }
  | _ => none }
def fnExactSizeRangeRow : OpenClaim := { program := "ytaamfjokkphckaa", sum := "5fba7e3b63c8323f0c78da78bf681564c498c11af18f4882eab86f37ba5ed276", func := "loop.example/g01193/laws.FnExactSizeRange", spec := "fnExactSizeRange", inPlace := ["math.Float32bits", "math.Float32frombits"], apart := false }
def FnExactSizeRangeSaid : Prop := fnExactSizeRangeRow.holds Try.pinned (OpenSpec.ofChange fnExactSizeRangeSpec)

/-- ITS FALSE NEIGHBOUR: 'it returns false'. Refute it at one input. -/
def fnExactSizeRangeWrong : ChangeSpec := { name := "fnExactSizeRange", fn := fun _ => fun
  | [d] => { results := [.lit (.bool false)], args := [d] }
  | _ => none }
def FnExactSizeRangeWrongFalsely : Prop := fnExactSizeRangeRow.holds Try.pinned (OpenSpec.ofChange fnExactSizeRangeWrong)

/-- 'laws.FnExactLongRange': WHATEVER THE INPUT: true; the input reads as it did. -/
def fnExactLongRangeSpec : ChangeSpec := { name := "fnExactLongRange", fn := fun _ => fun
  | [d1, d2, d3] => { results := [.lit (.bool true)], args := [d1, d2, d3] }
  | _ => none }
def fnExactLongRangeRow : OpenClaim := { program := "ytaamfjokkphckaa", sum := "5fba7e3b63c8323f0c78da78bf681564c498c11af18f4882eab86f37ba5ed276", func := "loop.example/g01193/laws.FnExactLongRange", spec := "fnExactLongRange", inPlace := ["math.sqrt", "math.Float32bits", "math.Float32frombits"], unfollowed := true, recurses := true, apart := false }
def FnExactLongRangeSaid : Prop := fnExactLongRangeRow.holds Try.pinned (OpenSpec.ofChange fnExactLongRangeSpec)

/-- ITS FALSE NEIGHBOUR: 'it returns false'. Refute it at one input. -/
def fnExactLongRangeWrong : ChangeSpec := { name := "fnExactLongRange", fn := fun _ => fun
  | [d1, d2, d3] => { results := [.lit (.bool false)], args := [d1, d2, d3] }
  | _ => none }
def FnExactLongRangeWrongFalsely : Prop := fnExactLongRangeRow.holds Try.pinned (OpenSpec.ofChange fnExactLongRangeWrong)

/-- 'laws.FnExactGrowBox': WHATEVER THE INPUT: true; the input reads as it did. -/
def fnExactGrowBoxSpec : ChangeSpec := { name := "fnExactGrowBox", fn := fun _ => fun
  | [d1, d2] => { results := [.lit (.bool true)], args := [d1, d2] }
  | _ => none }
def fnExactGrowBoxRow : OpenClaim := { program := "ytaamfjokkphckaa", sum := "5fba7e3b63c8323f0c78da78bf681564c498c11af18f4882eab86f37ba5ed276", func := "loop.example/g01193/laws.FnExactGrowBox", spec := "fnExactGrowBox", inPlace := ["math.Float64bits", "math.Float64frombits"], unfollowed := true, recurses := true, apart := false }
def FnExactGrowBoxSaid : Prop := fnExactGrowBoxRow.holds Try.pinned (OpenSpec.ofChange fnExactGrowBoxSpec)

/-- ITS FALSE NEIGHBOUR: 'it returns false'. Refute it at one input. -/
def fnExactGrowBoxWrong : ChangeSpec := { name := "fnExactGrowBox", fn := fun _ => fun
  | [d1, d2] => { results := [.lit (.bool false)], args := [d1, d2] }
  | _ => none }
def FnExactGrowBoxWrongFalsely : Prop := fnExactGrowBoxRow.holds Try.pinned (OpenSpec.ofChange fnExactGrowBoxWrong)

/-- 'laws.FnExactSplitBox': WHATEVER THE INPUT: true; the input reads as it did. -/
def fnExactSplitBoxSpec : ChangeSpec := { name := "fnExactSplitBox", fn := fun _ => fun
  | [d] => { results := [.lit (.bool true)], args := [d] }
  | _ => none }
def fnExactSplitBoxRow : OpenClaim := { program := "ytaamfjokkphckaa", sum := "5fba7e3b63c8323f0c78da78bf681564c498c11af18f4882eab86f37ba5ed276", func := "loop.example/g01193/laws.FnExactSplitBox", spec := "fnExactSplitBox", inPlace := ["math.Float64bits", "math.Float64frombits"], apart := false }
def FnExactSplitBoxSaid : Prop := fnExactSplitBoxRow.holds Try.pinned (OpenSpec.ofChange fnExactSplitBoxSpec)

/-- ITS FALSE NEIGHBOUR: 'it returns false'. Refute it at one input. -/
def fnExactSplitBoxWrong : ChangeSpec := { name := "fnExactSplitBox", fn := fun _ => fun
  | [d] => { results := [.lit (.bool false)], args := [d] }
  | _ => none }
def FnExactSplitBoxWrongFalsely : Prop := fnExactSplitBoxRow.holds Try.pinned (OpenSpec.ofChange fnExactSplitBoxWrong)

/-- 'laws.FnExactCutBoxes': WHATEVER THE INPUT: true; the input reads as it did. -/
def fnExactCutBoxesSpec : ChangeSpec := { name := "fnExactCutBoxes", fn := fun _ => fun
  | [d1, d2] => { results := [.lit (.bool true)], args := [d1, d2] }
  | _ => none }
def fnExactCutBoxesRow : OpenClaim := { program := "ytaamfjokkphckaa", sum := "5fba7e3b63c8323f0c78da78bf681564c498c11af18f4882eab86f37ba5ed276", func := "loop.example/g01193/laws.FnExactCutBoxes", spec := "fnExactCutBoxes", inPlace := ["math.Float64bits", "math.Float64frombits"], unfollowed := true, recurses := true, apart := false }
def FnExactCutBoxesSaid : Prop := fnExactCutBoxesRow.holds Try.pinned (OpenSpec.ofChange fnExactCutBoxesSpec)

/-- ITS FALSE NEIGHBOUR: 'it returns false'. Refute it at one input. -/
def fnExactCutBoxesWrong : ChangeSpec := { name := "fnExactCutBoxes", fn := fun _ => fun
  | [d1, d2] => { results := [.lit (.bool false)], args := [d1, d2] }
  | _ => none }
def FnExactCutBoxesWrongFalsely : Prop := fnExactCutBoxesRow.holds Try.pinned (OpenSpec.ofChange fnExactCutBoxesWrong)

/-- 'laws.FnExactBoxAround': WHATEVER THE INPUT: true; the input reads as it did. -/
def fnExactBoxAroundSpec : ChangeSpec := { name := "fnExactBoxAround", fn := fun _ => fun
  | [d] => { results := [.lit (.bool true)], args := [d] }
  | _ => none }
def fnExactBoxAroundRow : OpenClaim := { program := "ytaamfjokkphckaa", sum := "5fba7e3b63c8323f0c78da78bf681564c498c11af18f4882eab86f37ba5ed276", func := "loop.example/g01193/laws.FnExactBoxAround", spec := "fnExactBoxAround", inPlace := ["math.Float64bits", "math.Float64frombits"], unfollowed := true, recurses := true, apart := false }
def FnExactBoxAroundSaid : Prop := fnExactBoxAroundRow.holds Try.pinned (OpenSpec.ofChange fnExactBoxAroundSpec)

/-- ITS FALSE NEIGHBOUR: 'it returns false'. Refute it at one input. -/
def fnExactBoxAroundWrong : ChangeSpec := { name := "fnExactBoxAround", fn := fun _ => fun
  | [d] => { results := [.lit (.bool false)], args := [d] }
  | _ => none }
def FnExactBoxAroundWrongFalsely : Prop := fnExactBoxAroundRow.holds Try.pinned (OpenSpec.ofChange fnExactBoxAroundWrong)

/- THE SECOND FORM. 'bulk': how many values and letters a reading holds, each counted each time it is reached (what is shared counts as often as it is met; a slice's spare places count too). A statement '..UptoSaid' is the law's where the arguments, and the package variables that the reading takes, are together of bulk at most 1048576: NARROWER than '..Said'. Prove '..Said' where nothing that the law and all that it calls make is longer than what came in: it says more and counts as full. Else prove '..UptoSaid'. A law counts once. -/
mutual
def uptoBulk {H : Type} : DataW H → Nat
  | .lit (.string bytes) => bytes.length + 1
  | .lit _ => 1
  | .nil => 1
  | .ptr d => uptoBulk d + 1
  | .slice elems spare => uptoBulkAll elems + uptoBulkAll spare + 1
  | .agg parts => uptoBulkAll parts + 1
  | .iface _ d => uptoBulk d + 1
  | .map entries => uptoBulkEntries entries + 1
  | .held _ => 1
def uptoBulkAll {H : Type} : List (DataW H) → Nat
  | [] => 0
  | d :: r => uptoBulk d + uptoBulkAll r
def uptoBulkEntries {H : Type} : List (Lit × DataW H) → Nat
  | [] => 0
  | x :: r => uptoBulkEntry x + uptoBulkEntries r
def uptoBulkEntry {H : Type} : Lit × DataW H → Nat
  | (.string bytes, d) => bytes.length + uptoBulk d + 1
  | (_, d) => uptoBulk d + 1
 end
def uptoSmall : (H : Type) → List (DataW H) → Bool := fun _ ds => decide (uptoBulkAll ds ≤ 1048576)
def OpenSpec.upto (s : _root_.Go.ChangeSpec) : _root_.Go.OpenSpec := { _root_.Go.OpenSpec.ofChange s with cond := some uptoSmall }

/-- 'laws.FnExactValidBox', WHERE WHAT IT READS IS OF BULK AT MOST 1048576: true; the input reads as it did. -/
def fnExactValidBoxUptoRow : OpenClaim := { program := "ytaamfjokkphckaa", sum := "5fba7e3b63c8323f0c78da78bf681564c498c11af18f4882eab86f37ba5ed276", func := "loop.example/g01193/laws.FnExactValidBox", spec := "fnExactValidBox", inPlace := ["math.Float64bits", "math.Float64frombits"], apart := false, narrowed := true }
def FnExactValidBoxUptoSaid : Prop := fnExactValidBoxUptoRow.holds Try.pinned (OpenSpec.upto fnExactValidBoxSpec)

/-- 'laws.FnExactIsInBox', WHERE WHAT IT READS IS OF BULK AT MOST 1048576: true; the input reads as it did. -/
def fnExactIsInBoxUptoRow : OpenClaim := { program := "ytaamfjokkphckaa", sum := "5fba7e3b63c8323f0c78da78bf681564c498c11af18f4882eab86f37ba5ed276", func := "loop.example/g01193/laws.FnExactIsInBox", spec := "fnExactIsInBox", inPlace := ["math.Float64bits", "math.Float64frombits"], apart := false, narrowed := true }
def FnExactIsInBoxUptoSaid : Prop := fnExactIsInBoxUptoRow.holds Try.pinned (OpenSpec.upto fnExactIsInBoxSpec)

/-- 'laws.FnExactSizeRange', WHERE WHAT IT READS IS OF BULK AT MOST 1048576: true; the input reads as it did. -/
def fnExactSizeRangeUptoRow : OpenClaim := { program := "ytaamfjokkphckaa", sum := "5fba7e3b63c8323f0c78da78bf681564c498c11af18f4882eab86f37ba5ed276", func := "loop.example/g01193/laws.FnExactSizeRange", spec := "fnExactSizeRange", inPlace := ["math.Float32bits", "math.Float32frombits"], apart := false, narrowed := true }
def FnExactSizeRangeUptoSaid : Prop := fnExactSizeRangeUptoRow.holds Try.pinned (OpenSpec.upto fnExactSizeRangeSpec)

/-- 'laws.FnExactLongRange', WHERE WHAT IT READS IS OF BULK AT MOST 1048576: true; the input reads as it did. -/
def fnExactLongRangeUptoRow : OpenClaim := { program := "ytaamfjokkphckaa", sum := "5fba7e3b63c8323f0c78da78bf681564c498c11af18f4882eab86f37ba5ed276", func := "loop.example/g01193/laws.FnExactLongRange", spec := "fnExactLongRange", inPlace := ["math.sqrt", "math.Float32bits", "math.Float32frombits"], unfollowed := true, recurses := true, apart := false, narrowed := true }
def FnExactLongRangeUptoSaid : Prop := fnExactLongRangeUptoRow.holds Try.pinned (OpenSpec.upto fnExactLongRangeSpec)

/-- 'laws.FnExactGrowBox', WHERE WHAT IT READS IS OF BULK AT MOST 1048576: true; the input reads as it did. -/
def fnExactGrowBoxUptoRow : OpenClaim := { program := "ytaamfjokkphckaa", sum := "5fba7e3b63c8323f0c78da78bf681564c498c11af18f4882eab86f37ba5ed276", func := "loop.example/g01193/laws.FnExactGrowBox", spec := "fnExactGrowBox", inPlace := ["math.Float64bits", "math.Float64frombits"], unfollowed := true, recurses := true, apart := false, narrowed := true }
def FnExactGrowBoxUptoSaid : Prop := fnExactGrowBoxUptoRow.holds Try.pinned (OpenSpec.upto fnExactGrowBoxSpec)

/-- 'laws.FnExactSplitBox', WHERE WHAT IT READS IS OF BULK AT MOST 1048576: true; the input reads as it did. -/
def fnExactSplitBoxUptoRow : OpenClaim := { program := "ytaamfjokkphckaa", sum := "5fba7e3b63c8323f0c78da78bf681564c498c11af18f4882eab86f37ba5ed276", func := "loop.example/g01193/laws.FnExactSplitBox", spec := "fnExactSplitBox", inPlace := ["math.Float64bits", "math.Float64frombits"], apart := false, narrowed := true }
def FnExactSplitBoxUptoSaid : Prop := fnExactSplitBoxUptoRow.holds Try.pinned (OpenSpec.upto fnExactSplitBoxSpec)

/-- 'laws.FnExactCutBoxes', WHERE WHAT IT READS IS OF BULK AT MOST 1048576: true; the input reads as it did. -/
def fnExactCutBoxesUptoRow : OpenClaim := { program := "ytaamfjokkphckaa", sum := "5fba7e3b63c8323f0c78da78bf681564c498c11af18f4882eab86f37ba5ed276", func := "loop.example/g01193/laws.FnExactCutBoxes", spec := "fnExactCutBoxes", inPlace := ["math.Float64bits", "math.Float64frombits"], unfollowed := true, recurses := true, apart := false, narrowed := true }
def FnExactCutBoxesUptoSaid : Prop := fnExactCutBoxesUptoRow.holds Try.pinned (OpenSpec.upto fnExactCutBoxesSpec)

/-- 'laws.FnExactBoxAround', WHERE WHAT IT READS IS OF BULK AT MOST 1048576: true; the input reads as it did. -/
def fnExactBoxAroundUptoRow : OpenClaim := { program := "ytaamfjokkphckaa", sum := "5fba7e3b63c8323f0c78da78bf681564c498c11af18f4882eab86f37ba5ed276", func := "loop.example/g01193/laws.FnExactBoxAround", spec := "fnExactBoxAround", inPlace := ["math.Float64bits", "math.Float64frombits"], unfollowed := true, recurses := true, apart := false, narrowed := true }
def FnExactBoxAroundUptoSaid : Prop := fnExactBoxAroundUptoRow.holds Try.pinned (OpenSpec.upto fnExactBoxAroundSpec)

end Rows
end Go.Proofs.Ytaamfjokkphckaa
