/-
  No cell of these rows narrows 'for every input' (looked for: loops, veiled, ifaces, maps, wideKeys, modest, calm, conditions, laid).
  DERIVED. THE GIVEN ROWS OF THIS SEAT. 12 by the template 'for every input the law returns true; each argument reads behind the call as it read before'; 0 by the template 'total and deterministic' (their statements: YtnhcgjjcbdjofaaTotals.lean).
  GIVEN WITH THE SEED: the statements are not yours to turn. If you find one false, say at which input.
  Laid BY PROGRAM, IN A SANDBOX (cutbox-rows.mjs): the forced cells as the released guide's own fill.sh prints them over the translation 4ee8bfec70c93534… (all of the seat's roots in one cut). By AI agents, Wed Nov 11 2026. No macro, syntax, notation, axiom, sorry.
-/
import Derived.Test.YtnhcgjjcbdjofaaChecked
import GoSem.Claim
import GoSem.ClaimJoined
import GoSem.ClaimMapViews
import Derived.JoinedTies
import Derived.KernelRfl
namespace Go.Proofs.Ytnhcgjjcbdjofaa
/- THE CELL 'sum', in the pinned program and in every row, IS THE sha256 OF THE DUMP (.gsa) THAT YtnhcgjjcbdjofaaProg.lean LOADS. Nothing in Lean hashes anything: it is a label: what it is worth is what the hold of that sum in a sandbox is worth. -/
noncomputable def Try.pinned : Pinned := { name := "ytnhcgjjcbdjofaa", sum := "4ee8bfec70c935345ada08c2431f170a9504363b868fd65ce8f26a2a62034960", checked := Try.checked }
namespace Rows
def none {H : Type} : Left H := { results := [], args := [] }

/-- 'laws.FnExactValidGrid': WHATEVER THE INPUT: true; the input reads as it did. -/
def fnExactValidGridSpec : ChangeSpec := { name := "fnExactValidGrid", fn := fun _ => fun
  | [d] => { results := [.lit (.bool true)], args := [d] }
  | _ => none }
def fnExactValidGridRow : OpenClaim := { program := "ytnhcgjjcbdjofaa", sum := "4ee8bfec70c935345ada08c2431f170a9504363b868fd65ce8f26a2a62034960", func := "loop.example/g01193/laws.FnExactValidGrid", spec := "fnExactValidGrid", inPlace := ["math.Float64bits", "math.Float64frombits"], apart := false }
def FnExactValidGridSaid : Prop := fnExactValidGridRow.holds Try.pinned (OpenSpec.ofChange fnExactValidGridSpec)

/-- ITS FALSE NEIGHBOUR: 'it returns false'. Refute it at one input. -/
def fnExactValidGridWrong : ChangeSpec := { name := "fnExactValidGrid", fn := fun _ => fun
  | [d] => { results := [.lit (.bool false)], args := [d] }
  | _ => none }
def FnExactValidGridWrongFalsely : Prop := fnExactValidGridRow.holds Try.pinned (OpenSpec.ofChange fnExactValidGridWrong)

/-- 'laws.FnExactSameGrid': WHATEVER THE INPUT: true; the input reads as it did. -/
def fnExactSameGridSpec : ChangeSpec := { name := "fnExactSameGrid", fn := fun _ => fun
  | [d1, d2] => { results := [.lit (.bool true)], args := [d1, d2] }
  | _ => none }
def fnExactSameGridRow : OpenClaim := { program := "ytnhcgjjcbdjofaa", sum := "4ee8bfec70c935345ada08c2431f170a9504363b868fd65ce8f26a2a62034960", func := "loop.example/g01193/laws.FnExactSameGrid", spec := "fnExactSameGrid", inPlace := ["math.Float32bits"], unfollowed := true, recurses := true, apart := false }
def FnExactSameGridSaid : Prop := fnExactSameGridRow.holds Try.pinned (OpenSpec.ofChange fnExactSameGridSpec)

/-- ITS FALSE NEIGHBOUR: 'it returns false'. Refute it at one input. -/
def fnExactSameGridWrong : ChangeSpec := { name := "fnExactSameGrid", fn := fun _ => fun
  | [d1, d2] => { results := [.lit (.bool false)], args := [d1, d2] }
  | _ => none }
def FnExactSameGridWrongFalsely : Prop := fnExactSameGridRow.holds Try.pinned (OpenSpec.ofChange fnExactSameGridWrong)

/-- 'laws.FnExactGridPoint': WHATEVER THE INPUT: true; the input reads as it did. -/
def fnExactGridPointSpec : ChangeSpec := { name := "fnExactGridPoint", fn := fun _ => fun
  | [d1, d2, d3, d4] => { results := [.lit (.bool true)], args := [d1, d2, d3, d4] }
  | _ => none }
def fnExactGridPointRow : OpenClaim := { program := "ytnhcgjjcbdjofaa", sum := "4ee8bfec70c935345ada08c2431f170a9504363b868fd65ce8f26a2a62034960", func := "loop.example/g01193/laws.FnExactGridPoint", spec := "fnExactGridPoint", inPlace := ["math.Float64bits", "math.Float64frombits"], unfollowed := true, recurses := true, apart := false }
def FnExactGridPointSaid : Prop := fnExactGridPointRow.holds Try.pinned (OpenSpec.ofChange fnExactGridPointSpec)

/-- ITS FALSE NEIGHBOUR: 'it returns false'. Refute it at one input. -/
def fnExactGridPointWrong : ChangeSpec := { name := "fnExactGridPoint", fn := fun _ => fun
  | [d1, d2, d3, d4] => { results := [.lit (.bool false)], args := [d1, d2, d3, d4] }
  | _ => none }
def FnExactGridPointWrongFalsely : Prop := fnExactGridPointRow.holds Try.pinned (OpenSpec.ofChange fnExactGridPointWrong)

/-- 'laws.FnExactGridValue': WHATEVER THE INPUT: true; the input reads as it did. -/
def fnExactGridValueSpec : ChangeSpec := { name := "fnExactGridValue", fn := fun _ => fun
  | [d1, d2, d3, d4] => { results := [.lit (.bool true)], args := [d1, d2, d3, d4] }
  | _ => none }
def fnExactGridValueRow : OpenClaim := { program := "ytnhcgjjcbdjofaa", sum := "4ee8bfec70c935345ada08c2431f170a9504363b868fd65ce8f26a2a62034960", func := "loop.example/g01193/laws.FnExactGridValue", spec := "fnExactGridValue", inPlace := ["math.Float64bits", "math.Float64frombits"], apart := false }
def FnExactGridValueSaid : Prop := fnExactGridValueRow.holds Try.pinned (OpenSpec.ofChange fnExactGridValueSpec)

/-- ITS FALSE NEIGHBOUR: 'it returns false'. Refute it at one input. -/
def fnExactGridValueWrong : ChangeSpec := { name := "fnExactGridValue", fn := fun _ => fun
  | [d1, d2, d3, d4] => { results := [.lit (.bool false)], args := [d1, d2, d3, d4] }
  | _ => none }
def FnExactGridValueWrongFalsely : Prop := fnExactGridValueRow.holds Try.pinned (OpenSpec.ofChange fnExactGridValueWrong)

/-- 'laws.FnExactCountInside': WHATEVER THE INPUT: true; the input reads as it did. -/
def fnExactCountInsideSpec : ChangeSpec := { name := "fnExactCountInside", fn := fun _ => fun
  | [d] => { results := [.lit (.bool true)], args := [d] }
  | _ => none }
def fnExactCountInsideRow : OpenClaim := { program := "ytnhcgjjcbdjofaa", sum := "4ee8bfec70c935345ada08c2431f170a9504363b868fd65ce8f26a2a62034960", func := "loop.example/g01193/laws.FnExactCountInside", spec := "fnExactCountInside", inPlace := ["math.Float64bits", "math.Float64frombits"], apart := false }
def FnExactCountInsideSaid : Prop := fnExactCountInsideRow.holds Try.pinned (OpenSpec.ofChange fnExactCountInsideSpec)

/-- ITS FALSE NEIGHBOUR: 'it returns false'. Refute it at one input. -/
def fnExactCountInsideWrong : ChangeSpec := { name := "fnExactCountInside", fn := fun _ => fun
  | [d] => { results := [.lit (.bool false)], args := [d] }
  | _ => none }
def FnExactCountInsideWrongFalsely : Prop := fnExactCountInsideRow.holds Try.pinned (OpenSpec.ofChange fnExactCountInsideWrong)

/-- 'laws.FnExactVolumeOf': WHATEVER THE INPUT: true; the input reads as it did. -/
def fnExactVolumeOfSpec : ChangeSpec := { name := "fnExactVolumeOf", fn := fun _ => fun
  | [d] => { results := [.lit (.bool true)], args := [d] }
  | _ => none }
def fnExactVolumeOfRow : OpenClaim := { program := "ytnhcgjjcbdjofaa", sum := "4ee8bfec70c935345ada08c2431f170a9504363b868fd65ce8f26a2a62034960", func := "loop.example/g01193/laws.FnExactVolumeOf", spec := "fnExactVolumeOf", inPlace := ["math.Float64bits", "math.Float64frombits"], apart := false }
def FnExactVolumeOfSaid : Prop := fnExactVolumeOfRow.holds Try.pinned (OpenSpec.ofChange fnExactVolumeOfSpec)

/-- ITS FALSE NEIGHBOUR: 'it returns false'. Refute it at one input. -/
def fnExactVolumeOfWrong : ChangeSpec := { name := "fnExactVolumeOf", fn := fun _ => fun
  | [d] => { results := [.lit (.bool false)], args := [d] }
  | _ => none }
def FnExactVolumeOfWrongFalsely : Prop := fnExactVolumeOfRow.holds Try.pinned (OpenSpec.ofChange fnExactVolumeOfWrong)

/-- 'laws.FnExactEdgesCrossed': WHATEVER THE INPUT: true; the input reads as it did. -/
def fnExactEdgesCrossedSpec : ChangeSpec := { name := "fnExactEdgesCrossed", fn := fun _ => fun
  | [d] => { results := [.lit (.bool true)], args := [d] }
  | _ => none }
def fnExactEdgesCrossedRow : OpenClaim := { program := "ytnhcgjjcbdjofaa", sum := "4ee8bfec70c935345ada08c2431f170a9504363b868fd65ce8f26a2a62034960", func := "loop.example/g01193/laws.FnExactEdgesCrossed", spec := "fnExactEdgesCrossed", inPlace := ["math.Float64bits", "math.Float64frombits"], unfollowed := true, recurses := true, apart := false }
def FnExactEdgesCrossedSaid : Prop := fnExactEdgesCrossedRow.holds Try.pinned (OpenSpec.ofChange fnExactEdgesCrossedSpec)

/-- ITS FALSE NEIGHBOUR: 'it returns false'. Refute it at one input. -/
def fnExactEdgesCrossedWrong : ChangeSpec := { name := "fnExactEdgesCrossed", fn := fun _ => fun
  | [d] => { results := [.lit (.bool false)], args := [d] }
  | _ => none }
def FnExactEdgesCrossedWrongFalsely : Prop := fnExactEdgesCrossedRow.holds Try.pinned (OpenSpec.ofChange fnExactEdgesCrossedWrong)

/-- 'laws.FnExactValueBetween': WHATEVER THE INPUT: true; the input reads as it did. -/
def fnExactValueBetweenSpec : ChangeSpec := { name := "fnExactValueBetween", fn := fun _ => fun
  | [d1, d2] => { results := [.lit (.bool true)], args := [d1, d2] }
  | _ => none }
def fnExactValueBetweenRow : OpenClaim := { program := "ytnhcgjjcbdjofaa", sum := "4ee8bfec70c935345ada08c2431f170a9504363b868fd65ce8f26a2a62034960", func := "loop.example/g01193/laws.FnExactValueBetween", spec := "fnExactValueBetween", inPlace := ["math.archFloor", "math.Float64bits", "math.Float64frombits", "math.archTrunc"], unfollowed := true, recurses := true, apart := false }
def FnExactValueBetweenSaid : Prop := fnExactValueBetweenRow.holds Try.pinned (OpenSpec.ofChange fnExactValueBetweenSpec)

/-- ITS FALSE NEIGHBOUR: 'it returns false'. Refute it at one input. -/
def fnExactValueBetweenWrong : ChangeSpec := { name := "fnExactValueBetween", fn := fun _ => fun
  | [d1, d2] => { results := [.lit (.bool false)], args := [d1, d2] }
  | _ => none }
def FnExactValueBetweenWrongFalsely : Prop := fnExactValueBetweenRow.holds Try.pinned (OpenSpec.ofChange fnExactValueBetweenWrong)

/-- 'laws.FnExactSlopeBetween': WHATEVER THE INPUT: true; the input reads as it did. -/
def fnExactSlopeBetweenSpec : ChangeSpec := { name := "fnExactSlopeBetween", fn := fun _ => fun
  | [d1, d2] => { results := [.lit (.bool true)], args := [d1, d2] }
  | _ => none }
def fnExactSlopeBetweenRow : OpenClaim := { program := "ytnhcgjjcbdjofaa", sum := "4ee8bfec70c935345ada08c2431f170a9504363b868fd65ce8f26a2a62034960", func := "loop.example/g01193/laws.FnExactSlopeBetween", spec := "fnExactSlopeBetween", inPlace := ["math.archFloor", "math.Float64bits", "math.Float64frombits", "math.archTrunc"], unfollowed := true, recurses := true, apart := false }
def FnExactSlopeBetweenSaid : Prop := fnExactSlopeBetweenRow.holds Try.pinned (OpenSpec.ofChange fnExactSlopeBetweenSpec)

/-- ITS FALSE NEIGHBOUR: 'it returns false'. Refute it at one input. -/
def fnExactSlopeBetweenWrong : ChangeSpec := { name := "fnExactSlopeBetween", fn := fun _ => fun
  | [d1, d2] => { results := [.lit (.bool false)], args := [d1, d2] }
  | _ => none }
def FnExactSlopeBetweenWrongFalsely : Prop := fnExactSlopeBetweenRow.holds Try.pinned (OpenSpec.ofChange fnExactSlopeBetweenWrong)

/-- 'laws.FnExactJoinGrids': WHATEVER THE INPUT: true; the input reads as it did. -/
def fnExactJoinGridsSpec : ChangeSpec := { name := "fnExactJoinGrids", fn := fun _ => fun
  | [d1, d2, d3] => { results := [.lit (.bool true)], args := [d1, d2, d3] }
  | _ => none }
def fnExactJoinGridsRow : OpenClaim := { program := "ytnhcgjjcbdjofaa", sum := "4ee8bfec70c935345ada08c2431f170a9504363b868fd65ce8f26a2a62034960", func := "loop.example/g01193/laws.FnExactJoinGrids", spec := "fnExactJoinGrids", inPlace := ["math.Float32bits", "math.Float64bits", "math.Float64frombits"], unfollowed := true, recurses := true, apart := false }
def FnExactJoinGridsSaid : Prop := fnExactJoinGridsRow.holds Try.pinned (OpenSpec.ofChange fnExactJoinGridsSpec)

/-- ITS FALSE NEIGHBOUR: 'it returns false'. Refute it at one input. -/
def fnExactJoinGridsWrong : ChangeSpec := { name := "fnExactJoinGrids", fn := fun _ => fun
  | [d1, d2, d3] => { results := [.lit (.bool false)], args := [d1, d2, d3] }
  | _ => none }
def FnExactJoinGridsWrongFalsely : Prop := fnExactJoinGridsRow.holds Try.pinned (OpenSpec.ofChange fnExactJoinGridsWrong)

/-- 'laws.FnExactCropGrid': WHATEVER THE INPUT: true; the input reads as it did. -/
def fnExactCropGridSpec : ChangeSpec := { name := "fnExactCropGrid", fn := fun _ => fun
  | [d1, d2, d3] => { results := [.lit (.bool true)], args := [d1, d2, d3] }
  | _ => none }
def fnExactCropGridRow : OpenClaim := { program := "ytnhcgjjcbdjofaa", sum := "4ee8bfec70c935345ada08c2431f170a9504363b868fd65ce8f26a2a62034960", func := "loop.example/g01193/laws.FnExactCropGrid", spec := "fnExactCropGrid", inPlace := ["math.Float64bits", "math.Float64frombits"], unfollowed := true, recurses := true, apart := false }
def FnExactCropGridSaid : Prop := fnExactCropGridRow.holds Try.pinned (OpenSpec.ofChange fnExactCropGridSpec)

/-- ITS FALSE NEIGHBOUR: 'it returns false'. Refute it at one input. -/
def fnExactCropGridWrong : ChangeSpec := { name := "fnExactCropGrid", fn := fun _ => fun
  | [d1, d2, d3] => { results := [.lit (.bool false)], args := [d1, d2, d3] }
  | _ => none }
def FnExactCropGridWrongFalsely : Prop := fnExactCropGridRow.holds Try.pinned (OpenSpec.ofChange fnExactCropGridWrong)

/-- 'laws.FnExactHalveGrid': WHATEVER THE INPUT: true; the input reads as it did. -/
def fnExactHalveGridSpec : ChangeSpec := { name := "fnExactHalveGrid", fn := fun _ => fun
  | [d] => { results := [.lit (.bool true)], args := [d] }
  | _ => none }
def fnExactHalveGridRow : OpenClaim := { program := "ytnhcgjjcbdjofaa", sum := "4ee8bfec70c935345ada08c2431f170a9504363b868fd65ce8f26a2a62034960", func := "loop.example/g01193/laws.FnExactHalveGrid", spec := "fnExactHalveGrid", inPlace := ["math.Float64bits", "math.Float64frombits"], unfollowed := true, recurses := true, apart := false }
def FnExactHalveGridSaid : Prop := fnExactHalveGridRow.holds Try.pinned (OpenSpec.ofChange fnExactHalveGridSpec)

/-- ITS FALSE NEIGHBOUR: 'it returns false'. Refute it at one input. -/
def fnExactHalveGridWrong : ChangeSpec := { name := "fnExactHalveGrid", fn := fun _ => fun
  | [d] => { results := [.lit (.bool false)], args := [d] }
  | _ => none }
def FnExactHalveGridWrongFalsely : Prop := fnExactHalveGridRow.holds Try.pinned (OpenSpec.ofChange fnExactHalveGridWrong)

/- THE SECOND FORM. 'bulk': how many values and letters a reading holds, each counted each time it is reached (what is shared counts as often as it is met; a slice's spare places count too). A statement '..UptoSaid' is the law's where the arguments, and the package variables that the reading takes, are together of bulk at most 1048576: NARROWER than '..Said'. Prove '..Said' where nothing that the law and all that it calls make is longer than what came in: it says more and counts as full. Else prove '..UptoSaid'. A law counts once. -/
mutual
def uptoBulk {H : Type} : DataW H → Nat
  | .lit (.string bytes) => bytes.length + 1
  | .lit _ => 1
  | .nil => 1
  | .ptr d => uptoBulk d + 1
  | .slice elems spare => uptoBulkAll elems + uptoBulkAll spare + 1
  | .agg parts => uptoBulkAll parts + 1
  | .iface _ d => uptoBulk d + 1
  | .map entries => uptoBulkEntries entries + 1
  | .held _ => 1
def uptoBulkAll {H : Type} : List (DataW H) → Nat
  | [] => 0
  | d :: r => uptoBulk d + uptoBulkAll r
def uptoBulkEntries {H : Type} : List (Lit × DataW H) → Nat
  | [] => 0
  | x :: r => uptoBulkEntry x + uptoBulkEntries r
def uptoBulkEntry {H : Type} : Lit × DataW H → Nat
  | (.string bytes, d) => bytes.length + uptoBulk d + 1
  | (_, d) => uptoBulk d + 1
 end
def uptoSmall : (H : Type) → List (DataW H) → Bool := fun _ ds => decide (uptoBulkAll ds ≤ 1048576)
def OpenSpec.upto (s : _root_.Go.ChangeSpec) : _root_.Go.OpenSpec := { _root_.Go.OpenSpec.ofChange s with cond := some uptoSmall }

/-- 'laws.FnExactValidGrid', WHERE WHAT IT READS IS OF BULK AT MOST 1048576: true; the input reads as it did. -/
def fnExactValidGridUptoRow : OpenClaim := { program := "ytnhcgjjcbdjofaa", sum := "4ee8bfec70c935345ada08c2431f170a9504363b868fd65ce8f26a2a62034960", func := "loop.example/g01193/laws.FnExactValidGrid", spec := "fnExactValidGrid", inPlace := ["math.Float64bits", "math.Float64frombits"], apart := false, narrowed := true }
def FnExactValidGridUptoSaid : Prop := fnExactValidGridUptoRow.holds Try.pinned (OpenSpec.upto fnExactValidGridSpec)

/-- 'laws.FnExactSameGrid', WHERE WHAT IT READS IS OF BULK AT MOST 1048576: true; the input reads as it did. -/
def fnExactSameGridUptoRow : OpenClaim := { program := "ytnhcgjjcbdjofaa", sum := "4ee8bfec70c935345ada08c2431f170a9504363b868fd65ce8f26a2a62034960", func := "loop.example/g01193/laws.FnExactSameGrid", spec := "fnExactSameGrid", inPlace := ["math.Float32bits"], unfollowed := true, recurses := true, apart := false, narrowed := true }
def FnExactSameGridUptoSaid : Prop := fnExactSameGridUptoRow.holds Try.pinned (OpenSpec.upto fnExactSameGridSpec)

/-- 'laws.FnExactGridPoint', WHERE WHAT IT READS IS OF BULK AT MOST 1048576: true; the input reads as it did. -/
def fnExactGridPointUptoRow : OpenClaim := { program := "ytnhcgjjcbdjofaa", sum := "4ee8bfec70c935345ada08c2431f170a9504363b868fd65ce8f26a2a62034960", func := "loop.example/g01193/laws.FnExactGridPoint", spec := "fnExactGridPoint", inPlace := ["math.Float64bits", "math.Float64frombits"], unfollowed := true, recurses := true, apart := false, narrowed := true }
def FnExactGridPointUptoSaid : Prop := fnExactGridPointUptoRow.holds Try.pinned (OpenSpec.upto fnExactGridPointSpec)

/-- 'laws.FnExactGridValue', WHERE WHAT IT READS IS OF BULK AT MOST 1048576: true; the input reads as it did. -/
def fnExactGridValueUptoRow : OpenClaim := { program := "ytnhcgjjcbdjofaa", sum := "4ee8bfec70c935345ada08c2431f170a9504363b868fd65ce8f26a2a62034960", func := "loop.example/g01193/laws.FnExactGridValue", spec := "fnExactGridValue", inPlace := ["math.Float64bits", "math.Float64frombits"], apart := false, narrowed := true }
def FnExactGridValueUptoSaid : Prop := fnExactGridValueUptoRow.holds Try.pinned (OpenSpec.upto fnExactGridValueSpec)

/-- 'laws.FnExactCountInside', WHERE WHAT IT READS IS OF BULK AT MOST 1048576: true; the input reads as it did. -/
def fnExactCountInsideUptoRow : OpenClaim := { program := "ytnhcgjjcbdjofaa", sum := "4ee8bfec70c935345ada08c2431f170a9504363b868fd65ce8f26a2a62034960", func := "loop.example/g01193/laws.FnExactCountInside", spec := "fnExactCountInside", inPlace := ["math.Float64bits", "math.Float64frombits"], apart := false, narrowed := true }
def FnExactCountInsideUptoSaid : Prop := fnExactCountInsideUptoRow.holds Try.pinned (OpenSpec.upto fnExactCountInsideSpec)

/-- 'laws.FnExactVolumeOf', WHERE WHAT IT READS IS OF BULK AT MOST 1048576: true; the input reads as it did. -/
def fnExactVolumeOfUptoRow : OpenClaim := { program := "ytnhcgjjcbdjofaa", sum := "4ee8bfec70c935345ada08c2431f170a9504363b868fd65ce8f26a2a62034960", func := "loop.example/g01193/laws.FnExactVolumeOf", spec := "fnExactVolumeOf", inPlace := ["math.Float64bits", "math.Float64frombits"], apart := false, narrowed := true }
def FnExactVolumeOfUptoSaid : Prop := fnExactVolumeOfUptoRow.holds Try.pinned (OpenSpec.upto fnExactVolumeOfSpec)

/-- 'laws.FnExactEdgesCrossed', WHERE WHAT IT READS IS OF BULK AT MOST 1048576: true; the input reads as it did. -/
def fnExactEdgesCrossedUptoRow : OpenClaim := { program := "ytnhcgjjcbdjofaa", sum := "4ee8bfec70c935345ada08c2431f170a9504363b868fd65ce8f26a2a62034960", func := "loop.example/g01193/laws.FnExactEdgesCrossed", spec := "fnExactEdgesCrossed", inPlace := ["math.Float64bits", "math.Float64frombits"], unfollowed := true, recurses := true, apart := false, narrowed := true }
def FnExactEdgesCrossedUptoSaid : Prop := fnExactEdgesCrossedUptoRow.holds Try.pinned (OpenSpec.upto fnExactEdgesCrossedSpec)

/-- 'laws.FnExactValueBetween', WHERE WHAT IT READS IS OF BULK AT MOST 1048576: true; the input reads as it did. -/
def fnExactValueBetweenUptoRow : OpenClaim := { program := "ytnhcgjjcbdjofaa", sum := "4ee8bfec70c935345ada08c2431f170a9504363b868fd65ce8f26a2a62034960", func := "loop.example/g01193/laws.FnExactValueBetween", spec := "fnExactValueBetween", inPlace := ["math.archFloor", "math.Float64bits", "math.Float64frombits", "math.archTrunc"], unfollowed := true, recurses := true, apart := false, narrowed := true }
def FnExactValueBetweenUptoSaid : Prop := fnExactValueBetweenUptoRow.holds Try.pinned (OpenSpec.upto fnExactValueBetweenSpec)

/-- 'laws.FnExactSlopeBetween', WHERE WHAT IT READS IS OF BULK AT MOST 1048576: true; the input reads as it did. -/
def fnExactSlopeBetweenUptoRow : OpenClaim := { program := "ytnhcgjjcbdjofaa", sum := "4ee8bfec70c935345ada08c2431f170a9504363b868fd65ce8f26a2a62034960", func := "loop.example/g01193/laws.FnExactSlopeBetween", spec := "fnExactSlopeBetween", inPlace := ["math.archFloor", "math.Float64bits", "math.Float64frombits", "math.archTrunc"], unfollowed := true, recurses := true, apart := false, narrowed := true }
def FnExactSlopeBetweenUptoSaid : Prop := fnExactSlopeBetweenUptoRow.holds Try.pinned (OpenSpec.upto fnExactSlopeBetweenSpec)

/-- 'laws.FnExactJoinGrids', WHERE WHAT IT READS IS OF BULK AT MOST 1048576: true; the input reads as it did. -/
def fnExactJoinGridsUptoRow : OpenClaim := { program := "ytnhcgjjcbdjofaa", sum := "4ee8bfec70c935345ada08c2431f170a9504363b868fd65ce8f26a2a62034960", func := "loop.example/g01193/laws.FnExactJoinGrids", spec := "fnExactJoinGrids", inPlace := ["math.Float32bits", "math.Float64bits", "math.Float64frombits"], unfollowed := true, recurses := true, apart := false, narrowed := true }
def FnExactJoinGridsUptoSaid : Prop := fnExactJoinGridsUptoRow.holds Try.pinned (OpenSpec.upto fnExactJoinGridsSpec)

/-- 'laws.FnExactCropGrid', WHERE WHAT IT READS IS OF BULK AT MOST 1048576: true; the input reads as it did. -/
def fnExactCropGridUptoRow : OpenClaim := { program := "ytnhcgjjcbdjofaa", sum := "4ee8bfec70c935345ada08c2431f170a9504363b868fd65ce8f26a2a62034960", func := "loop.example/g01193/laws.FnExactCropGrid", spec := "fnExactCropGrid", inPlace := ["math.Float64bits", "math.Float64frombits"], unfollowed := true, recurses := true, apart := false, narrowed := true }
def FnExactCropGridUptoSaid : Prop := fnExactCropGridUptoRow.holds Try.pinned (OpenSpec.upto fnExactCropGridSpec)

/-- 'laws.FnExactHalveGrid', WHERE WHAT IT READS IS OF BULK AT MOST 1048576: true; the input reads as it did. -/
def fnExactHalveGridUptoRow : OpenClaim := { program := "ytnhcgjjcbdjofaa", sum := "4ee8bfec70c935345ada08c2431f170a9504363b868fd65ce8f26a2a62034960", func := "loop.example/g01193/laws.FnExactHalveGrid", spec := "fnExactHalveGrid", inPlace := ["math.Float64bits", "math.Float64frombits"], unfollowed := true, recurses := true, apart := false, narrowed := true }
def FnExactHalveGridUptoSaid : Prop := fnExactHalveGridUptoRow.holds Try.pinned (OpenSpec.upto fnExactHalveGridSpec)

end Rows
end Go.Proofs.Ytnhcgjjcbdjofaa
