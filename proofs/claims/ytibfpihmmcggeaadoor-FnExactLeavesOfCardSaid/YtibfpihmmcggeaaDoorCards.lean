/-
  DERIVED. GIVEN WITH THE SEED: THE CARDS: each row of YtibfpihmmcggeaaDoorRows.lean that lists a variable, with what it lists TIED to the program's text (the seventh form; the later family's looks); each row that meets fmt, with fmt's text TOLD by the authors' own Lean function (tested against real Go, not proved from fmt's source: count such statements apart). THE CARD IS WHAT COUNTS. Prove the row's statement (the work); the ties are given (YtibfpihmmcggeaaDoorTie.lean); close each card by the builder's one call (the guide's Derived/Test/ToyasCard.lean, 'card_holds'). Laid BY PROGRAM, IN A SANDBOX (cutbox-door.mjs). By AI agents, Wed Nov 11 2026. No macro, syntax, notation, axiom, sorry.
-/
import Derived.Test.YtibfpihmmcggeaaDoorRows
import GoSem.ClaimSeven
namespace Go.Proofs.YtibfpihmmcggeaaDoor
namespace Rows

/-- THE TIED CARD OF 'laws.FnExactValidShape'. -/
def fnExactValidShapeCard : Claim7 := { stood := { row := fnExactValidShapeRow, standIns := [], harness := (true, "e0bf482f8ce68ffaed37bf765b18c920e8be78fee2e151f6a8f566800e81b438"), looks := true }, kinds := [], alts := [], laidByText := true, laidKinds := [.data], laidTests := true, laidLooks := .later }
def FnExactValidShapeCardSaid : Prop := Claim7.holds Tryd.pinned (.plain (OpenSpec.ofChange fnExactValidShapeSpec)) fnExactValidShapeCard

/-- THE TIED CARD OF 'laws.FnExactOneNode'. -/
def fnExactOneNodeCard : Claim7 := { stood := { row := fnExactOneNodeRow, standIns := [], harness := (true, "e0bf482f8ce68ffaed37bf765b18c920e8be78fee2e151f6a8f566800e81b438"), looks := true }, kinds := [], alts := [], laidByText := true, laidKinds := [.data], laidTests := true, laidLooks := .later }
def FnExactOneNodeCardSaid : Prop := Claim7.holds Tryd.pinned (.plain (OpenSpec.ofChange fnExactOneNodeSpec)) fnExactOneNodeCard

/-- THE TIED CARD OF 'laws.FnExactJoinShapes'. -/
def fnExactJoinShapesCard : Claim7 := { stood := { row := fnExactJoinShapesRow, standIns := [], harness := (true, "e0bf482f8ce68ffaed37bf765b18c920e8be78fee2e151f6a8f566800e81b438"), looks := true }, kinds := [], alts := [], laidByText := true, laidKinds := [.data], laidTests := true, laidLooks := .later }
def FnExactJoinShapesCardSaid : Prop := Claim7.holds Tryd.pinned (.plain (OpenSpec.ofChange fnExactJoinShapesSpec)) fnExactJoinShapesCard

/-- THE TIED CARD OF 'laws.FnExactWrapShape'. -/
def fnExactWrapShapeCard : Claim7 := { stood := { row := fnExactWrapShapeRow, standIns := [], harness := (true, "e0bf482f8ce68ffaed37bf765b18c920e8be78fee2e151f6a8f566800e81b438"), looks := true }, kinds := [], alts := [], laidByText := true, laidKinds := [.data], laidTests := true, laidLooks := .later }
def FnExactWrapShapeCardSaid : Prop := Claim7.holds Tryd.pinned (.plain (OpenSpec.ofChange fnExactWrapShapeSpec)) fnExactWrapShapeCard

/-- THE TIED CARD OF 'laws.FnExactUnionOf'. -/
def fnExactUnionOfCard : Claim7 := { stood := { row := fnExactUnionOfRow, standIns := [], harness := (true, "e0bf482f8ce68ffaed37bf765b18c920e8be78fee2e151f6a8f566800e81b438"), looks := true }, kinds := [], alts := [], laidByText := true, laidKinds := [.data], laidTests := true, laidLooks := .later }
def FnExactUnionOfCardSaid : Prop := Claim7.holds Tryd.pinned (.plain (OpenSpec.ofChange fnExactUnionOfSpec)) fnExactUnionOfCard

/-- THE TIED CARD OF 'laws.FnExactPartOf'. -/
def fnExactPartOfCard : Claim7 := { stood := { row := fnExactPartOfRow, standIns := [], harness := (true, "e0bf482f8ce68ffaed37bf765b18c920e8be78fee2e151f6a8f566800e81b438"), looks := true }, kinds := [], alts := [], laidByText := true, laidKinds := [.data], laidTests := true, laidLooks := .later }
def FnExactPartOfCardSaid : Prop := Claim7.holds Tryd.pinned (.plain (OpenSpec.ofChange fnExactPartOfSpec)) fnExactPartOfCard

/-- THE TIED CARD OF 'laws.FnExactDepthOf'. -/
def fnExactDepthOfCard : Claim7 := { stood := { row := fnExactDepthOfRow, standIns := [], harness := (true, "e0bf482f8ce68ffaed37bf765b18c920e8be78fee2e151f6a8f566800e81b438"), looks := true }, kinds := [], alts := [], laidByText := true, laidKinds := [.data], laidTests := true, laidLooks := .later }
def FnExactDepthOfCardSaid : Prop := Claim7.holds Tryd.pinned (.plain (OpenSpec.ofChange fnExactDepthOfSpec)) fnExactDepthOfCard

/-- THE TIED CARD OF 'laws.FnExactLeavesOf'. -/
def fnExactLeavesOfCard : Claim7 := { stood := { row := fnExactLeavesOfRow, standIns := [], harness := (true, "e0bf482f8ce68ffaed37bf765b18c920e8be78fee2e151f6a8f566800e81b438"), looks := true }, kinds := [], alts := [], laidByText := true, laidKinds := [.data], laidTests := true, laidLooks := .later }
def FnExactLeavesOfCardSaid : Prop := Claim7.holds Tryd.pinned (.plain (OpenSpec.ofChange fnExactLeavesOfSpec)) fnExactLeavesOfCard

/-- THE TIED CARD OF 'laws.FnExactFactorOf'. -/
def fnExactFactorOfCard : Claim7 := { stood := { row := fnExactFactorOfRow, standIns := [], harness := (true, "e0bf482f8ce68ffaed37bf765b18c920e8be78fee2e151f6a8f566800e81b438"), looks := true }, kinds := [], alts := [], laidByText := true, laidKinds := [.data], laidTests := true, laidLooks := .later }
def FnExactFactorOfCardSaid : Prop := Claim7.holds Tryd.pinned (.plain (OpenSpec.ofChange fnExactFactorOfSpec)) fnExactFactorOfCard

/-- THE TIED CARD OF 'laws.FnSigns'. -/
def fnSignsCard : Claim7 := { stood := { row := fnSignsRow, standIns := [], harness := (true, "e0bf482f8ce68ffaed37bf765b18c920e8be78fee2e151f6a8f566800e81b438"), looks := true }, kinds := [], alts := [], laidByText := true, laidKinds := [.data], laidTests := true, laidLooks := .later }
def FnSignsCardSaid : Prop := Claim7.holds Tryd.pinned (.plain (OpenSpec.ofChange fnSignsSpec)) fnSignsCard

/-- THE TIED CARD OF 'laws.FnLeaves'. -/
def fnLeavesCard : Claim7 := { stood := { row := fnLeavesRow, standIns := [], harness := (true, "e0bf482f8ce68ffaed37bf765b18c920e8be78fee2e151f6a8f566800e81b438"), looks := true }, kinds := [], alts := [], laidByText := true, laidKinds := [.data], laidTests := true, laidLooks := .later }
def FnLeavesCardSaid : Prop := Claim7.holds Tryd.pinned (.plain (OpenSpec.ofChange fnLeavesSpec)) fnLeavesCard

/-- THE SECOND FORM's CARD OF 'laws.FnExactValidShape'. -/
def fnExactValidShapeUptoCard : Claim7 := { stood := { row := fnExactValidShapeUptoRow, standIns := [], harness := (true, "e0bf482f8ce68ffaed37bf765b18c920e8be78fee2e151f6a8f566800e81b438"), looks := true }, kinds := [], alts := [], laidByText := true, laidKinds := [.data], laidTests := true, laidLooks := .later }
def FnExactValidShapeUptoCardSaid : Prop := Claim7.holds Tryd.pinned (.plain (OpenSpec.upto fnExactValidShapeSpec)) fnExactValidShapeUptoCard

/-- THE SECOND FORM's CARD OF 'laws.FnExactOneNode'. -/
def fnExactOneNodeUptoCard : Claim7 := { stood := { row := fnExactOneNodeUptoRow, standIns := [], harness := (true, "e0bf482f8ce68ffaed37bf765b18c920e8be78fee2e151f6a8f566800e81b438"), looks := true }, kinds := [], alts := [], laidByText := true, laidKinds := [.data], laidTests := true, laidLooks := .later }
def FnExactOneNodeUptoCardSaid : Prop := Claim7.holds Tryd.pinned (.plain (OpenSpec.upto fnExactOneNodeSpec)) fnExactOneNodeUptoCard

/-- THE SECOND FORM's CARD OF 'laws.FnExactJoinShapes'. -/
def fnExactJoinShapesUptoCard : Claim7 := { stood := { row := fnExactJoinShapesUptoRow, standIns := [], harness := (true, "e0bf482f8ce68ffaed37bf765b18c920e8be78fee2e151f6a8f566800e81b438"), looks := true }, kinds := [], alts := [], laidByText := true, laidKinds := [.data], laidTests := true, laidLooks := .later }
def FnExactJoinShapesUptoCardSaid : Prop := Claim7.holds Tryd.pinned (.plain (OpenSpec.upto fnExactJoinShapesSpec)) fnExactJoinShapesUptoCard

/-- THE SECOND FORM's CARD OF 'laws.FnExactWrapShape'. -/
def fnExactWrapShapeUptoCard : Claim7 := { stood := { row := fnExactWrapShapeUptoRow, standIns := [], harness := (true, "e0bf482f8ce68ffaed37bf765b18c920e8be78fee2e151f6a8f566800e81b438"), looks := true }, kinds := [], alts := [], laidByText := true, laidKinds := [.data], laidTests := true, laidLooks := .later }
def FnExactWrapShapeUptoCardSaid : Prop := Claim7.holds Tryd.pinned (.plain (OpenSpec.upto fnExactWrapShapeSpec)) fnExactWrapShapeUptoCard

/-- THE SECOND FORM's CARD OF 'laws.FnExactUnionOf'. -/
def fnExactUnionOfUptoCard : Claim7 := { stood := { row := fnExactUnionOfUptoRow, standIns := [], harness := (true, "e0bf482f8ce68ffaed37bf765b18c920e8be78fee2e151f6a8f566800e81b438"), looks := true }, kinds := [], alts := [], laidByText := true, laidKinds := [.data], laidTests := true, laidLooks := .later }
def FnExactUnionOfUptoCardSaid : Prop := Claim7.holds Tryd.pinned (.plain (OpenSpec.upto fnExactUnionOfSpec)) fnExactUnionOfUptoCard

/-- THE SECOND FORM's CARD OF 'laws.FnExactPartOf'. -/
def fnExactPartOfUptoCard : Claim7 := { stood := { row := fnExactPartOfUptoRow, standIns := [], harness := (true, "e0bf482f8ce68ffaed37bf765b18c920e8be78fee2e151f6a8f566800e81b438"), looks := true }, kinds := [], alts := [], laidByText := true, laidKinds := [.data], laidTests := true, laidLooks := .later }
def FnExactPartOfUptoCardSaid : Prop := Claim7.holds Tryd.pinned (.plain (OpenSpec.upto fnExactPartOfSpec)) fnExactPartOfUptoCard

/-- THE SECOND FORM's CARD OF 'laws.FnExactDepthOf'. -/
def fnExactDepthOfUptoCard : Claim7 := { stood := { row := fnExactDepthOfUptoRow, standIns := [], harness := (true, "e0bf482f8ce68ffaed37bf765b18c920e8be78fee2e151f6a8f566800e81b438"), looks := true }, kinds := [], alts := [], laidByText := true, laidKinds := [.data], laidTests := true, laidLooks := .later }
def FnExactDepthOfUptoCardSaid : Prop := Claim7.holds Tryd.pinned (.plain (OpenSpec.upto fnExactDepthOfSpec)) fnExactDepthOfUptoCard

/-- THE SECOND FORM's CARD OF 'laws.FnExactLeavesOf'. -/
def fnExactLeavesOfUptoCard : Claim7 := { stood := { row := fnExactLeavesOfUptoRow, standIns := [], harness := (true, "e0bf482f8ce68ffaed37bf765b18c920e8be78fee2e151f6a8f566800e81b438"), looks := true }, kinds := [], alts := [], laidByText := true, laidKinds := [.data], laidTests := true, laidLooks := .later }
def FnExactLeavesOfUptoCardSaid : Prop := Claim7.holds Tryd.pinned (.plain (OpenSpec.upto fnExactLeavesOfSpec)) fnExactLeavesOfUptoCard

/-- THE SECOND FORM's CARD OF 'laws.FnExactFactorOf'. -/
def fnExactFactorOfUptoCard : Claim7 := { stood := { row := fnExactFactorOfUptoRow, standIns := [], harness := (true, "e0bf482f8ce68ffaed37bf765b18c920e8be78fee2e151f6a8f566800e81b438"), looks := true }, kinds := [], alts := [], laidByText := true, laidKinds := [.data], laidTests := true, laidLooks := .later }
def FnExactFactorOfUptoCardSaid : Prop := Claim7.holds Tryd.pinned (.plain (OpenSpec.upto fnExactFactorOfSpec)) fnExactFactorOfUptoCard

/-- THE SECOND FORM's CARD OF 'laws.FnSigns'. -/
def fnSignsUptoCard : Claim7 := { stood := { row := fnSignsUptoRow, standIns := [], harness := (true, "e0bf482f8ce68ffaed37bf765b18c920e8be78fee2e151f6a8f566800e81b438"), looks := true }, kinds := [], alts := [], laidByText := true, laidKinds := [.data], laidTests := true, laidLooks := .later }
def FnSignsUptoCardSaid : Prop := Claim7.holds Tryd.pinned (.plain (OpenSpec.upto fnSignsSpec)) fnSignsUptoCard

/-- THE SECOND FORM's CARD OF 'laws.FnLeaves'. -/
def fnLeavesUptoCard : Claim7 := { stood := { row := fnLeavesUptoRow, standIns := [], harness := (true, "e0bf482f8ce68ffaed37bf765b18c920e8be78fee2e151f6a8f566800e81b438"), looks := true }, kinds := [], alts := [], laidByText := true, laidKinds := [.data], laidTests := true, laidLooks := .later }
def FnLeavesUptoCardSaid : Prop := Claim7.holds Tryd.pinned (.plain (OpenSpec.upto fnLeavesSpec)) fnLeavesUptoCard
end Rows
end Go.Proofs.YtibfpihmmcggeaaDoor
