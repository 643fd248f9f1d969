/-
  DERIVED. GIVEN WITH THE SEED: THE CARDS: each row of YthkokkocdmbcgaaDoorRows.lean that lists a variable, with what it lists TIED to the program's text (the seventh form; the later family's looks); each row that meets fmt, with fmt's text TOLD by the authors' own Lean function (tested against real Go, not proved from fmt's source: count such statements apart). THE CARD IS WHAT COUNTS. Prove the row's statement (the work); the ties are given (YthkokkocdmbcgaaDoorTie.lean); close each card by the builder's one call (the guide's Derived/Test/ToyasCard.lean, 'card_holds'). Laid BY PROGRAM, IN A SANDBOX (cutbox-door.mjs). By AI agents, Wed Nov 11 2026. No macro, syntax, notation, axiom, sorry.
-/
import Derived.Test.YthkokkocdmbcgaaDoorRows
import GoSem.ClaimSeven
namespace Go.Proofs.YthkokkocdmbcgaaDoor
namespace Rows

/-- THE TIED CARD OF 'laws.FnExactUnionOf'. -/
def fnExactUnionOfCard : Claim7 := { stood := { row := fnExactUnionOfRow, standIns := [], harness := (true, "5c1692f40b691e44c29682ad4959dc309d1340e133b5af6294e48ccbc7fe35ab"), looks := false }, kinds := [], alts := [], laidByText := true, laidKinds := [.data], laidTests := true, laidLooks := .later }
def FnExactUnionOfCardSaid : Prop := Claim7.holds Tryd.pinned (.plain (OpenSpec.ofChange fnExactUnionOfSpec)) fnExactUnionOfCard

/-- THE TIED CARD OF 'laws.FnExactValidProgram'. -/
def fnExactValidProgramCard : Claim7 := { stood := { row := fnExactValidProgramRow, standIns := [], harness := (true, "5c1692f40b691e44c29682ad4959dc309d1340e133b5af6294e48ccbc7fe35ab"), looks := false }, kinds := [], alts := [], laidByText := true, laidKinds := [.data], laidTests := true, laidLooks := .later }
def FnExactValidProgramCardSaid : Prop := Claim7.holds Tryd.pinned (.plain (OpenSpec.ofChange fnExactValidProgramSpec)) fnExactValidProgramCard

/-- THE TIED CARD OF 'laws.FnExactCompileShape'. -/
def fnExactCompileShapeCard : Claim7 := { stood := { row := fnExactCompileShapeRow, standIns := [], harness := (true, "5c1692f40b691e44c29682ad4959dc309d1340e133b5af6294e48ccbc7fe35ab"), looks := false }, kinds := [], alts := [], laidByText := true, laidKinds := [.data], laidTests := true, laidLooks := .later }
def FnExactCompileShapeCardSaid : Prop := Claim7.holds Tryd.pinned (.plain (OpenSpec.ofChange fnExactCompileShapeSpec)) fnExactCompileShapeCard

/-- THE TIED CARD OF 'laws.FnExactStepsOfKind'. -/
def fnExactStepsOfKindCard : Claim7 := { stood := { row := fnExactStepsOfKindRow, standIns := [], harness := (true, "5c1692f40b691e44c29682ad4959dc309d1340e133b5af6294e48ccbc7fe35ab"), looks := false }, kinds := [], alts := [], laidByText := true, laidKinds := [.data], laidTests := true, laidLooks := .later }
def FnExactStepsOfKindCardSaid : Prop := Claim7.holds Tryd.pinned (.plain (OpenSpec.ofChange fnExactStepsOfKindSpec)) fnExactStepsOfKindCard

/-- THE TIED CARD OF 'laws.FnExactIsEmptyNode'. -/
def fnExactIsEmptyNodeCard : Claim7 := { stood := { row := fnExactIsEmptyNodeRow, standIns := [], harness := (true, "5c1692f40b691e44c29682ad4959dc309d1340e133b5af6294e48ccbc7fe35ab"), looks := false }, kinds := [], alts := [], laidByText := true, laidKinds := [.data], laidTests := true, laidLooks := .later }
def FnExactIsEmptyNodeCardSaid : Prop := Claim7.holds Tryd.pinned (.plain (OpenSpec.ofChange fnExactIsEmptyNodeSpec)) fnExactIsEmptyNodeCard

/-- THE SECOND FORM's CARD OF 'laws.FnExactUnionOf'. -/
def fnExactUnionOfUptoCard : Claim7 := { stood := { row := fnExactUnionOfUptoRow, standIns := [], harness := (true, "5c1692f40b691e44c29682ad4959dc309d1340e133b5af6294e48ccbc7fe35ab"), looks := false }, kinds := [], alts := [], laidByText := true, laidKinds := [.data], laidTests := true, laidLooks := .later }
def FnExactUnionOfUptoCardSaid : Prop := Claim7.holds Tryd.pinned (.plain (OpenSpec.upto fnExactUnionOfSpec)) fnExactUnionOfUptoCard

/-- THE SECOND FORM's CARD OF 'laws.FnExactValidProgram'. -/
def fnExactValidProgramUptoCard : Claim7 := { stood := { row := fnExactValidProgramUptoRow, standIns := [], harness := (true, "5c1692f40b691e44c29682ad4959dc309d1340e133b5af6294e48ccbc7fe35ab"), looks := false }, kinds := [], alts := [], laidByText := true, laidKinds := [.data], laidTests := true, laidLooks := .later }
def FnExactValidProgramUptoCardSaid : Prop := Claim7.holds Tryd.pinned (.plain (OpenSpec.upto fnExactValidProgramSpec)) fnExactValidProgramUptoCard

/-- THE SECOND FORM's CARD OF 'laws.FnExactCompileShape'. -/
def fnExactCompileShapeUptoCard : Claim7 := { stood := { row := fnExactCompileShapeUptoRow, standIns := [], harness := (true, "5c1692f40b691e44c29682ad4959dc309d1340e133b5af6294e48ccbc7fe35ab"), looks := false }, kinds := [], alts := [], laidByText := true, laidKinds := [.data], laidTests := true, laidLooks := .later }
def FnExactCompileShapeUptoCardSaid : Prop := Claim7.holds Tryd.pinned (.plain (OpenSpec.upto fnExactCompileShapeSpec)) fnExactCompileShapeUptoCard

/-- THE SECOND FORM's CARD OF 'laws.FnExactStepsOfKind'. -/
def fnExactStepsOfKindUptoCard : Claim7 := { stood := { row := fnExactStepsOfKindUptoRow, standIns := [], harness := (true, "5c1692f40b691e44c29682ad4959dc309d1340e133b5af6294e48ccbc7fe35ab"), looks := false }, kinds := [], alts := [], laidByText := true, laidKinds := [.data], laidTests := true, laidLooks := .later }
def FnExactStepsOfKindUptoCardSaid : Prop := Claim7.holds Tryd.pinned (.plain (OpenSpec.upto fnExactStepsOfKindSpec)) fnExactStepsOfKindUptoCard

/-- THE SECOND FORM's CARD OF 'laws.FnExactIsEmptyNode'. -/
def fnExactIsEmptyNodeUptoCard : Claim7 := { stood := { row := fnExactIsEmptyNodeUptoRow, standIns := [], harness := (true, "5c1692f40b691e44c29682ad4959dc309d1340e133b5af6294e48ccbc7fe35ab"), looks := false }, kinds := [], alts := [], laidByText := true, laidKinds := [.data], laidTests := true, laidLooks := .later }
def FnExactIsEmptyNodeUptoCardSaid : Prop := Claim7.holds Tryd.pinned (.plain (OpenSpec.upto fnExactIsEmptyNodeSpec)) fnExactIsEmptyNodeUptoCard
end Rows
end Go.Proofs.YthkokkocdmbcgaaDoor
