/-
  DERIVED. GIVEN WITH THE SEED: THE CARDS: each row of YtkpokgfllipababDoorRows.lean that lists a variable, with what it lists TIED to the program's text (the seventh form; the later family's looks); each row that meets fmt, with fmt's text TOLD by the authors' own Lean function (tested against real Go, not proved from fmt's source: count such statements apart). THE CARD IS WHAT COUNTS. Prove the row's statement (the work); the ties are given (YtkpokgfllipababDoorTie.lean); close each card by the builder's one call (the guide's Derived/Test/ToyasCard.lean, 'card_holds'). Laid BY PROGRAM, IN A SANDBOX (cutbox-door.mjs). By AI agents, Wed Nov 11 2026. No macro, syntax, notation, axiom, sorry.
-/
import Derived.Test.YtkpokgfllipababDoorRows
import GoSem.ClaimSeven
namespace Go.Proofs.YtkpokgfllipababDoor
namespace Rows

/-- THE TIED CARD OF 'laws.FnExactUnionOf'. -/
def fnExactUnionOfCard : Claim7 := { stood := { row := fnExactUnionOfRow, standIns := [], harness := (true, "b4d3c2195b4cf500e612cb13c358ea37510df4d8a97a0993be37e3ea690d20a2"), looks := true }, kinds := [], alts := [], laidByText := true, laidKinds := [.data], laidTests := true, laidLooks := .later }
def FnExactUnionOfCardSaid : Prop := Claim7.holds Tryd.pinned (.plain (OpenSpec.ofChange fnExactUnionOfSpec)) fnExactUnionOfCard

/-- THE TIED CARD OF 'laws.FnExactPartOf'. -/
def fnExactPartOfCard : Claim7 := { stood := { row := fnExactPartOfRow, standIns := [], harness := (true, "b4d3c2195b4cf500e612cb13c358ea37510df4d8a97a0993be37e3ea690d20a2"), looks := true }, kinds := [], alts := [], laidByText := true, laidKinds := [.data], laidTests := true, laidLooks := .later }
def FnExactPartOfCardSaid : Prop := Claim7.holds Tryd.pinned (.plain (OpenSpec.ofChange fnExactPartOfSpec)) fnExactPartOfCard

/-- THE TIED CARD OF 'laws.FnExactFactorOf'. -/
def fnExactFactorOfCard : Claim7 := { stood := { row := fnExactFactorOfRow, standIns := [], harness := (true, "b4d3c2195b4cf500e612cb13c358ea37510df4d8a97a0993be37e3ea690d20a2"), looks := true }, kinds := [], alts := [], laidByText := true, laidKinds := [.data], laidTests := true, laidLooks := .later }
def FnExactFactorOfCardSaid : Prop := Claim7.holds Tryd.pinned (.plain (OpenSpec.ofChange fnExactFactorOfSpec)) fnExactFactorOfCard

/-- THE SECOND FORM's CARD OF 'laws.FnExactUnionOf'. -/
def fnExactUnionOfUptoCard : Claim7 := { stood := { row := fnExactUnionOfUptoRow, standIns := [], harness := (true, "b4d3c2195b4cf500e612cb13c358ea37510df4d8a97a0993be37e3ea690d20a2"), looks := true }, kinds := [], alts := [], laidByText := true, laidKinds := [.data], laidTests := true, laidLooks := .later }
def FnExactUnionOfUptoCardSaid : Prop := Claim7.holds Tryd.pinned (.plain (OpenSpec.upto fnExactUnionOfSpec)) fnExactUnionOfUptoCard

/-- THE SECOND FORM's CARD OF 'laws.FnExactPartOf'. -/
def fnExactPartOfUptoCard : Claim7 := { stood := { row := fnExactPartOfUptoRow, standIns := [], harness := (true, "b4d3c2195b4cf500e612cb13c358ea37510df4d8a97a0993be37e3ea690d20a2"), looks := true }, kinds := [], alts := [], laidByText := true, laidKinds := [.data], laidTests := true, laidLooks := .later }
def FnExactPartOfUptoCardSaid : Prop := Claim7.holds Tryd.pinned (.plain (OpenSpec.upto fnExactPartOfSpec)) fnExactPartOfUptoCard

/-- THE SECOND FORM's CARD OF 'laws.FnExactFactorOf'. -/
def fnExactFactorOfUptoCard : Claim7 := { stood := { row := fnExactFactorOfUptoRow, standIns := [], harness := (true, "b4d3c2195b4cf500e612cb13c358ea37510df4d8a97a0993be37e3ea690d20a2"), looks := true }, kinds := [], alts := [], laidByText := true, laidKinds := [.data], laidTests := true, laidLooks := .later }
def FnExactFactorOfUptoCardSaid : Prop := Claim7.holds Tryd.pinned (.plain (OpenSpec.upto fnExactFactorOfSpec)) fnExactFactorOfUptoCard
end Rows
end Go.Proofs.YtkpokgfllipababDoor
