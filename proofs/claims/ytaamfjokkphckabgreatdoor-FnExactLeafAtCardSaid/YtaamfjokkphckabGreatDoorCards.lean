/-
  DERIVED. GIVEN WITH THE SEED: THE CARDS: each row of YtaamfjokkphckabGreatDoorRows.lean that lists a variable, with what it lists TIED to the program's text (the seventh form; the later family's looks); each row that meets fmt, with fmt's text TOLD by the authors' own Lean function (tested against real Go, not proved from fmt's source: count such statements apart). THE CARD IS WHAT COUNTS. Prove the row's statement (the work); the ties are given (YtaamfjokkphckabGreatDoorTie.lean); close each card by the builder's one call (the guide's Derived/Test/ToyasCard.lean, 'card_holds'). Laid BY PROGRAM, IN A SANDBOX (cutbox-door.mjs). By AI agents, Wed Nov 11 2026. No macro, syntax, notation, axiom, sorry.
-/
import Derived.Test.YtaamfjokkphckabGreatDoorRows
import GoSem.ClaimSeven
namespace Go.Proofs.YtaamfjokkphckabGreatDoor
namespace Rows

/-- THE TIED CARD OF 'laws.FnExactIsInside'. -/
def fnExactIsInsideCard : Claim7 := { stood := { row := fnExactIsInsideRow, standIns := [], harness := (true, "12c8b5066a9aced40e8ee676a4e5f45099c642f2275f1da949af6bc907096451"), looks := true }, kinds := [], alts := [], laidByText := true, laidKinds := [.data], laidTests := true, laidLooks := .later }
def FnExactIsInsideCardSaid : Prop := Claim7.holds Tryz.pinned (.plain (OpenSpec.ofChange fnExactIsInsideSpec)) fnExactIsInsideCard

/-- THE TIED CARD OF 'laws.FnExactLeafAt'. -/
def fnExactLeafAtCard : Claim7 := { stood := { row := fnExactLeafAtRow, standIns := [], harness := (true, "12c8b5066a9aced40e8ee676a4e5f45099c642f2275f1da949af6bc907096451"), looks := true }, kinds := [], alts := [], laidByText := true, laidKinds := [.data], laidTests := true, laidLooks := .later }
def FnExactLeafAtCardSaid : Prop := Claim7.holds Tryz.pinned (.plain (OpenSpec.ofChange fnExactLeafAtSpec)) fnExactLeafAtCard

/-- THE TIED CARD OF 'laws.FnExactCrossingAt'. -/
def fnExactCrossingAtCard : Claim7 := { stood := { row := fnExactCrossingAtRow, standIns := [], harness := (true, "12c8b5066a9aced40e8ee676a4e5f45099c642f2275f1da949af6bc907096451"), looks := true }, kinds := [], alts := [], laidByText := true, laidKinds := [.data], laidTests := true, laidLooks := .later }
def FnExactCrossingAtCardSaid : Prop := Claim7.holds Tryz.pinned (.plain (OpenSpec.ofChange fnExactCrossingAtSpec)) fnExactCrossingAtCard

/-- THE SECOND FORM's CARD OF 'laws.FnExactIsInside'. -/
def fnExactIsInsideUptoCard : Claim7 := { stood := { row := fnExactIsInsideUptoRow, standIns := [], harness := (true, "12c8b5066a9aced40e8ee676a4e5f45099c642f2275f1da949af6bc907096451"), looks := true }, kinds := [], alts := [], laidByText := true, laidKinds := [.data], laidTests := true, laidLooks := .later }
def FnExactIsInsideUptoCardSaid : Prop := Claim7.holds Tryz.pinned (.plain (OpenSpec.upto fnExactIsInsideSpec)) fnExactIsInsideUptoCard

/-- THE SECOND FORM's CARD OF 'laws.FnExactLeafAt'. -/
def fnExactLeafAtUptoCard : Claim7 := { stood := { row := fnExactLeafAtUptoRow, standIns := [], harness := (true, "12c8b5066a9aced40e8ee676a4e5f45099c642f2275f1da949af6bc907096451"), looks := true }, kinds := [], alts := [], laidByText := true, laidKinds := [.data], laidTests := true, laidLooks := .later }
def FnExactLeafAtUptoCardSaid : Prop := Claim7.holds Tryz.pinned (.plain (OpenSpec.upto fnExactLeafAtSpec)) fnExactLeafAtUptoCard

/-- THE SECOND FORM's CARD OF 'laws.FnExactCrossingAt'. -/
def fnExactCrossingAtUptoCard : Claim7 := { stood := { row := fnExactCrossingAtUptoRow, standIns := [], harness := (true, "12c8b5066a9aced40e8ee676a4e5f45099c642f2275f1da949af6bc907096451"), looks := true }, kinds := [], alts := [], laidByText := true, laidKinds := [.data], laidTests := true, laidLooks := .later }
def FnExactCrossingAtUptoCardSaid : Prop := Claim7.holds Tryz.pinned (.plain (OpenSpec.upto fnExactCrossingAtSpec)) fnExactCrossingAtUptoCard
end Rows
end Go.Proofs.YtaamfjokkphckabGreatDoor
