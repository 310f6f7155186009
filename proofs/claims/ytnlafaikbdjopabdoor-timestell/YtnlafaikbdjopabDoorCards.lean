/-
  DERIVED. GIVEN WITH THE SEED: THE CARDS: each row of YtnlafaikbdjopabDoorRows.lean that lists a variable, with what it lists TIED to the program's text (the seventh form; the later family's looks); each row that meets fmt, with fmt's text TOLD by the authors' own Lean function (tested against real Go, not proved from fmt's source: count such statements apart). THE CARD IS WHAT COUNTS. Prove the row's statement (the work); the ties are given (YtnlafaikbdjopabDoorTie.lean); close each card by the builder's one call (the guide's Derived/Test/ToyasCard.lean, 'card_holds'). Laid BY PROGRAM, IN A SANDBOX (cutbox-door.mjs). By AI agents, Wed Nov 11 2026. No macro, syntax, notation, axiom, sorry.
-/
import Derived.Test.YtnlafaikbdjopabDoorRows
import GoSem.ClaimSeven
namespace Go.Proofs.YtnlafaikbdjopabDoor
namespace Rows

/-- THE TIED CARD OF 'stonelaw1.CurveTells'. -/
def curveTellsCard : Claim7 := { stood := { row := curveTellsRow, standIns := [], harness := (true, "26948cb0b870ceddc49fafb7948f4460600dc6ad184252531b45d7ecf4de28fe"), looks := true }, kinds := [], alts := [], laidByText := true, laidKinds := [.handle], laidTests := true, laidLooks := .later }
def CurveTellsCardSaid : Prop := Claim7.holds Tryd.pinned (.plain (OpenSpec.ofChange curveTellsSpec)) curveTellsCard

/-- THE TIED CARD OF 'stonelaw4.CurveLifts'. -/
def curveLiftsCard : Claim7 := { stood := { row := curveLiftsRow, standIns := [], harness := (true, "26948cb0b870ceddc49fafb7948f4460600dc6ad184252531b45d7ecf4de28fe"), looks := true }, kinds := [], alts := [], laidByText := true, laidKinds := [.handle], laidTests := true, laidLooks := .later }
def CurveLiftsCardSaid : Prop := Claim7.holds Tryd.pinned (.plain (OpenSpec.ofChange curveLiftsSpec)) curveLiftsCard

/-- THE TIED CARD OF 'stonelaw1.TimesTell'. -/
def timesTellCard : Claim7 := { stood := { row := timesTellRow, standIns := [], harness := (true, "26948cb0b870ceddc49fafb7948f4460600dc6ad184252531b45d7ecf4de28fe"), looks := true }, kinds := [], alts := [], laidByText := true, laidKinds := [.handle], laidTests := true, laidLooks := .later }
def TimesTellCardSaid : Prop := Claim7.holds Tryd.pinned (.plain (OpenSpec.ofChange timesTellSpec)) timesTellCard

/-- THE SECOND FORM's CARD OF 'stonelaw1.CurveTells'. -/
def curveTellsUptoCard : Claim7 := { stood := { row := curveTellsUptoRow, standIns := [], harness := (true, "26948cb0b870ceddc49fafb7948f4460600dc6ad184252531b45d7ecf4de28fe"), looks := true }, kinds := [], alts := [], laidByText := true, laidKinds := [.handle], laidTests := true, laidLooks := .later }
def CurveTellsUptoCardSaid : Prop := Claim7.holds Tryd.pinned (.plain (OpenSpec.upto curveTellsSpec)) curveTellsUptoCard

/-- THE SECOND FORM's CARD OF 'stonelaw4.CurveLifts'. -/
def curveLiftsUptoCard : Claim7 := { stood := { row := curveLiftsUptoRow, standIns := [], harness := (true, "26948cb0b870ceddc49fafb7948f4460600dc6ad184252531b45d7ecf4de28fe"), looks := true }, kinds := [], alts := [], laidByText := true, laidKinds := [.handle], laidTests := true, laidLooks := .later }
def CurveLiftsUptoCardSaid : Prop := Claim7.holds Tryd.pinned (.plain (OpenSpec.upto curveLiftsSpec)) curveLiftsUptoCard

/-- THE SECOND FORM's CARD OF 'stonelaw1.TimesTell'. -/
def timesTellUptoCard : Claim7 := { stood := { row := timesTellUptoRow, standIns := [], harness := (true, "26948cb0b870ceddc49fafb7948f4460600dc6ad184252531b45d7ecf4de28fe"), looks := true }, kinds := [], alts := [], laidByText := true, laidKinds := [.handle], laidTests := true, laidLooks := .later }
def TimesTellUptoCardSaid : Prop := Claim7.holds Tryd.pinned (.plain (OpenSpec.upto timesTellSpec)) timesTellUptoCard
end Rows
end Go.Proofs.YtnlafaikbdjopabDoor
