/-
  DERIVED. GIVEN WITH THE SEED: THE CARDS: each row of YteihkfgkpedhbabDoorRows.lean that lists a variable, with what it lists TIED to the program's text (the seventh form; the later family's looks); each row that meets fmt, with fmt's text TOLD by the authors' own Lean function (tested against real Go, not proved from fmt's source: count such statements apart). THE CARD IS WHAT COUNTS. Prove the row's statement (the work); the ties are given (YteihkfgkpedhbabDoorTie.lean); close each card by the builder's one call (the guide's Derived/Test/ToyasCard.lean, 'card_holds'). Laid BY PROGRAM, IN A SANDBOX (cutbox-door.mjs). By AI agents, Wed Nov 11 2026. No macro, syntax, notation, axiom, sorry.
-/
import Derived.Test.YteihkfgkpedhbabDoorRows
import GoSem.ClaimSeven
namespace Go.Proofs.YteihkfgkpedhbabDoor
namespace Rows

/-- THE TIED CARD OF 'stonelaw1.CurveTells'. -/
def curveTellsCard : Claim7 := { stood := { row := curveTellsRow, standIns := [], harness := (true, "70588c3be13a5c34580b2b01ff55f99eb6e30a17276fb29d8c3160a837c2bb37"), looks := true }, kinds := [], alts := [], laidByText := true, laidKinds := [.handle], laidTests := true, laidLooks := .later }
def CurveTellsCardSaid : Prop := Claim7.holds Tryd.pinned (.plain (OpenSpec.ofChange curveTellsSpec)) curveTellsCard

/-- THE TIED CARD OF 'stonelaw4.CurveLifts'. -/
def curveLiftsCard : Claim7 := { stood := { row := curveLiftsRow, standIns := [], harness := (true, "70588c3be13a5c34580b2b01ff55f99eb6e30a17276fb29d8c3160a837c2bb37"), looks := true }, kinds := [], alts := [], laidByText := true, laidKinds := [.handle], laidTests := true, laidLooks := .later }
def CurveLiftsCardSaid : Prop := Claim7.holds Tryd.pinned (.plain (OpenSpec.ofChange curveLiftsSpec)) curveLiftsCard

/-- THE SECOND FORM's CARD OF 'stonelaw1.CurveTells'. -/
def curveTellsUptoCard : Claim7 := { stood := { row := curveTellsUptoRow, standIns := [], harness := (true, "70588c3be13a5c34580b2b01ff55f99eb6e30a17276fb29d8c3160a837c2bb37"), looks := true }, kinds := [], alts := [], laidByText := true, laidKinds := [.handle], laidTests := true, laidLooks := .later }
def CurveTellsUptoCardSaid : Prop := Claim7.holds Tryd.pinned (.plain (OpenSpec.upto curveTellsSpec)) curveTellsUptoCard

/-- THE SECOND FORM's CARD OF 'stonelaw4.CurveLifts'. -/
def curveLiftsUptoCard : Claim7 := { stood := { row := curveLiftsUptoRow, standIns := [], harness := (true, "70588c3be13a5c34580b2b01ff55f99eb6e30a17276fb29d8c3160a837c2bb37"), looks := true }, kinds := [], alts := [], laidByText := true, laidKinds := [.handle], laidTests := true, laidLooks := .later }
def CurveLiftsUptoCardSaid : Prop := Claim7.holds Tryd.pinned (.plain (OpenSpec.upto curveLiftsSpec)) curveLiftsUptoCard
end Rows
end Go.Proofs.YteihkfgkpedhbabDoor
