/-
  DERIVED. GIVEN WITH THE SEED: THE CARDS: each row of YtiddfngopoednaiDoorRows.lean that lists a variable, with what it lists TIED to the program's text (the seventh form; the later family's looks); each row that meets fmt, with fmt's text TOLD by the authors' own Lean function (tested against real Go, not proved from fmt's source: count such statements apart). THE CARD IS WHAT COUNTS. Prove the row's statement (the work); the ties are given (YtiddfngopoednaiDoorTie.lean); close each card by the builder's one call (the guide's Derived/Test/ToyasCard.lean, 'card_holds'). Laid BY PROGRAM, IN A SANDBOX (cutbox-door.mjs). By AI agents, Wed Nov 11 2026. No macro, syntax, notation, axiom, sorry.
-/
import Derived.Test.YtiddfngopoednaiDoorRows
import GoSem.ClaimSeven
namespace Go.Proofs.YtiddfngopoednaiDoor
namespace Rows

/-- THE TIED CARD OF 'stonelaw4.RingWrong'. -/
def ringWrongCard : Claim7 := { stood := { row := ringWrongRow, standIns := [], harness := (true, "eca6c65dc16f673a0e9ea133bdc0b48fa05449548d8588baf88b800d3809917e"), looks := true }, kinds := [], alts := [], laidByText := true, laidKinds := [.handle], laidTests := true, laidLooks := .later }
def RingWrongCardSaid : Prop := Claim7.holds Tryd.pinned (.plain (OpenSpec.ofChange ringWrongSpec)) ringWrongCard

/-- THE SECOND FORM's CARD OF 'stonelaw4.RingWrong'. -/
def ringWrongUptoCard : Claim7 := { stood := { row := ringWrongUptoRow, standIns := [], harness := (true, "eca6c65dc16f673a0e9ea133bdc0b48fa05449548d8588baf88b800d3809917e"), looks := true }, kinds := [], alts := [], laidByText := true, laidKinds := [.handle], laidTests := true, laidLooks := .later }
def RingWrongUptoCardSaid : Prop := Claim7.holds Tryd.pinned (.plain (OpenSpec.upto ringWrongSpec)) ringWrongUptoCard
end Rows
end Go.Proofs.YtiddfngopoednaiDoor
