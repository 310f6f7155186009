/-
  DERIVED. GIVEN WITH THE SEED: THE CARDS: each row of YtfpjdalfmfhomagDoorRows.lean that lists a variable, with what it lists TIED to the program's text (the seventh form; the later family's looks); each row that meets fmt, with fmt's text TOLD by the authors' own Lean function (tested against real Go, not proved from fmt's source: count such statements apart). THE CARD IS WHAT COUNTS. Prove the row's statement (the work); the ties are given (YtfpjdalfmfhomagDoorTie.lean); close each card by the builder's one call (the guide's Derived/Test/ToyasCard.lean, 'card_holds'). Laid BY PROGRAM, IN A SANDBOX (cutbox-door.mjs). By AI agents, Wed Nov 11 2026. No macro, syntax, notation, axiom, sorry.
-/
import Derived.Test.YtfpjdalfmfhomagDoorRows
import GoSem.ClaimSeven
namespace Go.Proofs.YtfpjdalfmfhomagDoor
namespace Rows

/-- THE TIED CARD OF 'stonelaw2.GroupTells'. -/
def groupTellsCard : Claim7 := { stood := { row := groupTellsRow, standIns := [], harness := (true, "efef1ebf6025eb815d1b983181869544b364e12307f4759cfe68821f2eb2b3f0"), looks := true }, kinds := [], alts := [], laidByText := true, laidKinds := [.handle], laidTests := true, laidLooks := .later }
def GroupTellsCardSaid : Prop := Claim7.holds Tryd.pinned (.plain (OpenSpec.ofChange groupTellsSpec)) groupTellsCard

/-- THE TIED CARD OF 'stonelaw2.HideTells'. -/
def hideTellsCard : Claim7 := { stood := { row := hideTellsRow, standIns := [], harness := (true, "efef1ebf6025eb815d1b983181869544b364e12307f4759cfe68821f2eb2b3f0"), looks := true }, kinds := [], alts := [], laidByText := true, laidKinds := [.handle], laidTests := true, laidLooks := .later }
def HideTellsCardSaid : Prop := Claim7.holds Tryd.pinned (.plain (OpenSpec.ofChange hideTellsSpec)) hideTellsCard

/-- THE SECOND FORM's CARD OF 'stonelaw2.GroupTells'. -/
def groupTellsUptoCard : Claim7 := { stood := { row := groupTellsUptoRow, standIns := [], harness := (true, "efef1ebf6025eb815d1b983181869544b364e12307f4759cfe68821f2eb2b3f0"), looks := true }, kinds := [], alts := [], laidByText := true, laidKinds := [.handle], laidTests := true, laidLooks := .later }
def GroupTellsUptoCardSaid : Prop := Claim7.holds Tryd.pinned (.plain (OpenSpec.upto groupTellsSpec)) groupTellsUptoCard

/-- THE SECOND FORM's CARD OF 'stonelaw2.HideTells'. -/
def hideTellsUptoCard : Claim7 := { stood := { row := hideTellsUptoRow, standIns := [], harness := (true, "efef1ebf6025eb815d1b983181869544b364e12307f4759cfe68821f2eb2b3f0"), looks := true }, kinds := [], alts := [], laidByText := true, laidKinds := [.handle], laidTests := true, laidLooks := .later }
def HideTellsUptoCardSaid : Prop := Claim7.holds Tryd.pinned (.plain (OpenSpec.upto hideTellsSpec)) hideTellsUptoCard
end Rows
end Go.Proofs.YtfpjdalfmfhomagDoor
