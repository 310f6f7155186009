/-
  DERIVED. GIVEN WITH THE SEED: THE CARDS: each row of YtmijjjdedadkladDoorRows.lean that lists a variable, with what it lists TIED to the program's text (the seventh form; the later family's looks); each row that meets fmt, with fmt's text TOLD by the authors' own Lean function (tested against real Go, not proved from fmt's source: count such statements apart). THE CARD IS WHAT COUNTS. Prove the row's statement (the work); the ties are given (YtmijjjdedadkladDoorTie.lean); close each card by the builder's one call (the guide's Derived/Test/ToyasCard.lean, 'card_holds'). Laid BY PROGRAM, IN A SANDBOX (cutbox-door.mjs). By AI agents, Wed Nov 11 2026. No macro, syntax, notation, axiom, sorry.
-/
import Derived.Test.YtmijjjdedadkladDoorRows
import GoSem.ClaimSeven
namespace Go.Proofs.YtmijjjdedadkladDoor
namespace Rows

/-- THE TIED CARD OF 'stonelaw1.PairTells'. -/
def pairTellsCard : Claim7 := { stood := { row := pairTellsRow, standIns := [], harness := (true, "ae8bf2921ac70a27969526fdd68041386c4c454d97a8a3f8d4167d4ea3702090"), looks := true }, kinds := [], alts := [], laidByText := true, laidKinds := [.handle], laidTests := true, laidLooks := .later }
def PairTellsCardSaid : Prop := Claim7.holds Tryd.pinned (.plain (OpenSpec.ofChange pairTellsSpec)) pairTellsCard

/-- THE TIED CARD OF 'stonelaw4.PairFar'. -/
def pairFarCard : Claim7 := { stood := { row := pairFarRow, standIns := [], harness := (true, "ae8bf2921ac70a27969526fdd68041386c4c454d97a8a3f8d4167d4ea3702090"), looks := true }, kinds := [], alts := [], laidByText := true, laidKinds := [.handle], laidTests := true, laidLooks := .later }
def PairFarCardSaid : Prop := Claim7.holds Tryd.pinned (.plain (OpenSpec.ofChange pairFarSpec)) pairFarCard

/-- THE TIED CARD OF 'stonelaw2.SealTells'. -/
def sealTellsCard : Claim7 := { stood := { row := sealTellsRow, standIns := [], harness := (true, "ae8bf2921ac70a27969526fdd68041386c4c454d97a8a3f8d4167d4ea3702090"), looks := true }, kinds := [], alts := [], laidByText := true, laidKinds := [.handle], laidTests := true, laidLooks := .later }
def SealTellsCardSaid : Prop := Claim7.holds Tryd.pinned (.plain (OpenSpec.ofChange sealTellsSpec)) sealTellsCard

/-- THE SECOND FORM's CARD OF 'stonelaw1.PairTells'. -/
def pairTellsUptoCard : Claim7 := { stood := { row := pairTellsUptoRow, standIns := [], harness := (true, "ae8bf2921ac70a27969526fdd68041386c4c454d97a8a3f8d4167d4ea3702090"), looks := true }, kinds := [], alts := [], laidByText := true, laidKinds := [.handle], laidTests := true, laidLooks := .later }
def PairTellsUptoCardSaid : Prop := Claim7.holds Tryd.pinned (.plain (OpenSpec.upto pairTellsSpec)) pairTellsUptoCard

/-- THE SECOND FORM's CARD OF 'stonelaw4.PairFar'. -/
def pairFarUptoCard : Claim7 := { stood := { row := pairFarUptoRow, standIns := [], harness := (true, "ae8bf2921ac70a27969526fdd68041386c4c454d97a8a3f8d4167d4ea3702090"), looks := true }, kinds := [], alts := [], laidByText := true, laidKinds := [.handle], laidTests := true, laidLooks := .later }
def PairFarUptoCardSaid : Prop := Claim7.holds Tryd.pinned (.plain (OpenSpec.upto pairFarSpec)) pairFarUptoCard

/-- THE SECOND FORM's CARD OF 'stonelaw2.SealTells'. -/
def sealTellsUptoCard : Claim7 := { stood := { row := sealTellsUptoRow, standIns := [], harness := (true, "ae8bf2921ac70a27969526fdd68041386c4c454d97a8a3f8d4167d4ea3702090"), looks := true }, kinds := [], alts := [], laidByText := true, laidKinds := [.handle], laidTests := true, laidLooks := .later }
def SealTellsUptoCardSaid : Prop := Claim7.holds Tryd.pinned (.plain (OpenSpec.upto sealTellsSpec)) sealTellsUptoCard
end Rows
end Go.Proofs.YtmijjjdedadkladDoor
