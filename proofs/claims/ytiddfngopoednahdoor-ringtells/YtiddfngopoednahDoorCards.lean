/-
  DERIVED. GIVEN WITH THE SEED: THE CARDS: each row of YtiddfngopoednahDoorRows.lean that lists a variable, with what it lists TIED to the program's text (the seventh form; the later family's looks); each row that meets fmt, with fmt's text TOLD by the authors' own Lean function (tested against real Go, not proved from fmt's source: count such statements apart). THE CARD IS WHAT COUNTS. Prove the row's statement (the work); the ties are given (YtiddfngopoednahDoorTie.lean); close each card by the builder's one call (the guide's Derived/Test/ToyasCard.lean, 'card_holds'). Laid BY PROGRAM, IN A SANDBOX (cutbox-door.mjs). By AI agents, Wed Nov 11 2026. No macro, syntax, notation, axiom, sorry.
-/
import Derived.Test.YtiddfngopoednahDoorRows
import GoSem.ClaimSeven
namespace Go.Proofs.YtiddfngopoednahDoor
namespace Rows

/-- THE TIED CARD OF 'stonelaw2.EqualTells'. -/
def equalTellsCard : Claim7 := { stood := { row := equalTellsRow, standIns := [], harness := (true, "22dbae6e26c4069c86c7df8586fe6b6ffffceea39b3276cffb3527968d521ab7"), looks := true }, kinds := [], alts := [], laidByText := true, laidKinds := [.handle], laidTests := true, laidLooks := .later }
def EqualTellsCardSaid : Prop := Claim7.holds Tryd.pinned (.plain (OpenSpec.ofChange equalTellsSpec)) equalTellsCard

/-- THE TIED CARD OF 'stonelaw3.RingTells'. -/
def ringTellsCard : Claim7 := { stood := { row := ringTellsRow, standIns := [], harness := (true, "22dbae6e26c4069c86c7df8586fe6b6ffffceea39b3276cffb3527968d521ab7"), looks := true }, kinds := [], alts := [], laidByText := true, laidKinds := [.handle], laidTests := true, laidLooks := .later }
def RingTellsCardSaid : Prop := Claim7.holds Tryd.pinned (.plain (OpenSpec.ofChange ringTellsSpec)) ringTellsCard

/-- THE SECOND FORM's CARD OF 'stonelaw2.EqualTells'. -/
def equalTellsUptoCard : Claim7 := { stood := { row := equalTellsUptoRow, standIns := [], harness := (true, "22dbae6e26c4069c86c7df8586fe6b6ffffceea39b3276cffb3527968d521ab7"), looks := true }, kinds := [], alts := [], laidByText := true, laidKinds := [.handle], laidTests := true, laidLooks := .later }
def EqualTellsUptoCardSaid : Prop := Claim7.holds Tryd.pinned (.plain (OpenSpec.upto equalTellsSpec)) equalTellsUptoCard

/-- THE SECOND FORM's CARD OF 'stonelaw3.RingTells'. -/
def ringTellsUptoCard : Claim7 := { stood := { row := ringTellsUptoRow, standIns := [], harness := (true, "22dbae6e26c4069c86c7df8586fe6b6ffffceea39b3276cffb3527968d521ab7"), looks := true }, kinds := [], alts := [], laidByText := true, laidKinds := [.handle], laidTests := true, laidLooks := .later }
def RingTellsUptoCardSaid : Prop := Claim7.holds Tryd.pinned (.plain (OpenSpec.upto ringTellsSpec)) ringTellsUptoCard
end Rows
end Go.Proofs.YtiddfngopoednahDoor
