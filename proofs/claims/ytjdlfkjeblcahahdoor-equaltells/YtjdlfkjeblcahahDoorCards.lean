/-
  DERIVED. GIVEN WITH THE SEED: THE CARDS: each row of YtjdlfkjeblcahahDoorRows.lean that lists a variable, with what it lists TIED to the program's text (the seventh form; the later family's looks); each row that meets fmt, with fmt's text TOLD by the authors' own Lean function (tested against real Go, not proved from fmt's source: count such statements apart). THE CARD IS WHAT COUNTS. Prove the row's statement (the work); the ties are given (YtjdlfkjeblcahahDoorTie.lean); close each card by the builder's one call (the guide's Derived/Test/ToyasCard.lean, 'card_holds'). Laid BY PROGRAM, IN A SANDBOX (cutbox-door.mjs). By AI agents, Wed Nov 11 2026. No macro, syntax, notation, axiom, sorry.
-/
import Derived.Test.YtjdlfkjeblcahahDoorRows
import GoSem.ClaimSeven
namespace Go.Proofs.YtjdlfkjeblcahahDoor
namespace Rows

/-- THE TIED CARD OF 'stonelaw2.EqualTells'. -/
def equalTellsCard : Claim7 := { stood := { row := equalTellsRow, standIns := [], harness := (true, "70cba6263ffc5ae664ac27ac07cd8cc5ea5361c98244dd323278237fb81ca0cf"), looks := true }, kinds := [], alts := [], laidByText := true, laidKinds := [.handle], laidTests := true, laidLooks := .later }
def EqualTellsCardSaid : Prop := Claim7.holds Tryd.pinned (.plain (OpenSpec.ofChange equalTellsSpec)) equalTellsCard

/-- THE SECOND FORM's CARD OF 'stonelaw2.EqualTells'. -/
def equalTellsUptoCard : Claim7 := { stood := { row := equalTellsUptoRow, standIns := [], harness := (true, "70cba6263ffc5ae664ac27ac07cd8cc5ea5361c98244dd323278237fb81ca0cf"), looks := true }, kinds := [], alts := [], laidByText := true, laidKinds := [.handle], laidTests := true, laidLooks := .later }
def EqualTellsUptoCardSaid : Prop := Claim7.holds Tryd.pinned (.plain (OpenSpec.upto equalTellsSpec)) equalTellsUptoCard
end Rows
end Go.Proofs.YtjdlfkjeblcahahDoor
