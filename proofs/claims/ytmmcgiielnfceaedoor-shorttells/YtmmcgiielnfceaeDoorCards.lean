/-
  DERIVED. GIVEN WITH THE SEED: THE CARDS: each row of YtmmcgiielnfceaeDoorRows.lean that lists a variable, with what it lists TIED to the program's text (the seventh form; the later family's looks); each row that meets fmt, with fmt's text TOLD by the authors' own Lean function (tested against real Go, not proved from fmt's source: count such statements apart). THE CARD IS WHAT COUNTS. Prove the row's statement (the work); the ties are given (YtmmcgiielnfceaeDoorTie.lean); close each card by the builder's one call (the guide's Derived/Test/ToyasCard.lean, 'card_holds'). Laid BY PROGRAM, IN A SANDBOX (cutbox-door.mjs). By AI agents, Wed Nov 11 2026. No macro, syntax, notation, axiom, sorry.
-/
import Derived.Test.YtmmcgiielnfceaeDoorRows
import GoSem.ClaimSeven
namespace Go.Proofs.YtmmcgiielnfceaeDoor
namespace Rows

/-- THE TIED CARD OF 'stonelaw2.ShortTells'. -/
def shortTellsCard : Claim7 := { stood := { row := shortTellsRow, standIns := [], harness := (true, "d6510c96eafaa4be42ca829e2f30666a391ed21436993d8f68897f9a00777b19"), looks := true }, kinds := [], alts := [], laidByText := true, laidKinds := [.handle], laidTests := true, laidLooks := .later }
def ShortTellsCardSaid : Prop := Claim7.holds Tryd.pinned (.plain (OpenSpec.ofChange shortTellsSpec)) shortTellsCard

/-- THE SECOND FORM's CARD OF 'stonelaw2.ShortTells'. -/
def shortTellsUptoCard : Claim7 := { stood := { row := shortTellsUptoRow, standIns := [], harness := (true, "d6510c96eafaa4be42ca829e2f30666a391ed21436993d8f68897f9a00777b19"), looks := true }, kinds := [], alts := [], laidByText := true, laidKinds := [.handle], laidTests := true, laidLooks := .later }
def ShortTellsUptoCardSaid : Prop := Claim7.holds Tryd.pinned (.plain (OpenSpec.upto shortTellsSpec)) shortTellsUptoCard
end Rows
end Go.Proofs.YtmmcgiielnfceaeDoor
