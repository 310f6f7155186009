/-
  DERIVED. GIVEN WITH THE SEED: THE CARDS: each row of YtmijjjdedadklaiDoorRows.lean that lists a variable, with what it lists TIED to the program's text (the seventh form; the later family's looks); each row that meets fmt, with fmt's text TOLD by the authors' own Lean function (tested against real Go, not proved from fmt's source: count such statements apart). THE CARD IS WHAT COUNTS. Prove the row's statement (the work); the ties are given (YtmijjjdedadklaiDoorTie.lean); close each card by the builder's one call (the guide's Derived/Test/ToyasCard.lean, 'card_holds'). Laid BY PROGRAM, IN A SANDBOX (cutbox-door.mjs). By AI agents, Wed Nov 11 2026. No macro, syntax, notation, axiom, sorry.
-/
import Derived.Test.YtmijjjdedadklaiDoorRows
import GoSem.ClaimSeven
namespace Go.Proofs.YtmijjjdedadklaiDoor
namespace Rows

/-- THE TIED CARD OF 'stonelaw4.RingWrong'. -/
def ringWrongCard : Claim7 := { stood := { row := ringWrongRow, standIns := [], harness := (true, "85312a53da491d2a11d435c3b7a91b801fe4492bc9c828fa8fe28b3d22a6ab2f"), looks := true }, kinds := [], alts := [], laidByText := true, laidKinds := [.handle], laidTests := true, laidLooks := .later }
def RingWrongCardSaid : Prop := Claim7.holds Tryd.pinned (.plain (OpenSpec.ofChange ringWrongSpec)) ringWrongCard

/-- THE TIED CARD OF 'stonelaw3.AdaptTells'. -/
def adaptTellsCard : Claim7 := { stood := { row := adaptTellsRow, standIns := [], harness := (true, "85312a53da491d2a11d435c3b7a91b801fe4492bc9c828fa8fe28b3d22a6ab2f"), looks := true }, kinds := [], alts := [], laidByText := true, laidKinds := [.handle], laidTests := true, laidLooks := .later }
def AdaptTellsCardSaid : Prop := Claim7.holds Tryd.pinned (.plain (OpenSpec.ofChange adaptTellsSpec)) adaptTellsCard

/-- THE TIED CARD OF 'stonelaw4.AdaptNone'. -/
def adaptNoneCard : Claim7 := { stood := { row := adaptNoneRow, standIns := [], harness := (true, "85312a53da491d2a11d435c3b7a91b801fe4492bc9c828fa8fe28b3d22a6ab2f"), looks := true }, kinds := [], alts := [], laidByText := true, laidKinds := [.handle], laidTests := true, laidLooks := .later }
def AdaptNoneCardSaid : Prop := Claim7.holds Tryd.pinned (.plain (OpenSpec.ofChange adaptNoneSpec)) adaptNoneCard

/-- THE TIED CARD OF 'stonelaw3.BookKeeps'. -/
def bookKeepsCard : Claim7 := { stood := { row := bookKeepsRow, standIns := [], harness := (true, "85312a53da491d2a11d435c3b7a91b801fe4492bc9c828fa8fe28b3d22a6ab2f"), looks := true }, kinds := [], alts := [], laidByText := true, laidKinds := [.handle], laidTests := true, laidLooks := .later }
def BookKeepsCardSaid : Prop := Claim7.holds Tryd.pinned (.plain (OpenSpec.ofChange bookKeepsSpec)) bookKeepsCard

/-- THE TIED CARD OF 'stonelaw4.BookOnce'. -/
def bookOnceCard : Claim7 := { stood := { row := bookOnceRow, standIns := [], harness := (true, "85312a53da491d2a11d435c3b7a91b801fe4492bc9c828fa8fe28b3d22a6ab2f"), looks := true }, kinds := [], alts := [], laidByText := true, laidKinds := [.handle], laidTests := true, laidLooks := .later }
def BookOnceCardSaid : Prop := Claim7.holds Tryd.pinned (.plain (OpenSpec.ofChange bookOnceSpec)) bookOnceCard

/-- THE SECOND FORM's CARD OF 'stonelaw4.RingWrong'. -/
def ringWrongUptoCard : Claim7 := { stood := { row := ringWrongUptoRow, standIns := [], harness := (true, "85312a53da491d2a11d435c3b7a91b801fe4492bc9c828fa8fe28b3d22a6ab2f"), looks := true }, kinds := [], alts := [], laidByText := true, laidKinds := [.handle], laidTests := true, laidLooks := .later }
def RingWrongUptoCardSaid : Prop := Claim7.holds Tryd.pinned (.plain (OpenSpec.upto ringWrongSpec)) ringWrongUptoCard

/-- THE SECOND FORM's CARD OF 'stonelaw3.AdaptTells'. -/
def adaptTellsUptoCard : Claim7 := { stood := { row := adaptTellsUptoRow, standIns := [], harness := (true, "85312a53da491d2a11d435c3b7a91b801fe4492bc9c828fa8fe28b3d22a6ab2f"), looks := true }, kinds := [], alts := [], laidByText := true, laidKinds := [.handle], laidTests := true, laidLooks := .later }
def AdaptTellsUptoCardSaid : Prop := Claim7.holds Tryd.pinned (.plain (OpenSpec.upto adaptTellsSpec)) adaptTellsUptoCard

/-- THE SECOND FORM's CARD OF 'stonelaw4.AdaptNone'. -/
def adaptNoneUptoCard : Claim7 := { stood := { row := adaptNoneUptoRow, standIns := [], harness := (true, "85312a53da491d2a11d435c3b7a91b801fe4492bc9c828fa8fe28b3d22a6ab2f"), looks := true }, kinds := [], alts := [], laidByText := true, laidKinds := [.handle], laidTests := true, laidLooks := .later }
def AdaptNoneUptoCardSaid : Prop := Claim7.holds Tryd.pinned (.plain (OpenSpec.upto adaptNoneSpec)) adaptNoneUptoCard

/-- THE SECOND FORM's CARD OF 'stonelaw3.BookKeeps'. -/
def bookKeepsUptoCard : Claim7 := { stood := { row := bookKeepsUptoRow, standIns := [], harness := (true, "85312a53da491d2a11d435c3b7a91b801fe4492bc9c828fa8fe28b3d22a6ab2f"), looks := true }, kinds := [], alts := [], laidByText := true, laidKinds := [.handle], laidTests := true, laidLooks := .later }
def BookKeepsUptoCardSaid : Prop := Claim7.holds Tryd.pinned (.plain (OpenSpec.upto bookKeepsSpec)) bookKeepsUptoCard

/-- THE SECOND FORM's CARD OF 'stonelaw4.BookOnce'. -/
def bookOnceUptoCard : Claim7 := { stood := { row := bookOnceUptoRow, standIns := [], harness := (true, "85312a53da491d2a11d435c3b7a91b801fe4492bc9c828fa8fe28b3d22a6ab2f"), looks := true }, kinds := [], alts := [], laidByText := true, laidKinds := [.handle], laidTests := true, laidLooks := .later }
def BookOnceUptoCardSaid : Prop := Claim7.holds Tryd.pinned (.plain (OpenSpec.upto bookOnceSpec)) bookOnceUptoCard
end Rows
end Go.Proofs.YtmijjjdedadklaiDoor
