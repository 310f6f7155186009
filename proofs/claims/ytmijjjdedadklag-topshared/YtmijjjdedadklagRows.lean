/-
  No cell of these rows narrows 'for every input' (looked for: loops, veiled, ifaces, maps, wideKeys, modest, calm, conditions, laid).
  DERIVED. THE GIVEN ROWS OF THIS SEAT. 4 by the template 'for every input the law returns true; each argument reads behind the call as it read before'; 0 by the template 'total and deterministic' (their statements: YtmijjjdedadklagTotals.lean).
  GIVEN WITH THE SEED: the statements are not yours to turn. If you find one false, say at which input.
  Laid BY PROGRAM, IN A SANDBOX (cutbox-rows.mjs): the forced cells as the released guide's own fill.sh prints them over the translation 2ee889cb8f3187ec… (all of the seat's roots in one cut). By AI agents, Wed Nov 11 2026. No macro, syntax, notation, axiom, sorry.
-/
import Derived.Test.YtmijjjdedadklagChecked
import GoSem.Claim
import GoSem.ClaimJoined
import GoSem.ClaimMapViews
import Derived.JoinedTies
import Derived.KernelRfl
namespace Go.Proofs.Ytmijjjdedadklag
/- THE CELL 'sum', in the pinned program and in every row, IS THE sha256 OF THE DUMP (.gsa) THAT YtmijjjdedadklagProg.lean LOADS. Nothing in Lean hashes anything: it is a label: what it is worth is what the hold of that sum in a sandbox is worth. -/
noncomputable def Try.pinned : Pinned := { name := "ytmijjjdedadklag", sum := "2ee889cb8f3187ece1866e7e6239d11ef4be1b4e9b876a27224f50118e70a717", checked := Try.checked }
namespace Rows
def none {H : Type} : Left H := { results := [], args := [] }

/-- 'stonetop.TopShared': WHATEVER THE INPUT: true; the input reads as it did. -/
def topSharedSpec : ChangeSpec := { name := "topShared", fn := fun _ => fun
  | [d1, d2, d3, d4] => { results := [.lit (.bool true)], args := [d1, d2, d3, d4] }
  | _ => none }
def topSharedRow : OpenClaim := { program := "ytmijjjdedadklag", sum := "2ee889cb8f3187ece1866e7e6239d11ef4be1b4e9b876a27224f50118e70a717", func := "pairstone/stonetop.TopShared", spec := "topShared", unfollowed := true, recurses := true, apart := false }
def TopSharedSaid : Prop := topSharedRow.holds Try.pinned (OpenSpec.ofChange topSharedSpec)

/-- ITS FALSE NEIGHBOUR: 'it returns false'. Refute it at one input. -/
def topSharedWrong : ChangeSpec := { name := "topShared", fn := fun _ => fun
  | [d1, d2, d3, d4] => { results := [.lit (.bool false)], args := [d1, d2, d3, d4] }
  | _ => none }
def TopSharedWrongFalsely : Prop := topSharedRow.holds Try.pinned (OpenSpec.ofChange topSharedWrong)

/-- 'stonelaw2.GroupSeals': WHATEVER THE INPUT: true; the input reads as it did. -/
def groupSealsSpec : ChangeSpec := { name := "groupSeals", fn := fun _ => fun
  | [d1, d2, d3, d4] => { results := [.lit (.bool true)], args := [d1, d2, d3, d4] }
  | _ => none }
def groupSealsRow : OpenClaim := { program := "ytmijjjdedadklag", sum := "2ee889cb8f3187ece1866e7e6239d11ef4be1b4e9b876a27224f50118e70a717", func := "pairstone/stonelaw2.GroupSeals", spec := "groupSeals", inPlace := ["internal/abi.NoEscape"], apart := false }
def GroupSealsSaid : Prop := groupSealsRow.holds Try.pinned (OpenSpec.ofChange groupSealsSpec)

/-- ITS FALSE NEIGHBOUR: 'it returns false'. Refute it at one input. -/
def groupSealsWrong : ChangeSpec := { name := "groupSeals", fn := fun _ => fun
  | [d1, d2, d3, d4] => { results := [.lit (.bool false)], args := [d1, d2, d3, d4] }
  | _ => none }
def GroupSealsWrongFalsely : Prop := groupSealsRow.holds Try.pinned (OpenSpec.ofChange groupSealsWrong)

/-- 'stonelaw4.GroupOne': WHATEVER THE INPUT: true; the input reads as it did. -/
def groupOneSpec : ChangeSpec := { name := "groupOne", fn := fun _ => fun
  | [d1, d2, d3] => { results := [.lit (.bool true)], args := [d1, d2, d3] }
  | _ => none }
def groupOneRow : OpenClaim := { program := "ytmijjjdedadklag", sum := "2ee889cb8f3187ece1866e7e6239d11ef4be1b4e9b876a27224f50118e70a717", func := "pairstone/stonelaw4.GroupOne", spec := "groupOne", inPlace := ["internal/abi.NoEscape"], apart := false }
def GroupOneSaid : Prop := groupOneRow.holds Try.pinned (OpenSpec.ofChange groupOneSpec)

/-- ITS FALSE NEIGHBOUR: 'it returns false'. Refute it at one input. -/
def groupOneWrong : ChangeSpec := { name := "groupOne", fn := fun _ => fun
  | [d1, d2, d3] => { results := [.lit (.bool false)], args := [d1, d2, d3] }
  | _ => none }
def GroupOneWrongFalsely : Prop := groupOneRow.holds Try.pinned (OpenSpec.ofChange groupOneWrong)

/-- 'stonelaw2.HideAny': WHATEVER THE INPUT: true; the input reads as it did. -/
def hideAnySpec : ChangeSpec := { name := "hideAny", fn := fun _ => fun
  | [d1, d2, d3, d4] => { results := [.lit (.bool true)], args := [d1, d2, d3, d4] }
  | _ => none }
def hideAnyRow : OpenClaim := { program := "ytmijjjdedadklag", sum := "2ee889cb8f3187ece1866e7e6239d11ef4be1b4e9b876a27224f50118e70a717", func := "pairstone/stonelaw2.HideAny", spec := "hideAny", apart := false }
def HideAnySaid : Prop := hideAnyRow.holds Try.pinned (OpenSpec.ofChange hideAnySpec)

/-- ITS FALSE NEIGHBOUR: 'it returns false'. Refute it at one input. -/
def hideAnyWrong : ChangeSpec := { name := "hideAny", fn := fun _ => fun
  | [d1, d2, d3, d4] => { results := [.lit (.bool false)], args := [d1, d2, d3, d4] }
  | _ => none }
def HideAnyWrongFalsely : Prop := hideAnyRow.holds Try.pinned (OpenSpec.ofChange hideAnyWrong)

/- THE SECOND FORM. 'bulk': how many values and letters a reading holds, each counted each time it is reached (what is shared counts as often as it is met; a slice's spare places count too). A statement '..UptoSaid' is the law's where the arguments, and the package variables that the reading takes, are together of bulk at most 1048576: NARROWER than '..Said'. Prove '..Said' where nothing that the law and all that it calls make is longer than what came in: it says more and counts as full. Else prove '..UptoSaid'. A law counts once. -/
mutual
def uptoBulk {H : Type} : DataW H → Nat
  | .lit (.string bytes) => bytes.length + 1
  | .lit _ => 1
  | .nil => 1
  | .ptr d => uptoBulk d + 1
  | .slice elems spare => uptoBulkAll elems + uptoBulkAll spare + 1
  | .agg parts => uptoBulkAll parts + 1
  | .iface _ d => uptoBulk d + 1
  | .map entries => uptoBulkEntries entries + 1
  | .held _ => 1
def uptoBulkAll {H : Type} : List (DataW H) → Nat
  | [] => 0
  | d :: r => uptoBulk d + uptoBulkAll r
def uptoBulkEntries {H : Type} : List (Lit × DataW H) → Nat
  | [] => 0
  | x :: r => uptoBulkEntry x + uptoBulkEntries r
def uptoBulkEntry {H : Type} : Lit × DataW H → Nat
  | (.string bytes, d) => bytes.length + uptoBulk d + 1
  | (_, d) => uptoBulk d + 1
 end
def uptoSmall : (H : Type) → List (DataW H) → Bool := fun _ ds => decide (uptoBulkAll ds ≤ 1048576)
def OpenSpec.upto (s : _root_.Go.ChangeSpec) : _root_.Go.OpenSpec := { _root_.Go.OpenSpec.ofChange s with cond := some uptoSmall }

/-- 'stonetop.TopShared', WHERE WHAT IT READS IS OF BULK AT MOST 1048576: true; the input reads as it did. -/
def topSharedUptoRow : OpenClaim := { program := "ytmijjjdedadklag", sum := "2ee889cb8f3187ece1866e7e6239d11ef4be1b4e9b876a27224f50118e70a717", func := "pairstone/stonetop.TopShared", spec := "topShared", unfollowed := true, recurses := true, apart := false, narrowed := true }
def TopSharedUptoSaid : Prop := topSharedUptoRow.holds Try.pinned (OpenSpec.upto topSharedSpec)

/-- 'stonelaw2.GroupSeals', WHERE WHAT IT READS IS OF BULK AT MOST 1048576: true; the input reads as it did. -/
def groupSealsUptoRow : OpenClaim := { program := "ytmijjjdedadklag", sum := "2ee889cb8f3187ece1866e7e6239d11ef4be1b4e9b876a27224f50118e70a717", func := "pairstone/stonelaw2.GroupSeals", spec := "groupSeals", inPlace := ["internal/abi.NoEscape"], apart := false, narrowed := true }
def GroupSealsUptoSaid : Prop := groupSealsUptoRow.holds Try.pinned (OpenSpec.upto groupSealsSpec)

/-- 'stonelaw4.GroupOne', WHERE WHAT IT READS IS OF BULK AT MOST 1048576: true; the input reads as it did. -/
def groupOneUptoRow : OpenClaim := { program := "ytmijjjdedadklag", sum := "2ee889cb8f3187ece1866e7e6239d11ef4be1b4e9b876a27224f50118e70a717", func := "pairstone/stonelaw4.GroupOne", spec := "groupOne", inPlace := ["internal/abi.NoEscape"], apart := false, narrowed := true }
def GroupOneUptoSaid : Prop := groupOneUptoRow.holds Try.pinned (OpenSpec.upto groupOneSpec)

/-- 'stonelaw2.HideAny', WHERE WHAT IT READS IS OF BULK AT MOST 1048576: true; the input reads as it did. -/
def hideAnyUptoRow : OpenClaim := { program := "ytmijjjdedadklag", sum := "2ee889cb8f3187ece1866e7e6239d11ef4be1b4e9b876a27224f50118e70a717", func := "pairstone/stonelaw2.HideAny", spec := "hideAny", apart := false, narrowed := true }
def HideAnyUptoSaid : Prop := hideAnyUptoRow.holds Try.pinned (OpenSpec.upto hideAnySpec)

end Rows
end Go.Proofs.Ytmijjjdedadklag
