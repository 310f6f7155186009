/-
  No cell of these rows narrows 'for every input' (looked for: loops, veiled, ifaces, maps, wideKeys, modest, calm, conditions, laid).
  DERIVED. THE GIVEN ROWS OF THIS SEAT. 4 by the template 'for every input the law returns true; each argument reads behind the call as it read before'; 0 by the template 'total and deterministic' (their statements: YtiddfngopoednahTotals.lean).
  GIVEN WITH THE SEED: the statements are not yours to turn. If you find one false, say at which input.
  Laid BY PROGRAM, IN A SANDBOX (cutbox-rows.mjs): the forced cells as the released guide's own fill.sh prints them over the translation 18cfca2f4286bd0f… (all of the seat's roots in one cut). By AI agents, Wed Nov 11 2026. No macro, syntax, notation, axiom, sorry.
-/
import Derived.Test.YtiddfngopoednahChecked
import GoSem.Claim
import GoSem.ClaimJoined
import GoSem.ClaimMapViews
import Derived.JoinedTies
import Derived.KernelRfl
namespace Go.Proofs.Ytiddfngopoednah
/- THE CELL 'sum', in the pinned program and in every row, IS THE sha256 OF THE DUMP (.gsa) THAT YtiddfngopoednahProg.lean LOADS. Nothing in Lean hashes anything: it is a label: what it is worth is what the hold of that sum in a sandbox is worth. -/
noncomputable def Try.pinned : Pinned := { name := "ytiddfngopoednah", sum := "18cfca2f4286bd0ff8f9ad5d071e33ac9ff63874e81e52c20f0b0e0a054dede6", checked := Try.checked }
namespace Rows
def none {H : Type} : Left H := { results := [], args := [] }

/-- 'stonelaw4.HideNone': WHATEVER THE INPUT: true; the input reads as it did. -/
def hideNoneSpec : ChangeSpec := { name := "hideNone", fn := fun _ => fun
  | [d] => { results := [.lit (.bool true)], args := [d] }
  | _ => none }
def hideNoneRow : OpenClaim := { program := "ytiddfngopoednah", sum := "18cfca2f4286bd0ff8f9ad5d071e33ac9ff63874e81e52c20f0b0e0a054dede6", func := "pairstone/stonelaw4.HideNone", spec := "hideNone", apart := false }
def HideNoneSaid : Prop := hideNoneRow.holds Try.pinned (OpenSpec.ofChange hideNoneSpec)

/-- ITS FALSE NEIGHBOUR: 'it returns false'. Refute it at one input. -/
def hideNoneWrong : ChangeSpec := { name := "hideNone", fn := fun _ => fun
  | [d] => { results := [.lit (.bool false)], args := [d] }
  | _ => none }
def HideNoneWrongFalsely : Prop := hideNoneRow.holds Try.pinned (OpenSpec.ofChange hideNoneWrong)

/-- 'stonelaw2.EqualHolds': WHATEVER THE INPUT: true; the input reads as it did. -/
def equalHoldsSpec : ChangeSpec := { name := "equalHolds", fn := fun _ => fun
  | [d1, d2, d3] => { results := [.lit (.bool true)], args := [d1, d2, d3] }
  | _ => none }
def equalHoldsRow : OpenClaim := { program := "ytiddfngopoednah", sum := "18cfca2f4286bd0ff8f9ad5d071e33ac9ff63874e81e52c20f0b0e0a054dede6", func := "pairstone/stonelaw2.EqualHolds", spec := "equalHolds", inPlace := ["internal/abi.NoEscape"], apart := false }
def EqualHoldsSaid : Prop := equalHoldsRow.holds Try.pinned (OpenSpec.ofChange equalHoldsSpec)

/-- ITS FALSE NEIGHBOUR: 'it returns false'. Refute it at one input. -/
def equalHoldsWrong : ChangeSpec := { name := "equalHolds", fn := fun _ => fun
  | [d1, d2, d3] => { results := [.lit (.bool false)], args := [d1, d2, d3] }
  | _ => none }
def EqualHoldsWrongFalsely : Prop := equalHoldsRow.holds Try.pinned (OpenSpec.ofChange equalHoldsWrong)

/-- 'stonelaw4.EqualFalse': WHATEVER THE INPUT: true; the input reads as it did. -/
def equalFalseSpec : ChangeSpec := { name := "equalFalse", fn := fun _ => fun
  | [d1, d2, d3] => { results := [.lit (.bool true)], args := [d1, d2, d3] }
  | _ => none }
def equalFalseRow : OpenClaim := { program := "ytiddfngopoednah", sum := "18cfca2f4286bd0ff8f9ad5d071e33ac9ff63874e81e52c20f0b0e0a054dede6", func := "pairstone/stonelaw4.EqualFalse", spec := "equalFalse", inPlace := ["internal/abi.NoEscape"], apart := false }
def EqualFalseSaid : Prop := equalFalseRow.holds Try.pinned (OpenSpec.ofChange equalFalseSpec)

/-- ITS FALSE NEIGHBOUR: 'it returns false'. Refute it at one input. -/
def equalFalseWrong : ChangeSpec := { name := "equalFalse", fn := fun _ => fun
  | [d1, d2, d3] => { results := [.lit (.bool false)], args := [d1, d2, d3] }
  | _ => none }
def EqualFalseWrongFalsely : Prop := equalFalseRow.holds Try.pinned (OpenSpec.ofChange equalFalseWrong)

/-- 'stonelaw3.RingHolds': WHATEVER THE INPUT: true; the input reads as it did. -/
def ringHoldsSpec : ChangeSpec := { name := "ringHolds", fn := fun _ => fun
  | [d1, d2, d3, d4, d5] => { results := [.lit (.bool true)], args := [d1, d2, d3, d4, d5] }
  | _ => none }
def ringHoldsRow : OpenClaim := { program := "ytiddfngopoednah", sum := "18cfca2f4286bd0ff8f9ad5d071e33ac9ff63874e81e52c20f0b0e0a054dede6", func := "pairstone/stonelaw3.RingHolds", spec := "ringHolds", inPlace := ["internal/abi.NoEscape"], unfollowed := true, recurses := true, apart := false }
def RingHoldsSaid : Prop := ringHoldsRow.holds Try.pinned (OpenSpec.ofChange ringHoldsSpec)

/-- ITS FALSE NEIGHBOUR: 'it returns false'. Refute it at one input. -/
def ringHoldsWrong : ChangeSpec := { name := "ringHolds", fn := fun _ => fun
  | [d1, d2, d3, d4, d5] => { results := [.lit (.bool false)], args := [d1, d2, d3, d4, d5] }
  | _ => none }
def RingHoldsWrongFalsely : Prop := ringHoldsRow.holds Try.pinned (OpenSpec.ofChange ringHoldsWrong)

/- THE SECOND FORM. 'bulk': how many values and letters a reading holds, each counted each time it is reached (what is shared counts as often as it is met; a slice's spare places count too). A statement '..UptoSaid' is the law's where the arguments, and the package variables that the reading takes, are together of bulk at most 1048576: NARROWER than '..Said'. Prove '..Said' where nothing that the law and all that it calls make is longer than what came in: it says more and counts as full. Else prove '..UptoSaid'. A law counts once. -/
mutual
def uptoBulk {H : Type} : DataW H → Nat
  | .lit (.string bytes) => bytes.length + 1
  | .lit _ => 1
  | .nil => 1
  | .ptr d => uptoBulk d + 1
  | .slice elems spare => uptoBulkAll elems + uptoBulkAll spare + 1
  | .agg parts => uptoBulkAll parts + 1
  | .iface _ d => uptoBulk d + 1
  | .map entries => uptoBulkEntries entries + 1
  | .held _ => 1
def uptoBulkAll {H : Type} : List (DataW H) → Nat
  | [] => 0
  | d :: r => uptoBulk d + uptoBulkAll r
def uptoBulkEntries {H : Type} : List (Lit × DataW H) → Nat
  | [] => 0
  | x :: r => uptoBulkEntry x + uptoBulkEntries r
def uptoBulkEntry {H : Type} : Lit × DataW H → Nat
  | (.string bytes, d) => bytes.length + uptoBulk d + 1
  | (_, d) => uptoBulk d + 1
 end
def uptoSmall : (H : Type) → List (DataW H) → Bool := fun _ ds => decide (uptoBulkAll ds ≤ 1048576)
def OpenSpec.upto (s : _root_.Go.ChangeSpec) : _root_.Go.OpenSpec := { _root_.Go.OpenSpec.ofChange s with cond := some uptoSmall }

/-- 'stonelaw4.HideNone', WHERE WHAT IT READS IS OF BULK AT MOST 1048576: true; the input reads as it did. -/
def hideNoneUptoRow : OpenClaim := { program := "ytiddfngopoednah", sum := "18cfca2f4286bd0ff8f9ad5d071e33ac9ff63874e81e52c20f0b0e0a054dede6", func := "pairstone/stonelaw4.HideNone", spec := "hideNone", apart := false, narrowed := true }
def HideNoneUptoSaid : Prop := hideNoneUptoRow.holds Try.pinned (OpenSpec.upto hideNoneSpec)

/-- 'stonelaw2.EqualHolds', WHERE WHAT IT READS IS OF BULK AT MOST 1048576: true; the input reads as it did. -/
def equalHoldsUptoRow : OpenClaim := { program := "ytiddfngopoednah", sum := "18cfca2f4286bd0ff8f9ad5d071e33ac9ff63874e81e52c20f0b0e0a054dede6", func := "pairstone/stonelaw2.EqualHolds", spec := "equalHolds", inPlace := ["internal/abi.NoEscape"], apart := false, narrowed := true }
def EqualHoldsUptoSaid : Prop := equalHoldsUptoRow.holds Try.pinned (OpenSpec.upto equalHoldsSpec)

/-- 'stonelaw4.EqualFalse', WHERE WHAT IT READS IS OF BULK AT MOST 1048576: true; the input reads as it did. -/
def equalFalseUptoRow : OpenClaim := { program := "ytiddfngopoednah", sum := "18cfca2f4286bd0ff8f9ad5d071e33ac9ff63874e81e52c20f0b0e0a054dede6", func := "pairstone/stonelaw4.EqualFalse", spec := "equalFalse", inPlace := ["internal/abi.NoEscape"], apart := false, narrowed := true }
def EqualFalseUptoSaid : Prop := equalFalseUptoRow.holds Try.pinned (OpenSpec.upto equalFalseSpec)

/-- 'stonelaw3.RingHolds', WHERE WHAT IT READS IS OF BULK AT MOST 1048576: true; the input reads as it did. -/
def ringHoldsUptoRow : OpenClaim := { program := "ytiddfngopoednah", sum := "18cfca2f4286bd0ff8f9ad5d071e33ac9ff63874e81e52c20f0b0e0a054dede6", func := "pairstone/stonelaw3.RingHolds", spec := "ringHolds", inPlace := ["internal/abi.NoEscape"], unfollowed := true, recurses := true, apart := false, narrowed := true }
def RingHoldsUptoSaid : Prop := ringHoldsUptoRow.holds Try.pinned (OpenSpec.upto ringHoldsSpec)

end Rows
end Go.Proofs.Ytiddfngopoednah
