/-
  No cell of these rows narrows 'for every input' (looked for: loops, veiled, ifaces, maps, wideKeys, modest, calm, conditions, laid).
  DERIVED. THE GIVEN ROWS OF THIS SEAT. 5 by the template 'for every input the law returns true; each argument reads behind the call as it read before'; 0 by the template 'total and deterministic' (their statements: YtljmfcpighfmoacTotals.lean).
  GIVEN WITH THE SEED: the statements are not yours to turn. If you find one false, say at which input.
  Laid BY PROGRAM, IN A SANDBOX (cutbox-rows.mjs): the forced cells as the released guide's own fill.sh prints them over the translation c051d5d13b4d970b… (all of the seat's roots in one cut). By AI agents, Wed Nov 11 2026. No macro, syntax, notation, axiom, sorry.
-/
import Derived.Test.YtljmfcpighfmoacChecked
import GoSem.Claim
import GoSem.ClaimJoined
import GoSem.ClaimMapViews
import Derived.JoinedTies
import Derived.KernelRfl
namespace Go.Proofs.Ytljmfcpighfmoac
/- THE CELL 'sum', in the pinned program and in every row, IS THE sha256 OF THE DUMP (.gsa) THAT YtljmfcpighfmoacProg.lean LOADS. Nothing in Lean hashes anything: it is a label: what it is worth is what the hold of that sum in a sandbox is worth. -/
noncomputable def Try.pinned : Pinned := { name := "ytljmfcpighfmoac", sum := "c051d5d13b4d970bc2b60361a956c4193f3901b3b694bca61bf3575d0c584fc2", checked := Try.checked }
namespace Rows
def none {H : Type} : Left H := { results := [], args := [] }

/-- 'stonelaw4.TimesLast': WHATEVER THE INPUT: true; the input reads as it did. -/
def timesLastSpec : ChangeSpec := { name := "timesLast", fn := fun _ => fun
  | [d] => { results := [.lit (.bool true)], args := [d] }
  | _ => none }
def timesLastRow : OpenClaim := { program := "ytljmfcpighfmoac", sum := "c051d5d13b4d970bc2b60361a956c4193f3901b3b694bca61bf3575d0c584fc2", func := "pairstone/stonelaw4.TimesLast", spec := "timesLast", apart := false }
def TimesLastSaid : Prop := timesLastRow.holds Try.pinned (OpenSpec.ofChange timesLastSpec)

/-- ITS FALSE NEIGHBOUR: 'it returns false'. Refute it at one input. -/
def timesLastWrong : ChangeSpec := { name := "timesLast", fn := fun _ => fun
  | [d] => { results := [.lit (.bool false)], args := [d] }
  | _ => none }
def TimesLastWrongFalsely : Prop := timesLastRow.holds Try.pinned (OpenSpec.ofChange timesLastWrong)

/-- 'stonelaw1.BytesBack': WHATEVER THE INPUT: true; the input reads as it did. -/
def bytesBackSpec : ChangeSpec := { name := "bytesBack", fn := fun _ => fun
  | [d1, d2] => { results := [.lit (.bool true)], args := [d1, d2] }
  | _ => none }
def bytesBackRow : OpenClaim := { program := "ytljmfcpighfmoac", sum := "c051d5d13b4d970bc2b60361a956c4193f3901b3b694bca61bf3575d0c584fc2", func := "pairstone/stonelaw1.BytesBack", spec := "bytesBack", apart := false }
def BytesBackSaid : Prop := bytesBackRow.holds Try.pinned (OpenSpec.ofChange bytesBackSpec)

/-- ITS FALSE NEIGHBOUR: 'it returns false'. Refute it at one input. -/
def bytesBackWrong : ChangeSpec := { name := "bytesBack", fn := fun _ => fun
  | [d1, d2] => { results := [.lit (.bool false)], args := [d1, d2] }
  | _ => none }
def BytesBackWrongFalsely : Prop := bytesBackRow.holds Try.pinned (OpenSpec.ofChange bytesBackWrong)

/-- 'stonelaw4.BytesLong': WHATEVER THE INPUT: true; the input reads as it did. -/
def bytesLongSpec : ChangeSpec := { name := "bytesLong", fn := fun _ => fun
  | [d] => { results := [.lit (.bool true)], args := [d] }
  | _ => none }
def bytesLongRow : OpenClaim := { program := "ytljmfcpighfmoac", sum := "c051d5d13b4d970bc2b60361a956c4193f3901b3b694bca61bf3575d0c584fc2", func := "pairstone/stonelaw4.BytesLong", spec := "bytesLong", inPlace := ["internal/abi.NoEscape"], apart := false }
def BytesLongSaid : Prop := bytesLongRow.holds Try.pinned (OpenSpec.ofChange bytesLongSpec)

/-- ITS FALSE NEIGHBOUR: 'it returns false'. Refute it at one input. -/
def bytesLongWrong : ChangeSpec := { name := "bytesLong", fn := fun _ => fun
  | [d] => { results := [.lit (.bool false)], args := [d] }
  | _ => none }
def BytesLongWrongFalsely : Prop := bytesLongRow.holds Try.pinned (OpenSpec.ofChange bytesLongWrong)

/-- 'stonelaw1.HashTells': WHATEVER THE INPUT: true; the input reads as it did. -/
def hashTellsSpec : ChangeSpec := { name := "hashTells", fn := fun _ => fun
  | [d] => { results := [.lit (.bool true)], args := [d] }
  | _ => none }
def hashTellsRow : OpenClaim := { program := "ytljmfcpighfmoac", sum := "c051d5d13b4d970bc2b60361a956c4193f3901b3b694bca61bf3575d0c584fc2", func := "pairstone/stonelaw1.HashTells", spec := "hashTells", recurses := true, apart := false }
def HashTellsSaid : Prop := hashTellsRow.holds Try.pinned (OpenSpec.ofChange hashTellsSpec)

/-- ITS FALSE NEIGHBOUR: 'it returns false'. Refute it at one input. -/
def hashTellsWrong : ChangeSpec := { name := "hashTells", fn := fun _ => fun
  | [d] => { results := [.lit (.bool false)], args := [d] }
  | _ => none }
def HashTellsWrongFalsely : Prop := hashTellsRow.holds Try.pinned (OpenSpec.ofChange hashTellsWrong)

/-- 'stonelaw1.HashCounts': WHATEVER THE INPUT: true; the input reads as it did. -/
def hashCountsSpec : ChangeSpec := { name := "hashCounts", fn := fun _ => fun
  | [d] => { results := [.lit (.bool true)], args := [d] }
  | _ => none }
def hashCountsRow : OpenClaim := { program := "ytljmfcpighfmoac", sum := "c051d5d13b4d970bc2b60361a956c4193f3901b3b694bca61bf3575d0c584fc2", func := "pairstone/stonelaw1.HashCounts", spec := "hashCounts", apart := false }
def HashCountsSaid : Prop := hashCountsRow.holds Try.pinned (OpenSpec.ofChange hashCountsSpec)

/-- ITS FALSE NEIGHBOUR: 'it returns false'. Refute it at one input. -/
def hashCountsWrong : ChangeSpec := { name := "hashCounts", fn := fun _ => fun
  | [d] => { results := [.lit (.bool false)], args := [d] }
  | _ => none }
def HashCountsWrongFalsely : Prop := hashCountsRow.holds Try.pinned (OpenSpec.ofChange hashCountsWrong)

/- THE SECOND FORM. 'bulk': how many values and letters a reading holds, each counted each time it is reached (what is shared counts as often as it is met; a slice's spare places count too). A statement '..UptoSaid' is the law's where the arguments, and the package variables that the reading takes, are together of bulk at most 1048576: NARROWER than '..Said'. Prove '..Said' where nothing that the law and all that it calls make is longer than what came in: it says more and counts as full. Else prove '..UptoSaid'. A law counts once. -/
mutual
def uptoBulk {H : Type} : DataW H → Nat
  | .lit (.string bytes) => bytes.length + 1
  | .lit _ => 1
  | .nil => 1
  | .ptr d => uptoBulk d + 1
  | .slice elems spare => uptoBulkAll elems + uptoBulkAll spare + 1
  | .agg parts => uptoBulkAll parts + 1
  | .iface _ d => uptoBulk d + 1
  | .map entries => uptoBulkEntries entries + 1
  | .held _ => 1
def uptoBulkAll {H : Type} : List (DataW H) → Nat
  | [] => 0
  | d :: r => uptoBulk d + uptoBulkAll r
def uptoBulkEntries {H : Type} : List (Lit × DataW H) → Nat
  | [] => 0
  | x :: r => uptoBulkEntry x + uptoBulkEntries r
def uptoBulkEntry {H : Type} : Lit × DataW H → Nat
  | (.string bytes, d) => bytes.length + uptoBulk d + 1
  | (_, d) => uptoBulk d + 1
 end
def uptoSmall : (H : Type) → List (DataW H) → Bool := fun _ ds => decide (uptoBulkAll ds ≤ 1048576)
def OpenSpec.upto (s : _root_.Go.ChangeSpec) : _root_.Go.OpenSpec := { _root_.Go.OpenSpec.ofChange s with cond := some uptoSmall }

/-- 'stonelaw4.TimesLast', WHERE WHAT IT READS IS OF BULK AT MOST 1048576: true; the input reads as it did. -/
def timesLastUptoRow : OpenClaim := { program := "ytljmfcpighfmoac", sum := "c051d5d13b4d970bc2b60361a956c4193f3901b3b694bca61bf3575d0c584fc2", func := "pairstone/stonelaw4.TimesLast", spec := "timesLast", apart := false, narrowed := true }
def TimesLastUptoSaid : Prop := timesLastUptoRow.holds Try.pinned (OpenSpec.upto timesLastSpec)

/-- 'stonelaw1.BytesBack', WHERE WHAT IT READS IS OF BULK AT MOST 1048576: true; the input reads as it did. -/
def bytesBackUptoRow : OpenClaim := { program := "ytljmfcpighfmoac", sum := "c051d5d13b4d970bc2b60361a956c4193f3901b3b694bca61bf3575d0c584fc2", func := "pairstone/stonelaw1.BytesBack", spec := "bytesBack", apart := false, narrowed := true }
def BytesBackUptoSaid : Prop := bytesBackUptoRow.holds Try.pinned (OpenSpec.upto bytesBackSpec)

/-- 'stonelaw4.BytesLong', WHERE WHAT IT READS IS OF BULK AT MOST 1048576: true; the input reads as it did. -/
def bytesLongUptoRow : OpenClaim := { program := "ytljmfcpighfmoac", sum := "c051d5d13b4d970bc2b60361a956c4193f3901b3b694bca61bf3575d0c584fc2", func := "pairstone/stonelaw4.BytesLong", spec := "bytesLong", inPlace := ["internal/abi.NoEscape"], apart := false, narrowed := true }
def BytesLongUptoSaid : Prop := bytesLongUptoRow.holds Try.pinned (OpenSpec.upto bytesLongSpec)

/-- 'stonelaw1.HashTells', WHERE WHAT IT READS IS OF BULK AT MOST 1048576: true; the input reads as it did. -/
def hashTellsUptoRow : OpenClaim := { program := "ytljmfcpighfmoac", sum := "c051d5d13b4d970bc2b60361a956c4193f3901b3b694bca61bf3575d0c584fc2", func := "pairstone/stonelaw1.HashTells", spec := "hashTells", recurses := true, apart := false, narrowed := true }
def HashTellsUptoSaid : Prop := hashTellsUptoRow.holds Try.pinned (OpenSpec.upto hashTellsSpec)

/-- 'stonelaw1.HashCounts', WHERE WHAT IT READS IS OF BULK AT MOST 1048576: true; the input reads as it did. -/
def hashCountsUptoRow : OpenClaim := { program := "ytljmfcpighfmoac", sum := "c051d5d13b4d970bc2b60361a956c4193f3901b3b694bca61bf3575d0c584fc2", func := "pairstone/stonelaw1.HashCounts", spec := "hashCounts", apart := false, narrowed := true }
def HashCountsUptoSaid : Prop := hashCountsUptoRow.holds Try.pinned (OpenSpec.upto hashCountsSpec)

end Rows
end Go.Proofs.Ytljmfcpighfmoac
