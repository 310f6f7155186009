/-
  No cell of these rows narrows 'for every input' (looked for: loops, veiled, ifaces, maps, wideKeys, modest, calm, conditions, laid).
  DERIVED. THE GIVEN ROWS OF THIS SEAT. 5 by the template 'for every input the law returns true; each argument reads behind the call as it read before'; 0 by the template 'total and deterministic' (their statements: YtmijjjdedadklaeTotals.lean).
  GIVEN WITH THE SEED: the statements are not yours to turn. If you find one false, say at which input.
  Laid BY PROGRAM, IN A SANDBOX (cutbox-rows.mjs): the forced cells as the released guide's own fill.sh prints them over the translation 814123136592812f… (all of the seat's roots in one cut). By AI agents, Wed Nov 11 2026. No macro, syntax, notation, axiom, sorry.
-/
import Derived.Test.YtmijjjdedadklaeChecked
import GoSem.Claim
import GoSem.ClaimJoined
import GoSem.ClaimMapViews
import Derived.JoinedTies
import Derived.KernelRfl
namespace Go.Proofs.Ytmijjjdedadklae
/- THE CELL 'sum', in the pinned program and in every row, IS THE sha256 OF THE DUMP (.gsa) THAT YtmijjjdedadklaeProg.lean LOADS. Nothing in Lean hashes anything: it is a label: what it is worth is what the hold of that sum in a sandbox is worth. -/
noncomputable def Try.pinned : Pinned := { name := "ytmijjjdedadklae", sum := "814123136592812f876692a29ca610987e2e2acd00d6fbc43fa8a4b3f77757ed", checked := Try.checked }
namespace Rows
def none {H : Type} : Left H := { results := [], args := [] }

/-- 'stonelaw4.SealKeys': WHATEVER THE INPUT: true; the input reads as it did. -/
def sealKeysSpec : ChangeSpec := { name := "sealKeys", fn := fun _ => fun
  | [d1, d2] => { results := [.lit (.bool true)], args := [d1, d2] }
  | _ => none }
def sealKeysRow : OpenClaim := { program := "ytmijjjdedadklae", sum := "814123136592812f876692a29ca610987e2e2acd00d6fbc43fa8a4b3f77757ed", func := "pairstone/stonelaw4.SealKeys", spec := "sealKeys", apart := false }
def SealKeysSaid : Prop := sealKeysRow.holds Try.pinned (OpenSpec.ofChange sealKeysSpec)

/-- ITS FALSE NEIGHBOUR: 'it returns false'. Refute it at one input. -/
def sealKeysWrong : ChangeSpec := { name := "sealKeys", fn := fun _ => fun
  | [d1, d2] => { results := [.lit (.bool false)], args := [d1, d2] }
  | _ => none }
def SealKeysWrongFalsely : Prop := sealKeysRow.holds Try.pinned (OpenSpec.ofChange sealKeysWrong)

/-- 'stonetop.TopTriple': WHATEVER THE INPUT: true; the input reads as it did. -/
def topTripleSpec : ChangeSpec := { name := "topTriple", fn := fun _ => fun
  | [d1, d2, d3] => { results := [.lit (.bool true)], args := [d1, d2, d3] }
  | _ => none }
def topTripleRow : OpenClaim := { program := "ytmijjjdedadklae", sum := "814123136592812f876692a29ca610987e2e2acd00d6fbc43fa8a4b3f77757ed", func := "pairstone/stonetop.TopTriple", spec := "topTriple", apart := false }
def TopTripleSaid : Prop := topTripleRow.holds Try.pinned (OpenSpec.ofChange topTripleSpec)

/-- ITS FALSE NEIGHBOUR: 'it returns false'. Refute it at one input. -/
def topTripleWrong : ChangeSpec := { name := "topTriple", fn := fun _ => fun
  | [d1, d2, d3] => { results := [.lit (.bool false)], args := [d1, d2, d3] }
  | _ => none }
def TopTripleWrongFalsely : Prop := topTripleRow.holds Try.pinned (OpenSpec.ofChange topTripleWrong)

/-- 'stonetop.TopKeys': WHATEVER THE INPUT: true; the input reads as it did. -/
def topKeysSpec : ChangeSpec := { name := "topKeys", fn := fun _ => fun
  | [d1, d2, d3] => { results := [.lit (.bool true)], args := [d1, d2, d3] }
  | _ => none }
def topKeysRow : OpenClaim := { program := "ytmijjjdedadklae", sum := "814123136592812f876692a29ca610987e2e2acd00d6fbc43fa8a4b3f77757ed", func := "pairstone/stonetop.TopKeys", spec := "topKeys", apart := false }
def TopKeysSaid : Prop := topKeysRow.holds Try.pinned (OpenSpec.ofChange topKeysSpec)

/-- ITS FALSE NEIGHBOUR: 'it returns false'. Refute it at one input. -/
def topKeysWrong : ChangeSpec := { name := "topKeys", fn := fun _ => fun
  | [d1, d2, d3] => { results := [.lit (.bool false)], args := [d1, d2, d3] }
  | _ => none }
def TopKeysWrongFalsely : Prop := topKeysRow.holds Try.pinned (OpenSpec.ofChange topKeysWrong)

/-- 'stonelaw2.ShortJoins': WHATEVER THE INPUT: true; the input reads as it did. -/
def shortJoinsSpec : ChangeSpec := { name := "shortJoins", fn := fun _ => fun
  | [d1, d2, d3] => { results := [.lit (.bool true)], args := [d1, d2, d3] }
  | _ => none }
def shortJoinsRow : OpenClaim := { program := "ytmijjjdedadklae", sum := "814123136592812f876692a29ca610987e2e2acd00d6fbc43fa8a4b3f77757ed", func := "pairstone/stonelaw2.ShortJoins", spec := "shortJoins", apart := false }
def ShortJoinsSaid : Prop := shortJoinsRow.holds Try.pinned (OpenSpec.ofChange shortJoinsSpec)

/-- ITS FALSE NEIGHBOUR: 'it returns false'. Refute it at one input. -/
def shortJoinsWrong : ChangeSpec := { name := "shortJoins", fn := fun _ => fun
  | [d1, d2, d3] => { results := [.lit (.bool false)], args := [d1, d2, d3] }
  | _ => none }
def ShortJoinsWrongFalsely : Prop := shortJoinsRow.holds Try.pinned (OpenSpec.ofChange shortJoinsWrong)

/-- 'stonelaw4.ShortOne': WHATEVER THE INPUT: true; the input reads as it did. -/
def shortOneSpec : ChangeSpec := { name := "shortOne", fn := fun _ => fun
  | [d1, d2, d3] => { results := [.lit (.bool true)], args := [d1, d2, d3] }
  | _ => none }
def shortOneRow : OpenClaim := { program := "ytmijjjdedadklae", sum := "814123136592812f876692a29ca610987e2e2acd00d6fbc43fa8a4b3f77757ed", func := "pairstone/stonelaw4.ShortOne", spec := "shortOne", apart := false }
def ShortOneSaid : Prop := shortOneRow.holds Try.pinned (OpenSpec.ofChange shortOneSpec)

/-- ITS FALSE NEIGHBOUR: 'it returns false'. Refute it at one input. -/
def shortOneWrong : ChangeSpec := { name := "shortOne", fn := fun _ => fun
  | [d1, d2, d3] => { results := [.lit (.bool false)], args := [d1, d2, d3] }
  | _ => none }
def ShortOneWrongFalsely : Prop := shortOneRow.holds Try.pinned (OpenSpec.ofChange shortOneWrong)

/- THE SECOND FORM. 'bulk': how many values and letters a reading holds, each counted each time it is reached (what is shared counts as often as it is met; a slice's spare places count too). A statement '..UptoSaid' is the law's where the arguments, and the package variables that the reading takes, are together of bulk at most 1048576: NARROWER than '..Said'. Prove '..Said' where nothing that the law and all that it calls make is longer than what came in: it says more and counts as full. Else prove '..UptoSaid'. A law counts once. -/
mutual
def uptoBulk {H : Type} : DataW H → Nat
  | .lit (.string bytes) => bytes.length + 1
  | .lit _ => 1
  | .nil => 1
  | .ptr d => uptoBulk d + 1
  | .slice elems spare => uptoBulkAll elems + uptoBulkAll spare + 1
  | .agg parts => uptoBulkAll parts + 1
  | .iface _ d => uptoBulk d + 1
  | .map entries => uptoBulkEntries entries + 1
  | .held _ => 1
def uptoBulkAll {H : Type} : List (DataW H) → Nat
  | [] => 0
  | d :: r => uptoBulk d + uptoBulkAll r
def uptoBulkEntries {H : Type} : List (Lit × DataW H) → Nat
  | [] => 0
  | x :: r => uptoBulkEntry x + uptoBulkEntries r
def uptoBulkEntry {H : Type} : Lit × DataW H → Nat
  | (.string bytes, d) => bytes.length + uptoBulk d + 1
  | (_, d) => uptoBulk d + 1
 end
def uptoSmall : (H : Type) → List (DataW H) → Bool := fun _ ds => decide (uptoBulkAll ds ≤ 1048576)
def OpenSpec.upto (s : _root_.Go.ChangeSpec) : _root_.Go.OpenSpec := { _root_.Go.OpenSpec.ofChange s with cond := some uptoSmall }

/-- 'stonelaw4.SealKeys', WHERE WHAT IT READS IS OF BULK AT MOST 1048576: true; the input reads as it did. -/
def sealKeysUptoRow : OpenClaim := { program := "ytmijjjdedadklae", sum := "814123136592812f876692a29ca610987e2e2acd00d6fbc43fa8a4b3f77757ed", func := "pairstone/stonelaw4.SealKeys", spec := "sealKeys", apart := false, narrowed := true }
def SealKeysUptoSaid : Prop := sealKeysUptoRow.holds Try.pinned (OpenSpec.upto sealKeysSpec)

/-- 'stonetop.TopTriple', WHERE WHAT IT READS IS OF BULK AT MOST 1048576: true; the input reads as it did. -/
def topTripleUptoRow : OpenClaim := { program := "ytmijjjdedadklae", sum := "814123136592812f876692a29ca610987e2e2acd00d6fbc43fa8a4b3f77757ed", func := "pairstone/stonetop.TopTriple", spec := "topTriple", apart := false, narrowed := true }
def TopTripleUptoSaid : Prop := topTripleUptoRow.holds Try.pinned (OpenSpec.upto topTripleSpec)

/-- 'stonetop.TopKeys', WHERE WHAT IT READS IS OF BULK AT MOST 1048576: true; the input reads as it did. -/
def topKeysUptoRow : OpenClaim := { program := "ytmijjjdedadklae", sum := "814123136592812f876692a29ca610987e2e2acd00d6fbc43fa8a4b3f77757ed", func := "pairstone/stonetop.TopKeys", spec := "topKeys", apart := false, narrowed := true }
def TopKeysUptoSaid : Prop := topKeysUptoRow.holds Try.pinned (OpenSpec.upto topKeysSpec)

/-- 'stonelaw2.ShortJoins', WHERE WHAT IT READS IS OF BULK AT MOST 1048576: true; the input reads as it did. -/
def shortJoinsUptoRow : OpenClaim := { program := "ytmijjjdedadklae", sum := "814123136592812f876692a29ca610987e2e2acd00d6fbc43fa8a4b3f77757ed", func := "pairstone/stonelaw2.ShortJoins", spec := "shortJoins", apart := false, narrowed := true }
def ShortJoinsUptoSaid : Prop := shortJoinsUptoRow.holds Try.pinned (OpenSpec.upto shortJoinsSpec)

/-- 'stonelaw4.ShortOne', WHERE WHAT IT READS IS OF BULK AT MOST 1048576: true; the input reads as it did. -/
def shortOneUptoRow : OpenClaim := { program := "ytmijjjdedadklae", sum := "814123136592812f876692a29ca610987e2e2acd00d6fbc43fa8a4b3f77757ed", func := "pairstone/stonelaw4.ShortOne", spec := "shortOne", apart := false, narrowed := true }
def ShortOneUptoSaid : Prop := shortOneUptoRow.holds Try.pinned (OpenSpec.upto shortOneSpec)

end Rows
end Go.Proofs.Ytmijjjdedadklae
