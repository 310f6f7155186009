/-
  No cell of these rows narrows 'for every input' (looked for: loops, veiled, ifaces, maps, wideKeys, modest, calm, conditions, laid).
  DERIVED. THE GIVEN ROWS OF THIS SEAT. 3 by the template 'for every input the law returns true; each argument reads behind the call as it read before'; 0 by the template 'total and deterministic' (their statements: YtnlafaikbdjopabTotals.lean).
  GIVEN WITH THE SEED: the statements are not yours to turn. If you find one false, say at which input.
  Laid BY PROGRAM, IN A SANDBOX (cutbox-rows.mjs): the forced cells as the released guide's own fill.sh prints them over the translation 2cf8946cac11d6c2… (all of the seat's roots in one cut). By AI agents, Wed Nov 11 2026. No macro, syntax, notation, axiom, sorry.
-/
import Derived.Test.YtnlafaikbdjopabChecked
import GoSem.Claim
import GoSem.ClaimJoined
import GoSem.ClaimMapViews
import Derived.JoinedTies
import Derived.KernelRfl
namespace Go.Proofs.Ytnlafaikbdjopab
/- THE CELL 'sum', in the pinned program and in every row, IS THE sha256 OF THE DUMP (.gsa) THAT YtnlafaikbdjopabProg.lean LOADS. Nothing in Lean hashes anything: it is a label: what it is worth is what the hold of that sum in a sandbox is worth. -/
noncomputable def Try.pinned : Pinned := { name := "ytnlafaikbdjopab", sum := "2cf8946cac11d6c2ada32ca4195fde66c7034b0e16f6633916e9c05b23c34f1c", checked := Try.checked }
namespace Rows
def none {H : Type} : Left H := { results := [], args := [] }

/-- 'stonelaw4.TwinPowers': WHATEVER THE INPUT: true; the input reads as it did. -/
def twinPowersSpec : ChangeSpec := { name := "twinPowers", fn := fun _ => fun
  | [d1, d2, d3] => { results := [.lit (.bool true)], args := [d1, d2, d3] }
  | _ => none }
def twinPowersRow : OpenClaim := { program := "ytnlafaikbdjopab", sum := "2cf8946cac11d6c2ada32ca4195fde66c7034b0e16f6633916e9c05b23c34f1c", func := "pairstone/stonelaw4.TwinPowers", spec := "twinPowers", apart := false }
def TwinPowersSaid : Prop := twinPowersRow.holds Try.pinned (OpenSpec.ofChange twinPowersSpec)

/-- ITS FALSE NEIGHBOUR: 'it returns false'. Refute it at one input. -/
def twinPowersWrong : ChangeSpec := { name := "twinPowers", fn := fun _ => fun
  | [d1, d2, d3] => { results := [.lit (.bool false)], args := [d1, d2, d3] }
  | _ => none }
def TwinPowersWrongFalsely : Prop := twinPowersRow.holds Try.pinned (OpenSpec.ofChange twinPowersWrong)

/-- 'stonelaw1.CurveHolds': WHATEVER THE INPUT: true; the input reads as it did. -/
def curveHoldsSpec : ChangeSpec := { name := "curveHolds", fn := fun _ => fun
  | [d1, d2, d3] => { results := [.lit (.bool true)], args := [d1, d2, d3] }
  | _ => none }
def curveHoldsRow : OpenClaim := { program := "ytnlafaikbdjopab", sum := "2cf8946cac11d6c2ada32ca4195fde66c7034b0e16f6633916e9c05b23c34f1c", func := "pairstone/stonelaw1.CurveHolds", spec := "curveHolds", apart := false }
def CurveHoldsSaid : Prop := curveHoldsRow.holds Try.pinned (OpenSpec.ofChange curveHoldsSpec)

/-- ITS FALSE NEIGHBOUR: 'it returns false'. Refute it at one input. -/
def curveHoldsWrong : ChangeSpec := { name := "curveHolds", fn := fun _ => fun
  | [d1, d2, d3] => { results := [.lit (.bool false)], args := [d1, d2, d3] }
  | _ => none }
def CurveHoldsWrongFalsely : Prop := curveHoldsRow.holds Try.pinned (OpenSpec.ofChange curveHoldsWrong)

/-- 'stonelaw1.TimesHold': WHATEVER THE INPUT: true; the input reads as it did. -/
def timesHoldSpec : ChangeSpec := { name := "timesHold", fn := fun _ => fun
  | [d1, d2, d3, d4] => { results := [.lit (.bool true)], args := [d1, d2, d3, d4] }
  | _ => none }
def timesHoldRow : OpenClaim := { program := "ytnlafaikbdjopab", sum := "2cf8946cac11d6c2ada32ca4195fde66c7034b0e16f6633916e9c05b23c34f1c", func := "pairstone/stonelaw1.TimesHold", spec := "timesHold", apart := false }
def TimesHoldSaid : Prop := timesHoldRow.holds Try.pinned (OpenSpec.ofChange timesHoldSpec)

/-- ITS FALSE NEIGHBOUR: 'it returns false'. Refute it at one input. -/
def timesHoldWrong : ChangeSpec := { name := "timesHold", fn := fun _ => fun
  | [d1, d2, d3, d4] => { results := [.lit (.bool false)], args := [d1, d2, d3, d4] }
  | _ => none }
def TimesHoldWrongFalsely : Prop := timesHoldRow.holds Try.pinned (OpenSpec.ofChange timesHoldWrong)

/- THE SECOND FORM. 'bulk': how many values and letters a reading holds, each counted each time it is reached (what is shared counts as often as it is met; a slice's spare places count too). A statement '..UptoSaid' is the law's where the arguments, and the package variables that the reading takes, are together of bulk at most 1048576: NARROWER than '..Said'. Prove '..Said' where nothing that the law and all that it calls make is longer than what came in: it says more and counts as full. Else prove '..UptoSaid'. A law counts once. -/
mutual
def uptoBulk {H : Type} : DataW H → Nat
  | .lit (.string bytes) => bytes.length + 1
  | .lit _ => 1
  | .nil => 1
  | .ptr d => uptoBulk d + 1
  | .slice elems spare => uptoBulkAll elems + uptoBulkAll spare + 1
  | .agg parts => uptoBulkAll parts + 1
  | .iface _ d => uptoBulk d + 1
  | .map entries => uptoBulkEntries entries + 1
  | .held _ => 1
def uptoBulkAll {H : Type} : List (DataW H) → Nat
  | [] => 0
  | d :: r => uptoBulk d + uptoBulkAll r
def uptoBulkEntries {H : Type} : List (Lit × DataW H) → Nat
  | [] => 0
  | x :: r => uptoBulkEntry x + uptoBulkEntries r
def uptoBulkEntry {H : Type} : Lit × DataW H → Nat
  | (.string bytes, d) => bytes.length + uptoBulk d + 1
  | (_, d) => uptoBulk d + 1
 end
def uptoSmall : (H : Type) → List (DataW H) → Bool := fun _ ds => decide (uptoBulkAll ds ≤ 1048576)
def OpenSpec.upto (s : _root_.Go.ChangeSpec) : _root_.Go.OpenSpec := { _root_.Go.OpenSpec.ofChange s with cond := some uptoSmall }

/-- 'stonelaw4.TwinPowers', WHERE WHAT IT READS IS OF BULK AT MOST 1048576: true; the input reads as it did. -/
def twinPowersUptoRow : OpenClaim := { program := "ytnlafaikbdjopab", sum := "2cf8946cac11d6c2ada32ca4195fde66c7034b0e16f6633916e9c05b23c34f1c", func := "pairstone/stonelaw4.TwinPowers", spec := "twinPowers", apart := false, narrowed := true }
def TwinPowersUptoSaid : Prop := twinPowersUptoRow.holds Try.pinned (OpenSpec.upto twinPowersSpec)

/-- 'stonelaw1.CurveHolds', WHERE WHAT IT READS IS OF BULK AT MOST 1048576: true; the input reads as it did. -/
def curveHoldsUptoRow : OpenClaim := { program := "ytnlafaikbdjopab", sum := "2cf8946cac11d6c2ada32ca4195fde66c7034b0e16f6633916e9c05b23c34f1c", func := "pairstone/stonelaw1.CurveHolds", spec := "curveHolds", apart := false, narrowed := true }
def CurveHoldsUptoSaid : Prop := curveHoldsUptoRow.holds Try.pinned (OpenSpec.upto curveHoldsSpec)

/-- 'stonelaw1.TimesHold', WHERE WHAT IT READS IS OF BULK AT MOST 1048576: true; the input reads as it did. -/
def timesHoldUptoRow : OpenClaim := { program := "ytnlafaikbdjopab", sum := "2cf8946cac11d6c2ada32ca4195fde66c7034b0e16f6633916e9c05b23c34f1c", func := "pairstone/stonelaw1.TimesHold", spec := "timesHold", apart := false, narrowed := true }
def TimesHoldUptoSaid : Prop := timesHoldUptoRow.holds Try.pinned (OpenSpec.upto timesHoldSpec)

end Rows
end Go.Proofs.Ytnlafaikbdjopab
