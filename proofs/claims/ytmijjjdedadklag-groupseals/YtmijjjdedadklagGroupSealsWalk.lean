/- Proved: stonelaw2.GroupSeals answers true for every two lists of numbers, every text and every number: what all sealed together is right by their joint key, and with another number it is not. No condition stands behind it. -/
import Derived.Test.YtmijjjdedadklagGroupSealsBy
import Derived.Test.YtmijjjdedadklagGroup
namespace Go.Proofs.Ytmijjjdedadklag
open Go.RowKit Go.Sort
set_option linter.unusedVariables false
theorem walkGroupSeals (w : World) (sx : Option Addr) (p dx : Nat) (sk : Option Addr) (q dk : Nat) (t : ByteArray) (more : Int)
    (hp : p ≤ maxLen) (uX : (p = 0 ∨ ∃ (b o : Nat) (X : Nat → Int), sx = some ⟨b, o, none⟩ ∧ RowI w b o p X ∧ ∀ i, i < p → (Lit.int .i64 (X i)).wf = true)) (_ : p * 8 ≤ reachBytes) (kx : p ≤ dx) (hq : q ≤ maxLen) (uZ : (q = 0 ∨ ∃ (b o : Nat) (X : Nat → Int), sk = some ⟨b, o, none⟩ ∧ RowI w b o q X ∧ ∀ i, i < q → (Lit.int .i64 (X i)).wf = true)) (_ : q * 8 ≤ reachBytes) (kk : q ≤ dk) (ht : t.size ≤ maxLen) (_ : t.size ≤ reachBytes) (hm : (Lit.int .i64 more).wf = true) :
    Calls Try.prog 4 #[.slice sx p dx, .slice sk q dk, .string t, .int .i64 more] w fun e w' => e = .returned (.bool true) ∧ Below w.heap.size w w' :=
  groupSeals_by joint_is gsign_is w sx p dx sk q dk t more hp uX kx hq uZ kk ht hm
end Go.Proofs.Ytmijjjdedadklag
