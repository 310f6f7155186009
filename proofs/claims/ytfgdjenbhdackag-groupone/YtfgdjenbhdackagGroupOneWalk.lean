/- Proved: stonelaw4.GroupOne answers true for every two numbers and every text: who signs alone in a group signs with a key that is its own, so many times. No condition stands behind it. -/
import Derived.Test.YtfgdjenbhdackagGroupOneBy
import Derived.Test.YtfgdjenbhdackagGroup
namespace Go.Proofs.Ytfgdjenbhdackag
open Go.RowKit Go.Sort
set_option linter.unusedVariables false
theorem walkGroupOne (w : World) (x k : Int) (t : ByteArray) (hx : (Lit.int .i64 x).wf = true) (hk : (Lit.int .i64 k).wf = true) (ht : t.size ≤ maxLen) :
    Calls Try.prog 5 #[.int .i64 x, .int .i64 k, .string t] w fun e w' => e = .returned (.bool true) ∧ Below w.heap.size w w' :=
  groupOne_by coefs_is joint_is gsign_is w x k t hx hk ht
end Go.Proofs.Ytfgdjenbhdackag
