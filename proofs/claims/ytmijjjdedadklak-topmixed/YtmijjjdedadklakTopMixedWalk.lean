/- Proved: stonetop.TopMixed answers true for every three numbers and every two texts: a seal of one, one of a group, and one that was filled with a secret are right all at once. No condition stands behind it. -/
import Derived.Test.YtmijjjdedadklakTopMixedBy
import Derived.Test.YtmijjjdedadklakBatch
import Derived.Test.YtmijjjdedadklakGroup
import Derived.Test.YtmijjjdedadklakAdapt
namespace Go.Proofs.Ytmijjjdedadklak
open Go.RowKit Go.Sort
set_option linter.unusedVariables false
theorem walkTopMixed (w : World) (x k n : Int) (t u : ByteArray) (wx : (Lit.int .i64 x).wf = true) (wk : (Lit.int .i64 k).wf = true) (wn : (Lit.int .i64 n).wf = true) (ht : t.size ≤ maxLen) (hu : u.size ≤ maxLen) :
    Calls Try.prog 3 #[.int .i64 x, .int .i64 k, .int .i64 n, .string t, .string u] w fun e w' => e = .returned (.bool true) ∧ Below w.heap.size w w' :=
  topMixed_by gsign_is joint_is apre_is afill_is bverify_is bwrong_is w x k n t u wx wk wn ht hu
end Go.Proofs.Ytmijjjdedadklak
