/- Proved: stonelaw3.AdaptGives answers true for every four numbers and every text: a seal that lacks a secret is right as such; filled with it, it is a seal that is right, and both tell it; filled with another one it is not. No condition stands behind it. -/
import Derived.Test.YtmijjjdedadklaiAdaptGivesBy
import Derived.Test.YtmijjjdedadklaiAdapt
namespace Go.Proofs.Ytmijjjdedadklai
open Go.RowKit Go.Sort
set_option linter.unusedVariables false
theorem walkAdaptGives (w : World) (x k n m : Int) (t : ByteArray) (_ : (Lit.int .i64 x).wf = true) (_ : (Lit.int .i64 k).wf = true) (_ : (Lit.int .i64 n).wf = true) (wm : (Lit.int .i64 m).wf = true) (ht : t.size ≤ maxLen) :
    Calls Try.prog 3 #[.int .i64 x, .int .i64 k, .int .i64 n, .int .i64 m, .string t] w fun e w' => e = .returned (.bool true) ∧ Below w.heap.size w w' :=
  adaptGives_by apre_is acheck_is afill_is afind_is w x k n m t wm ht
end Go.Proofs.Ytmijjjdedadklai
