/- Proved: stonelaw2.HideAny answers true for every four numbers: what is hidden could hide any other value, by some other number; two that are hidden, added, hide the sum; and each opens by what it was hidden. No condition stands behind it. -/
import Derived.Test.YtfpjdalfmfhomagHideAnyBy
import Derived.Test.YtfpjdalfmfhomagHide
namespace Go.Proofs.Ytfpjdalfmfhomag
open Go.RowKit Go.Sort
set_option linter.unusedVariables false
theorem walkHideAny (w : World) (v r u s : Int) (wv : (Lit.int .i64 v).wf = true) (wr : (Lit.int .i64 r).wf = true) (wu : (Lit.int .i64 u).wf = true) (ws : (Lit.int .i64 s).wf = true) :
    Calls Try.prog 6 #[.int .i64 v, .int .i64 r, .int .i64 u, .int .i64 s] w fun e w' => e = .returned (.bool true) ∧ Below w.heap.size w w' :=
  hideAny_by hide_is open_is find_is w v r u s wv wr wu ws
end Go.Proofs.Ytfpjdalfmfhomag
