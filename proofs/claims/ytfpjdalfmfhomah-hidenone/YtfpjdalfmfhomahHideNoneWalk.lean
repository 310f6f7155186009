/- Proved: stonelaw4.HideNone answers true for every number: what is hidden is far just if its number undoes its value. No condition stands behind it. -/
import Derived.Test.YtfpjdalfmfhomahHideAnyBy
import Derived.Test.YtfpjdalfmfhomahHide
namespace Go.Proofs.Ytfpjdalfmfhomah
open Go.RowKit Go.Sort
set_option linter.unusedVariables false
theorem walkHideNone (w : World) (v : Int) (wv : (Lit.int .i64 v).wf = true) :
    Calls Try.prog 3 #[.int .i64 v] w fun e w' => e = .returned (.bool true) ∧ Below w.heap.size w w' :=
  hideNone_by second_is hide_is find_is w v wv
end Go.Proofs.Ytfpjdalfmfhomah
