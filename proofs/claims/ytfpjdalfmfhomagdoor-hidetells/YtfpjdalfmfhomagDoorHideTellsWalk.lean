/- Proved: stonelaw2.HideTells answers true for every two numbers and every spot: any value hidden, whether any opens what is hidden, and by what it is hidden, as the document says. No condition stands behind it. -/
import Derived.Test.YtfpjdalfmfhomagDoorHideTellsBy
import Derived.Test.YtfpjdalfmfhomagDoorHide
namespace Go.Proofs.YtfpjdalfmfhomagDoor
open Go.RowKit Go.Sort
set_option linter.unusedVariables false
theorem walkHideTells (w : World) (v r : Int) (c : Int × Int × Bool) (hv : (Lit.int .i64 v).wf = true) (hr : (Lit.int .i64 r).wf = true) (_ : (Lit.int .i64 c.1).wf = true) (_ : (Lit.int .i64 c.2.1).wf = true) (hd : Door w) :
    Calls Tryd.prog 4 #[.int .i64 v, .int .i64 r, .agg #[.int .i64 c.1, .int .i64 c.2.1, .bool c.2.2]] w fun e w' => e = .returned (.bool true) ∧ Below w.heap.size w w' :=
  hideTells_by second_is hide_is open_is find_is w v r c hv hr hd
end Go.Proofs.YtfpjdalfmfhomagDoor
