/- Proved: stonelaw2.EqualHolds answers true for every two numbers and every spot: what is proved holds: who proves that two spots are as many times others is told right, of a spot that counts; and they are so. No condition stands behind it. -/
import Derived.Test.YtjdlfkjeblcahahEqualHoldsFin
import Derived.Test.YtjdlfkjeblcahahEqual
namespace Go.Proofs.Ytjdlfkjeblcahah
open Go.RowKit Go.Sort
set_option linter.unusedVariables false
theorem walkEqualHolds (w : World) (x k : Int) (b : Int × Int × Bool) (hx : (Lit.int .i64 x).wf = true) (hk : (Lit.int .i64 k).wf = true) (_ : (Lit.int .i64 b.1).wf = true) (_ : (Lit.int .i64 b.2.1).wf = true) :
    Calls Try.prog 4 #[.int .i64 x, .int .i64 k, .agg #[.int .i64 b.1, .int .i64 b.2.1, .bool b.2.2]] w fun e w' => e = .returned (.bool true) ∧ Below w.heap.size w w' :=
  equalHolds_by prove_is everify_is w x k b hx hk
end Go.Proofs.Ytjdlfkjeblcahah
