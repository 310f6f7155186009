/- Proved: stonelaw4.RingWrong answers true for every three numbers and every text: with a number that is not that of the key at the place it is told. No condition stands behind it. -/
import Derived.Test.YtiddfngopoednaiDoorRingWrongBy
import Derived.Test.YtiddfngopoednaiDoorRing
namespace Go.Proofs.YtiddfngopoednaiDoor
open Go.RowKit Go.Sort
set_option linter.unusedVariables false
theorem walkRingWrong (w : World) (x y k : Int) (t : ByteArray) (_ : (Lit.int .i64 x).wf = true) (_ : (Lit.int .i64 y).wf = true) (_ : (Lit.int .i64 k).wf = true) (ht : t.size ≤ maxLen) (hd : Door w) :
    Calls Tryd.prog 3 #[.int .i64 x, .int .i64 y, .int .i64 k, .string t] w fun e w' => e = .returned (.bool true) ∧ Below w.heap.size w w' :=
  ringWrong_by rsign_is rverify_is w x y k t ht hd
end Go.Proofs.YtiddfngopoednaiDoor
