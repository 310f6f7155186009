/- Proved: stonelaw4.AdaptNone answers true for every three numbers and every text: seals of unlike spots do not go together; of one and itself it is 0. No condition stands behind it. -/
import Derived.Test.YtehbncaiioppiaiDoorAdaptNoneBy
import Derived.Test.YtehbncaiioppiaiDoorAdapt
namespace Go.Proofs.YtehbncaiioppiaiDoor
open Go.RowKit Go.Sort
set_option linter.unusedVariables false
theorem walkAdaptNone (w : World) (x k m : Int) (t : ByteArray) (_ : (Lit.int .i64 x).wf = true) (_ : (Lit.int .i64 k).wf = true) (_ : (Lit.int .i64 m).wf = true) (ht : t.size ≤ maxLen) (hd : Door w) :
    Calls Tryd.prog 5 #[.int .i64 x, .int .i64 k, .int .i64 m, .string t] w fun e w' => e = .returned (.bool true) ∧ Below w.heap.size w w' :=
  adaptNone_by afill_is afind_is w x k m t ht hd
end Go.Proofs.YtehbncaiioppiaiDoor
