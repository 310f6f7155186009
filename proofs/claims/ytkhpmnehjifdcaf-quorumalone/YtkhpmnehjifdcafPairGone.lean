/- What pair.gone answers: the lines by which 1013 times the first came about. -/
import Derived.Test.YtkhpmnehjifdcafPairStep
import Derived.Deep.CutRange
import Derived.Test.YtkhpmnehjifdcafGate
namespace Go.Proofs.Ytkhpmnehjifdcaf
open Go.RowKit Go.Sort
set_option linter.unusedVariables false
set_option linter.unusedSimpArgs false
theorem below_lt {W w1 : World} (hb : Below W.heap.size W w1) : ∀ b, b < W.heap.size → b < w1.heap.size := fun b h => Nat.lt_of_lt_of_le h hb.size
theorem below_ne {W w1 : World} (hb : Below W.heap.size W w1) : ∀ b, b < W.heap.size → (b = w1.heap.size) = False := fun b h => eq_false (Nat.ne_of_lt (below_lt hb b h))
theorem below_ne2 {W w1 : World} (hb : Below W.heap.size W w1) : ∀ b, b < W.heap.size → (w1.heap.size = b) = False := fun b h => eq_false (Nat.ne_of_gt (below_lt hb b h))
theorem len_Q (w : World) : Calls Try.prog 52 #[.int .u64 1013] w fun e w' => e = .returned (.int .i64 10) ∧ w' = w := by
  have := len_small 1013 w (by omega) (by omega)
  rwa [show ((Lib.bitLen (1013 : Int).toNat : Nat) : Int) = 10 by decide] at this
end Go.Proofs.Ytkhpmnehjifdcaf
