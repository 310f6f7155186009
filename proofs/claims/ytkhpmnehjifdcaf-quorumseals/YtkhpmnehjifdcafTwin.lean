/- What each function of package twin answers, for all numbers, in whatever memory; nothing that was there is turned. -/
import Derived.Test.YtkhpmnehjifdcafPrime
import Derived.Test.YtkhpmnehjifdcafTwinMath
import Derived.Test.YtkhpmnehjifdcafLast
namespace Go.Proofs.Ytkhpmnehjifdcaf
open Go.RowKit Go.Sort

theorem ret_tw {k : IntKind} {a b c d : Int} (h : a = c) (h2 : b = d) : Ending.returned (.agg #[.int k a, .int k b]) = .returned (.agg #[.int k c, .int k d]) := by rw [h, h2]
end Go.Proofs.Ytkhpmnehjifdcaf
