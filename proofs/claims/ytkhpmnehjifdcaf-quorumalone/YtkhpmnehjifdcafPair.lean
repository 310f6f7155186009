/- What pair.checkAll and pair.Pair answer: of two that count, one number to the power of both; else the fault. -/
import Derived.Test.YtkhpmnehjifdcafPairGone
namespace Go.Proofs.Ytkhpmnehjifdcaf
open Go.RowKit Go.Sort
set_option linter.unusedVariables false
set_option linter.unusedSimpArgs false
end Go.Proofs.Ytkhpmnehjifdcaf
