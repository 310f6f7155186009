/- What curve.Slope and the lines of package pair answer of so many times one, in whatever memory; nothing that was there is turned. -/
import Derived.Test.YtkhpmnehjifdcafTimesOrd
import Derived.Test.YtkhpmnehjifdcafTwinEq
import Derived.Test.YtkhpmnehjifdcafPairEnd
namespace Go.Proofs.Ytkhpmnehjifdcaf
open Go.RowKit Go.Sort
set_option linter.unusedVariables false
set_option linter.unusedSimpArgs false
end Go.Proofs.Ytkhpmnehjifdcaf
