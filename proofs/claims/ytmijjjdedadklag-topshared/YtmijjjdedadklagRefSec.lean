/- What the plain reckoning (stoneref2: Secret, Rest) says of a number. -/
import Derived.Test.YtmijjjdedadklagRef
import Derived.Test.YtmijjjdedadklagMem
namespace Go.Proofs.Ytmijjjdedadklag
open Go.RowKit Go.Sort
set_option linter.unusedVariables false
set_option linter.unusedSimpArgs false
/-- May a number be a secret? -/
def secB (n : Int) : Bool := decide (1 ≤ n ∧ n < 1013)
def resB (n : Int) : Bool := decide (0 ≤ n ∧ n < 1013)
end Go.Proofs.Ytmijjjdedadklag
