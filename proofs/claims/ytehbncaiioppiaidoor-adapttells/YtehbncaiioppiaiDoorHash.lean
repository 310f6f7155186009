/- The spot of any text, as package hash answers it; nothing that was there is turned. -/
import Derived.Test.YtehbncaiioppiaiDoorHashMath
import Derived.Test.YtehbncaiioppiaiDoorHashLong
import Derived.Test.YtehbncaiioppiaiDoorTimesOrd
namespace Go.Proofs.YtehbncaiioppiaiDoor
open Go.RowKit Go.Sort
set_option linter.unusedVariables false
set_option linter.unusedSimpArgs false
end Go.Proofs.YtehbncaiioppiaiDoor
