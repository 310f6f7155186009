/- The spot of any text, as package hash answers it; nothing that was there is turned. -/
import Derived.Test.YtfgdjenbhdackagDoorHashMath
import Derived.Test.YtfgdjenbhdackagDoorHashLong
import Derived.Test.YtfgdjenbhdackagDoorTimesOrd
namespace Go.Proofs.YtfgdjenbhdackagDoor
open Go.RowKit Go.Sort
set_option linter.unusedVariables false
set_option linter.unusedSimpArgs false
end Go.Proofs.YtfgdjenbhdackagDoor
