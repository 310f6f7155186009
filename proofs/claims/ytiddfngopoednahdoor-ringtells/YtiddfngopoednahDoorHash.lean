/- The spot of any text, as package hash answers it; nothing that was there is turned. -/
import Derived.Test.YtiddfngopoednahDoorHashMath
import Derived.Test.YtiddfngopoednahDoorHashLong
import Derived.Test.YtiddfngopoednahDoorTimesOrd
namespace Go.Proofs.YtiddfngopoednahDoor
open Go.RowKit Go.Sort
set_option linter.unusedVariables false
set_option linter.unusedSimpArgs false
end Go.Proofs.YtiddfngopoednahDoor
