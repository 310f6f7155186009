/- The spot of any text, as package hash answers it; nothing that was there is turned. -/
import Derived.Test.YtmijjjdedadkladDoorHashMath
import Derived.Test.YtmijjjdedadkladDoorHashLong
import Derived.Test.YtmijjjdedadkladDoorTimesOrd
namespace Go.Proofs.YtmijjjdedadkladDoor
open Go.RowKit Go.Sort
set_option linter.unusedVariables false
set_option linter.unusedSimpArgs false
end Go.Proofs.YtmijjjdedadkladDoor
