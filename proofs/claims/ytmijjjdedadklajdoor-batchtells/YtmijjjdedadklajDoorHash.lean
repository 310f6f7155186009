/- The spot of any text, as package hash answers it; nothing that was there is turned. -/
import Derived.Test.YtmijjjdedadklajDoorHashMath
import Derived.Test.YtmijjjdedadklajDoorHashLong
import Derived.Test.YtmijjjdedadklajDoorTimesOrd
namespace Go.Proofs.YtmijjjdedadklajDoor
open Go.RowKit Go.Sort
set_option linter.unusedVariables false
set_option linter.unusedSimpArgs false
end Go.Proofs.YtmijjjdedadklajDoor
