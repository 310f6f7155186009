/- What curve.CheckAll and bytes.List answer of so many spots that lie in a row, from whatever place on. -/
import Derived.Test.YtmijjjdedadkladDoorBytes
import Derived.Test.YtmijjjdedadkladDoorBuilder
import Derived.Test.YtmijjjdedadkladDoorStay
import Derived.Test.YtmijjjdedadkladDoorRowE
namespace Go.Proofs.YtmijjjdedadkladDoor
open Go.RowKit Go.Sort
set_option linter.unusedVariables false
set_option linter.unusedSimpArgs false
end Go.Proofs.YtmijjjdedadkladDoor
