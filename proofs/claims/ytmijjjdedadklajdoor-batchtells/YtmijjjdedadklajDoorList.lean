/- What curve.CheckAll and bytes.List answer of so many spots that lie in a row, from whatever place on. -/
import Derived.Test.YtmijjjdedadklajDoorBytes
import Derived.Test.YtmijjjdedadklajDoorBuilder
import Derived.Test.YtmijjjdedadklajDoorStay
import Derived.Test.YtmijjjdedadklajDoorRowE
namespace Go.Proofs.YtmijjjdedadklajDoor
open Go.RowKit Go.Sort
set_option linter.unusedVariables false
set_option linter.unusedSimpArgs false
end Go.Proofs.YtmijjjdedadklajDoor
