/- The spot of any text, as package hash answers it; nothing that was there is turned. -/
import Derived.Test.YtjdlfkjeblcahahDoorHashMath
import Derived.Test.YtjdlfkjeblcahahDoorHashLong
import Derived.Test.YtjdlfkjeblcahahDoorTimesOrd
namespace Go.Proofs.YtjdlfkjeblcahahDoor
open Go.RowKit Go.Sort
set_option linter.unusedVariables false
set_option linter.unusedSimpArgs false
end Go.Proofs.YtjdlfkjeblcahahDoor
