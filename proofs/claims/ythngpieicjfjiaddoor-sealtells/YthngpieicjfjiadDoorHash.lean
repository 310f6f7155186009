/- The spot of any text, as package hash answers it; nothing that was there is turned. -/
import Derived.Test.YthngpieicjfjiadDoorHashMath
import Derived.Test.YthngpieicjfjiadDoorHashLong
import Derived.Test.YthngpieicjfjiadDoorTimesOrd
namespace Go.Proofs.YthngpieicjfjiadDoor
open Go.RowKit Go.Sort
set_option linter.unusedVariables false
set_option linter.unusedSimpArgs false
end Go.Proofs.YthngpieicjfjiadDoor
