/- What pair.Same and pair.Product answer, by what pair.Pair answers of each two. -/
import Derived.Test.YtgngdabfmbipaakGreatDoorKG14
import Derived.Test.YtgngdabfmbipaakGreatDoorKG18
import Derived.Deep.RegionHeld3
namespace Go.Proofs.YtgngdabfmbipaakGreatDoor
open Go.RowKit Go.Sort
set_option linter.unusedVariables false
set_option linter.unusedSimpArgs false
/-- The product of so many. -/
def prodN (P : Nat → Int × Int) : Nat → Int × Int
  | 0 => (1, 0)
  | k + 1 => tm (prodN P k) (P k)
end Go.Proofs.YtgngdabfmbipaakGreatDoor
