/- What the plain reckoning of shares (stoneref2: Value, Places, Weights) answers. -/
import Derived.Test.YtmijjjdedadklagShareMore
import Derived.Test.YtmijjjdedadklagRef
import Derived.Test.YtmijjjdedadklagOwn
import Derived.Test.YtmijjjdedadklagMem
import Derived.BigQuiet
namespace Go.Proofs.Ytmijjjdedadklag
open Go.RowKit Go.Sort
set_option linter.unusedVariables false
set_option linter.unusedSimpArgs false
theorem row_int {w W : World} {b o n : Nat} {X : Nat → Int} (h : RowI w b o n X) (k : Below w.heap.size w W) {i : Nat} (hi : i < n) : W.cell? ⟨b, o + i, none⟩ = some (.int .i64 (X i)) := (h.below h.1 k).2 i hi
theorem iinfo : (Try.prog.info? 3).map (fun i => (i.zero, i.size, i.bytes)) = some (some (.int .i64 0), 1, 8) := by kernel_rfl
/-- It gives so many ints, in a row of its own. -/
def GivesI (w : World) (n : Nat) (X : Nat → Int) (e : Ending) (w' : World) : Prop := ∃ v, e = .returned v ∧ w'.ownsRow w.heap.size 3 1 v n (cellsI X n) ∧ Below w.heap.size w w'
theorem GivesI.mk {w w' : World} {n : Nat} {X : Nat → Int} {v : Value} (h : w'.ownsRow w.heap.size 3 1 v n (cellsI X n)) (hb : Below w.heap.size w w') : GivesI w n X (.returned v) w' := ⟨v, rfl, h, hb⟩
end Go.Proofs.Ytmijjjdedadklag
