/- What the plain reckoning of shares (stoneref2: Value, Places, Weights) answers. -/
import Derived.Test.YtfgdjenbhdackagDoorShareMore
import Derived.Test.YtfgdjenbhdackagDoorRef
import Derived.Test.YtfgdjenbhdackagDoorOwn
import Derived.Test.YtfgdjenbhdackagDoorMem
import Derived.BigQuiet
namespace Go.Proofs.YtfgdjenbhdackagDoor
open Go.RowKit Go.Sort
set_option linter.unusedVariables false
set_option linter.unusedSimpArgs false
theorem row_int {w W : World} {b o n : Nat} {X : Nat → Int} (h : RowI w b o n X) (k : Below w.heap.size w W) {i : Nat} (hi : i < n) : W.cell? ⟨b, o + i, none⟩ = some (.int .i64 (X i)) := (h.below h.1 k).2 i hi
theorem iinfo : (Tryd.prog.info? 3).map (fun i => (i.zero, i.size, i.bytes)) = some (some (.int .i64 0), 1, 8) := by kernel_rfl
/-- It gives so many ints, in a row of its own. -/
def GivesI (w : World) (n : Nat) (X : Nat → Int) (e : Ending) (w' : World) : Prop := ∃ v, e = .returned v ∧ w'.ownsRow w.heap.size 3 1 v n (cellsI X n) ∧ Below w.heap.size w w'
theorem GivesI.mk {w w' : World} {n : Nat} {X : Nat → Int} {v : Value} (h : w'.ownsRow w.heap.size 3 1 v n (cellsI X n)) (hb : Below w.heap.size w w') : GivesI w n X (.returned v) w' := ⟨v, rfl, h, hb⟩
theorem rturn_q {a : QF} (h : a ≠ 0) (w : World) : Calls Tryd.prog 52 #[.int .i64 (vI a), .int .i64 1013] w fun e w' => e = .returned (.int .i64 (vI (ivq a))) ∧ w' = w :=
  turn_any 1013 (vI a) (vI (ivq a)) w (by omega) (by omega) (vI_lo a) (by have := vI_hi a; omega) 40 (qturn_start h) (vI_lo _)
end Go.Proofs.YtfgdjenbhdackagDoor
