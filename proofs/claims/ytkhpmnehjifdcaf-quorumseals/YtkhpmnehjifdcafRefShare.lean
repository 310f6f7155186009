/- What the plain reckoning of shares (stoneref2: Value, Places, Weights) answers. -/
import Derived.Test.YtkhpmnehjifdcafShareMore
import Derived.Test.YtkhpmnehjifdcafRef
import Derived.Test.YtkhpmnehjifdcafOwn
import Derived.Test.YtkhpmnehjifdcafMem
import Derived.BigQuiet
namespace Go.Proofs.Ytkhpmnehjifdcaf
open Go.RowKit Go.Sort
set_option linter.unusedVariables false
set_option linter.unusedSimpArgs false
theorem row_int {w W : World} {b o n : Nat} {X : Nat → Int} (h : RowI w b o n X) (k : Below w.heap.size w W) {i : Nat} (hi : i < n) : W.cell? ⟨b, o + i, none⟩ = some (.int .i64 (X i)) := (h.below h.1 k).2 i hi
theorem iinfo : (Try.prog.info? 3).map (fun i => (i.zero, i.size, i.bytes)) = some (some (.int .i64 0), 1, 8) := by kernel_rfl
theorem rturn_q {a : QF} (h : a ≠ 0) (w : World) : Calls Try.prog 11 #[.int .i64 (vI a), .int .i64 1013] w fun e w' => e = .returned (.int .i64 (vI (ivq a))) ∧ w' = w :=
  turn_any 1013 (vI a) (vI (ivq a)) w (by omega) (by omega) (vI_lo a) (by have := vI_hi a; omega) 40 (qturn_start h) (vI_lo _)
end Go.Proofs.Ytkhpmnehjifdcaf
