/- What the plain reckoning of shares (stoneref2: Value, Places, Weights) answers. -/
import Derived.Test.YtkhpmnehjifdcagShareMore
import Derived.Test.YtkhpmnehjifdcagRef
import Derived.Test.YtkhpmnehjifdcagOwn
import Derived.Test.YtkhpmnehjifdcagMem
import Derived.BigQuiet
namespace Go.Proofs.Ytkhpmnehjifdcag
open Go.RowKit Go.Sort
set_option linter.unusedVariables false
set_option linter.unusedSimpArgs false
theorem row_int {w W : World} {b o n : Nat} {X : Nat → Int} (h : RowI w b o n X) (k : Below w.heap.size w W) {i : Nat} (hi : i < n) : W.cell? ⟨b, o + i, none⟩ = some (.int .i64 (X i)) := (h.below h.1 k).2 i hi
theorem iinfo : (Try.prog.info? 3).map (fun i => (i.zero, i.size, i.bytes)) = some (some (.int .i64 0), 1, 8) := by kernel_rfl
end Go.Proofs.Ytkhpmnehjifdcag
