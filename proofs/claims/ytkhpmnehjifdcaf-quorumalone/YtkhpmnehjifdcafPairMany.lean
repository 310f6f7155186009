/- What pair.Same and pair.Product answer, by what pair.Pair answers of each two. -/
import Derived.Test.YtkhpmnehjifdcafPair
import Derived.Test.YtkhpmnehjifdcafStay
import Derived.Deep.RegionHeld3
namespace Go.Proofs.Ytkhpmnehjifdcaf
open Go.RowKit Go.Sort
set_option linter.unusedVariables false
set_option linter.unusedSimpArgs false
/-- The product of so many. -/
def prodN (P : Nat → Int × Int) : Nat → Int × Int
  | 0 => (1, 0)
  | k + 1 => tm (prodN P k) (P k)
theorem row_at {w W : World} {b o n : Nat} {X Y : Nat → Int} {F : Nat → Bool} (h : RowO w b o n X Y F) (k : Below w.heap.size w W) {i : Nat} (hi : i < n) :
    W.cell? ⟨b, o + i * 3, none⟩ = some (.int .i64 (X i)) ∧ W.cell? ⟨b, o + i * 3 + 1, none⟩ = some (.int .i64 (Y i)) ∧ W.cell? ⟨b, o + i * 3 + 2, none⟩ = some (.bool (F i)) := (h.below h.1 k).2 i hi
end Go.Proofs.Ytkhpmnehjifdcaf
