/- Proved: stonelaw4.ShareSums answers true for every two lists of coefficients and every number: of two secrets, split alike, shares added place by place tell the sum. No condition stands behind it. -/
import Derived.Test.YtmnhnldnnmpkcafShareSumsBy
import Derived.Test.YtmnhnldnnmpkcafShare
namespace Go.Proofs.Ytmnhnldnnmpkcaf
open Go.RowKit Go.Sort
set_option linter.unusedVariables false
theorem walkShareSums (w : World) (sa : Option Addr) (m da : Nat) (sb : Option Addr) (p db : Nat) (z : Int) (hm : m ≤ maxLen) (uA : m = 0 ∨ ∃ (b o : Nat) (X : Nat → Int), sa = some ⟨b, o, none⟩ ∧ RowI w b o m X ∧ ∀ i, i < m → (Lit.int .i64 (X i)).wf = true) (hp : p ≤ maxLen) (uB : p = 0 ∨ ∃ (b o : Nat) (X : Nat → Int), sb = some ⟨b, o, none⟩ ∧ RowI w b o p X ∧ ∀ i, i < p → (Lit.int .i64 (X i)).wf = true) (hz : (Lit.int .i64 z).wf = true) :
    Calls Try.prog 4 #[.slice sa m da, .slice sb p db, .int .i64 z] w fun e w' => e = .returned (.bool true) ∧ Below w.heap.size w w' :=
  shareSums_by split_is weights_is combine_is w sa m da sb p db z hm uA hp uB hz
end Go.Proofs.Ytmnhnldnnmpkcaf
