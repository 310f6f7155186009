/- Proved: stonelaw2.ShareBack answers true for every list of coefficients, every number, every list of picks and every other secret: any as many shares as there are coefficients, or more, tell the secret; with one less, and one chosen at will, any other secret would do as well. No condition stands behind it. -/
import Derived.Test.YtmnhnldnnmpkcafShareBackBy
import Derived.Test.YtmnhnldnnmpkcafShare
namespace Go.Proofs.Ytmnhnldnnmpkcaf
open Go.RowKit Go.Sort
set_option linter.unusedVariables false
theorem walkShareBack (w : World) (sc : Option Addr) (m dc : Nat) (z : Int) (sp : Option Addr) (q dp : Nat) (y : Int) (hm : m ≤ maxLen) (uC : m = 0 ∨ ∃ (b o : Nat) (X : Nat → Int), sc = some ⟨b, o, none⟩ ∧ RowI w b o m X ∧ ∀ i, i < m → (Lit.int .i64 (X i)).wf = true) (hz : (Lit.int .i64 z).wf = true) (hq : q ≤ maxLen) (uP : q = 0 ∨ ∃ (b o : Nat) (X : Nat → Int), sp = some ⟨b, o, none⟩ ∧ RowI w b o q X ∧ ∀ i, i < q → (Lit.int .i64 (X i)).wf = true) (hy : (Lit.int .i64 y).wf = true) :
    Calls Try.prog 3 #[.slice sc m dc, .int .i64 z, .slice sp q dp, .int .i64 y] w fun e w' => e = .returned (.bool true) ∧ Below w.heap.size w w' :=
  shareBack_by split_is weights_is combine_is w sc m dc z sp q dp y hm uC hz hq uP hy
end Go.Proofs.Ytmnhnldnnmpkcaf
