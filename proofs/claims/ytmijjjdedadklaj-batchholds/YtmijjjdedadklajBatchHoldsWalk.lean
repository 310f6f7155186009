/- Proved: stonelaw3.BatchHolds answers true for every three lists of numbers, every list of texts and every two numbers: seals that are right are right all at once, by whatever weights; with one that is wrong they are not, and it is that one. No condition stands behind it. -/
import Derived.Test.YtmijjjdedadklajBatchHoldsBy
import Derived.Test.YtmijjjdedadklajBatch
namespace Go.Proofs.Ytmijjjdedadklaj
open Go.RowKit Go.Sort
set_option linter.unusedVariables false
theorem walkBatchHolds (w : World) (sx : Option Addr) (n dx : Nat) (sz : Option Addr) (q dz : Nat) (st : Option Addr) (m dt : Nat) (sw : Option Addr) (p dw : Nat) (at_ more : Int)
    (_ : n ≤ maxLen) (uX : n = 0 ∨ ∃ (b o : Nat) (X : Nat → Int), sx = some ⟨b, o, none⟩ ∧ RowI w b o n X ∧ ∀ i, i < n → (Lit.int .i64 (X i)).wf = true) (_ : q ≤ maxLen) (uZ : q = 0 ∨ ∃ (b o : Nat) (X : Nat → Int), sz = some ⟨b, o, none⟩ ∧ RowI w b o q X ∧ ∀ i, i < q → (Lit.int .i64 (X i)).wf = true) (_ : m ≤ maxLen) (uT : m = 0 ∨ ∃ (b o : Nat) (T : Nat → ByteArray), st = some ⟨b, o, none⟩ ∧ RowZ w b o m T ∧ ∀ i, i < m → (T i).size ≤ reachBytes) (_ : p ≤ maxLen) (uW : p = 0 ∨ ∃ (b o : Nat) (X : Nat → Int), sw = some ⟨b, o, none⟩ ∧ RowI w b o p X ∧ ∀ i, i < p → (Lit.int .i64 (X i)).wf = true) (_ : (Lit.int .i64 at_).wf = true) (_ : (Lit.int .i64 more).wf = true) :
    Calls Try.prog 4 #[.slice sx n dx, .slice sz q dz, .slice st m dt, .slice sw p dw, .int .i64 at_, .int .i64 more] w fun e w' => e = .returned (.bool true) ∧ Below w.heap.size w w' :=
  batchHolds_by bverify_is bwrong_is w sx n dx sz q dz st m dt sw p dw at_ more uX uZ uT uW
end Go.Proofs.Ytmijjjdedadklaj
