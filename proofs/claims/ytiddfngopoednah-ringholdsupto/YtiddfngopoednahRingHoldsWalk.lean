/- Proved: stonelaw3.RingHolds answers true for every two lists of numbers, every place, every number and every text that are together of bulk at most 1048576: whoever of the ring seals, it is right. The bound stands behind it: of more than some 10^13 numbers the law's own list of keys has no room. -/
import Derived.Test.YtiddfngopoednahRingHoldsBy
import Derived.Test.YtiddfngopoednahRing
namespace Go.Proofs.Ytiddfngopoednah
open Go.RowKit Go.Sort
set_option linter.unusedVariables false
theorem walkRingHolds (w : World) (sx : Option Addr) (n dx : Nat) (pa kk : Int) (ss : Option Addr) (m ds : Nat) (t : ByteArray)
    (_ : n ≤ maxLen) (uX : (n = 0 ∨ ∃ (b o : Nat) (X : Nat → Int), sx = some ⟨b, o, none⟩ ∧ RowI w b o n X ∧ ∀ i, i < n → (Lit.int .i64 (X i)).wf = true)) (_ : n ≤ dx) (hn : n ≤ 1048576) (wa : (Lit.int .i64 pa).wf = true) (wk : (Lit.int .i64 kk).wf = true) (hm : m ≤ maxLen) (us : (m = 0 ∨ ∃ (b o : Nat) (X : Nat → Int), ss = some ⟨b, o, none⟩ ∧ RowI w b o m X ∧ ∀ i, i < m → (Lit.int .i64 (X i)).wf = true)) (km : m ≤ ds) (_ : m ≤ 1048576) (ht : t.size ≤ maxLen) :
    Calls Try.prog 6 #[.slice sx n dx, .int .i64 pa, .int .i64 kk, .slice ss m ds, .string t] w fun e w' => e = .returned (.bool true) ∧ Below w.heap.size w w' :=
  ringHolds_by rsign_is rverify_is w sx n dx pa kk ss m ds t hn uX wa wk hm us km ht
end Go.Proofs.Ytiddfngopoednah
