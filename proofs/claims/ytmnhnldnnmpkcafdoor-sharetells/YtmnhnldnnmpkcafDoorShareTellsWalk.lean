/- Proved: stonelaw2.ShareTells answers true for every list of coefficients, every number, every list of places and every list of shares: any secret split, the weights of any places, and any shares combined, as the document says. No condition stands behind it. -/
import Derived.Test.YtmnhnldnnmpkcafDoorShareTellsBy
import Derived.Test.YtmnhnldnnmpkcafDoorShare
namespace Go.Proofs.YtmnhnldnnmpkcafDoor
open Go.RowKit Go.Sort
set_option linter.unusedVariables false
theorem walkShareTells (w : World) (sc : Option Addr) (m dc : Nat) (z : Int) (sx : Option Addr) (p dx : Nat) (sl : Option Addr) (q dl : Nat)
    (hm : m ≤ maxLen) (uC : m = 0 ∨ ∃ (b o : Nat) (X : Nat → Int), sc = some ⟨b, o, none⟩ ∧ RowI w b o m X ∧ ∀ i, i < m → (Lit.int .i64 (X i)).wf = true) (zC : m * 8 ≤ reachBytes) (kC : m ≤ dc) (hz : (Lit.int .i64 z).wf = true) (hp : p ≤ maxLen) (uX : p = 0 ∨ ∃ (b o : Nat) (X : Nat → Int), sx = some ⟨b, o, none⟩ ∧ RowI w b o p X ∧ ∀ i, i < p → (Lit.int .i64 (X i)).wf = true) (zX : p * 8 ≤ reachBytes) (kX : p ≤ dx)
    (hq : q ≤ maxLen) (uL : q = 0 ∨ ∃ (b o : Nat) (X Y : Nat → Int), sl = some ⟨b, o, none⟩ ∧ RowP w b o q X Y ∧ ∀ i, i < q → (Lit.int .i64 (X i)).wf = true ∧ (Lit.int .i64 (Y i)).wf = true) (zL : q * 16 ≤ reachBytes) (kL : q ≤ dl) (hd : Door w) :
    Calls Tryd.prog 3 #[.slice sc m dc, .int .i64 z, .slice sx p dx, .slice sl q dl] w fun e w' => e = .returned (.bool true) ∧ Below w.heap.size w w' :=
  shareTells_by split_is weights_is combine_is w sc m dc z sx p dx sl q dl hm uC hz hp kX uX hq uL zL hd
end Go.Proofs.YtmnhnldnnmpkcafDoor
