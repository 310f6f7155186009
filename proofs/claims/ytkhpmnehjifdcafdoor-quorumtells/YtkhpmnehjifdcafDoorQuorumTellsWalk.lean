/- Proved: stonelaw2.QuorumTells answers true for every share, every text, every list of places, every list of spots and every list of shares: any part of a seal, any joined, and keys of any shares, as the document says. No condition stands behind it. -/
import Derived.Test.YtkhpmnehjifdcafDoorQuorumTellsBy
import Derived.Test.YtkhpmnehjifdcafDoorQuorum
namespace Go.Proofs.YtkhpmnehjifdcafDoor
open Go.RowKit Go.Sort
set_option linter.unusedVariables false
theorem walkQuorumTells (w : World) (s : Int × Int) (t : ByteArray) (sx : Option Addr) (p dx : Nat) (sb : Option Addr) (q db : Nat) (sl : Option Addr) (n dl : Nat)
    (_ : (Lit.int .i64 s.1).wf = true) (_ : (Lit.int .i64 s.2).wf = true) (_ : t.size ≤ maxLen) (ht : t.size ≤ reachBytes) (hp : p ≤ maxLen) (uX : p = 0 ∨ ∃ (b o : Nat) (X : Nat → Int), sx = some ⟨b, o, none⟩ ∧ RowI w b o p X ∧ ∀ i, i < p → (Lit.int .i64 (X i)).wf = true) (_ : p * 8 ≤ reachBytes) (kx : p ≤ dx)
    (hq : q ≤ maxLen) (uB : q = 0 ∨ ∃ (b o : Nat) (X Y : Nat → Int) (F : Nat → Bool), sb = some ⟨b, o, none⟩ ∧ RowO w b o q X Y F) (kb : q ≤ db)
    (hn : n ≤ maxLen) (uL : n = 0 ∨ ∃ (b o : Nat) (X Y : Nat → Int), sl = some ⟨b, o, none⟩ ∧ RowP w b o n X Y ∧ ∀ i, i < n → (Lit.int .i64 (X i)).wf = true ∧ (Lit.int .i64 (Y i)).wf = true) (_ : n * 16 ≤ reachBytes) (kl : n ≤ dl) (hd : Door w) :
    Calls Tryd.prog 4 #[.agg #[.int .i64 s.1, .int .i64 s.2], .string t, .slice sx p dx, .slice sb q db, .slice sl n dl] w fun e w' => e = .returned (.bool true) ∧ Below w.heap.size w w' :=
  quorumTells_by part_is join_is public_is w s t sx p dx sb q db sl n dl ht hp uX kx hq uB kb hn uL kl hd
end Go.Proofs.YtkhpmnehjifdcafDoor
