/- What package quorum is to answer: Part, Join, Public. -/
import Derived.Test.YtmijjjdedadklagUSpot
import Derived.Test.YtmijjjdedadklagShareIs
import Derived.Test.YtmijjjdedadklagStay
namespace Go.Proofs.Ytmijjjdedadklag
open Go.RowKit Go.Sort
set_option linter.unusedVariables false
set_option linter.unusedSimpArgs false
/-- The sum of so many spots, each its place's weight times. -/
def jwN (K : Nat → Nat) (X : Nat → Int) (p : Nat) : Nat → Nat
  | 0 => 0
  | k + 1 => jwN K X p k + K k * (wtq (xq X) p k).val
def PartIs : Prop :=
  (∀ (x y : Int) (t : ByteArray) (w : World), t.size ≤ 9223372036854775807 → (secB x && resB y) = false → Calls Try.prog 9 #[.agg #[.int .i64 x, .int .i64 y], .string t] w fun ex w' => ex = .returned (.tuple #[.agg #[.int .i64 0, .int .i64 0, .bool false], errOf 1]) ∧ Below w.heap.size w w') ∧
  (∀ (x y : Int) (t : ByteArray) (w : World), (secB x && resB y) = true → 60 < t.size → t.size ≤ 9223372036854775807 → Calls Try.prog 9 #[.agg #[.int .i64 x, .int .i64 y], .string t] w fun ex w' => ex = .returned (.tuple #[.agg #[.int .i64 0, .int .i64 0, .bool false], errOf 4]) ∧ Below w.heap.size w w') ∧
  (∀ (x : Int) (y : Nat) (t : ByteArray) (w : World), secB x = true → y < 1013 → t.size ≤ 60 → Calls Try.prog 9 #[.agg #[.int .i64 x, .int .i64 (y : Int)], .string t] w fun ex w' => ex = .returned (.tuple #[.agg #[.int .i64 ((tM (4 * (uN t * y))).1 : Int), .int .i64 ((tM (4 * (uN t * y))).2.1 : Int), .bool (tM (4 * (uN t * y))).2.2], .nilIface]) ∧ Below w.heap.size w w')
def JoinIs : Prop :=
  (∀ (sx sb : Option Addr) (p d q c : Nat) (w : World), p ≤ 9223372036854775807 → q ≤ 9223372036854775807 → p ≠ q → Calls Try.prog 12 #[.slice sx p d, .slice sb q c] w fun ex w' => ex = .returned (.tuple #[.agg #[.int .i64 0, .int .i64 0, .bool false], errOf 3]) ∧ Below w.heap.size w w') ∧
  (∀ (sx sb : Option Addr) (p d c : Nat) (w : World), 12 < p → p ≤ 9223372036854775807 → Calls Try.prog 12 #[.slice sx p d, .slice sb p c] w fun ex w' => ex = .returned (.tuple #[.agg #[.int .i64 0, .int .i64 0, .bool false], errOf 4]) ∧ Below w.heap.size w w') ∧
  (∀ (sx sb : Option Addr) (d c : Nat) (w : World), Calls Try.prog 12 #[.slice sx 0 d, .slice sb 0 c] w fun ex w' => ex = .returned (.tuple #[.agg #[.int .i64 0, .int .i64 0, .bool false], errOf 5]) ∧ Below w.heap.size w w') ∧
  (∀ (b o b' o' p d c : Nat) (X PX PY : Nat → Int) (PF : Nat → Bool) (w : World), 0 < p → p ≤ 12 → p ≤ d → p ≤ c → RowI w b o p X → (∀ i, i < p → (Lit.int .i64 (X i)).wf = true) → RowO w b' o' p PX PY PF → (plE secB X p == 0) = false → Calls Try.prog 12 #[.slice (some ⟨b, o, none⟩) p d, .slice (some ⟨b', o', none⟩) p c] w fun ex w' => ex = .returned (.tuple #[.agg #[.int .i64 0, .int .i64 0, .bool false], errOf (plE secB X p)]) ∧ Below w.heap.size w w') ∧
  (∀ (b o b' o' p d c : Nat) (X PX PY : Nat → Int) (PF : Nat → Bool) (w : World) (K : Nat → Nat) (j : Nat), 0 < p → p ≤ 12 → p ≤ d → p ≤ c → RowI w b o p X → (∀ i, i < p → (Lit.int .i64 (X i)).wf = true) → RowO w b' o' p PX PY PF → plE secB X p = 0 → j < p → (∀ i, i < j → PX i = ((tM (K i)).1 : Int) ∧ PY i = ((tM (K i)).2.1 : Int) ∧ PF i = (tM (K i)).2.2) → (ckI (PX j) (PY j) (PF j) == 0) = false → Calls Try.prog 12 #[.slice (some ⟨b, o, none⟩) p d, .slice (some ⟨b', o', none⟩) p c] w fun ex w' => ex = .returned (.tuple #[.agg #[.int .i64 0, .int .i64 0, .bool false], errOf (ckI (PX j) (PY j) (PF j))]) ∧ Below w.heap.size w w') ∧
  (∀ (b o b' o' p d c : Nat) (X PX PY : Nat → Int) (PF : Nat → Bool) (w : World) (K : Nat → Nat), 0 < p → p ≤ 12 → p ≤ d → p ≤ c → RowI w b o p X → (∀ i, i < p → (Lit.int .i64 (X i)).wf = true) → RowO w b' o' p PX PY PF → plE secB X p = 0 → (∀ i, i < p → PX i = ((tM (K i)).1 : Int) ∧ PY i = ((tM (K i)).2.1 : Int) ∧ PF i = (tM (K i)).2.2) → Calls Try.prog 12 #[.slice (some ⟨b, o, none⟩) p d, .slice (some ⟨b', o', none⟩) p c] w fun ex w' => ex = .returned (.tuple #[.agg #[.int .i64 ((tM (jwN K X p p)).1 : Int), .int .i64 ((tM (jwN K X p p)).2.1 : Int), .bool (tM (jwN K X p p)).2.2], .nilIface]) ∧ Below w.heap.size w w')
end Go.Proofs.Ytmijjjdedadklag
