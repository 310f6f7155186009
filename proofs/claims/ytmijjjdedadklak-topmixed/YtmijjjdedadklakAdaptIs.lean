/- What package adapt is to answer: Pre, Check, Fill, Find. -/
import Derived.Test.YtmijjjdedadklakAdaptMath
import Derived.Test.YtmijjjdedadklakCurveEq
import Derived.Test.YtmijjjdedadklakRefSec
namespace Go.Proofs.Ytmijjjdedadklak
open Go.RowKit Go.Sort
set_option linter.unusedVariables false
set_option linter.unusedSimpArgs false
def APreIs : Prop :=
  (∀ (x k x1 y1 : Int) (f1 : Bool) (t : ByteArray) (w : World), t.size ≤ 9223372036854775807 → (secB x && secB k) = false → Calls Try.prog 8 #[.int .i64 x, .int .i64 k, .agg #[.int .i64 x1, .int .i64 y1, .bool f1], .string t] w fun ex w' => ex = .returned (.tuple #[.agg #[.int .i64 0, .int .i64 0, .bool false, .int .i64 0], errOf 1]) ∧ Below w.heap.size w w') ∧
  (∀ (x k : Nat) (x1 y1 : Int) (f1 : Bool) (t : ByteArray) (w : World), t.size ≤ 9223372036854775807 → 1 ≤ x → x < 1013 → 1 ≤ k → k < 1013 → (ckI x1 y1 f1 == 0) = false → Calls Try.prog 8 #[.int .i64 (x : Int), .int .i64 (k : Int), .agg #[.int .i64 x1, .int .i64 y1, .bool f1], .string t] w fun ex w' => ex = .returned (.tuple #[.agg #[.int .i64 0, .int .i64 0, .bool false, .int .i64 0], errOf (ckI x1 y1 f1)]) ∧ Below w.heap.size w w') ∧
  (∀ (x k j : Nat) (t : ByteArray) (w : World), t.size ≤ 9223372036854775807 → 1 ≤ x → x < 1013 → 1 ≤ k → k < 1013 → 60 < t.size → Calls Try.prog 8 #[.int .i64 (x : Int), .int .i64 (k : Int), .agg #[.int .i64 ((tM j).1 : Int), .int .i64 ((tM j).2.1 : Int), .bool (tM j).2.2], .string t] w fun ex w' => ex = .returned (.tuple #[.agg #[.int .i64 0, .int .i64 0, .bool false, .int .i64 0], errOf 4]) ∧ Below w.heap.size w w') ∧
  (∀ (x k j : Nat) (t : ByteArray) (w : World), 1 ≤ x → x < 1013 → 1 ≤ k → k < 1013 → t.size ≤ 60 → Calls Try.prog 8 #[.int .i64 (x : Int), .int .i64 (k : Int), .agg #[.int .i64 ((tM j).1 : Int), .int .i64 ((tM j).2.1 : Int), .bool (tM j).2.2], .string t] w fun ex w' => ex = .returned (.tuple #[.agg #[.int .i64 ((tM (4 * k + j)).1 : Int), .int .i64 ((tM (4 * k + j)).2.1 : Int), .bool (tM (4 * k + j)).2.2, .int .i64 (apN x k j t : Int)], .nilIface]) ∧ Below w.heap.size w w')
def AFillIs : Prop :=
  (∀ (x2 y2 s n : Int) (f2 : Bool) (w : World), (ckI x2 y2 f2 == 0) = false → Calls Try.prog 9 #[.agg #[.int .i64 x2, .int .i64 y2, .bool f2, .int .i64 s], .int .i64 n] w fun ex w' => ex = .returned (.tuple #[.agg #[.int .i64 0, .int .i64 0, .bool false, .int .i64 0], errOf (ckI x2 y2 f2)]) ∧ Below w.heap.size w w') ∧
  (∀ (x2 y2 s n : Int) (f2 : Bool) (w : World), ckI x2 y2 f2 = 0 → (Lit.int .i64 s).wf = true → (Lit.int .i64 n).wf = true → (resB s && resB n) = false → Calls Try.prog 9 #[.agg #[.int .i64 x2, .int .i64 y2, .bool f2, .int .i64 s], .int .i64 n] w fun ex w' => ex = .returned (.tuple #[.agg #[.int .i64 0, .int .i64 0, .bool false, .int .i64 0], errOf 1]) ∧ Below w.heap.size w w') ∧
  (∀ (r s n : Nat) (w : World), s < 1013 → n < 1013 → Calls Try.prog 9 #[.agg #[.int .i64 ((tM r).1 : Int), .int .i64 ((tM r).2.1 : Int), .bool (tM r).2.2, .int .i64 (s : Int)], .int .i64 (n : Int)] w fun ex w' => ex = .returned (.tuple #[.agg #[.int .i64 ((tM r).1 : Int), .int .i64 ((tM r).2.1 : Int), .bool (tM r).2.2, .int .i64 (((s + n) % 1013 : Nat) : Int)], .nilIface]) ∧ Below w.heap.size w w')
end Go.Proofs.Ytmijjjdedadklak
