/- What package hide is to answer: Second, Hide, Open, Find. -/
import Derived.Test.YtfpjdalfmfhomahHideMath
import Derived.Test.YtfpjdalfmfhomahRefSec
import Derived.Test.YtfpjdalfmfhomahCurveEq
namespace Go.Proofs.Ytfpjdalfmfhomah
open Go.RowKit Go.Sort
set_option linter.unusedVariables false
set_option linter.unusedSimpArgs false
def SecondIs : Prop := ∀ w : World, Calls Try.prog 4 #[] w fun ex w' => ex = .returned (.agg #[.int .i64 ((tM (4 * h2N)).1 : Int), .int .i64 ((tM (4 * h2N)).2.1 : Int), .bool false]) ∧ Below w.heap.size w w'
def HideIs : Prop :=
  (∀ (v r : Int) (w : World), (Lit.int .i64 v).wf = true → (Lit.int .i64 r).wf = true → (resB v && resB r) = false → Calls Try.prog 7 #[.int .i64 v, .int .i64 r] w fun ex w' => ex = .returned (.tuple #[.agg #[.int .i64 0, .int .i64 0, .bool false], errOf 1]) ∧ Below w.heap.size w w') ∧
  (∀ (v r : Nat) (w : World), v < 1013 → r < 1013 → Calls Try.prog 7 #[.int .i64 (v : Int), .int .i64 (r : Int)] w fun ex w' => ex = .returned (.tuple #[.agg #[.int .i64 ((tM (4 * hdN v r)).1 : Int), .int .i64 ((tM (4 * hdN v r)).2.1 : Int), .bool (tM (4 * hdN v r)).2.2], .nilIface]) ∧ Below w.heap.size w w')
def FindIs : Prop :=
  (∀ (x y : Int) (f : Bool) (v : Int) (w : World), (Lit.int .i64 v).wf = true → (ckI x y f == 0) = false → Calls Try.prog 6 #[.agg #[.int .i64 x, .int .i64 y, .bool f], .int .i64 v] w fun ex w' => ex = .returned (.tuple #[.int .i64 0, errOf (ckI x y f)]) ∧ Below w.heap.size w w') ∧
  (∀ (i : Nat) (v : Int) (w : World), (Lit.int .i64 v).wf = true → farI (i * 1013) = false → Calls Try.prog 6 #[.agg #[.int .i64 ((tM i).1 : Int), .int .i64 ((tM i).2.1 : Int), .bool (tM i).2.2], .int .i64 v] w fun ex w' => ex = .returned (.tuple #[.int .i64 0, errOf 3]) ∧ Below w.heap.size w w') ∧
  (∀ (i : Nat) (v : Int) (w : World), (Lit.int .i64 v).wf = true → farI (i * 1013) = true → resB v = false → Calls Try.prog 6 #[.agg #[.int .i64 ((tM i).1 : Int), .int .i64 ((tM i).2.1 : Int), .bool (tM i).2.2], .int .i64 v] w fun ex w' => ex = .returned (.tuple #[.int .i64 0, errOf 1]) ∧ Below w.heap.size w w') ∧
  (∀ (i v n : Nat) (w : World), v < 1013 → n < 1013 → hdN v n % 1013 = i % 1013 → Calls Try.prog 6 #[.agg #[.int .i64 ((tM (4 * i)).1 : Int), .int .i64 ((tM (4 * i)).2.1 : Int), .bool (tM (4 * i)).2.2], .int .i64 (v : Int)] w fun ex w' => ex = .returned (.tuple #[.int .i64 (n : Int), .nilIface]) ∧ Below w.heap.size w w')
end Go.Proofs.Ytfpjdalfmfhomah
