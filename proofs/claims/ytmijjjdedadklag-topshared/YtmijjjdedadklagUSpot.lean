/- A text's spot is so many times the base. -/
import Derived.Test.YtmijjjdedadklagHashMath
import Derived.Test.YtmijjjdedadklagHash
namespace Go.Proofs.Ytmijjjdedadklag
open Go.RowKit Go.Sort
set_option linter.unusedVariables false
set_option linter.unusedSimpArgs false
/-- A text's spot is so many times the base. -/
def uN (t : ByteArray) : Nat := spN (longN t) / 4
theorem uN_is (t : ByteArray) : spN (longN t) = 4 * uN t := by
  have := (farI_iff _).1 (sp_in (longN t))
  unfold uN; omega
theorem uN_f (t : ByteArray) : (tM (4 * uN t)).2.2 = false := by rw [← uN_is]; exact sp_f _
theorem spot_u (t : ByteArray) (w : World) (ht : t.size ≤ 9223372036854775807) : Calls Try.prog 30 #[.string t] w fun e w' => e = .returned (.agg #[.int .i64 ((tM (4 * uN t)).1 : Int), .int .i64 ((tM (4 * uN t)).2.1 : Int), .bool false]) ∧ Below w.heap.size w w' := by
  have := spot_any t w ht
  rwa [uN_is] at this
theorem spot_w (t : ByteArray) (w : World) (ht : t.size ≤ 9223372036854775807) : Calls Try.prog 30 #[.string t] w fun e w' => e = .returned (.agg #[.int .i64 ((tM (4 * uN t)).1 : Int), .int .i64 ((tM (4 * uN t)).2.1 : Int), .bool (tM (4 * uN t)).2.2]) ∧ Below w.heap.size w w' := by
  rw [uN_f]; exact spot_u t w ht
end Go.Proofs.Ytmijjjdedadklag
