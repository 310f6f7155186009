/- stonetop.one: a seal of three, by five, of the text 'a', is right. -/
import Derived.Test.YtmijjjdedadkladSealVerify
namespace Go.Proofs.Ytmijjjdedadklad
open Go.RowKit Go.Sort
set_option linter.unusedVariables false
set_option linter.unusedSimpArgs false
/-- Keys of whatever number. -/
theorem key_all (y : Int) : ∃ (X Y : Int) (F : Bool) (v : Value), ∀ w, Calls Try.prog 15 #[.int .i64 y] w fun e w' => e = .returned (.tuple #[.agg #[.int .i64 X, .int .i64 Y, .bool F], v]) ∧ Below w.heap.size w w' := by
  by_cases h : y < 1 ∨ 1013 ≤ y
  · exact ⟨_, _, _, _, fun w => key_no y w h⟩
  · obtain ⟨k, rfl⟩ := Int.eq_ofNat_of_zero_le (show 0 ≤ y by omega)
    exact ⟨_, _, _, _, fun w => key_yes k w (by omega) (by omega)⟩
/-- A seal is right by its key. -/
theorem verify_seal (x k : Nat) (t : ByteArray) (ht : t.size ≤ 60) (w : World) :
    Calls Try.prog 16 #[.agg #[.int .i64 ((tM (4 * x)).1 : Int), .int .i64 ((tM (4 * x)).2.1 : Int), .bool (tM (4 * x)).2.2], .string t, .agg #[.int .i64 ((tM (4 * k)).1 : Int), .int .i64 ((tM (4 * k)).2.1 : Int), .bool (tM (4 * k)).2.2, .int .i64 (sgN x k t : Int)]] w fun e w' => e = .returned (.tuple #[.bool true, .nilIface]) ∧ Below w.heap.size w w' := by
  have hl := sgN_lt x k t
  exact verify_same ht (by omega) (by omega) (sameS_yes (by rw [em_nat hl]; exact sg_right x k t)) w
end Go.Proofs.Ytmijjjdedadklad
