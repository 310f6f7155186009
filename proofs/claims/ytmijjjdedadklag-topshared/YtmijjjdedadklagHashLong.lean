/- The long number of any text, as package hash answers it; nothing that was there is turned. -/
import Derived.Test.YtmijjjdedadklagLongMath
import Derived.Test.YtmijjjdedadklagPrime
import Derived.Test.YtmijjjdedadklagMem
import Derived.Laws.IdiomStrings
import Derived.BigQuiet
namespace Go.Proofs.Ytmijjjdedadklag
open Go.RowKit Go.Sort
set_option linter.unusedVariables false
set_option linter.unusedSimpArgs false
theorem bh_int (n b : Nat) : ((bhN n b : Nat) : Int) = ((n : Int) * 263 + b + 1) % 1000003 := by unfold bhN; omega
theorem behind_any (n b : Nat) (w : World) (hn : n < 1000003) (hb : b < 256) :
    Calls Try.prog 65 #[.int .i64 (n : Int), .int .u8 (b : Int)] w fun e w' => e = .returned (.int .i64 (bhN n b : Int)) ∧ w' = w := by
  have e1 : wrap64 (b : Int) = b := by unfold wrap64; omega
  go_enter Try.func65, Try.ntmps65
  go_wp2_with fail
  go_ret
  refine ⟨ret_int ?_, rfl⟩
  rw [bh_int]
theorem behind_at {v : Int} {b : Nat} (h : v = (b : Int)) (n : Nat) (w : World) (hn : n < 1000003) (hb : b < 256) :
    Calls Try.prog 65 #[.int .i64 (n : Int), .int .u8 v] w fun e w' => e = .returned (.int .i64 (bhN n b : Int)) ∧ w' = w := by
  subst h; exact behind_any n b w hn hb
theorem long_any (t : ByteArray) (w : World) (ht : t.size ≤ 9223372036854775807) :
    Calls Try.prog 62 #[.string t] w fun e w' => e = .returned (.int .i64 (longN t : Int)) ∧ w' = w := by
  go_enter Try.func62, Try.ntmps62
  go_wp2_with fail
  go_loopw [3, 7] (fun tn ti wl => ∃ k : Nat, k ≤ t.size ∧ ti = .int .i64 k ∧ tn = .int .i64 (lgN t k : Int) ∧ wl = w) (fun _ ti _ => t.size - (intOf ti).toNat)
  case atStart => exact ⟨0, by omega, rfl, rfl, rfl⟩
  case round =>
    obtain ⟨k, hk, rfl, rfl, rfl⟩ := hrel
    by_cases hlt : k < t.size
    · have hlt' : (k : Int) < t.size := by omega
      have hb := byN_lt t k
      have hl := lgN_lt t k
      have he := byN_at hlt
      go_wp2_with (go_at_call 65; refine (behind_at (b := byN t k) (by rw [he]) _ _ hl hb).mono ?_; rintro e w1 ⟨rfl, rfl⟩)
      go_roundw
      case rel => exact ⟨k + 1, by omega, by simp, by show _ = Value.int .i64 ((bhN (lgN t k) (byN t k) : Nat) : Int); rw [he], by first | trivial | rfl⟩
      case measure => simp [intOf]; omega
    · have hlt' : ¬ (k : Int) < t.size := by omega
      obtain rfl : k = t.size := by omega
      go_wp2_with fail
      go_ret
      exact ⟨rfl, rfl⟩
theorem number_any (t : ByteArray) (w : World) (ht : t.size ≤ 9223372036854775807) :
    Calls Try.prog 50 #[.string t] w fun e w' => e = .returned (.int .i64 ((longN t : Int) % 1013)) ∧ w' = w := by
  have hl := longN_lt t
  go_enter Try.func50, Try.ntmps50
  go_wp2_with (go_at_call 62; refine (long_any _ _ ht).mono ?_; rintro e w1 ⟨rfl, rfl⟩)
  go_ret
  exact ⟨rfl, rfl⟩
end Go.Proofs.Ytmijjjdedadklag
