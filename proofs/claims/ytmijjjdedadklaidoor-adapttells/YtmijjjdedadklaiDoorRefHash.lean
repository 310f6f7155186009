/- Any text as a long number, a number and a spot, as the plain reckoning (stoneref1) has them. -/
import Derived.Test.YtmijjjdedadklaiDoorRefTimes
import Derived.Test.YtmijjjdedadklaiDoorHash
namespace Go.Proofs.YtmijjjdedadklaiDoor
open Go.RowKit Go.Sort
set_option linter.unusedVariables false
set_option linter.unusedSimpArgs false
set_option maxRecDepth 100000 in
set_option maxHeartbeats 4000000 in
theorem rlong_any (t : ByteArray) (w : World) (ht : t.size ≤ 9223372036854775807) :
    Calls Tryd.prog 81 #[.string t] w fun e w' => e = .returned (.int .i64 (longN t : Int)) ∧ w' = w := by
  go_enter Tryd.func81, Tryd.ntmps81
  go_wp2_with fail
  go_loopw [3, 4] (fun tn ti wl => ∃ k : Nat, k ≤ t.size ∧ ti = .int .i64 k ∧ tn = .int .i64 (lgN t k : Int) ∧ wl = w) (fun _ ti _ => t.size - (intOf ti).toNat)
  case atStart => exact ⟨0, by omega, rfl, rfl, rfl⟩
  case round =>
    obtain ⟨k, hk, rfl, rfl, rfl⟩ := hrel
    by_cases hlt : k < t.size
    · have hlt' : (k : Int) < t.size := by omega
      have hb := byN_lt t k
      have hl := lgN_lt t k
      have he := byN_at hlt
      have hb' : t[k].toNat < 256 := by omega
      have e1 : wrap64 (t[k].toNat : Int) = (t[k].toNat : Int) := by unfold wrap64; omega
      have hi := bh_int (lgN t k) t[k].toNat
      go_wp2_with fail
      go_roundw
      case rel => exact ⟨k + 1, by omega, by simp, by show _ = Value.int .i64 ((bhN (lgN t k) (byN t k) : Nat) : Int); rw [he, hi], by first | trivial | rfl⟩
      case measure => simp [intOf]; omega
    · have hlt' : ¬ (k : Int) < t.size := by omega
      obtain rfl : k = t.size := by omega
      go_wp2_with fail
      go_ret
      exact ⟨rfl, rfl⟩
theorem rnumber_any (t : ByteArray) (w : World) (ht : t.size ≤ 9223372036854775807) :
    Calls Tryd.prog 49 #[.string t] w fun e w' => e = .returned (.int .i64 ((longN t : Int) % 1013)) ∧ w' = w := by
  have hl := longN_lt t
  go_enter Tryd.func49, Tryd.ntmps49
  go_wp2_with (go_at_call 81; refine (rlong_any _ _ ht).mono ?_; rintro e w1 ⟨rfl, rfl⟩)
  go_ret
  exact ⟨rfl, rfl⟩
end Go.Proofs.YtmijjjdedadklaiDoor
