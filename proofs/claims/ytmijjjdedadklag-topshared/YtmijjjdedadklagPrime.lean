/- What each function of package prime answers, for every number, in whatever memory; it writes nothing. -/
import Derived.Test.YtmijjjdedadklagChecked
import Derived.Test.YtmijjjdedadklagMath
import Derived.WalkKit
namespace Go.Proofs.Ytmijjjdedadklag
open Go.RowKit

theorem tmod_or (n : Int) : n.tmod 4051 = fm n ∨ (n.tmod 4051 < 0 ∧ n.tmod 4051 + 4051 = fm n ∧ 0 < fm n) := by
  unfold fm
  by_cases h : 0 ≤ n
  · left; exact Int.tmod_eq_emod_of_nonneg h
  · have e : n.tmod 4051 = - ((-n) % 4051) := by
      rw [← Int.tmod_eq_emod_of_nonneg (by omega : 0 ≤ -n), Int.neg_tmod, Int.neg_neg]
    rw [e]; omega
theorem tmod_neg_lt {n : Int} (h : n.tmod 4051 < 0) : n.tmod 4051 + 4051 = fm n := by
  have := fm_lo n; rcases tmod_or n with h1 | h1 <;> omega
theorem tmod_pos {n : Int} (h : 0 ≤ n.tmod 4051) : n.tmod 4051 = fm n := by
  rcases tmod_or n with h1 | h1 <;> omega
theorem tmod_bd (n : Int) : -4051 < n.tmod 4051 ∧ n.tmod 4051 < 4051 := by
  have h2 := fm_lo n; have h3 := fm_hi n
  rcases tmod_or n with h1 | h1
  · rw [h1]; constructor <;> omega
  · obtain ⟨h4, h5, h6⟩ := h1; constructor <;> omega
theorem ret_int {k : IntKind} {a b : Int} (h : a = b) : Ending.returned (.int k a) = .returned (.int k b) := by rw [h]

theorem ret2_int {k : IntKind} {a b : Int} {v : Value} (h : a = b) : Ending.returned (.tuple #[.int k a, v]) = .returned (.tuple #[.int k b, v]) := by rw [h]
theorem of_any (n : Int) (w : World) :
    Calls Try.prog 64 #[.int .i64 n] w fun e w' => e = .returned (.int .i64 (fm n)) ∧ w' = w := by
  obtain ⟨hb1, hb2⟩ := tmod_bd n
  by_cases h : n.tmod 4051 < 0
  · go_enter Try.func64, Try.ntmps64
    go_wp2
    go_ret
    exact ⟨ret_int (tmod_neg_lt h), rfl⟩
  · go_enter Try.func64, Try.ntmps64
    go_wp2
    go_ret
    exact ⟨ret_int (tmod_pos (by omega)), rfl⟩

theorem add_any (a b : Int) (w : World) :
    Calls Try.prog 81 #[.int .i64 a, .int .i64 b] w fun e w' => e = .returned (.int .i64 (fm (a + b))) ∧ w' = w := by
  have h1 := fm_lo a; have h2 := fm_hi a; have h3 := fm_lo b; have h4 := fm_hi b
  go_enter Try.func81, Try.ntmps81
  go_wp2_with (go_at_call 64; refine (of_any _ _).mono ?_; rintro e w' ⟨rfl, rfl⟩)
  go_ret
  exact ⟨ret_int (fm_add a b), rfl⟩

theorem sub_any (a b : Int) (w : World) :
    Calls Try.prog 80 #[.int .i64 a, .int .i64 b] w fun e w' => e = .returned (.int .i64 (fm (a - b))) ∧ w' = w := by
  have h1 := fm_lo a; have h2 := fm_hi a; have h3 := fm_lo b; have h4 := fm_hi b
  go_enter Try.func80, Try.ntmps80
  go_wp2_with (go_at_call 64; refine (of_any _ _).mono ?_; rintro e w' ⟨rfl, rfl⟩)
  go_ret
  exact ⟨ret_int (fm_sub a b), rfl⟩

theorem mul_bd {x y : Int} (h1 : 0 ≤ x) (h2 : x ≤ 4050) (h3 : 0 ≤ y) (h4 : y ≤ 4050) : 0 ≤ x * y ∧ x * y ≤ 16402500 := by
  refine ⟨Int.mul_nonneg h1 h3, ?_⟩
  have := Int.mul_le_mul h2 h4 h3 (by omega : (0 : Int) ≤ 4050)
  omega
theorem mul_any (a b : Int) (w : World) :
    Calls Try.prog 67 #[.int .i64 a, .int .i64 b] w fun e w' => e = .returned (.int .i64 (fm (a * b))) ∧ w' = w := by
  obtain ⟨h5, h6⟩ := mul_bd (fm_lo a) (fm_hi a) (fm_lo b) (fm_hi b)
  go_enter Try.func67, Try.ntmps67
  go_wp2_with (go_at_call 64; refine (of_any _ _).mono ?_; rintro e w' ⟨rfl, rfl⟩)
  go_ret
  exact ⟨ret_int (fm_mul a b), rfl⟩

/-- A step of the loop, where the number is odd. -/
theorem step_odd {a p s k : Int} {N : Nat} (h0 : 0 < k) (h1 : k % 2 = 1) (h : fm (p * s ^ k.toNat) = fpow a N) :
    fm (fm (p * s) * fm (s * s) ^ (k / 2).toNat) = fpow a N := by
  rw [← h]
  have e : k.toNat = 1 + 2 * (k / 2).toNat := by omega
  rw [e, pow_add, ← pow_dbl, show s ^ 1 = s by rw [Int.pow_succ, Int.pow_zero, Int.one_mul], ← Int.mul_assoc]
  exact fm_mul_congr (fm_fm _) (fm_pow _ _)
theorem step_even {a p s k : Int} {N : Nat} (h0 : 0 < k) (h1 : k % 2 = 0) (h : fm (p * s ^ k.toNat) = fpow a N) :
    fm (p * fm (s * s) ^ (k / 2).toNat) = fpow a N := by
  rw [← h]
  have e : k.toNat = 2 * (k / 2).toNat := by omega
  rw [e, ← pow_dbl]
  exact fm_mul_congr rfl (fm_pow _ _)

set_option maxHeartbeats 400000 in
theorem power_any (a n : Int) (w : World) (hn : 0 ≤ n) (hm : n ≤ 9223372036854775807) :
    Calls Try.prog 94 #[.int .i64 a, .int .i64 n] w fun e w' => e = .returned (.int .i64 (fpow a n.toNat)) ∧ w' = w := by
  go_enter Try.func94, Try.ntmps94
  go_wp2_with (go_at_call 64; refine (of_any _ _).mono ?_; rintro e w' ⟨rfl, rfl⟩)
  go_loop [1, 5, 6] (fun tn tp ts => ∃ k p s : Int, 0 ≤ k ∧ k ≤ 9223372036854775807 ∧ tn = .int .i64 k ∧ tp = .int .i64 p ∧ ts = .int .i64 s ∧ 0 ≤ p ∧ p ≤ 4050 ∧ fm (p * s ^ k.toNat) = fpow a n.toNat) (fun tn _ _ => (intOf tn).toNat)
  case atStart => exact ⟨n, 1, fm a, hn, hm, rfl, rfl, rfl, by omega, by omega, by rw [Int.one_mul]; exact fm_pow a n.toNat⟩
  case round =>
    obtain ⟨k, p, s, hk0, hk1, rfl, rfl, rfl, hp0, hp1, hinv⟩ := hrel
    have HI : Hid (fm (p * s ^ k.toNat) = fpow a n.toNat) := hinv
    clear hinv
    by_cases hlt : 0 < k
    · by_cases hodd : k % 2 = 1
      · go_wp2_with (go_at_call 67; refine (mul_any _ _ _).mono ?_; rintro e w' ⟨rfl, rfl⟩)
        go_round
        case rel => exact ⟨k / 2, fm (p * s), fm (s * s), by omega, by omega, rfl, rfl, rfl, fm_lo _, fm_hi _, step_odd hlt hodd HI.out⟩
        case measure => simp [intOf]; omega
      · have hev : k % 2 = 0 := by omega
        go_wp2_with (go_at_call 67; refine (mul_any _ _ _).mono ?_; rintro e w' ⟨rfl, rfl⟩)
        go_round
        case rel => exact ⟨k / 2, p, fm (s * s), by omega, by omega, rfl, rfl, rfl, hp0, hp1, step_even hlt hev HI.out⟩
        case measure => simp [intOf]; omega
    · go_wp2_with fail
      go_ret
      have hk : k = 0 := by omega
      subst hk
      have hi := HI.out
      rw [show (0 : Int).toNat = 0 from rfl, Int.pow_zero, Int.mul_one, fm_id hp0 hp1] at hi
      exact ⟨ret_int hi, rfl⟩

/-- What an error that is made of a number of package api is. -/
abbrev errOf (n : Int) : Value := .iface 63 (.int .i64 n)
theorem inv_yes (a : Int) (w : World) (h : (fm a == 0) = false) :
    Calls Try.prog 82 #[.int .i64 a] w fun e w' => e = .returned (.tuple #[.int .i64 (fpow a 4049), .nilIface]) ∧ w' = w := by
  go_enter Try.func82, Try.ntmps82
  go_wp2_with (first | (go_at_call 64; refine (of_any _ _).mono ?_; rintro e w' ⟨rfl, rfl⟩) | (go_at_call 94; refine (power_any _ _ _ (by omega) (by omega)).mono ?_; rintro e w' ⟨rfl, rfl⟩))
  go_ret2
  exact ⟨rfl, rfl⟩
theorem inv_no (a : Int) (w : World) (h : (fm a == 0) = true) :
    Calls Try.prog 82 #[.int .i64 a] w fun e w' => e = .returned (.tuple #[.int .i64 0, errOf 5]) ∧ w' = w := by
  go_enter Try.func82, Try.ntmps82
  go_wp2_with (go_at_call 64; refine (of_any _ _).mono ?_; rintro e w' ⟨rfl, rfl⟩)
  go_ret2
  exact ⟨rfl, rfl⟩
theorem sqrt_yes (a : Int) (w : World) (h : rtOk a = true) :
    Calls Try.prog 84 #[.int .i64 a] w fun e w' => e = .returned (.tuple #[.int .i64 (rtMin a), .nilIface]) ∧ w' = w := by
  have h' : (fm (rt a * rt a) == fm a) = true := h
  have hp : rt a = fpow a (1013 : Int).toNat := rfl
  unfold rtMin
  have HP : Hid (rt a = fpow a (1013 : Int).toNat) := hp
  clear h hp
  go_enter Try.func84, Try.ntmps84
  go_wp2_with (first | (go_at_call 94; refine (power_any _ _ _ (by omega) (by omega)).mono ?_; rintro e w' ⟨rfl, rfl⟩; rw [← HP.out]) | (go_at_call 64; refine (of_any _ _).mono ?_; rintro e w' ⟨rfl, rfl⟩) | (go_at_call 67; refine (mul_any _ _ _).mono ?_; rintro e w' ⟨rfl, rfl⟩) | (go_at_call 80; refine (sub_any _ _ _).mono ?_; rintro e w' ⟨rfl, rfl⟩))
  all_goals
    go_ret2
    exact ⟨ret2_int (by omega), rfl⟩
theorem sqrt_no (a : Int) (w : World) (h : rtOk a = false) :
    Calls Try.prog 84 #[.int .i64 a] w fun e w' => e = .returned (.tuple #[.int .i64 0, errOf 5]) ∧ w' = w := by
  have h' : (fm (rt a * rt a) == fm a) = false := h
  have hp : rt a = fpow a (1013 : Int).toNat := rfl
  have HP : Hid (rt a = fpow a (1013 : Int).toNat) := hp
  clear h hp
  go_enter Try.func84, Try.ntmps84
  go_wp2_with (first | (go_at_call 94; refine (power_any _ _ _ (by omega) (by omega)).mono ?_; rintro e w' ⟨rfl, rfl⟩; rw [← HP.out]) | (go_at_call 64; refine (of_any _ _).mono ?_; rintro e w' ⟨rfl, rfl⟩) | (go_at_call 67; refine (mul_any _ _ _).mono ?_; rintro e w' ⟨rfl, rfl⟩))
  go_ret2
  exact ⟨rfl, rfl⟩
end Go.Proofs.Ytmijjjdedadklag
