/- What the plain reckoning of the statements (stoneref1: Mod, Turn, Power, Root) answers; it writes nothing. -/
import Derived.Test.YtbnccfmegndpgacDoorPrime
import Derived.Test.YtbnccfmegndpgacDoorRefMath
namespace Go.Proofs.YtbnccfmegndpgacDoor
open Go.RowKit

theorem tmod_or' (n m : Int) (hm : 0 < m) : n.tmod m = n % m ∨ (n.tmod m < 0 ∧ n.tmod m + m = n % m ∧ 0 < n % m) := by
  by_cases h : 0 ≤ n
  · left; exact Int.tmod_eq_emod_of_nonneg h
  · have e : n.tmod m = - ((-n) % m) := by
      rw [← Int.tmod_eq_emod_of_nonneg (by omega : 0 ≤ -n), Int.neg_tmod, Int.neg_neg]
    have h1 := Int.emod_nonneg (-n) (by omega : m ≠ 0)
    have h2 := Int.emod_lt_of_pos (-n) hm
    have h3 := Int.emod_nonneg n (by omega : m ≠ 0)
    have h4 := Int.emod_lt_of_pos n hm
    have h5 : (n % m + (-n) % m) % m = 0 := by
      rw [← Int.add_emod, Int.add_right_neg, Int.zero_emod]
    rw [e]
    by_cases h6 : (-n) % m = 0
    · rw [h6, Int.add_zero, Int.emod_emod_of_dvd _ (Int.dvd_refl m)] at h5
      left; omega
    · right
      have h7 : n % m + (-n) % m = m := by
        rcases Int.lt_or_le (n % m + (-n) % m) m with h8 | h8
        · rw [Int.emod_eq_of_lt (by omega) h8] at h5; omega
        · have h9 : (n % m + (-n) % m - m) % m = 0 := by rw [Int.sub_emod_right]; exact h5
          rw [Int.emod_eq_of_lt (by omega) (by omega)] at h9; omega
      omega
theorem tmod_bd' (n m : Int) (hm : 0 < m) : -m < n.tmod m ∧ n.tmod m < m := by
  have h2 := Int.emod_nonneg n (by omega : m ≠ 0); have h3 := Int.emod_lt_of_pos n hm
  rcases tmod_or' n m hm with h1 | h1
  · rw [h1]; constructor <;> omega
  · obtain ⟨h4, h5, h6⟩ := h1; constructor <;> omega
theorem rmod_any (n m : Int) (w : World) (hm : 0 < m) (hm' : m ≤ 1000000000) :
    Calls Tryd.prog 30 #[.int .i64 n, .int .i64 m] w fun e w' => e = .returned (.int .i64 (n % m)) ∧ w' = w := by
  obtain ⟨hb1, hb2⟩ := tmod_bd' n m hm
  have ho : Hid (n.tmod m = n % m ∨ (n.tmod m < 0 ∧ n.tmod m + m = n % m ∧ 0 < n % m)) := tmod_or' n m hm
  have hp : Hid (0 ≤ n % m) := Int.emod_nonneg n (by omega : m ≠ 0)
  by_cases h : n.tmod m < 0
  · have h' : n.tmod m + m = n % m := by have := ho.out; have := hp.out; omega
    have H' : Hid (n.tmod m + m = n % m) := h'
    clear h' ho hp
    go_enter Tryd.func30, Tryd.ntmps30
    go_wp2
    go_ret
    exact ⟨ret_int H'.out, rfl⟩
  · have h' : n.tmod m = n % m := by have := ho.out; have := hp.out; omega
    have H' : Hid (n.tmod m = n % m) := h'
    clear h' ho hp
    go_enter Tryd.func30, Tryd.ntmps30
    go_wp2
    go_ret
    exact ⟨ret_int H'.out, rfl⟩
set_option maxHeartbeats 400000 in
theorem rroot_any (n : Int) (w : World) :
    Calls Tryd.prog 29 #[.int .i64 n] w fun e w' => e = .returned (.int .i64 (rootI n)) ∧ w' = w := by
  go_enter Tryd.func29, Tryd.ntmps29
  go_wp2_with (go_at_call 30; refine (rmod_any _ _ _ (by omega) (by omega)).mono ?_; rintro e w' ⟨rfl, rfl⟩)
  go_loop [3] (fun t => ∃ r : Int, 0 ≤ r ∧ r ≤ 2026 ∧ t = .int .i64 r ∧ ∀ s : Int, 0 ≤ s → s < r → s * s % 4051 ≠ fm n) (fun t => (3000 - intOf t).toNat)
  case atStart => exact ⟨0, by omega, by omega, rfl, fun s h0 h1 => by omega⟩
  case round =>
    obtain ⟨r, hr0, hr1, rfl, hall⟩ := hrel
    have HA : Hid (∀ s : Int, 0 ≤ s → s < r → s * s % 4051 ≠ fm n) := hall
    clear hall
    have hb1 : 0 ≤ r * r := Int.mul_nonneg hr0 hr0
    have hb2 : r * r ≤ 2026 * 2026 := Int.mul_le_mul hr1 hr1 hr0 (by omega)
    by_cases hlt : 2 * r ≤ 4051
    · by_cases hit : r * r % 4051 = n % 4051
      · have H : Hid (r = rootI n) := rootI_hit hr0 hlt hit
        have hit' : (r * r % 4051 == n % 4051) = true := by rw [hit]; simp
        clear hit
        go_wp2_with fail
        go_ret
        exact ⟨ret_int H.out, rfl⟩
      · have hit' : (r * r % 4051 == n % 4051) = false := beq_eq_false_iff_ne.mpr hit
        have HH : Hid (¬ r * r % 4051 = n % 4051) := hit
        clear hit
        go_wp2_with fail
        go_round
        case rel =>
          refine ⟨r + 1, by omega, by omega, rfl, fun s h0 h1 => ?_⟩
          by_cases hs : s = r
          · rw [hs]; exact HH.out
          · exact HA.out s h0 (by omega)
        case measure => simp [intOf]; omega
    · have H : Hid (-1 = rootI n) := rootI_miss fun s h0 h1 => HA.out s h0 (by omega)
      go_wp2_with fail
      go_ret
      exact ⟨ret_int H.out, rfl⟩
theorem rmod_fm (n : Int) (w : World) :
    Calls Tryd.prog 30 #[.int .i64 n, .int .i64 4051] w fun e w' => e = .returned (.int .i64 (fm n)) ∧ w' = w :=
  rmod_any n 4051 w (by omega) (by omega)
theorem rroot_fm (a : Int) (w : World) :
    Calls Tryd.prog 29 #[.int .i64 (fm a)] w fun e w' => e = .returned (.int .i64 (rootI a)) ∧ w' = w := by
  have h := rroot_any (fm a) w
  have e1 : rt (fm a) = rt a := fpow_fm a 1013
  have e2 : rootI (fm a) = rootI a := by unfold rootI rtOk rtMin; rw [e1, fm_fm]
  rw [e2] at h
  exact h
theorem rroot_yes (a : Int) (w : World) (h : rtOk a = true) :
    Calls Tryd.prog 29 #[.int .i64 (fm a)] w fun e w' => e = .returned (.int .i64 (rtMin a)) ∧ w' = w := by
  have := rroot_fm a w
  rw [rootI, h] at this
  exact this
theorem rroot_no (a : Int) (w : World) (h : rtOk a = false) :
    Calls Tryd.prog 29 #[.int .i64 (fm a)] w fun e w' => e = .returned (.int .i64 (-1)) ∧ w' = w := by
  have := rroot_fm a w
  rw [rootI, h] at this
  exact this
end Go.Proofs.YtbnccfmegndpgacDoor
