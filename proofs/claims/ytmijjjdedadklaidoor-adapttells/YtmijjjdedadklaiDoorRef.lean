/- What the plain reckoning of the statements (stoneref1: Mod, Turn, Power, Root) answers; it writes nothing. -/
import Derived.Test.YtmijjjdedadklaiDoorPrime
import Derived.Test.YtmijjjdedadklaiDoorRefMath
namespace Go.Proofs.YtmijjjdedadklaiDoor
open Go.RowKit

theorem tmod_or' (n m : Int) (hm : 0 < m) : n.tmod m = n % m ∨ (n.tmod m < 0 ∧ n.tmod m + m = n % m ∧ 0 < n % m) := by
  by_cases h : 0 ≤ n
  · left; exact Int.tmod_eq_emod_of_nonneg h
  · have e : n.tmod m = - ((-n) % m) := by
      rw [← Int.tmod_eq_emod_of_nonneg (by omega : 0 ≤ -n), Int.neg_tmod, Int.neg_neg]
    have h1 := Int.emod_nonneg (-n) (by omega : m ≠ 0)
    have h2 := Int.emod_lt_of_pos (-n) hm
    have h3 := Int.emod_nonneg n (by omega : m ≠ 0)
    have h4 := Int.emod_lt_of_pos n hm
    have h5 : (n % m + (-n) % m) % m = 0 := by
      rw [← Int.add_emod, Int.add_right_neg, Int.zero_emod]
    rw [e]
    by_cases h6 : (-n) % m = 0
    · rw [h6, Int.add_zero, Int.emod_emod_of_dvd _ (Int.dvd_refl m)] at h5
      left; omega
    · right
      have h7 : n % m + (-n) % m = m := by
        rcases Int.lt_or_le (n % m + (-n) % m) m with h8 | h8
        · rw [Int.emod_eq_of_lt (by omega) h8] at h5; omega
        · have h9 : (n % m + (-n) % m - m) % m = 0 := by rw [Int.sub_emod_right]; exact h5
          rw [Int.emod_eq_of_lt (by omega) (by omega)] at h9; omega
      omega
theorem tmod_bd' (n m : Int) (hm : 0 < m) : -m < n.tmod m ∧ n.tmod m < m := by
  have h2 := Int.emod_nonneg n (by omega : m ≠ 0); have h3 := Int.emod_lt_of_pos n hm
  rcases tmod_or' n m hm with h1 | h1
  · rw [h1]; constructor <;> omega
  · obtain ⟨h4, h5, h6⟩ := h1; constructor <;> omega
theorem rmod_any (n m : Int) (w : World) (hm : 0 < m) (hm' : m ≤ 1000000000) :
    Calls Tryd.prog 23 #[.int .i64 n, .int .i64 m] w fun e w' => e = .returned (.int .i64 (n % m)) ∧ w' = w := by
  obtain ⟨hb1, hb2⟩ := tmod_bd' n m hm
  have ho : Hid (n.tmod m = n % m ∨ (n.tmod m < 0 ∧ n.tmod m + m = n % m ∧ 0 < n % m)) := tmod_or' n m hm
  have hp : Hid (0 ≤ n % m) := Int.emod_nonneg n (by omega : m ≠ 0)
  by_cases h : n.tmod m < 0
  · have h' : n.tmod m + m = n % m := by have := ho.out; have := hp.out; omega
    have H' : Hid (n.tmod m + m = n % m) := h'
    clear h' ho hp
    go_enter Tryd.func23, Tryd.ntmps23
    go_wp2
    go_ret
    exact ⟨ret_int H'.out, rfl⟩
  · have h' : n.tmod m = n % m := by have := ho.out; have := hp.out; omega
    have H' : Hid (n.tmod m = n % m) := h'
    clear h' ho hp
    go_enter Tryd.func23, Tryd.ntmps23
    go_wp2
    go_ret
    exact ⟨ret_int H'.out, rfl⟩
set_option maxHeartbeats 400000 in
theorem rroot_any (n : Int) (w : World) :
    Calls Tryd.prog 106 #[.int .i64 n] w fun e w' => e = .returned (.int .i64 (rootI n)) ∧ w' = w := by
  go_enter Tryd.func106, Tryd.ntmps106
  go_wp2_with (go_at_call 23; refine (rmod_any _ _ _ (by omega) (by omega)).mono ?_; rintro e w' ⟨rfl, rfl⟩)
  go_loop [3] (fun t => ∃ r : Int, 0 ≤ r ∧ r ≤ 2026 ∧ t = .int .i64 r ∧ ∀ s : Int, 0 ≤ s → s < r → s * s % 4051 ≠ fm n) (fun t => (3000 - intOf t).toNat)
  case atStart => exact ⟨0, by omega, by omega, rfl, fun s h0 h1 => by omega⟩
  case round =>
    obtain ⟨r, hr0, hr1, rfl, hall⟩ := hrel
    have HA : Hid (∀ s : Int, 0 ≤ s → s < r → s * s % 4051 ≠ fm n) := hall
    clear hall
    have hb1 : 0 ≤ r * r := Int.mul_nonneg hr0 hr0
    have hb2 : r * r ≤ 2026 * 2026 := Int.mul_le_mul hr1 hr1 hr0 (by omega)
    by_cases hlt : 2 * r ≤ 4051
    · by_cases hit : r * r % 4051 = n % 4051
      · have H : Hid (r = rootI n) := rootI_hit hr0 hlt hit
        have hit' : (r * r % 4051 == n % 4051) = true := by rw [hit]; simp
        clear hit
        go_wp2_with fail
        go_ret
        exact ⟨ret_int H.out, rfl⟩
      · have hit' : (r * r % 4051 == n % 4051) = false := beq_eq_false_iff_ne.mpr hit
        have HH : Hid (¬ r * r % 4051 = n % 4051) := hit
        clear hit
        go_wp2_with fail
        go_round
        case rel =>
          refine ⟨r + 1, by omega, by omega, rfl, fun s h0 h1 => ?_⟩
          by_cases hs : s = r
          · rw [hs]; exact HH.out
          · exact HA.out s h0 (by omega)
        case measure => simp [intOf]; omega
    · have H : Hid (-1 = rootI n) := rootI_miss fun s h0 h1 => HA.out s h0 (by omega)
      go_wp2_with fail
      go_ret
      exact ⟨ret_int H.out, rfl⟩
theorem div_mul_mod (a b : Nat) : (a : Int) - (a : Int) / (b : Int) * (b : Int) = ((a % b : Nat) : Int) := by
  have h := Nat.div_add_mod a b
  rw [Nat.mul_comm] at h
  rw [← Int.natCast_ediv, ← Int.natCast_mul]; omega
theorem sg_step (s : Bool) (a b px py : Nat) : sg s px - (a : Int) / (b : Int) * sg (!s) py = sg (!(!s)) (px + a / b * py) := by
  cases s <;> simp [sg, ← Int.natCast_ediv, Int.mul_neg] <;> omega
set_option maxHeartbeats 400000 in
theorem turn_any (m n e : Int) (w : World) (hm : 0 < m) (hm' : m ≤ 5000) (h0 : 0 ≤ n) (h1 : n ≤ 5000) (f : Nat) (hs : chkT m.toNat e.toNat f false m.toNat n.toNat 0 1 = true) (he : 0 ≤ e) :
    Calls Tryd.prog 107 #[.int .i64 n, .int .i64 m] w fun x w' => x = .returned (.int .i64 e) ∧ w' = w := by
  have HS : Hid (chkT m.toNat e.toNat f false m.toNat n.toNat 0 1 = true) := hs
  clear hs
  go_enter Tryd.func107, Tryd.ntmps107
  go_wp2_with fail
  go_loop [5, 6, 7, 8, 9, 10, 11] (fun ta tb tx ty _ _ _ => ∃ (f : Nat) (s : Bool) (a b px py : Nat), a ≤ 5000 ∧ b ≤ 5000 ∧ px ≤ 5000 ∧ ta = .int .i64 a ∧ tb = .int .i64 b ∧ tx = .int .i64 (sg s px) ∧ ty = .int .i64 (sg (!s) py) ∧ chkT m.toNat e.toNat f s a b px py = true) (fun _ tb _ _ _ _ _ => (intOf tb).toNat)
  case atStart => exact ⟨f, false, m.toNat, n.toNat, 0, 1, by omega, by omega, by omega, by rw [Int.toNat_of_nonneg (by omega)], by rw [Int.toNat_of_nonneg (by omega)], rfl, rfl, HS.out⟩
  case round =>
    obtain ⟨f, s, a, b, px, py, ha, hb, hpx, rfl, rfl, rfl, rfl, hc⟩ := hrel
    have hpy := chkT_py hc
    by_cases hb0 : 0 < b
    · obtain ⟨g, hg⟩ := chkT_step hb0 hc
      have hny := chkT_py hg
      have HG : Hid (chkT m.toNat e.toNat g (!s) b (a % b) py (px + a / b * py) = true) := hg
      have hq := div_mul_mod a b
      have hst := sg_step s a b px py
      have hml := Nat.mod_lt a hb0
      have hq0 : (0 : Int) ≤ (a : Int) / (b : Int) := by rw [← Int.natCast_ediv]; exact Int.natCast_nonneg _
      have hml2 := Nat.mod_le a b
      have hq1 : (a : Int) / (b : Int) ≤ 5000 := by rw [← Int.natCast_ediv]; have := Nat.div_le_self a b; omega
      have hsx : -5000 ≤ sg s px ∧ sg s px ≤ 5000 := by cases s <;> simp [sg] <;> omega
      have hsn : -5000 ≤ sg (!(!s)) (px + a / b * py) ∧ sg (!(!s)) (px + a / b * py) ≤ 5000 := by
        generalize px + a / b * py = z at *
        cases s <;> simp [sg] <;> omega
      have HQ : Hid ((a : Int) - (a : Int) / (b : Int) * (b : Int) = ((a % b : Nat) : Int)) := hq
      have HT : Hid (sg s px - (a : Int) / (b : Int) * sg (!s) py = sg (!(!s)) (px + a / b * py)) := hst
      obtain ⟨x1, x2⟩ := hsx
      have y1 : -10000 ≤ (a : Int) / (b : Int) * sg (!s) py := by omega
      have y2 : (a : Int) / (b : Int) * sg (!s) py ≤ 10000 := by omega
      have z1 : 0 ≤ (a : Int) / (b : Int) * (b : Int) := by omega
      have z2 : (a : Int) / (b : Int) * (b : Int) ≤ 5000 := by omega
      clear hc hg hst hsn hq
      go_wp2_with fail
      go_round
      case rel => exact ⟨g, !s, b, a % b, py, px + a / b * py, hb, by omega, hpy, rfl, by rw [HQ.out], rfl, by rw [HT.out], HG.out⟩
      case measure => simp only [intOf, HQ.out]; omega
    · have hb1 : b = 0 := by omega
      subst hb1
      have hE := chkT_end (by omega : 0 < m.toNat) hc
      rw [Int.toNat_of_nonneg (by omega), Int.toNat_of_nonneg he] at hE
      have HE : Hid (sg s px % m = e) := hE
      clear hE hc
      go_wp2_with (go_at_call 23; refine (rmod_any _ _ _ (by omega) (by omega)).mono ?_; rintro e w' ⟨rfl, rfl⟩)
      go_ret
      exact ⟨ret_int HE.out, rfl⟩
theorem turn_fm (a : Int) (w : World) (h : (fm a == 0) = false) :
    Calls Tryd.prog 107 #[.int .i64 (fm a), .int .i64 4051] w fun x w' => x = .returned (.int .i64 (fpow a 4049)) ∧ w' = w := by
  have h1 := fm_lo a; have h2 := fm_hi a
  have h3 := beq_eq_false_iff_ne.mp h
  have h4 := turn_start (n := fm a) (by omega) h2
  rw [fpow_fm] at h4
  exact turn_any 4051 (fm a) (fpow a 4049) w (by omega) (by omega) h1 (by omega) 40 h4 (fpow_lo _ _)
theorem rmod_fm (n : Int) (w : World) :
    Calls Tryd.prog 23 #[.int .i64 n, .int .i64 4051] w fun e w' => e = .returned (.int .i64 (fm n)) ∧ w' = w :=
  rmod_any n 4051 w (by omega) (by omega)
theorem rroot_fm (a : Int) (w : World) :
    Calls Tryd.prog 106 #[.int .i64 (fm a)] w fun e w' => e = .returned (.int .i64 (rootI a)) ∧ w' = w := by
  have h := rroot_any (fm a) w
  have e1 : rt (fm a) = rt a := fpow_fm a 1013
  have e2 : rootI (fm a) = rootI a := by unfold rootI rtOk rtMin; rw [e1, fm_fm]
  rw [e2] at h
  exact h
theorem rroot_yes (a : Int) (w : World) (h : rtOk a = true) :
    Calls Tryd.prog 106 #[.int .i64 (fm a)] w fun e w' => e = .returned (.int .i64 (rtMin a)) ∧ w' = w := by
  have := rroot_fm a w
  rw [rootI, h] at this
  exact this
theorem rroot_no (a : Int) (w : World) (h : rtOk a = false) :
    Calls Tryd.prog 106 #[.int .i64 (fm a)] w fun e w' => e = .returned (.int .i64 (-1)) ∧ w' = w := by
  have := rroot_fm a w
  rw [rootI, h] at this
  exact this
end Go.Proofs.YtmijjjdedadklaiDoor
