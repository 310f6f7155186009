/- What each function of package prime answers, for every number, in whatever memory; it writes nothing. -/
import Derived.Test.YtgngdabfmbipaakGreatDoorChecked
import Derived.Test.YtgngdabfmbipaakGreatDoorKG0
import Derived.WalkKit
namespace Go.Proofs.YtgngdabfmbipaakGreatDoor
open Go.RowKit

theorem tmod_or (n : Int) : n.tmod 4051 = fm n ∨ (n.tmod 4051 < 0 ∧ n.tmod 4051 + 4051 = fm n ∧ 0 < fm n) := by
  unfold fm
  by_cases h : 0 ≤ n
  · left; exact Int.tmod_eq_emod_of_nonneg h
  · have e : n.tmod 4051 = - ((-n) % 4051) := by
      rw [← Int.tmod_eq_emod_of_nonneg (by omega : 0 ≤ -n), Int.neg_tmod, Int.neg_neg]
    rw [e]; omega
theorem tmod_neg_lt {n : Int} (h : n.tmod 4051 < 0) : n.tmod 4051 + 4051 = fm n := by
  have := fm_lo n; rcases tmod_or n with h1 | h1 <;> omega
theorem tmod_pos {n : Int} (h : 0 ≤ n.tmod 4051) : n.tmod 4051 = fm n := by
  rcases tmod_or n with h1 | h1 <;> omega
theorem tmod_bd (n : Int) : -4051 < n.tmod 4051 ∧ n.tmod 4051 < 4051 := by
  have h2 := fm_lo n; have h3 := fm_hi n
  rcases tmod_or n with h1 | h1
  · rw [h1]; constructor <;> omega
  · obtain ⟨h4, h5, h6⟩ := h1; constructor <;> omega
theorem ret_int {k : IntKind} {a b : Int} (h : a = b) : Ending.returned (.int k a) = .returned (.int k b) := by rw [h]

theorem ret2_int {k : IntKind} {a b : Int} {v : Value} (h : a = b) : Ending.returned (.tuple #[.int k a, v]) = .returned (.tuple #[.int k b, v]) := by rw [h]
theorem of_any (n : Int) (w : World) :
    Calls Tryz.prog 101 #[.int .i64 n] w fun e w' => e = .returned (.int .i64 (fm n)) ∧ w' = w := by
  obtain ⟨hb1, hb2⟩ := tmod_bd n
  by_cases h : n.tmod 4051 < 0
  · go_enter Tryz.func101, Tryz.ntmps101
    go_wp2
    go_ret
    exact ⟨ret_int (tmod_neg_lt h), rfl⟩
  · go_enter Tryz.func101, Tryz.ntmps101
    go_wp2
    go_ret
    exact ⟨ret_int (tmod_pos (by omega)), rfl⟩

theorem add_any (a b : Int) (w : World) :
    Calls Tryz.prog 102 #[.int .i64 a, .int .i64 b] w fun e w' => e = .returned (.int .i64 (fm (a + b))) ∧ w' = w := by
  have h1 := fm_lo a; have h2 := fm_hi a; have h3 := fm_lo b; have h4 := fm_hi b
  go_enter Tryz.func102, Tryz.ntmps102
  go_wp2_with (go_at_call 101; refine (of_any _ _).mono ?_; rintro e w' ⟨rfl, rfl⟩)
  go_ret
  exact ⟨ret_int (fm_add a b), rfl⟩

theorem sub_any (a b : Int) (w : World) :
    Calls Tryz.prog 110 #[.int .i64 a, .int .i64 b] w fun e w' => e = .returned (.int .i64 (fm (a - b))) ∧ w' = w := by
  have h1 := fm_lo a; have h2 := fm_hi a; have h3 := fm_lo b; have h4 := fm_hi b
  go_enter Tryz.func110, Tryz.ntmps110
  go_wp2_with (go_at_call 101; refine (of_any _ _).mono ?_; rintro e w' ⟨rfl, rfl⟩)
  go_ret
  exact ⟨ret_int (fm_sub a b), rfl⟩

theorem mul_bd {x y : Int} (h1 : 0 ≤ x) (h2 : x ≤ 4050) (h3 : 0 ≤ y) (h4 : y ≤ 4050) : 0 ≤ x * y ∧ x * y ≤ 16402500 := by
  refine ⟨Int.mul_nonneg h1 h3, ?_⟩
  have := Int.mul_le_mul h2 h4 h3 (by omega : (0 : Int) ≤ 4050)
  omega
theorem mul_any (a b : Int) (w : World) :
    Calls Tryz.prog 64 #[.int .i64 a, .int .i64 b] w fun e w' => e = .returned (.int .i64 (fm (a * b))) ∧ w' = w := by
  obtain ⟨h5, h6⟩ := mul_bd (fm_lo a) (fm_hi a) (fm_lo b) (fm_hi b)
  go_enter Tryz.func64, Tryz.ntmps64
  go_wp2_with (go_at_call 101; refine (of_any _ _).mono ?_; rintro e w' ⟨rfl, rfl⟩)
  go_ret
  exact ⟨ret_int (fm_mul a b), rfl⟩

/-- A step of the loop, where the number is odd. -/
theorem step_odd {a p s k : Int} {N : Nat} (h0 : 0 < k) (h1 : k % 2 = 1) (h : fm (p * s ^ k.toNat) = fpow a N) :
    fm (fm (p * s) * fm (s * s) ^ (k / 2).toNat) = fpow a N := by
  rw [← h]
  have e : k.toNat = 1 + 2 * (k / 2).toNat := by omega
  rw [e, pow_add, ← pow_dbl, show s ^ 1 = s by rw [Int.pow_succ, Int.pow_zero, Int.one_mul], ← Int.mul_assoc]
  exact fm_mul_congr (fm_fm _) (fm_pow _ _)
theorem step_even {a p s k : Int} {N : Nat} (h0 : 0 < k) (h1 : k % 2 = 0) (h : fm (p * s ^ k.toNat) = fpow a N) :
    fm (p * fm (s * s) ^ (k / 2).toNat) = fpow a N := by
  rw [← h]
  have e : k.toNat = 2 * (k / 2).toNat := by omega
  rw [e, ← pow_dbl]
  exact fm_mul_congr rfl (fm_pow _ _)

set_option maxHeartbeats 400000 in
theorem power_any (a n : Int) (w : World) (hn : 0 ≤ n) (hm : n ≤ 9223372036854775807) :
    Calls Tryz.prog 109 #[.int .i64 a, .int .i64 n] w fun e w' => e = .returned (.int .i64 (fpow a n.toNat)) ∧ w' = w := by
  go_enter Tryz.func109, Tryz.ntmps109
  go_wp2_with (go_at_call 101; refine (of_any _ _).mono ?_; rintro e w' ⟨rfl, rfl⟩)
  go_loop [1, 5, 6] (fun tn tp ts => ∃ k p s : Int, 0 ≤ k ∧ k ≤ 9223372036854775807 ∧ tn = .int .i64 k ∧ tp = .int .i64 p ∧ ts = .int .i64 s ∧ 0 ≤ p ∧ p ≤ 4050 ∧ fm (p * s ^ k.toNat) = fpow a n.toNat) (fun tn _ _ => (intOf tn).toNat)
  case atStart => exact ⟨n, 1, fm a, hn, hm, rfl, rfl, rfl, by omega, by omega, by rw [Int.one_mul]; exact fm_pow a n.toNat⟩
  case round =>
    obtain ⟨k, p, s, hk0, hk1, rfl, rfl, rfl, hp0, hp1, hinv⟩ := hrel
    have HI : Hid (fm (p * s ^ k.toNat) = fpow a n.toNat) := hinv
    clear hinv
    by_cases hlt : 0 < k
    · by_cases hodd : k % 2 = 1
      · go_wp2_with (go_at_call 64; refine (mul_any _ _ _).mono ?_; rintro e w' ⟨rfl, rfl⟩)
        go_round
        case rel => exact ⟨k / 2, fm (p * s), fm (s * s), by omega, by omega, rfl, rfl, rfl, fm_lo _, fm_hi _, step_odd hlt hodd HI.out⟩
        case measure => simp [intOf]; omega
      · have hev : k % 2 = 0 := by omega
        go_wp2_with (go_at_call 64; refine (mul_any _ _ _).mono ?_; rintro e w' ⟨rfl, rfl⟩)
        go_round
        case rel => exact ⟨k / 2, p, fm (s * s), by omega, by omega, rfl, rfl, rfl, hp0, hp1, step_even hlt hev HI.out⟩
        case measure => simp [intOf]; omega
    · go_wp2_with fail
      go_ret
      have hk : k = 0 := by omega
      subst hk
      have hi := HI.out
      rw [show (0 : Int).toNat = 0 from rfl, Int.pow_zero, Int.mul_one, fm_id hp0 hp1] at hi
      exact ⟨ret_int hi, rfl⟩

/-- What an error that is made of a number of package api is. -/
abbrev errOf (n : Int) : Value := .iface 100 (.int .i64 n)
theorem inv_yes (a : Int) (w : World) (h : (fm a == 0) = false) :
    Calls Tryz.prog 132 #[.int .i64 a] w fun e w' => e = .returned (.tuple #[.int .i64 (fpow a 4049), .nilIface]) ∧ w' = w := by
  go_enter Tryz.func132, Tryz.ntmps132
  go_wp2_with (first | (go_at_call 101; refine (of_any _ _).mono ?_; rintro e w' ⟨rfl, rfl⟩) | (go_at_call 109; refine (power_any _ _ _ (by omega) (by omega)).mono ?_; rintro e w' ⟨rfl, rfl⟩))
  go_ret2
  exact ⟨rfl, rfl⟩
theorem inv_no (a : Int) (w : World) (h : (fm a == 0) = true) :
    Calls Tryz.prog 132 #[.int .i64 a] w fun e w' => e = .returned (.tuple #[.int .i64 0, errOf 5]) ∧ w' = w := by
  go_enter Tryz.func132, Tryz.ntmps132
  go_wp2_with (go_at_call 101; refine (of_any _ _).mono ?_; rintro e w' ⟨rfl, rfl⟩)
  go_ret2
  exact ⟨rfl, rfl⟩
theorem sqrt_yes (a : Int) (w : World) (h : rtOk a = true) :
    Calls Tryz.prog 68 #[.int .i64 a] w fun e w' => e = .returned (.tuple #[.int .i64 (rtMin a), .nilIface]) ∧ w' = w := by
  have h' : (fm (rt a * rt a) == fm a) = true := h
  have hp : rt a = fpow a (1013 : Int).toNat := rfl
  unfold rtMin
  have HP : Hid (rt a = fpow a (1013 : Int).toNat) := hp
  clear h hp
  go_enter Tryz.func68, Tryz.ntmps68
  go_wp2_with (first | (go_at_call 109; refine (power_any _ _ _ (by omega) (by omega)).mono ?_; rintro e w' ⟨rfl, rfl⟩; rw [← HP.out]) | (go_at_call 101; refine (of_any _ _).mono ?_; rintro e w' ⟨rfl, rfl⟩) | (go_at_call 64; refine (mul_any _ _ _).mono ?_; rintro e w' ⟨rfl, rfl⟩) | (go_at_call 110; refine (sub_any _ _ _).mono ?_; rintro e w' ⟨rfl, rfl⟩))
  all_goals
    go_ret2
    exact ⟨ret2_int (by omega), rfl⟩
theorem sqrt_no (a : Int) (w : World) (h : rtOk a = false) :
    Calls Tryz.prog 68 #[.int .i64 a] w fun e w' => e = .returned (.tuple #[.int .i64 0, errOf 5]) ∧ w' = w := by
  have h' : (fm (rt a * rt a) == fm a) = false := h
  have hp : rt a = fpow a (1013 : Int).toNat := rfl
  have HP : Hid (rt a = fpow a (1013 : Int).toNat) := hp
  clear h hp
  go_enter Tryz.func68, Tryz.ntmps68
  go_wp2_with (first | (go_at_call 109; refine (power_any _ _ _ (by omega) (by omega)).mono ?_; rintro e w' ⟨rfl, rfl⟩; rw [← HP.out]) | (go_at_call 101; refine (of_any _ _).mono ?_; rintro e w' ⟨rfl, rfl⟩) | (go_at_call 64; refine (mul_any _ _ _).mono ?_; rintro e w' ⟨rfl, rfl⟩))
  go_ret2
  exact ⟨rfl, rfl⟩
end Go.Proofs.YtgngdabfmbipaakGreatDoor

/- What the plain reckoning of the statements (stoneref1: Mod, Turn, Power, Root) answers; it writes nothing. -/
namespace Go.Proofs.YtgngdabfmbipaakGreatDoor
open Go.RowKit

theorem tmod_or' (n m : Int) (hm : 0 < m) : n.tmod m = n % m ∨ (n.tmod m < 0 ∧ n.tmod m + m = n % m ∧ 0 < n % m) := by
  by_cases h : 0 ≤ n
  · left; exact Int.tmod_eq_emod_of_nonneg h
  · have e : n.tmod m = - ((-n) % m) := by
      rw [← Int.tmod_eq_emod_of_nonneg (by omega : 0 ≤ -n), Int.neg_tmod, Int.neg_neg]
    have h1 := Int.emod_nonneg (-n) (by omega : m ≠ 0)
    have h2 := Int.emod_lt_of_pos (-n) hm
    have h3 := Int.emod_nonneg n (by omega : m ≠ 0)
    have h4 := Int.emod_lt_of_pos n hm
    have h5 : (n % m + (-n) % m) % m = 0 := by
      rw [← Int.add_emod, Int.add_right_neg, Int.zero_emod]
    rw [e]
    by_cases h6 : (-n) % m = 0
    · rw [h6, Int.add_zero, Int.emod_emod_of_dvd _ (Int.dvd_refl m)] at h5
      left; omega
    · right
      have h7 : n % m + (-n) % m = m := by
        rcases Int.lt_or_le (n % m + (-n) % m) m with h8 | h8
        · rw [Int.emod_eq_of_lt (by omega) h8] at h5; omega
        · have h9 : (n % m + (-n) % m - m) % m = 0 := by rw [Int.sub_emod_right]; exact h5
          rw [Int.emod_eq_of_lt (by omega) (by omega)] at h9; omega
      omega
theorem tmod_bd' (n m : Int) (hm : 0 < m) : -m < n.tmod m ∧ n.tmod m < m := by
  have h2 := Int.emod_nonneg n (by omega : m ≠ 0); have h3 := Int.emod_lt_of_pos n hm
  rcases tmod_or' n m hm with h1 | h1
  · rw [h1]; constructor <;> omega
  · obtain ⟨h4, h5, h6⟩ := h1; constructor <;> omega
theorem rmod_any (n m : Int) (w : World) (hm : 0 < m) (hm' : m ≤ 1000000000) :
    Calls Tryz.prog 96 #[.int .i64 n, .int .i64 m] w fun e w' => e = .returned (.int .i64 (n % m)) ∧ w' = w := by
  obtain ⟨hb1, hb2⟩ := tmod_bd' n m hm
  have ho : Hid (n.tmod m = n % m ∨ (n.tmod m < 0 ∧ n.tmod m + m = n % m ∧ 0 < n % m)) := tmod_or' n m hm
  have hp : Hid (0 ≤ n % m) := Int.emod_nonneg n (by omega : m ≠ 0)
  by_cases h : n.tmod m < 0
  · have h' : n.tmod m + m = n % m := by have := ho.out; have := hp.out; omega
    have H' : Hid (n.tmod m + m = n % m) := h'
    clear h' ho hp
    go_enter Tryz.func96, Tryz.ntmps96
    go_wp2
    go_ret
    exact ⟨ret_int H'.out, rfl⟩
  · have h' : n.tmod m = n % m := by have := ho.out; have := hp.out; omega
    have H' : Hid (n.tmod m = n % m) := h'
    clear h' ho hp
    go_enter Tryz.func96, Tryz.ntmps96
    go_wp2
    go_ret
    exact ⟨ret_int H'.out, rfl⟩
set_option maxHeartbeats 400000 in
theorem rroot_any (n : Int) (w : World) :
    Calls Tryz.prog 91 #[.int .i64 n] w fun e w' => e = .returned (.int .i64 (rootI n)) ∧ w' = w := by
  go_enter Tryz.func91, Tryz.ntmps91
  go_wp2_with (go_at_call 96; refine (rmod_any _ _ _ (by omega) (by omega)).mono ?_; rintro e w' ⟨rfl, rfl⟩)
  go_loop [3] (fun t => ∃ r : Int, 0 ≤ r ∧ r ≤ 2026 ∧ t = .int .i64 r ∧ ∀ s : Int, 0 ≤ s → s < r → s * s % 4051 ≠ fm n) (fun t => (3000 - intOf t).toNat)
  case atStart => exact ⟨0, by omega, by omega, rfl, fun s h0 h1 => by omega⟩
  case round =>
    obtain ⟨r, hr0, hr1, rfl, hall⟩ := hrel
    have HA : Hid (∀ s : Int, 0 ≤ s → s < r → s * s % 4051 ≠ fm n) := hall
    clear hall
    have hb1 : 0 ≤ r * r := Int.mul_nonneg hr0 hr0
    have hb2 : r * r ≤ 2026 * 2026 := Int.mul_le_mul hr1 hr1 hr0 (by omega)
    by_cases hlt : 2 * r ≤ 4051
    · by_cases hit : r * r % 4051 = n % 4051
      · have H : Hid (r = rootI n) := rootI_hit hr0 hlt hit
        have hit' : (r * r % 4051 == n % 4051) = true := by rw [hit]; simp
        clear hit
        go_wp2_with fail
        go_ret
        exact ⟨ret_int H.out, rfl⟩
      · have hit' : (r * r % 4051 == n % 4051) = false := beq_eq_false_iff_ne.mpr hit
        have HH : Hid (¬ r * r % 4051 = n % 4051) := hit
        clear hit
        go_wp2_with fail
        go_round
        case rel =>
          refine ⟨r + 1, by omega, by omega, rfl, fun s h0 h1 => ?_⟩
          by_cases hs : s = r
          · rw [hs]; exact HH.out
          · exact HA.out s h0 (by omega)
        case measure => simp [intOf]; omega
    · have H : Hid (-1 = rootI n) := rootI_miss fun s h0 h1 => HA.out s h0 (by omega)
      go_wp2_with fail
      go_ret
      exact ⟨ret_int H.out, rfl⟩
theorem div_mul_mod (a b : Nat) : (a : Int) - (a : Int) / (b : Int) * (b : Int) = ((a % b : Nat) : Int) := by
  have h := Nat.div_add_mod a b
  rw [Nat.mul_comm] at h
  rw [← Int.natCast_ediv, ← Int.natCast_mul]; omega
theorem sg_step (s : Bool) (a b px py : Nat) : sg s px - (a : Int) / (b : Int) * sg (!s) py = sg (!(!s)) (px + a / b * py) := by
  cases s <;> simp [sg, ← Int.natCast_ediv, Int.mul_neg] <;> omega
set_option maxHeartbeats 400000 in
theorem turn_any (m n e : Int) (w : World) (hm : 0 < m) (hm' : m ≤ 5000) (h0 : 0 ≤ n) (h1 : n ≤ 5000) (f : Nat) (hs : chkT m.toNat e.toNat f false m.toNat n.toNat 0 1 = true) (he : 0 ≤ e) :
    Calls Tryz.prog 129 #[.int .i64 n, .int .i64 m] w fun x w' => x = .returned (.int .i64 e) ∧ w' = w := by
  have HS : Hid (chkT m.toNat e.toNat f false m.toNat n.toNat 0 1 = true) := hs
  clear hs
  go_enter Tryz.func129, Tryz.ntmps129
  go_wp2_with fail
  go_loop [5, 6, 7, 8, 9, 10, 11] (fun ta tb tx ty _ _ _ => ∃ (f : Nat) (s : Bool) (a b px py : Nat), a ≤ 5000 ∧ b ≤ 5000 ∧ px ≤ 5000 ∧ ta = .int .i64 a ∧ tb = .int .i64 b ∧ tx = .int .i64 (sg s px) ∧ ty = .int .i64 (sg (!s) py) ∧ chkT m.toNat e.toNat f s a b px py = true) (fun _ tb _ _ _ _ _ => (intOf tb).toNat)
  case atStart => exact ⟨f, false, m.toNat, n.toNat, 0, 1, by omega, by omega, by omega, by rw [Int.toNat_of_nonneg (by omega)], by rw [Int.toNat_of_nonneg (by omega)], rfl, rfl, HS.out⟩
  case round =>
    obtain ⟨f, s, a, b, px, py, ha, hb, hpx, rfl, rfl, rfl, rfl, hc⟩ := hrel
    have hpy := chkT_py hc
    by_cases hb0 : 0 < b
    · obtain ⟨g, hg⟩ := chkT_step hb0 hc
      have hny := chkT_py hg
      have HG : Hid (chkT m.toNat e.toNat g (!s) b (a % b) py (px + a / b * py) = true) := hg
      have hq := div_mul_mod a b
      have hst := sg_step s a b px py
      have hml := Nat.mod_lt a hb0
      have hq0 : (0 : Int) ≤ (a : Int) / (b : Int) := by rw [← Int.natCast_ediv]; exact Int.natCast_nonneg _
      have hml2 := Nat.mod_le a b
      have hq1 : (a : Int) / (b : Int) ≤ 5000 := by rw [← Int.natCast_ediv]; have := Nat.div_le_self a b; omega
      have hsx : -5000 ≤ sg s px ∧ sg s px ≤ 5000 := by cases s <;> simp [sg] <;> omega
      have hsn : -5000 ≤ sg (!(!s)) (px + a / b * py) ∧ sg (!(!s)) (px + a / b * py) ≤ 5000 := by
        generalize px + a / b * py = z at *
        cases s <;> simp [sg] <;> omega
      have HQ : Hid ((a : Int) - (a : Int) / (b : Int) * (b : Int) = ((a % b : Nat) : Int)) := hq
      have HT : Hid (sg s px - (a : Int) / (b : Int) * sg (!s) py = sg (!(!s)) (px + a / b * py)) := hst
      obtain ⟨x1, x2⟩ := hsx
      have y1 : -10000 ≤ (a : Int) / (b : Int) * sg (!s) py := by omega
      have y2 : (a : Int) / (b : Int) * sg (!s) py ≤ 10000 := by omega
      have z1 : 0 ≤ (a : Int) / (b : Int) * (b : Int) := by omega
      have z2 : (a : Int) / (b : Int) * (b : Int) ≤ 5000 := by omega
      clear hc hg hst hsn hq
      go_wp2_with fail
      go_round
      case rel => exact ⟨g, !s, b, a % b, py, px + a / b * py, hb, by omega, hpy, rfl, by rw [HQ.out], rfl, by rw [HT.out], HG.out⟩
      case measure => simp only [intOf, HQ.out]; omega
    · have hb1 : b = 0 := by omega
      subst hb1
      have hE := chkT_end (by omega : 0 < m.toNat) hc
      rw [Int.toNat_of_nonneg (by omega), Int.toNat_of_nonneg he] at hE
      have HE : Hid (sg s px % m = e) := hE
      clear hE hc
      go_wp2_with (go_at_call 96; refine (rmod_any _ _ _ (by omega) (by omega)).mono ?_; rintro e w' ⟨rfl, rfl⟩)
      go_ret
      exact ⟨ret_int HE.out, rfl⟩
theorem rmod_fm (n : Int) (w : World) :
    Calls Tryz.prog 96 #[.int .i64 n, .int .i64 4051] w fun e w' => e = .returned (.int .i64 (fm n)) ∧ w' = w :=
  rmod_any n 4051 w (by omega) (by omega)
end Go.Proofs.YtgngdabfmbipaakGreatDoor
