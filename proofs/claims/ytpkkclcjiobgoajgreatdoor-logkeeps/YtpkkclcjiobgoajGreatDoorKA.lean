/- Plain facts on numbers modulo 4051; nothing of the program stands in here. -/
import Derived.Test.YtpkkclcjiobgoajGreatDoorChecked
import Derived.WalkKit
import Derived.BigQuiet
import Derived.Lib.QuietBelow
import Derived.Deep.RegionWith
import Derived.Test.YtpkkclcjiobgoajGreatDoorKDoor
import Derived.ChangeFn
import Derived.Test.YtpkkclcjiobgoajGreatDoorRows
import Derived.ChangeSame
import Derived.ChangeVars
import Derived.JoinedOf
import Derived.RowKit
import Derived.RowKitTokens
import Derived.LaidLaws
import Derived.LaidHandle
import Derived.Stop.Joined
import Derived.ProofKit
import Derived.OpenShut
import Derived.RowKit3
import Derived.Lib.SmallJoins
import Derived.Deep.Slices
import Derived.Carry
import Derived.Maps.AppendAt
import Derived.OwnWalk
import Derived.OneCell
namespace Go.Proofs.YtpkkclcjiobgoajGreatDoor

/-- The number modulo 4051. -/
def fm (n : Int) : Int := n % 4051

theorem fm_lo (n : Int) : 0 ≤ fm n := by unfold fm; omega
theorem fm_hi (n : Int) : fm n ≤ 4050 := by unfold fm; omega
theorem fm_id {n : Int} (h0 : 0 ≤ n) (h1 : n ≤ 4050) : fm n = n := by unfold fm; omega
theorem fm_fm (n : Int) : fm (fm n) = fm n := by unfold fm; omega
theorem fm_add (a b : Int) : fm (fm a + fm b) = fm (a + b) := by unfold fm; omega
theorem fm_sub (a b : Int) : fm (fm a - fm b) = fm (a - b) := by unfold fm; omega
theorem fm_mul (a b : Int) : fm (fm a * fm b) = fm (a * b) := by unfold fm; rw [← Int.mul_emod]
theorem fm_mul_l (a b : Int) : fm (fm a * b) = fm (a * b) := by
  rw [← fm_mul (fm a) b, fm_fm, fm_mul]
theorem fm_mul_r (a b : Int) : fm (a * fm b) = fm (a * b) := by
  rw [← fm_mul a (fm b), fm_fm, fm_mul]
theorem fm_add_l (a b : Int) : fm (fm a + b) = fm (a + b) := by unfold fm; omega
theorem fm_add_r (a b : Int) : fm (a + fm b) = fm (a + b) := by unfold fm; omega
theorem fm_sub_l (a b : Int) : fm (fm a - b) = fm (a - b) := by unfold fm; omega
theorem fm_sub_r (a b : Int) : fm (a - fm b) = fm (a - b) := by unfold fm; omega
theorem fm_pow (a : Int) (n : Nat) : fm (fm a ^ n) = fm (a ^ n) := by
  induction n with
  | zero => rw [Int.pow_zero, Int.pow_zero]
  | succ n ih => rw [Int.pow_succ, Int.pow_succ, ← fm_mul, ih, fm_fm, fm_mul]
theorem fm_mul_congr {a a' b b' : Int} (h : fm a = fm a') (k : fm b = fm b') : fm (a * b) = fm (a' * b') := by
  rw [← fm_mul a, ← fm_mul a', h, k]
theorem pow_add (a : Int) (m n : Nat) : a ^ (m + n) = a ^ m * a ^ n := by
  induction n with
  | zero => simp
  | succ n ih => rw [← Nat.add_assoc, Int.pow_succ, Int.pow_succ, ih, Int.mul_assoc]
theorem pow_dbl (a : Int) (n : Nat) : (a * a) ^ n = a ^ (2 * n) := by
  induction n with
  | zero => simp
  | succ n ih => rw [Int.pow_succ, ih, show 2 * (n + 1) = 2 * n + 1 + 1 by omega, Int.pow_succ, Int.pow_succ, Int.mul_assoc]

/-- A test for all numbers below a bound. -/
def allLT (p : Nat → Bool) (n : Nat) : Bool := Nat.rec true (fun k ih => cond (p k) ih false) n
theorem allLT_spec {p : Nat → Bool} {n : Nat} (h : allLT p n = true) : ∀ k, k < n → p k = true := by
  induction n with
  | zero => intro k hk; omega
  | succ n ih =>
    intro k hk
    have h' : cond (p n) (allLT p n) false = true := h
    cases e : p n with
    | false => rw [e] at h'; simp at h'
    | true =>
      rw [e] at h'
      by_cases hk' : k = n
      · subst hk'; exact e
      · exact ih (by simpa using h') k (by omega)

/-- From all numbers below 4051 to each whole number. -/
theorem fm_all {p : Nat → Bool} (h : allLT p 4051 = true) (a : Int) : p (fm a).toNat = true := by
  refine allLT_spec h _ ?_
  have := fm_lo a; have := fm_hi a; omega
theorem fm_toNat (a : Int) : ((fm a).toNat : Int) = fm a := by have := fm_lo a; omega
theorem fm_nat (n : Nat) : fm (n : Int) = ((n % 4051 : Nat) : Int) := by unfold fm; omega
/-- The power of a number below 4051. -/
def pw (x n : Nat) : Nat := x ^ n % 4051
/-- The power of any number. -/
def fpow (a : Int) (n : Nat) : Int := fm (a ^ n)
theorem fm_nat_pow (a : Int) (n : Nat) : fpow a n = ((pw (fm a).toNat n : Nat) : Int) := by
  unfold fpow pw
  have h := fm_nat ((fm a).toNat ^ n)
  rw [Int.natCast_pow, fm_toNat, fm_pow] at h
  exact h

theorem fpow_lo (a : Int) (n : Nat) : 0 ≤ fpow a n := fm_lo _
theorem fpow_hi (a : Int) (n : Nat) : fpow a n ≤ 4050 := fm_hi _
theorem fpow_fm (a : Int) (n : Nat) : fpow (fm a) n = fpow a n := fm_pow a n
/-- The root that is tried. -/
def rt (a : Int) : Int := fpow a 1013
/-- Is it one? -/
def rtOk (a : Int) : Bool := fm (rt a * rt a) == fm a
/-- The lesser one of both. -/
def rtMin (a : Int) : Int := min (rt a) (fm (0 - rt a))

/-- The same, of a number below 4051. -/
def rtN (x : Nat) : Nat := pw x 1013
def okN (x : Nat) : Bool := Nat.beq (rtN x * rtN x % 4051) x
def minN (x : Nat) : Nat := cond (Nat.ble (rtN x) ((4051 - rtN x) % 4051)) (rtN x) ((4051 - rtN x) % 4051)
theorem rt_nat (a : Int) : rt a = ((rtN (fm a).toNat : Nat) : Int) := fm_nat_pow a 1013
theorem beq_int {m n : Nat} : ((m : Int) == (n : Int)) = Nat.beq m n := by
  by_cases h : m = n
  · subst h; simp [Nat.beq_refl]
  · have h1 : ¬ ((m : Int) = (n : Int)) := by omega
    have h2 : Nat.beq m n = false := by
      cases e : Nat.beq m n with
      | false => rfl
      | true => exact absurd (Nat.eq_of_beq_eq_true e) h
    rw [h2]; exact beq_eq_false_iff_ne.mpr h1
theorem rtOk_nat (a : Int) : rtOk a = okN (fm a).toNat := by
  unfold rtOk okN
  rw [rt_nat, ← Int.natCast_mul, fm_nat, ← fm_toNat a, beq_int, fm_toNat]
theorem pw_lt (x n : Nat) : pw x n < 4051 := by unfold pw; omega
theorem rtN_lt (x : Nat) : rtN x < 4051 := pw_lt x 1013
theorem rtMin_nat (a : Int) : rtMin a = ((minN (fm a).toNat : Nat) : Int) := by
  unfold rtMin minN
  rw [rt_nat]
  generalize hr : rtN (fm a).toNat = r
  have hl : r < 4051 := hr ▸ rtN_lt _
  have e : fm (0 - (r : Int)) = (((4051 - r) % 4051 : Nat) : Int) := by unfold fm; omega
  rw [e]
  cases h : Nat.ble r ((4051 - r) % 4051) with
  | true => have := Nat.le_of_ble_eq_true h; simp only [cond_true]; omega
  | false =>
    have : ¬ r ≤ (4051 - r) % 4051 := fun h' => by rw [Nat.ble_eq_true_of_le h'] at h; exact absurd h (by decide)
    simp only [cond_false]; omega

theorem least_all : allLT (fun x => !(okN x) || (Nat.beq (minN x * minN x % 4051) x && Nat.ble (2 * minN x) 4051)) 4051 = true := by decide +kernel
theorem least {a : Int} (h : rtOk a = true) : fm (rtMin a * rtMin a) = fm a ∧ 0 ≤ rtMin a ∧ 2 * rtMin a ≤ 4051 := by
  have hh := fm_all least_all a
  rw [rtOk_nat] at h
  simp only [h, Bool.not_true, Bool.false_or, Bool.and_eq_true] at hh
  rw [rtMin_nat]
  refine ⟨?_, by omega, ?_⟩
  · rw [← Int.natCast_mul, fm_nat, Nat.eq_of_beq_eq_true hh.1, fm_toNat]
  · have := Nat.le_of_ble_eq_true hh.2; omega
theorem least_le (a : Int) : 0 ≤ rtMin a ∧ rtMin a ≤ 4050 := by
  unfold rtMin rt
  have := fpow_lo a 1013; have := fpow_hi a 1013; have := fm_lo (0 - fpow a 1013); have := fm_hi (0 - fpow a 1013); omega
theorem either_all : allLT (fun x => Nat.beq x 0 || (okN x != okN ((4051 - x) % 4051))) 4051 = true := by decide +kernel
theorem either {a : Int} (h : fm a ≠ 0) : rtOk (fm (0 - a)) = !(rtOk a) := by
  have hh := fm_all either_all a
  simp only [Bool.or_eq_true] at hh
  have e : (fm (fm (0 - a))).toNat = (4051 - (fm a).toNat) % 4051 := by
    have := fm_lo a; have := fm_hi a; have : fm (fm (0 - a)) = fm (0 - fm a) := by unfold fm; omega
    rw [this]; generalize fm a = y at *; unfold fm; omega
  rw [rtOk_nat, rtOk_nat, e]
  rcases hh with h0 | h1
  · have := Nat.eq_of_beq_eq_true h0; have := fm_lo a; omega
  · revert h1; cases okN (fm a).toNat <;> cases okN ((4051 - (fm a).toNat) % 4051) <;> simp
end Go.Proofs.YtpkkclcjiobgoajGreatDoor

/- What each function of package prime answers, for every number, in whatever memory; it writes nothing. -/
namespace Go.Proofs.YtpkkclcjiobgoajGreatDoor
open Go.RowKit

theorem tmod_or (n : Int) : n.tmod 4051 = fm n ∨ (n.tmod 4051 < 0 ∧ n.tmod 4051 + 4051 = fm n ∧ 0 < fm n) := by
  unfold fm
  by_cases h : 0 ≤ n
  · left; exact Int.tmod_eq_emod_of_nonneg h
  · have e : n.tmod 4051 = - ((-n) % 4051) := by
      rw [← Int.tmod_eq_emod_of_nonneg (by omega : 0 ≤ -n), Int.neg_tmod, Int.neg_neg]
    rw [e]; omega
theorem tmod_neg_lt {n : Int} (h : n.tmod 4051 < 0) : n.tmod 4051 + 4051 = fm n := by
  have := fm_lo n; rcases tmod_or n with h1 | h1 <;> omega
theorem tmod_pos {n : Int} (h : 0 ≤ n.tmod 4051) : n.tmod 4051 = fm n := by
  rcases tmod_or n with h1 | h1 <;> omega
theorem tmod_bd (n : Int) : -4051 < n.tmod 4051 ∧ n.tmod 4051 < 4051 := by
  have h2 := fm_lo n; have h3 := fm_hi n
  rcases tmod_or n with h1 | h1
  · rw [h1]; constructor <;> omega
  · obtain ⟨h4, h5, h6⟩ := h1; constructor <;> omega
theorem ret_int {k : IntKind} {a b : Int} (h : a = b) : Ending.returned (.int k a) = .returned (.int k b) := by rw [h]

theorem ret2_int {k : IntKind} {a b : Int} {v : Value} (h : a = b) : Ending.returned (.tuple #[.int k a, v]) = .returned (.tuple #[.int k b, v]) := by rw [h]
theorem of_any (n : Int) (w : World) :
    Calls Tryz.prog 102 #[.int .i64 n] w fun e w' => e = .returned (.int .i64 (fm n)) ∧ w' = w := by
  obtain ⟨hb1, hb2⟩ := tmod_bd n
  by_cases h : n.tmod 4051 < 0
  · go_enter Tryz.func102, Tryz.ntmps102
    go_wp2
    go_ret
    exact ⟨ret_int (tmod_neg_lt h), rfl⟩
  · go_enter Tryz.func102, Tryz.ntmps102
    go_wp2
    go_ret
    exact ⟨ret_int (tmod_pos (by omega)), rfl⟩

theorem add_any (a b : Int) (w : World) :
    Calls Tryz.prog 105 #[.int .i64 a, .int .i64 b] w fun e w' => e = .returned (.int .i64 (fm (a + b))) ∧ w' = w := by
  have h1 := fm_lo a; have h2 := fm_hi a; have h3 := fm_lo b; have h4 := fm_hi b
  go_enter Tryz.func105, Tryz.ntmps105
  go_wp2_with (go_at_call 102; refine (of_any _ _).mono ?_; rintro e w' ⟨rfl, rfl⟩)
  go_ret
  exact ⟨ret_int (fm_add a b), rfl⟩

theorem sub_any (a b : Int) (w : World) :
    Calls Tryz.prog 104 #[.int .i64 a, .int .i64 b] w fun e w' => e = .returned (.int .i64 (fm (a - b))) ∧ w' = w := by
  have h1 := fm_lo a; have h2 := fm_hi a; have h3 := fm_lo b; have h4 := fm_hi b
  go_enter Tryz.func104, Tryz.ntmps104
  go_wp2_with (go_at_call 102; refine (of_any _ _).mono ?_; rintro e w' ⟨rfl, rfl⟩)
  go_ret
  exact ⟨ret_int (fm_sub a b), rfl⟩

theorem mul_bd {x y : Int} (h1 : 0 ≤ x) (h2 : x ≤ 4050) (h3 : 0 ≤ y) (h4 : y ≤ 4050) : 0 ≤ x * y ∧ x * y ≤ 16402500 := by
  refine ⟨Int.mul_nonneg h1 h3, ?_⟩
  have := Int.mul_le_mul h2 h4 h3 (by omega : (0 : Int) ≤ 4050)
  omega
theorem mul_any (a b : Int) (w : World) :
    Calls Tryz.prog 98 #[.int .i64 a, .int .i64 b] w fun e w' => e = .returned (.int .i64 (fm (a * b))) ∧ w' = w := by
  obtain ⟨h5, h6⟩ := mul_bd (fm_lo a) (fm_hi a) (fm_lo b) (fm_hi b)
  go_enter Tryz.func98, Tryz.ntmps98
  go_wp2_with (go_at_call 102; refine (of_any _ _).mono ?_; rintro e w' ⟨rfl, rfl⟩)
  go_ret
  exact ⟨ret_int (fm_mul a b), rfl⟩

/-- A step of the loop, where the number is odd. -/
theorem step_odd {a p s k : Int} {N : Nat} (h0 : 0 < k) (h1 : k % 2 = 1) (h : fm (p * s ^ k.toNat) = fpow a N) :
    fm (fm (p * s) * fm (s * s) ^ (k / 2).toNat) = fpow a N := by
  rw [← h]
  have e : k.toNat = 1 + 2 * (k / 2).toNat := by omega
  rw [e, pow_add, ← pow_dbl, show s ^ 1 = s by rw [Int.pow_succ, Int.pow_zero, Int.one_mul], ← Int.mul_assoc]
  exact fm_mul_congr (fm_fm _) (fm_pow _ _)
theorem step_even {a p s k : Int} {N : Nat} (h0 : 0 < k) (h1 : k % 2 = 0) (h : fm (p * s ^ k.toNat) = fpow a N) :
    fm (p * fm (s * s) ^ (k / 2).toNat) = fpow a N := by
  rw [← h]
  have e : k.toNat = 2 * (k / 2).toNat := by omega
  rw [e, ← pow_dbl]
  exact fm_mul_congr rfl (fm_pow _ _)

set_option maxHeartbeats 400000 in
theorem power_any (a n : Int) (w : World) (hn : 0 ≤ n) (hm : n ≤ 9223372036854775807) :
    Calls Tryz.prog 118 #[.int .i64 a, .int .i64 n] w fun e w' => e = .returned (.int .i64 (fpow a n.toNat)) ∧ w' = w := by
  go_enter Tryz.func118, Tryz.ntmps118
  go_wp2_with (go_at_call 102; refine (of_any _ _).mono ?_; rintro e w' ⟨rfl, rfl⟩)
  go_loop [1, 5, 6] (fun tn tp ts => ∃ k p s : Int, 0 ≤ k ∧ k ≤ 9223372036854775807 ∧ tn = .int .i64 k ∧ tp = .int .i64 p ∧ ts = .int .i64 s ∧ 0 ≤ p ∧ p ≤ 4050 ∧ fm (p * s ^ k.toNat) = fpow a n.toNat) (fun tn _ _ => (intOf tn).toNat)
  case atStart => exact ⟨n, 1, fm a, hn, hm, rfl, rfl, rfl, by omega, by omega, by rw [Int.one_mul]; exact fm_pow a n.toNat⟩
  case round =>
    obtain ⟨k, p, s, hk0, hk1, rfl, rfl, rfl, hp0, hp1, hinv⟩ := hrel
    have HI : Hid (fm (p * s ^ k.toNat) = fpow a n.toNat) := hinv
    clear hinv
    by_cases hlt : 0 < k
    · by_cases hodd : k % 2 = 1
      · go_wp2_with (go_at_call 98; refine (mul_any _ _ _).mono ?_; rintro e w' ⟨rfl, rfl⟩)
        go_round
        case rel => exact ⟨k / 2, fm (p * s), fm (s * s), by omega, by omega, rfl, rfl, rfl, fm_lo _, fm_hi _, step_odd hlt hodd HI.out⟩
        case measure => simp [intOf]; omega
      · have hev : k % 2 = 0 := by omega
        go_wp2_with (go_at_call 98; refine (mul_any _ _ _).mono ?_; rintro e w' ⟨rfl, rfl⟩)
        go_round
        case rel => exact ⟨k / 2, p, fm (s * s), by omega, by omega, rfl, rfl, rfl, hp0, hp1, step_even hlt hev HI.out⟩
        case measure => simp [intOf]; omega
    · go_wp2_with fail
      go_ret
      have hk : k = 0 := by omega
      subst hk
      have hi := HI.out
      rw [show (0 : Int).toNat = 0 from rfl, Int.pow_zero, Int.mul_one, fm_id hp0 hp1] at hi
      exact ⟨ret_int hi, rfl⟩

/-- What an error that is made of a number of package api is. -/
abbrev errOf (n : Int) : Value := .iface 77 (.int .i64 n)
theorem inv_yes (a : Int) (w : World) (h : (fm a == 0) = false) :
    Calls Tryz.prog 106 #[.int .i64 a] w fun e w' => e = .returned (.tuple #[.int .i64 (fpow a 4049), .nilIface]) ∧ w' = w := by
  go_enter Tryz.func106, Tryz.ntmps106
  go_wp2_with (first | (go_at_call 102; refine (of_any _ _).mono ?_; rintro e w' ⟨rfl, rfl⟩) | (go_at_call 118; refine (power_any _ _ _ (by omega) (by omega)).mono ?_; rintro e w' ⟨rfl, rfl⟩))
  go_ret2
  exact ⟨rfl, rfl⟩
theorem sqrt_yes (a : Int) (w : World) (h : rtOk a = true) :
    Calls Tryz.prog 121 #[.int .i64 a] w fun e w' => e = .returned (.tuple #[.int .i64 (rtMin a), .nilIface]) ∧ w' = w := by
  have h' : (fm (rt a * rt a) == fm a) = true := h
  have hp : rt a = fpow a (1013 : Int).toNat := rfl
  unfold rtMin
  have HP : Hid (rt a = fpow a (1013 : Int).toNat) := hp
  clear h hp
  go_enter Tryz.func121, Tryz.ntmps121
  go_wp2_with (first | (go_at_call 118; refine (power_any _ _ _ (by omega) (by omega)).mono ?_; rintro e w' ⟨rfl, rfl⟩; rw [← HP.out]) | (go_at_call 102; refine (of_any _ _).mono ?_; rintro e w' ⟨rfl, rfl⟩) | (go_at_call 98; refine (mul_any _ _ _).mono ?_; rintro e w' ⟨rfl, rfl⟩) | (go_at_call 104; refine (sub_any _ _ _).mono ?_; rintro e w' ⟨rfl, rfl⟩))
  all_goals
    go_ret2
    exact ⟨ret2_int (by omega), rfl⟩
theorem sqrt_no (a : Int) (w : World) (h : rtOk a = false) :
    Calls Tryz.prog 121 #[.int .i64 a] w fun e w' => e = .returned (.tuple #[.int .i64 0, errOf 5]) ∧ w' = w := by
  have h' : (fm (rt a * rt a) == fm a) = false := h
  have hp : rt a = fpow a (1013 : Int).toNat := rfl
  have HP : Hid (rt a = fpow a (1013 : Int).toNat) := hp
  clear h hp
  go_enter Tryz.func121, Tryz.ntmps121
  go_wp2_with (first | (go_at_call 118; refine (power_any _ _ _ (by omega) (by omega)).mono ?_; rintro e w' ⟨rfl, rfl⟩; rw [← HP.out]) | (go_at_call 102; refine (of_any _ _).mono ?_; rintro e w' ⟨rfl, rfl⟩) | (go_at_call 98; refine (mul_any _ _ _).mono ?_; rintro e w' ⟨rfl, rfl⟩))
  go_ret2
  exact ⟨rfl, rfl⟩
end Go.Proofs.YtpkkclcjiobgoajGreatDoor

/- A region that draws its order, whose operations but the last only read, and whose last one waits for all others: one walk in the order of the text, then the last operation. Of whatever program. -/
namespace Go.Proofs.YtpkkclcjiobgoajGreatDoor
open Go.RowKit Go.Sort

section
variable {P : Program} {md : Region.Mode} {C : World → Prop}

/-- Each operation but the last is one that a later one waits for. -/
def lastB (md : Region.Mode) (ops : Array Oper) : Bool :=
  (List.range (ops.size - 1)).all fun i => (List.range ops.size).any fun j => Nat.blt i j && ((ops[j]?).map fun o => o.after.any fun e => Region.binds md e && Nat.beq e.on i).getD false
/-- Nobody waits for a later one. -/
def backB (ops : Array Oper) : Bool :=
  (List.range ops.size).all fun j => ((ops[j]?).map fun o => o.after.all fun e => Nat.blt e.on j).getD true

theorem lastB_spec {ops : Array Oper} (h : lastB md ops = true) {i : Nat} (hi : i < ops.size - 1) :
    ∃ j o, i < j ∧ ops[j]? = some o ∧ ∃ e ∈ o.after, Region.binds md e = true ∧ e.on = i := by
  unfold lastB at h
  rw [List.all_eq_true] at h
  have h1 := h i (List.mem_range.2 hi)
  rw [List.any_eq_true] at h1
  obtain ⟨j, hj, h2⟩ := h1
  rw [Bool.and_eq_true] at h2
  cases ho : ops[j]? with
  | none => rw [ho] at h2; simp at h2
  | some o =>
    rw [ho] at h2
    simp only [Option.map_some, Option.getD_some] at h2
    obtain ⟨hlt, h3⟩ := h2
    rw [Array.any_eq_true] at h3
    obtain ⟨k, hk, h4⟩ := h3
    rw [Bool.and_eq_true] at h4
    exact ⟨j, o, by rwa [Nat.blt_eq] at hlt, ho, o.after[k], Array.getElem_mem hk, h4.1, Nat.eq_of_beq_eq_true h4.2⟩
theorem backB_spec {ops : Array Oper} (h : backB ops = true) {j : Nat} {o : Oper} (ho : ops[j]? = some o) : ∀ e ∈ o.after, e.on < j := by
  unfold backB at h
  rw [List.all_eq_true] at h
  have hj : j < ops.size := (Array.getElem?_eq_some_iff.1 ho).1
  have h1 := h j (List.mem_range.2 hj)
  rw [ho] at h1
  simp only [Option.map_some, Option.getD_some] at h1
  rw [Array.all_eq_true_iff_forall_mem] at h1
  intro e he
  have := h1 e he
  rwa [Nat.blt_eq] at this

/-- What is listed has all that it waits for listed. -/
def Closed (md : Region.Mode) (ops : Array Oper) (listed : Array Bool) : Prop :=
  ∀ j o, ops[j]? = some o → listed.getD j false = true → ∀ e ∈ o.after, Region.binds md e = true → listed.getD e.on false = true

variable {l : List Oper} {o : Oper}

theorem snoc_lt {j : Nat} (h : j < l.length) : (l ++ [o]).toArray[j]? = l.toArray[j]? := by simp [List.getElem?_append_left h]
theorem snoc_last : (l ++ [o]).toArray[l.length]? = some o := by simp
theorem getD_push {A : Array Bool} {j : Nat} : (A.push false).getD j false = A.getD j false := by
  simp only [Array.getD_eq_getD_getElem?, Array.getElem?_push]
  split
  · rename_i h; subst h; simp
  · rfl
theorem getD_set_self {A : Array Bool} {i : Nat} (h : i < A.size) : (A.setIfInBounds i true).getD i false = true := by
  simp [Array.getD_eq_getD_getElem?, h]
theorem getD_set_other {A : Array Bool} {i j : Nat} (h : i ≠ j) : (A.setIfInBounds i true).getD j false = A.getD j false := by
  simp [Array.getD_eq_getD_getElem?, h]
theorem getD_tf {A : Array Bool} {j : Nat} (h : j < A.size) : A.getD j true = A.getD j false := by
  simp [Array.getD_eq_getD_getElem?, h]

/-- Which may come up now: the same, as long as the last one may not. -/
theorem ready_snoc {L : Array Bool} (hL : L.size = l.length) {j : Nat} (hj : j < l.length) :
    j ∈ Region.ready md (l ++ [o]).toArray (L.push false) ↔ j ∈ Region.ready md l.toArray L := by
  rw [mem_ready, mem_ready, getD_tf (by simp; omega), getD_tf (by omega), getD_push, snoc_lt hj]
  constructor
  · rintro ⟨h0, x, hx, hall⟩
    exact ⟨h0, x, hx, fun e he hbe => by rw [← hall e he hbe, getD_push]⟩
  · rintro ⟨h0, x, hx, hall⟩
    exact ⟨h0, x, hx, fun e he hbe => by rw [← hall e he hbe, getD_push]⟩

/-- Where nothing may come up all is listed. -/
theorem all_of_stuck {L : Array Bool} (hL : L.size = l.length) (hb : backB (l ++ [o]).toArray = true) (hr : Region.ready md l.toArray L = []) :
    ∀ n j, j < n → j < l.length → L.getD j false = true := by
  intro n
  induction n with
  | zero => intro j h; omega
  | succ n ih =>
    intro j h hj
    by_cases hjn : j < n
    · exact ih j hjn hj
    · have hx : (l ++ [o]).toArray[j]? = l.toArray[j]? := snoc_lt hj
      obtain ⟨x, hx'⟩ : ∃ x, l.toArray[j]? = some x := ⟨l[j], by simp [hj]⟩
      cases hv : L.getD j false with
      | true => rfl
      | false =>
        exfalso
        have : j ∈ Region.ready md l.toArray L := mem_ready.2 ⟨by rw [getD_tf (by omega)]; exact hv, x, hx', fun e he _ => ih e.on (by have := backB_spec hb (hx.trans hx') e he; omega) (by have := backB_spec hb (hx.trans hx') e he; omega)⟩
        rw [hr] at this; cases this

/-- Where the last one may come up all others are listed. -/
theorem all_of_last {L : Array Bool} (hL : L.size = l.length) (hl : lastB md (l ++ [o]).toArray = true) (hc : Closed md (l ++ [o]).toArray (L.push false))
    (hr : l.length ∈ Region.ready md (l ++ [o]).toArray (L.push false)) : ∀ n j, l.length - n ≤ j → j < l.length → L.getD j false = true := by
  intro n
  induction n with
  | zero => intro j h1 h2; omega
  | succ n ih =>
    intro j h1 h2
    obtain ⟨k, x, hjk, hx, e, he, hbe, hon⟩ := lastB_spec hl (i := j) (by simp; omega)
    have hk : k < l.length + 1 := by
      have := (Array.getElem?_eq_some_iff.1 hx).1
      simpa using this
    by_cases hkl : k = l.length
    · subst hkl
      obtain ⟨_, y, hy, hall⟩ := mem_ready.1 hr
      rw [hx] at hy
      obtain rfl := Option.some.inj hy
      have := hall e he hbe
      rw [getD_push, hon] at this
      exact this
    · have h3 := hc k x hx (by rw [getD_push]; exact ih k (by omega) (by omega)) e he hbe
      rw [getD_push, hon] at h3
      exact h3

theorem ready_nil_of_all {L : Array Bool} (hL : L.size = l.length) (h : ∀ j, j < l.length → L.getD j false = true) : Region.ready md l.toArray L = [] := by
  cases e : Region.ready md l.toArray L with
  | nil => rfl
  | cons j r =>
    exfalso
    have hm : j ∈ Region.ready md l.toArray L := by rw [e]; simp
    obtain ⟨h0, x, hx, _⟩ := mem_ready.1 hm
    have hj : j < l.length := by have := (Array.getElem?_eq_some_iff.1 hx).1; simpa using this
    rw [getD_tf (by omega), h j hj] at h0
    cases h0

theorem yielded_snoc (hd : o.dst = none) (t : Array Value) : yielded (l ++ [o]).toArray t = yielded l.toArray t := by
  funext j
  unfold yielded
  by_cases h : j < l.length
  · rw [snoc_lt h]
  · by_cases h2 : j = l.length
    · subst h2; rw [snoc_last]; simp [hd]
    · have e1 : (l ++ [o]).toArray[j]? = none := by simp; omega
      have e2 : l.toArray[j]? = none := by simp; omega
      rw [e1, e2]

/-- The whole check of a region. -/
def quietLastB (ops : List Oper) : Bool :=
  Region.lexB .any ops.dropLast.toArray && backB ops.toArray && lastB .any ops.toArray && (match ops.getLast? with | some o => o.dst.isNone | none => false)

end

/-! What a walk leaves of the memory that was there. -/
theorem bl_drewN {B : Nat} {a w : World} {n : Nat} (h : Below B a w) : Below B a (w.drewN n) := ⟨h.os, h.tape, h.output, h.size, h.block⟩
theorem bl_grow {B d : Nat} {a w : World} {os : Array Obj} (h : Below B a w) (hB : B ≤ w.heap.size) : Below B a (grow (redrawn w d) os) := h.trans ((below_regrown w d os).mono hB)
theorem bl_call {B : Nat} {a w w' : World} (h : Below B a w) (k : Below w.heap.size w w') (hB : B ≤ w.heap.size) : Below B a w' := h.trans (k.mono hB)
/-- Old cells, old marks. -/
theorem bcell {W w1 : World} (hb : Below W.heap.size W w1) : (∀ b o, b < W.heap.size → w1.cell? ⟨b, o, none⟩ = W.cell? ⟨b, o, none⟩) ∧ (∀ b o, b < W.heap.size → w1.frozen? ⟨b, o, none⟩ = W.frozen? ⟨b, o, none⟩) :=
  ⟨fun b o h => hb.cell (p := ⟨b, o, none⟩) h, fun b o h => hb.frozen (p := ⟨b, o, none⟩) h⟩
/-- An old cell, in a world of the class. -/
theorem grow_cell {w : World} {d : Nat} {os : Array Obj} {b o : Nat} (h : b < w.heap.size) : (grow (redrawn w d) os).cell? ⟨b, o, none⟩ = w.cell? ⟨b, o, none⟩ := (below_regrown w d os).cell (p := ⟨b, o, none⟩) h
theorem grow_frozen {w : World} {d : Nat} {os : Array Obj} {b o : Nat} (h : b < w.heap.size) : (grow (redrawn w d) os).frozen? ⟨b, o, none⟩ = w.frozen? ⟨b, o, none⟩ := (below_regrown w d os).frozen (p := ⟨b, o, none⟩) h
attribute [go_sem] grow_cell grow_frozen
end Go.Proofs.YtpkkclcjiobgoajGreatDoor

/- plain.Told and stonesame.Error, of no error and of an error that is an Errno, where the one listed variable (the handle of the type 'error') lies as it is laid. -/
namespace Go.Proofs.YtpkkclcjiobgoajGreatDoor
open Go.RowKit Go.Extern.Stop Go.Stop Go.Extern

/-- The listed variable lies as it is laid. -/
def Door (w : World) : Prop := w.cell? ⟨0, 0, none⟩ = some (.iface 153 (.agg #[.pointer (some ⟨1, 29, none⟩)]))
theorem Door.pos {w : World} (h : Door w) : 0 < w.heap.size := by
  rcases Nat.eq_zero_or_pos w.heap.size with h0 | h1
  · simp [Door, World.cell?, h0] at h
  · exact h1
theorem Door.grown {w w' : World} (h : Door w) (hg : Grown w w') : Door w' :=
  (hg.1.cell (b := 0) (off := 0) h.pos (fun f => f)).trans h
theorem told_nil (w : World) :
    Calls Tryz.prog 43 #[.nilIface] w fun e w' => e = .returned (.int .i64 0) ∧ w' = w := by
  go_enter Tryz.func43, Tryz.ntmps43
  go_wp2_with fail
  go_ret
  exact ⟨rfl, rfl⟩
set_option maxHeartbeats 1000000 in
theorem told_err (n : Int) (w : World) (hd : Door w) :
    Calls Tryz.prog 43 #[errOf n] w fun e w' => e = .returned (.int .i64 n) ∧ Grown w w' ∧ Below w.heap.size w w' := by
  have hgA : (w.alloc (.cells #[.int .i64 0] 77)).cell? ⟨0, 0, none⟩ = some (.iface 153 (.agg #[.pointer (some ⟨1, 29, none⟩)])) := by
    rw [World.cell?_alloc_lt _ _ ⟨0, 0, none⟩ hd.pos]; exact hd
  have htA : (w.alloc (.cells #[.int .i64 0] 77)).cell? ⟨w.heap.size, 0, none⟩ = some (.int .i64 0) := by simp
  have hfA : (w.alloc (.cells #[.int .i64 0] 77)).frozen? ⟨w.heap.size, 0, none⟩ = false := by simp
  have HD : Hid (Door w) := hd
  clear hd
  go_enter Tryz.func43, Tryz.ntmps43
  go_wp2_with (go_at_call 73; refine (as_hit n _ (.int .i64 0) _ hgA htA hfA).mono ?_; rintro e w' ⟨rfl, rfl⟩)
  go_ret
  exact ⟨rfl, by repeat (first | exact Grown.refl _ | apply Grown.drew | apply Grown.alloc | (refine Grown.setCell ?_ (Nat.le_refl _) _)), by repeat (first | (with_reducible first | exact Below.refl _ _ | assumption | refine Below.setCell ?_ (by first | simp <;> omega | omega) _ | refine Below.alloc ?_ (by first | simp <;> omega | omega) _) | refine bl_call ?_ (by assumption) (by first | simp <;> omega | omega) | (with_reducible first | refine bl_drewN ?_ | refine Below.drew ?_ | refine bl_grow ?_ (by first | simp <;> omega | omega)))⟩
theorem same_nil (k : Int) (w : World) :
    Calls Tryz.prog 9 #[.nilIface, .int .i64 k] w fun e w' => e = .returned (.bool ((0 : Int) == k)) ∧ w' = w := by
  go_enter Tryz.func9, Tryz.ntmps9
  go_wp2_with (go_at_call 43; refine (told_nil _).mono ?_; rintro e w' ⟨rfl, rfl⟩)
  go_ret
  exact ⟨rfl, rfl⟩
theorem same_err (n k : Int) (w : World) (hd : Door w) :
    Calls Tryz.prog 9 #[errOf n, .int .i64 k] w fun e w' => e = .returned (.bool (n == k)) ∧ Grown w w' ∧ Below w.heap.size w w' := by
  go_enter Tryz.func9, Tryz.ntmps9
  go_wp2_with (go_at_call 43; refine (told_err _ _ hd).mono ?_; rintro e w' ⟨rfl, hg⟩)
  go_ret
  exact ⟨rfl, hg⟩
/-- No error, or one that is an Errno. -/
def IsErr (v : Value) : Prop := v = .nilIface ∨ ∃ n, v = errOf n
/-- Its number. -/
def toldI : Value → Int
  | .iface _ (.int _ n) => n
  | _ => 0
@[go_sem] theorem toldI_nil : toldI .nilIface = 0 := rfl
@[go_sem] theorem toldI_err (n : Int) : toldI (errOf n) = n := rfl
theorem isErr_nil : IsErr .nilIface := Or.inl rfl
theorem isErr_err (n : Int) : IsErr (errOf n) := Or.inr ⟨n, rfl⟩
/-- The same, in the other form. -/
theorem same_below (v : Value) (k : Int) (w : World) (hv : IsErr v) (hd : Door w) :
    Calls Tryz.prog 9 #[v, .int .i64 k] w fun e w' => e = .returned (.bool (toldI v == k)) ∧ Below w.heap.size w w' := by
  rcases hv with rfl | ⟨n, rfl⟩
  · exact (same_nil k w).mono fun e w' h => ⟨h.1, h.2 ▸ Below.refl _ _⟩
  · exact (same_err n k w hd).mono fun e w' h => ⟨h.1, h.2.2⟩
theorem Door.below {w w' : World} {B : Nat} (h : Door w) (hb : Below B w w') (hB : w.heap.size ≤ B) : Door w' :=
  (hb.cell (p := ⟨0, 0, none⟩) (Nat.lt_of_lt_of_le h.pos hB)).trans h
theorem Door.under {w w' : World} (h : Door w) (hb : Below w.heap.size w w') : Door w' := h.below hb (Nat.le_refl _)
end Go.Proofs.YtpkkclcjiobgoajGreatDoor

/- From the row's listed variable (the handle of the type 'error') to the cell that the walks read; and a memory in which it lies. After the guide's worked toy 'toyas'. -/
namespace Go.Proofs.YtpkkclcjiobgoajGreatDoor
open Go.ChangeShapes Go.WideShapes Go.RowKit

/-- What the rows list. -/
def laidList : List (String × DataW Unit) := [("errors.errorType", Rows.laid_errors_errorType)]
theorem Tryz.own : ownKnob Tryz.prog.godebug = none := by kernel_rfl
theorem Tryz.et : Tryz.prog.globalNamed "errors.errorType" = some 0 := by kernel_rfl
theorem Tryz.rt : (Tryz.prog.cutTypes.find? (·.1 == "internal/reflectlite.rtype")).map (·.2) = some 153 := by kernel_rfl
theorem Tryz.oneRow : ((List.range 200).filter fun t => Tryz.prog.rowNamed t [101, 114, 114, 111, 114]) = [29] := by kernel_rfl
theorem Tryz.size : Tryz.prog.types.size = 200 := by kernel_rfl
theorem door_of_laid {W : World} (h : laidMetH Tryz.prog laidList W) : Door W := by
  have h' : laidMet Tryz.prog [] W ∧ handlesMet Tryz.prog laidList W := h
  obtain ⟨name, u, ty, e1, e2, e3, e4, e5⟩ := h'.2 _ (List.mem_singleton.2 rfl)
  have en : name = [101, 114, 114, 111, 114] := (Option.some.inj e1).symm
  subst en
  obtain rfl := Option.some.inj (Tryz.rt.symm.trans e2)
  have hm : ty ∈ (List.range 200).filter fun t => Tryz.prog.rowNamed t [101, 114, 114, 111, 114] := List.mem_filter.2 ⟨List.mem_range.2 (by rw [← Tryz.size]; exact e3), e4⟩
  rw [Tryz.oneRow] at hm
  obtain rfl := List.mem_singleton.1 hm
  have hh : typeHandle Tryz.prog 29 = .pointer (some ⟨1, 29, none⟩) := by kernel_rfl
  rw [hh] at e5
  have e6 := World.var?_cell Tryz.et e5 0
  unfold Door
  simpa using e6
/-- The settled memory with that one cell laid. -/
theorem laid_met (os : Os) (args : Array Value) : laidMetH Tryz.prog laidList ((let w0 := World.holding Tryz.prog os ⟨#[], #[], []⟩
  { w0 with heap := w0.heap.modify 0 fun
      | .cells _ t frozen => .cells #[.iface 153 (.agg #[.pointer (some ⟨1, 29, none⟩)])] t frozen
      | o => o } : World).forCall (fun _ _ => 0) ⟨#[], args, []⟩).memory :=
  laidMetH_of_parts (laidMet_nil _ _) (by kernel_rfl)
end Go.Proofs.YtpkkclcjiobgoajGreatDoor

/- A block of the call's own: what lies in it, carried over calls that turn nothing that was there. Of whatever program. -/
namespace Go.Proofs.YtpkkclcjiobgoajGreatDoor
open Go.RowKit Go.Sort

/-- In block b lie these cells, and they may be written. -/
def At (w : World) (b : Nat) (vs : List Value) : Prop :=
  b < w.heap.size ∧ (∀ i, i < vs.length → w.cell? ⟨b, i, none⟩ = vs[i]?) ∧ ∀ i, i < vs.length → w.frozen? ⟨b, i, none⟩ = false
theorem At.below {w w' : World} {b : Nat} {vs : List Value} (h : At w b vs) (k : Below w.heap.size w w') : At w' b vs :=
  ⟨Nat.lt_of_lt_of_le h.1 k.size, fun i hi => (k.cell (p := ⟨b, i, none⟩) h.1).trans (h.2.1 i hi), fun i hi => (k.frozen (p := ⟨b, i, none⟩) h.1).trans (h.2.2 i hi)⟩
theorem At.alloc {w : World} {b : Nat} {vs : List Value} (h : At w b vs) (o : Obj) : At (w.alloc o) b vs :=
  h.below ((Below.refl _ _).alloc (Nat.le_refl _) o)
theorem At.drewN {w : World} {b n : Nat} {vs : List Value} (h : At w b vs) : At (w.drewN n) b vs := h.below (bl_drewN (Below.refl _ _))
theorem At.grow {w : World} {b d : Nat} {os : Array Obj} {vs : List Value} (h : At w b vs) : At (grow (redrawn w d) os) b vs := h.below (below_regrown w d os)
theorem At.drew {w : World} {b : Nat} {vs : List Value} (h : At w b vs) : At w.drew b vs := h.below (Below.drew (Below.refl _ _))
theorem heap_new (w : World) (o : Obj) : (w.alloc o).heap[w.heap.size]? = some o := by
  show (w.heap.push o)[w.heap.size]? = some o
  simp
theorem at_new (w : World) (vs : List Value) (t : TypeId) : At (w.alloc (.cells vs.toArray t)) w.heap.size vs :=
  ⟨by simp, fun i _ => by unfold World.cell?; rw [heap_new]; simp, fun i _ => by unfold World.frozen?; rw [heap_new]; simp⟩
theorem at_new' (w : World) (vs : List Value) (t : TypeId) (n : Nat) (h : n = w.heap.size) : At (w.alloc (.cells vs.toArray t)) n vs := by subst h; exact at_new w vs t
theorem At.set {w : World} {b c o : Nat} {u : Value} {vs : List Value} (h : At w b vs) (hne : b ≠ c) : At (w.setCell ⟨c, o, none⟩ u) b vs := by
  have hb := Below.heap_setCell w ⟨c, o, none⟩ u b hne
  refine ⟨by simpa [World.setCell] using h.1, fun i hi => ?_, fun i hi => ?_⟩
  · rw [World.cell?_of_block (a := ⟨b, i, none⟩) hb]; exact h.2.1 i hi
  · rw [World.frozen?_of_block (a := ⟨b, i, none⟩) hb]; exact h.2.2 i hi
theorem At.store2 {w : World} {b : Nat} {u v u' v' : Value} (h : At w b [u, v]) : At ((w.setCell ⟨b, 0, none⟩ u').setCell ⟨b, 1, none⟩ v') b [u', v'] := by
  have a0 : w.cell? ⟨b, 0, none⟩ = some u := h.2.1 0 (by simp)
  have g0 : w.frozen? ⟨b, 0, none⟩ = false := h.2.2 0 (by simp)
  have a1 : w.cell? ⟨b, 1, none⟩ = some v := h.2.1 1 (by simp)
  have g1 : w.frozen? ⟨b, 1, none⟩ = false := h.2.2 1 (by simp)
  refine ⟨by simpa [World.setCell] using h.1, fun i hi => ?_, fun i hi => ?_⟩
  · rcases i with _ | _ | i
    · show _ = some u'; simp [a0, go_sem]
    · show _ = some v'; simp [a1, go_sem]
    · simp at hi; omega
  · rcases i with _ | _ | i
    · rw [World.frozen?_setCell, World.frozen?_setCell]; exact g0
    · rw [World.frozen?_setCell, World.frozen?_setCell]; exact g1
    · simp at hi; omega
theorem At.store3 {w : World} {b : Nat} {u v x u' v' x' : Value} (h : At w b [u, v, x]) : At (((w.setCell ⟨b, 0, none⟩ u').setCell ⟨b, 1, none⟩ v').setCell ⟨b, 2, none⟩ x') b [u', v', x'] := by
  have a0 : w.cell? ⟨b, 0, none⟩ = some u := h.2.1 0 (by simp)
  have g0 : w.frozen? ⟨b, 0, none⟩ = false := h.2.2 0 (by simp)
  have a1 : w.cell? ⟨b, 1, none⟩ = some v := h.2.1 1 (by simp)
  have g1 : w.frozen? ⟨b, 1, none⟩ = false := h.2.2 1 (by simp)
  have a2 : w.cell? ⟨b, 2, none⟩ = some x := h.2.1 2 (by simp)
  have g2 : w.frozen? ⟨b, 2, none⟩ = false := h.2.2 2 (by simp)
  refine ⟨by simpa [World.setCell] using h.1, fun i hi => ?_, fun i hi => ?_⟩
  · rcases i with _ | _ | _ | i
    · show _ = some u'; simp [a0, go_sem]
    · show _ = some v'; simp [a1, go_sem]
    · show _ = some x'; simp [a2, go_sem]
    · simp at hi; omega
  · rcases i with _ | _ | _ | i
    · rw [World.frozen?_setCell, World.frozen?_setCell, World.frozen?_setCell]; exact g0
    · rw [World.frozen?_setCell, World.frozen?_setCell, World.frozen?_setCell]; exact g1
    · rw [World.frozen?_setCell, World.frozen?_setCell, World.frozen?_setCell]; exact g2
    · simp at hi; omega
theorem At.store4 {w : World} {b : Nat} {u v x y u' v' x' y' : Value} (h : At w b [u, v, x, y]) : At ((((w.setCell ⟨b, 0, none⟩ u').setCell ⟨b, 1, none⟩ v').setCell ⟨b, 2, none⟩ x').setCell ⟨b, 3, none⟩ y') b [u', v', x', y'] := by
  have a0 : w.cell? ⟨b, 0, none⟩ = some u := h.2.1 0 (by simp)
  have g0 : w.frozen? ⟨b, 0, none⟩ = false := h.2.2 0 (by simp)
  have a1 : w.cell? ⟨b, 1, none⟩ = some v := h.2.1 1 (by simp)
  have g1 : w.frozen? ⟨b, 1, none⟩ = false := h.2.2 1 (by simp)
  have a2 : w.cell? ⟨b, 2, none⟩ = some x := h.2.1 2 (by simp)
  have g2 : w.frozen? ⟨b, 2, none⟩ = false := h.2.2 2 (by simp)
  have a3 : w.cell? ⟨b, 3, none⟩ = some y := h.2.1 3 (by simp)
  have g3 : w.frozen? ⟨b, 3, none⟩ = false := h.2.2 3 (by simp)
  refine ⟨by simpa [World.setCell] using h.1, fun i hi => ?_, fun i hi => ?_⟩
  · rcases i with _ | _ | _ | _ | i
    · show _ = some u'; simp [a0, go_sem]
    · show _ = some v'; simp [a1, go_sem]
    · show _ = some x'; simp [a2, go_sem]
    · show _ = some y'; simp [a3, go_sem]
    · simp at hi; omega
  · rcases i with _ | _ | _ | _ | i
    · rw [World.frozen?_setCell, World.frozen?_setCell, World.frozen?_setCell, World.frozen?_setCell]; exact g0
    · rw [World.frozen?_setCell, World.frozen?_setCell, World.frozen?_setCell, World.frozen?_setCell]; exact g1
    · rw [World.frozen?_setCell, World.frozen?_setCell, World.frozen?_setCell, World.frozen?_setCell]; exact g2
    · rw [World.frozen?_setCell, World.frozen?_setCell, World.frozen?_setCell, World.frozen?_setCell]; exact g3
    · simp at hi; omega
theorem At.put43 {w : World} {b : Nat} {u v x y y' : Value} (h : At w b [u, v, x, y]) : At (w.setCell ⟨b, 3, none⟩ y') b [u, v, x, y'] := by
  have a0 : w.cell? ⟨b, 0, none⟩ = some u := h.2.1 0 (by simp)
  have g0 : w.frozen? ⟨b, 0, none⟩ = false := h.2.2 0 (by simp)
  have a1 : w.cell? ⟨b, 1, none⟩ = some v := h.2.1 1 (by simp)
  have g1 : w.frozen? ⟨b, 1, none⟩ = false := h.2.2 1 (by simp)
  have a2 : w.cell? ⟨b, 2, none⟩ = some x := h.2.1 2 (by simp)
  have g2 : w.frozen? ⟨b, 2, none⟩ = false := h.2.2 2 (by simp)
  have a3 : w.cell? ⟨b, 3, none⟩ = some y := h.2.1 3 (by simp)
  have g3 : w.frozen? ⟨b, 3, none⟩ = false := h.2.2 3 (by simp)
  refine ⟨by simpa [World.setCell] using h.1, fun i hi => ?_, fun i hi => ?_⟩
  · rcases i with _ | _ | _ | _ | i
    · show _ = some u; simp [a0, go_sem]
    · show _ = some v; simp [a1, go_sem]
    · show _ = some x; simp [a2, go_sem]
    · show _ = some y'; simp [a3, go_sem]
    · simp at hi; omega
  · rcases i with _ | _ | _ | _ | i
    · rw [World.frozen?_setCell]; exact g0
    · rw [World.frozen?_setCell]; exact g1
    · rw [World.frozen?_setCell]; exact g2
    · rw [World.frozen?_setCell]; exact g3
    · simp at hi; omega
theorem At.four {w : World} {b : Nat} {u v x y : Value} (h : At w b [u, v, x, y]) : b < w.heap.size ∧ w.cell? ⟨b, 0, none⟩ = some u ∧ w.cell? ⟨b, 1, none⟩ = some v ∧ w.cell? ⟨b, 2, none⟩ = some x ∧ w.cell? ⟨b, 3, none⟩ = some y ∧ w.frozen? ⟨b, 0, none⟩ = false ∧ w.frozen? ⟨b, 1, none⟩ = false ∧ w.frozen? ⟨b, 2, none⟩ = false ∧ w.frozen? ⟨b, 3, none⟩ = false :=
  ⟨h.1, h.2.1 0 (by simp), h.2.1 1 (by simp), h.2.1 2 (by simp), h.2.1 3 (by simp), h.2.2 0 (by simp), h.2.2 1 (by simp), h.2.2 2 (by simp), h.2.2 3 (by simp)⟩
theorem At.one {w : World} {b : Nat} {u : Value} (h : At w b [u]) : b < w.heap.size ∧ w.cell? ⟨b, 0, none⟩ = some u ∧ w.frozen? ⟨b, 0, none⟩ = false :=
  ⟨h.1, h.2.1 0 (by simp), h.2.2 0 (by simp)⟩
theorem At.two {w : World} {b : Nat} {u v : Value} (h : At w b [u, v]) : b < w.heap.size ∧ w.cell? ⟨b, 0, none⟩ = some u ∧ w.cell? ⟨b, 1, none⟩ = some v ∧ w.frozen? ⟨b, 0, none⟩ = false ∧ w.frozen? ⟨b, 1, none⟩ = false :=
  ⟨h.1, h.2.1 0 (by simp), h.2.1 1 (by simp), h.2.2 0 (by simp), h.2.2 1 (by simp)⟩
theorem At.three {w : World} {b : Nat} {u v x : Value} (h : At w b [u, v, x]) : b < w.heap.size ∧ w.cell? ⟨b, 0, none⟩ = some u ∧ w.cell? ⟨b, 1, none⟩ = some v ∧ w.cell? ⟨b, 2, none⟩ = some x ∧ w.frozen? ⟨b, 0, none⟩ = false ∧ w.frozen? ⟨b, 1, none⟩ = false ∧ w.frozen? ⟨b, 2, none⟩ = false :=
  ⟨h.1, h.2.1 0 (by simp), h.2.1 1 (by simp), h.2.1 2 (by simp), h.2.2 0 (by simp), h.2.2 1 (by simp), h.2.2 2 (by simp)⟩
theorem regrown_below {w w' : World} (h : ∃ p : Regrown, w' = grow (redrawn w p.d) p.os) : Below w.heap.size w w' := by
  obtain ⟨p, rfl⟩ := h; exact below_regrown w p.d p.os
/-- From here on the world is a letter of which this is known. -/
theorem wp_gen {P : Program} {c : Code} {Q : Exit → Act → World → Prop} {a : Act} {w : World} (S : World → Prop) (h : S w) (k : ∀ W, S W → c.wp P Q a W) : c.wp P Q a w := k w h
theorem below_of_same {P : Program} {f : FuncId} {args : Array Value} {w : World} {v : Value} (h : Calls P f args w fun e w' => e = .returned v ∧ w' = w) :
    Calls P f args w fun e w' => e = .returned v ∧ Below w.heap.size w w' :=
  h.mono fun _ _ ⟨he, hw⟩ => ⟨he, by rw [hw]; exact Below.refl _ _⟩
end Go.Proofs.YtpkkclcjiobgoajGreatDoor

/- Between a row's reading and a walk: structs of ints and bools, opened and shut; what is asked behind a call that turned nothing of what was there. -/
namespace Go.Proofs.YtpkkclcjiobgoajGreatDoor
open Go.ChangeShapes Go.WideShapes Go.ChangeAt Go.RowKit Go.Joins Go.Deep Go.WideElems

/-- Of what was there nothing is turned, and its marks stand. -/
def Kp (w w' : World) : Prop := w.keptBut w' (fun _ => False) ∧ (∀ a, a.block < w.heap.size → w'.frozen? a = w.frozen? a) ∧ w.heap.size ≤ w'.heap.size
theorem Kp.refl (w : World) : Kp w w := ⟨World.keptBut_refl _ _, fun _ _ => rfl, Nat.le_refl _⟩
theorem Kp.trans {a b c : World} (h : Kp a b) (k : Kp b c) : Kp a c :=
  ⟨World.keptBut_trans h.1 k.1, fun x hx => (k.2.1 x (Nat.lt_of_lt_of_le hx h.2.2)).trans (h.2.1 x hx), Nat.le_trans h.2.2 k.2.2⟩
theorem Kp.of_below {w w' : World} (h : Below w.heap.size w w') : Kp w w' := ⟨h.frame _, fun _ hx => h.frozen hx, h.size⟩
section
variable {H : Type} {enc : TypeId × Value → H} {P : Program} {w : World} {base : Nat} {spare : Nat → Bool} {held : Bool}

theorem post_of_kp {f : Func} {s : ChangeSpec} {apart fresh handsOn again : Bool} {W W' : World} {args : Array Value} {v : Value} {ds gs : List (DataW H)} {before pa pv : List MemPlace}
    (hW : DataW.Whole enc P f.params.toList s.vars apart W args.toList ds gs before)
    (hres : ∀ (b : Nat) (sp : Nat → Bool) (hd : Bool), DataW.TrodAll enc P W' b sp hd f.resultTypes.toList (v.resultList f.resultTypes.size) (s.fn H (ds ++ gs)).results [])
    (hargs : ∀ sp : Nat → Bool, (∀ p ∈ before, sp p.block = true) → DataW.TrodAll enc P W' 0 sp true f.params.toList args.toList (s.fn H (ds ++ gs)).args pa)
    (hvars : ∀ sp : Nat → Bool, (∀ p ∈ before, sp p.block = true) → DataW.TrodVars enc P W' sp s.vars (s.fn H (ds ++ gs)).vars pv)
    (hps : before = pa ++ pv) (hk : Kp W W')
    (hok : ∀ (j : Nat) (t : TypeId) (r : Value), f.resultTypes[j]? = some t → (v.resultList f.resultTypes.size)[j]? = some r → Value.okWide P W' .any 0 t r) :
    s.post enc P f apart fresh handsOn again W args v W' := by
  have hlt := hW.lt
  obtain ⟨qa, qv, h1, h2, h3, hz, hn⟩ := id hW
  refine ⟨ds, gs, before, [], pa, pv, hW, hres _ _ _, hargs _ (fun p hp => by simpa using hlt p hp), hvars _ (fun p hp => by simpa using hlt p hp), World.keptBut_mono (fun _ h => h.elim) hk.1, fun _ => ⟨hok, _, _, ([] ++ pa) ++ pv, ⟨[] ++ pa, pv, trodAll_append (hargs _ (fun _ _ => rfl)) (hres _ _ _), hvars _ (fun _ _ => rfl), rfl, ?_, ?_⟩, ?_⟩⟩
  · intro b off hp
    have hm : MemPlace.cell b off ∈ before := by rw [hps]; simpa using hp
    rw [hk.2.1 _ (hlt _ hm)]
    exact hz b off hm
  · intro ha
    have := hn ha
    rw [hps] at this
    simpa using this
  · intro p hp _
    rw [hps]
    simpa using hp

end
end Go.Proofs.YtpkkclcjiobgoajGreatDoor

/- Between a row's reading and a walk, for arguments of whatever type: behind a call that turned nothing of what was there they read as they did; slices of spots, opened at every place. -/
namespace Go.Proofs.YtpkkclcjiobgoajGreatDoor
open Go.ChangeShapes Go.WideShapes Go.ChangeAt Go.RowKit Go.Joins Go.Deep Go.WideElems

/-- In block b, from o on, lie so many spots in a row. -/
def RowO (w : World) (b o n : Nat) (X Y : Nat → Int) (F : Nat → Bool) : Prop :=
  b < w.heap.size ∧ ∀ i, i < n → w.cell? ⟨b, o + i * 3, none⟩ = some (.int .i64 (X i)) ∧ w.cell? ⟨b, o + i * 3 + 1, none⟩ = some (.int .i64 (Y i)) ∧ w.cell? ⟨b, o + i * 3 + 2, none⟩ = some (.bool (F i))
theorem RowO.below {w w' : World} {b o n B : Nat} {X Y : Nat → Int} {F : Nat → Bool} (h : RowO w b o n X Y F) (hB : b < B) (k : Below B w w') : RowO w' b o n X Y F :=
  ⟨Nat.lt_of_lt_of_le h.1 k.size, fun i hi => by
    obtain ⟨h1, h2, h3⟩ := h.2 i hi
    exact ⟨(k.cell (p := ⟨b, o + i * 3, none⟩) hB).trans h1, (k.cell (p := ⟨b, o + i * 3 + 1, none⟩) hB).trans h2, (k.cell (p := ⟨b, o + i * 3 + 2, none⟩) hB).trans h3⟩⟩

section
variable {H : Type} {enc : TypeId × Value → H} {P : Program} {w : World} {base : Nat} {spare : Nat → Bool} {held : Bool}

theorem args_stay {W W' : World} {sp : Nat → Bool} (hl : laidOutB P = true) (hb : Below W.heap.size W W') :
    ∀ {ts : List TypeId} {vs : List Value} {ds : List (DataW H)} {p : List MemPlace}, (ts.all fun t => P.readableRec t && decide (t < P.types.size)) = true → DataW.TrodAll enc P W 0 (fun _ => true) true ts vs ds p →
      (∀ x ∈ p, x.block < W.heap.size) → (∀ x ∈ p, sp x.block = true) → DataW.TrodAll enc P W' 0 sp true ts vs ds p
  | [], _, _, _, _, h, _, _ => by
    obtain ⟨rfl, rfl, rfl⟩ := trodAll_nil h
    exact trodAll_mk0
  | t :: ts, _, _, _, ht, h, hlt, hsp => by
    obtain ⟨v, vs1, d, ds1, a, b, rfl, rfl, rfl, h1, h2⟩ := trodAll_cons h
    simp only [List.all_cons, Bool.and_eq_true, decide_eq_true_eq] at ht
    exact ⟨a, b, Trod_stays hl ht.1.1 ht.1.2 h1 (fun x hx => hb.same (hlt x (List.mem_append_left _ hx))) (fun x hx => hsp x (List.mem_append_left _ hx)),
      args_stay hl hb ht.2 h2 (fun x hx => hlt x (List.mem_append_right _ hx)) (fun x hx => hsp x (List.mem_append_right _ hx)), rfl⟩

theorem cells_three {W : World} {base : Nat} {a : Addr} {cs : List Value} (h : W.cells? base a 3 = some cs) : ∃ v0 v1 v2, cs = [v0, v1, v2] ∧ W.cell? a = some v0 ∧ W.cell? (a.add 1) = some v1 ∧ W.cell? (a.add 2) = some v2 := by
  obtain ⟨_, hlen, hcell⟩ := World.cells?_some h
  match cs, hlen with
  | [v0, v1, v2], _ =>
    have e0 := hcell 0 (by omega)
    have e1 := hcell 1 (by omega)
    have e2 := hcell 2 (by omega)
    exact ⟨v0, v1, v2, rfl, by simpa [Addr.add] using e0, by simpa using e1, by simpa using e2⟩

/-- A slice of spots. -/
theorem open_spots {r : Reach} {b0 : Nat} {t e : TypeId} {f0 f1 f2 : Field} {v : Value} {d : DataW H} {p : List MemPlace} (ht : P.underlying t = some (.slice e)) (he : P.underlying e = some (.struct #[f0, f1, f2])) (ce : P.cellsOf e = 3)
    (o0 : f0.offset = 0) (o1 : f1.offset = 1) (o2 : f2.offset = 2) (c0 : P.cellsOf f0.type = 1) (c1 : P.cellsOf f1.type = 1) (c2 : P.cellsOf f2.type = 1)
    (u0 : P.underlying f0.type = some (.int .i64)) (u1 : P.underlying f1.type = some (.int .i64)) (u2 : P.underlying f2.type = some .bool)
    (hv : Value.okWide P w r b0 t v) (h : DataW.Trod enc P w 0 (fun _ => true) held t v d p) :
    ∃ (sa : Option Addr) (n c : Nat), v = .slice sa n c ∧ n ≤ maxLen ∧ (n = 0 ∨ ∃ (b o : Nat) (X Y : Nat → Int) (F : Nat → Bool), sa = some ⟨b, o, none⟩ ∧ RowO w b o n X Y F) := by
  obtain ⟨sa, n, c, rfl⟩ := okWide_slice ht hv
  obtain ⟨fuel, hf⟩ := h
  rcases open_slice ht hf with ⟨hc, _⟩ | ⟨a, len, cap, m, k, D, Pl, hc, _, hl, hm, hmm, hx, hall⟩
  · simp [Value.cells] at hc
    obtain ⟨rfl, rfl, rfl⟩ := hc
    exact ⟨none, 0, 0, rfl, by decide, Or.inl rfl⟩
  · simp [Value.cells] at hc
    obtain ⟨rfl, rfl, rfl⟩ := hc
    simp only [if_true] at hmm
    subst hmm
    refine ⟨some a, n, m, rfl, by omega, ?_⟩
    rcases Nat.eq_zero_or_pos n with h0 | hn
    · exact Or.inl h0
    right
    have each : ∀ i, i < n → ∃ q : Int × Int × Bool, w.cell? (a.add (i * 3)) = some (.int .i64 q.1) ∧ w.cell? (a.add (i * 3 + 1)) = some (.int .i64 q.2.1) ∧ w.cell? (a.add (i * 3 + 2)) = some (.bool q.2.2) := by
      intro i hi
      obtain ⟨cs, h1, h2⟩ := hall i (by omega)
      rw [ce] at h1
      obtain ⟨v0, v1, v2, rfl, g0, g1, g2⟩ := cells_three h1
      rw [add_add] at g1 g2
      obtain ⟨xs, k', hk, _, _, hxl, hfd⟩ := DataW.trod_struct he h2
      match xs, hxl with
      | [y0, y1, y2], _ =>
        have q0 := hfd 0 f0 rfl
        have q1 := hfd 1 f1 rfl
        have q2 := hfd 2 f2 rfl
        simp [o0, o1, o2, c0, c1, c2] at q0 q1 q2
        obtain ⟨x, e0, _, _⟩ := DataW.trod_int u0 q0
        obtain ⟨y, e1, _, _⟩ := DataW.trod_int u1 q1
        obtain ⟨z, e2, _⟩ := DataW.trod_bool u2 q2
        simp at e0 e1 e2
        subst e0 e1 e2
        exact ⟨(x, y, z), g0, g1, g2⟩
    obtain ⟨q, hq⟩ := choose_lt (α := Int × Int × Bool) each
    obtain ⟨b, o, spot⟩ := a
    have hspot : spot = none := by simpa [Addr.add] using World.cell?_spot (hq 0 hn).1
    subst hspot
    refine ⟨b, o, fun i => (q i).1, fun i => (q i).2.1, fun i => (q i).2.2, rfl, ?_, fun i hi => ?_⟩
    · have h1 := (hq 0 hn).1
      rw [Addr.add_lit] at h1; exact World.block_lt_of_cell? _ _ h1
    · obtain ⟨h1, h2, h3⟩ := hq i hi
      simp only [Addr.add_lit] at h1 h2 h3
      exact ⟨h1, by rw [Nat.add_assoc]; exact h2, by rw [Nat.add_assoc]; exact h3⟩
end
end Go.Proofs.YtpkkclcjiobgoajGreatDoor

/- Rows that a call makes itself by append: how they stay, what else stays when one grows, and how they are read. Of whatever program. -/
namespace Go.Proofs.YtpkkclcjiobgoajGreatDoor
open Go.RowKit Go.Sort
set_option linter.unusedVariables false
set_option linter.unusedSimpArgs false

section
variable {w w' : World} {B : Nat} {e : TypeId} {size : Nat} {v v' : Value} {n m : Nat} {xs ys : List Value}

theorem own_stay (h : w.ownsRow B e size v n xs) (hb : Below w.heap.size w w') : w'.ownsRow B e size v n xs :=
  h.kept (row := none) ⟨hb.os, hb.tape, hb.output, hb.size, fun k hk _ => hb.block k hk⟩ (by cases hv : v.ownBlock <;> simp)
/-- Of a greater number of blocks on, and so of a lesser one. -/
theorem own_base {B' : Nat} (h : w.ownsRow B' e size v n xs) (hB : B ≤ B') : w.ownsRow B e size v n xs := by
  refine ⟨h.1, ?_⟩
  rcases h.2 with h1 | ⟨g, cap, cur, h1, h2, h3⟩
  · exact Or.inl h1
  · exact Or.inr ⟨g, cap, cur, h1, Nat.le_trans hB h2, h3⟩
theorem own_drew (h : w.ownsRow B e size v n xs) : w.drew.ownsRow B e size v n xs := own_stay h (Below.drew (Below.refl _ _))
theorem own_set (h : w.ownsRow B e size v n xs) {c o : Nat} (hne : v.ownBlock ≠ some c) (u : Value) : (w.setCell ⟨c, o, none⟩ u).ownsRow B e size v n xs :=
  ownsRow_setCell_other h (a := ⟨c, o, none⟩) hne u
/-- A block of its own stays when a row of another block grows. -/
theorem At.grown {b : Nat} {vs : List Value} (h : At w b vs) {row : Option Nat} (hg : w.grownBy w' row) (hne : row ≠ some b) : At w' b vs := by
  have hb := hg.block b h.1 (fun e => hne e.symm)
  exact ⟨Nat.lt_of_lt_of_le h.1 hg.size, fun i hi => (World.cell?_of_block (a := ⟨b, i, none⟩) hb).trans (h.2.1 i hi), fun i hi => (World.frozen?_of_block (a := ⟨b, i, none⟩) hb).trans (h.2.2 i hi)⟩
theorem grown_under {a : World} {A : Nat} (hq : Below A a w) (hown : w.ownsRow B e size v n xs) (hg : w.grownBy w' v.ownBlock) (hA : A ≤ w.heap.size) (hB : A ≤ B) : Below A a w' :=
  hq.grown hg hA (fun k hk => Nat.le_trans hB (hown.lt k hk).1)
end

/-- Cells of so many ints. -/
def cellsI (X : Nat → Int) (n : Nat) : List Value := (List.range n).map fun i => .int .i64 (X i)
theorem cellsI_succ (X : Nat → Int) (n : Nat) : cellsI X (n + 1) = cellsI X n ++ [.int .i64 (X n)] := by unfold cellsI; rw [List.range_succ, List.map_append]; rfl
theorem cellsI_at (X : Nat → Int) {n i : Nat} (h : i < n) : (cellsI X n)[i]? = some (.int .i64 (X i)) := by unfold cellsI; simp [h]
/-- In block b, from o on, lie so many ints in a row. -/
def RowI (w : World) (b o n : Nat) (X : Nat → Int) : Prop := b < w.heap.size ∧ ∀ i, i < n → w.cell? ⟨b, o + i, none⟩ = some (.int .i64 (X i))
theorem RowI.below {w w' : World} {b o n B : Nat} {X : Nat → Int} (h : RowI w b o n X) (hB : b < B) (k : Below B w w') : RowI w' b o n X :=
  ⟨Nat.lt_of_lt_of_le h.1 k.size, fun i hi => (k.cell (p := ⟨b, o + i, none⟩) hB).trans (h.2 i hi)⟩
/-- Cells of so many structs of two ints. -/
def cellsP (X Y : Nat → Int) (n : Nat) : List Value := (List.range n).flatMap fun i => [.int .i64 (X i), .int .i64 (Y i)]
def RowP (w : World) (b o n : Nat) (X Y : Nat → Int) : Prop := b < w.heap.size ∧ ∀ i, i < n → w.cell? ⟨b, o + i * 2, none⟩ = some (.int .i64 (X i)) ∧ w.cell? ⟨b, o + i * 2 + 1, none⟩ = some (.int .i64 (Y i))
theorem RowP.below {w w' : World} {b o n B : Nat} {X Y : Nat → Int} (h : RowP w b o n X Y) (hB : b < B) (k : Below B w w') : RowP w' b o n X Y :=
  ⟨Nat.lt_of_lt_of_le h.1 k.size, fun i hi => ⟨(k.cell (p := ⟨b, o + i * 2, none⟩) hB).trans (h.2 i hi).1, (k.cell (p := ⟨b, o + i * 2 + 1, none⟩) hB).trans (h.2 i hi).2⟩⟩
/-- Cells of so many spots. -/
def cellsT (X Y : Nat → Int) (F : Nat → Bool) (n : Nat) : List Value := (List.range n).flatMap fun i => [.int .i64 (X i), .int .i64 (Y i), .bool (F i)]
theorem cellsT_succ (X Y : Nat → Int) (F : Nat → Bool) (n : Nat) : cellsT X Y F (n + 1) = cellsT X Y F n ++ [.int .i64 (X n), .int .i64 (Y n), .bool (F n)] := by unfold cellsT; rw [List.range_succ, List.flatMap_append]; simp
/-- Cells of so many strings. -/
def cellsZ (T : Nat → ByteArray) (n : Nat) : List Value := (List.range n).map fun i => .string (T i)
def RowZ (w : World) (b o n : Nat) (T : Nat → ByteArray) : Prop := b < w.heap.size ∧ ∀ i, i < n → w.cell? ⟨b, o + i, none⟩ = some (.string (T i))
theorem RowZ.below {w w' : World} {b o n B : Nat} {T : Nat → ByteArray} (h : RowZ w b o n T) (hB : b < B) (k : Below B w w') : RowZ w' b o n T :=
  ⟨Nat.lt_of_lt_of_le h.1 k.size, fun i hi => (k.cell (p := ⟨b, o + i, none⟩) hB).trans (h.2 i hi)⟩
theorem flat_at {α : Type} (k : Nat) (f : Nat → List α) (hf : ∀ i, (f i).length = k) : ∀ (n i j : Nat), i < n → j < k → ((List.range n).flatMap f)[i * k + j]? = (f i)[j]?
  | 0, i, j, h, _ => absurd h (Nat.not_lt_zero _)
  | n + 1, i, j, h, hj => by
    have hlen : ((List.range n).flatMap f).length = n * k := by
      clear h hj
      induction n with
      | zero => simp
      | succ n ih => rw [List.range_succ, List.flatMap_append, List.length_append, ih, Nat.succ_mul]; simp [hf]
    rw [List.range_succ, List.flatMap_append]
    rcases Nat.lt_succ_iff_lt_or_eq.1 h with h1 | h1
    · have h2 : i * k + j < n * k := by
        have := Nat.mul_le_mul_right k (Nat.succ_le_of_lt h1)
        rw [Nat.succ_mul] at this
        omega
      rw [List.getElem?_append_left (by rw [hlen]; exact h2)]
      exact flat_at k f hf n i j h1 hj
    · subst h1
      rw [List.getElem?_append_right (by rw [hlen]; omega), hlen]
      simp [show i * k + j - i * k = j by omega]
theorem addr_add (g j : Nat) : (⟨g, 0, none⟩ : Addr).add j = ⟨g, j, none⟩ := by rw [Addr.add_lit, Nat.zero_add]
section
variable {w : World} {B : Nat} {e : TypeId} {v : Value} {n : Nat}
/-- A row of one's own, as a slice that can be read. -/
theorem own_slice {size : Nat} {xs : List Value} (h : w.ownsRow B e size v n xs) : ∃ (sa : Option Addr) (c : Nat), v = .slice sa n c ∧ (n = 0 ∨ ∃ g, sa = some ⟨g, 0, none⟩ ∧ v.ownBlock = some g ∧ B ≤ g ∧ g < w.heap.size) := by
  rcases h.2 with ⟨rfl, rfl⟩ | ⟨g, cap, cur, rfl, hb, hg, _⟩
  · exact ⟨none, 0, rfl, Or.inl rfl⟩
  · exact ⟨_, cap, rfl, Or.inr ⟨g, rfl, rfl, hb, (Array.getElem?_eq_some_iff.1 hg).1⟩⟩
theorem own_room {size q c : Nat} {sa : Option Addr} {xs : List Value} (h : w.ownsRow B e size (.slice sa q c) n xs) : q ≤ c := by
  rcases h.2 with ⟨h1, _⟩ | ⟨g, cap, cur, h1, _, _, h2, _⟩
  · injection h1 with _ h1 h2; omega
  · injection h1 with _ h3 h4; omega
theorem own_ints {X : Nat → Int} (h : w.ownsRow B e 1 v n (cellsI X n)) : ∃ (sa : Option Addr) (c : Nat), v = .slice sa n c ∧ (n = 0 ∨ ∃ g, sa = some ⟨g, 0, none⟩ ∧ v.ownBlock = some g ∧ B ≤ g ∧ RowI w g 0 n X) := by
  obtain ⟨sa, c, rfl, h1⟩ := own_slice h
  refine ⟨sa, c, rfl, ?_⟩
  rcases h1 with h1 | ⟨g, rfl, h2, h3, h4⟩
  · exact Or.inl h1
  · refine Or.inr ⟨g, rfl, h2, h3, h4, fun i hi => ?_⟩
    have := h.cells h2 i _ (cellsI_at X hi)
    rw [addr_add] at this
    rw [Nat.zero_add]; exact this
theorem own_spots {X Y : Nat → Int} {F : Nat → Bool} (h : w.ownsRow B e 3 v n (cellsT X Y F n)) : ∃ (sa : Option Addr) (c : Nat), v = .slice sa n c ∧ (n = 0 ∨ ∃ g, sa = some ⟨g, 0, none⟩ ∧ v.ownBlock = some g ∧ B ≤ g ∧ RowO w g 0 n X Y F) := by
  obtain ⟨sa, c, rfl, h1⟩ := own_slice h
  refine ⟨sa, c, rfl, ?_⟩
  rcases h1 with h1 | ⟨g, rfl, h2, h3, h4⟩
  · exact Or.inl h1
  · refine Or.inr ⟨g, rfl, h2, h3, h4, fun i hi => ?_⟩
    have a0 := h.cells h2 (i * 3 + 0) _ (flat_at 3 _ (fun _ => rfl) n i 0 hi (by omega))
    have a1 := h.cells h2 (i * 3 + 1) _ (flat_at 3 _ (fun _ => rfl) n i 1 hi (by omega))
    have a2 := h.cells h2 (i * 3 + 2) _ (flat_at 3 _ (fun _ => rfl) n i 2 hi (by omega))
    rw [addr_add] at a0 a1 a2
    exact ⟨by rw [Nat.zero_add]; exact a0, by rw [Nat.zero_add]; exact a1, by rw [Nat.zero_add]; exact a2⟩
end
/-- A row and one more. -/
def extN {α : Type} (f : Nat → α) (n : Nat) (a : α) : Nat → α := fun i => bif Nat.beq i n then a else f i
theorem extN_at {α : Type} (f : Nat → α) (n : Nat) (a : α) : extN f n a n = a := by unfold extN; rw [Nat.beq_refl]; rfl
theorem extN_lt {α : Type} (f : Nat → α) {n i : Nat} (a : α) (h : i < n) : extN f n a i = f i := by
  unfold extN
  have : Nat.beq i n = false := by
    cases hb : Nat.beq i n with
    | false => rfl
    | true => have := Nat.eq_of_beq_eq_true hb; omega
  rw [this]; rfl
end Go.Proofs.YtpkkclcjiobgoajGreatDoor
