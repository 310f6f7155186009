/- Plain facts on numbers modulo 4051; nothing of the program stands in here. -/
namespace Go.Proofs.Ytmijjjdedadklag

/-- The number modulo 4051. -/
def fm (n : Int) : Int := n % 4051

theorem fm_lo (n : Int) : 0 ≤ fm n := by unfold fm; omega
theorem fm_hi (n : Int) : fm n ≤ 4050 := by unfold fm; omega
theorem fm_id {n : Int} (h0 : 0 ≤ n) (h1 : n ≤ 4050) : fm n = n := by unfold fm; omega
theorem fm_fm (n : Int) : fm (fm n) = fm n := by unfold fm; omega
theorem fm_add (a b : Int) : fm (fm a + fm b) = fm (a + b) := by unfold fm; omega
theorem fm_sub (a b : Int) : fm (fm a - fm b) = fm (a - b) := by unfold fm; omega
theorem fm_mul (a b : Int) : fm (fm a * fm b) = fm (a * b) := by unfold fm; rw [← Int.mul_emod]
theorem fm_mul_l (a b : Int) : fm (fm a * b) = fm (a * b) := by
  rw [← fm_mul (fm a) b, fm_fm, fm_mul]
theorem fm_mul_r (a b : Int) : fm (a * fm b) = fm (a * b) := by
  rw [← fm_mul a (fm b), fm_fm, fm_mul]
theorem fm_add_l (a b : Int) : fm (fm a + b) = fm (a + b) := by unfold fm; omega
theorem fm_add_r (a b : Int) : fm (a + fm b) = fm (a + b) := by unfold fm; omega
theorem fm_sub_l (a b : Int) : fm (fm a - b) = fm (a - b) := by unfold fm; omega
theorem fm_sub_r (a b : Int) : fm (a - fm b) = fm (a - b) := by unfold fm; omega
theorem fm_pow (a : Int) (n : Nat) : fm (fm a ^ n) = fm (a ^ n) := by
  induction n with
  | zero => rw [Int.pow_zero, Int.pow_zero]
  | succ n ih => rw [Int.pow_succ, Int.pow_succ, ← fm_mul, ih, fm_fm, fm_mul]
theorem fm_mul_congr {a a' b b' : Int} (h : fm a = fm a') (k : fm b = fm b') : fm (a * b) = fm (a' * b') := by
  rw [← fm_mul a, ← fm_mul a', h, k]
theorem fm_pow_congr {a a' : Int} (h : fm a = fm a') (n : Nat) : fm (a ^ n) = fm (a' ^ n) := by
  rw [← fm_pow a, ← fm_pow a', h]
theorem pow_add (a : Int) (m n : Nat) : a ^ (m + n) = a ^ m * a ^ n := by
  induction n with
  | zero => simp
  | succ n ih => rw [← Nat.add_assoc, Int.pow_succ, Int.pow_succ, ih, Int.mul_assoc]
theorem pow_dbl (a : Int) (n : Nat) : (a * a) ^ n = a ^ (2 * n) := by
  induction n with
  | zero => simp
  | succ n ih => rw [Int.pow_succ, ih, show 2 * (n + 1) = 2 * n + 1 + 1 by omega, Int.pow_succ, Int.pow_succ, Int.mul_assoc]

/-- A test for all numbers below a bound. -/
def allLT (p : Nat → Bool) (n : Nat) : Bool := Nat.rec true (fun k ih => cond (p k) ih false) n
theorem allLT_spec {p : Nat → Bool} {n : Nat} (h : allLT p n = true) : ∀ k, k < n → p k = true := by
  induction n with
  | zero => intro k hk; omega
  | succ n ih =>
    intro k hk
    have h' : cond (p n) (allLT p n) false = true := h
    cases e : p n with
    | false => rw [e] at h'; simp at h'
    | true =>
      rw [e] at h'
      by_cases hk' : k = n
      · subst hk'; exact e
      · exact ih (by simpa using h') k (by omega)

/-- From all numbers below 4051 to each whole number. -/
theorem fm_all {p : Nat → Bool} (h : allLT p 4051 = true) (a : Int) : p (fm a).toNat = true := by
  refine allLT_spec h _ ?_
  have := fm_lo a; have := fm_hi a; omega
theorem fm_toNat (a : Int) : ((fm a).toNat : Int) = fm a := by have := fm_lo a; omega
theorem fm_nat (n : Nat) : fm (n : Int) = ((n % 4051 : Nat) : Int) := by unfold fm; omega
/-- The power of a number below 4051. -/
def pw (x n : Nat) : Nat := x ^ n % 4051
/-- The power of any number. -/
def fpow (a : Int) (n : Nat) : Int := fm (a ^ n)
theorem fm_nat_pow (a : Int) (n : Nat) : fpow a n = ((pw (fm a).toNat n : Nat) : Int) := by
  unfold fpow pw
  have h := fm_nat ((fm a).toNat ^ n)
  rw [Int.natCast_pow, fm_toNat, fm_pow] at h
  exact h

theorem fermat_all : allLT (fun x => Nat.beq x 0 || Nat.beq (pw x 4050) 1) 4051 = true := by decide +kernel
theorem fermat {a : Int} (h : fm a ≠ 0) : fpow a 4050 = 1 := by
  have := fm_all fermat_all a
  simp only [Bool.or_eq_true] at this
  rcases this with h0 | h1
  · have := Nat.eq_of_beq_eq_true h0; have := fm_lo a; omega
  · rw [fm_nat_pow, Nat.eq_of_beq_eq_true h1]; rfl
theorem fpow_mul (a : Int) (n : Nat) : fm (a * fpow a n) = fpow a (n + 1) := by
  unfold fpow; rw [fm_mul_r, Int.mul_comm, ← Int.pow_succ]
theorem fpow_lo (a : Int) (n : Nat) : 0 ≤ fpow a n := fm_lo _
theorem fpow_hi (a : Int) (n : Nat) : fpow a n ≤ 4050 := fm_hi _
theorem fpow_fm (a : Int) (n : Nat) : fpow (fm a) n = fpow a n := fm_pow a n
theorem fm_inv {a : Int} (h : fm a ≠ 0) : fm (a * fpow a 4049) = 1 := by
  rw [fpow_mul]; exact fermat h
/-- What is 0 has a factor that is. -/
theorem fm_zero {a b : Int} (h : fm (a * b) = 0) (ha : fm a ≠ 0) : fm b = 0 := by
  have h1 := fm_inv ha
  have : fm (fm (a * b) * fpow a 4049) = fm b := by
    generalize fpow a 4049 = y at *
    rw [fm_mul_l, show a * b * y = a * y * b by rw [Int.mul_assoc, Int.mul_comm b, Int.mul_assoc], ← fm_mul, h1, Int.one_mul, fm_fm]
  rw [← this, h, Int.zero_mul]; rfl

/-- The root that is tried. -/
def rt (a : Int) : Int := fpow a 1013
/-- Is it one? -/
def rtOk (a : Int) : Bool := fm (rt a * rt a) == fm a
/-- The lesser one of both. -/
def rtMin (a : Int) : Int := min (rt a) (fm (0 - rt a))

/-- The same, of a number below 4051. -/
def rtN (x : Nat) : Nat := pw x 1013
def okN (x : Nat) : Bool := Nat.beq (rtN x * rtN x % 4051) x
def minN (x : Nat) : Nat := cond (Nat.ble (rtN x) ((4051 - rtN x) % 4051)) (rtN x) ((4051 - rtN x) % 4051)
theorem rt_nat (a : Int) : rt a = ((rtN (fm a).toNat : Nat) : Int) := fm_nat_pow a 1013
theorem beq_int {m n : Nat} : ((m : Int) == (n : Int)) = Nat.beq m n := by
  by_cases h : m = n
  · subst h; simp [Nat.beq_refl]
  · have h1 : ¬ ((m : Int) = (n : Int)) := by omega
    have h2 : Nat.beq m n = false := by
      cases e : Nat.beq m n with
      | false => rfl
      | true => exact absurd (Nat.eq_of_beq_eq_true e) h
    rw [h2]; exact beq_eq_false_iff_ne.mpr h1
theorem rtOk_nat (a : Int) : rtOk a = okN (fm a).toNat := by
  unfold rtOk okN
  rw [rt_nat, ← Int.natCast_mul, fm_nat, ← fm_toNat a, beq_int, fm_toNat]
theorem pw_lt (x n : Nat) : pw x n < 4051 := by unfold pw; omega
theorem rtN_lt (x : Nat) : rtN x < 4051 := pw_lt x 1013
theorem rtMin_nat (a : Int) : rtMin a = ((minN (fm a).toNat : Nat) : Int) := by
  unfold rtMin minN
  rw [rt_nat]
  generalize hr : rtN (fm a).toNat = r
  have hl : r < 4051 := hr ▸ rtN_lt _
  have e : fm (0 - (r : Int)) = (((4051 - r) % 4051 : Nat) : Int) := by unfold fm; omega
  rw [e]
  cases h : Nat.ble r ((4051 - r) % 4051) with
  | true => have := Nat.le_of_ble_eq_true h; simp only [cond_true]; omega
  | false =>
    have : ¬ r ≤ (4051 - r) % 4051 := fun h' => by rw [Nat.ble_eq_true_of_le h'] at h; exact absurd h (by decide)
    simp only [cond_false]; omega

theorem euler_all : allLT (fun x => okN x == !(Nat.beq (pw x 2025) 4050)) 4051 = true := by decide +kernel
theorem euler (a : Int) : rtOk a = !(fpow a 2025 == 4050) := by
  have h := fm_all euler_all a
  rw [rtOk_nat, fm_nat_pow, show (4050 : Int) = ((4050 : Nat) : Int) from rfl, beq_int]
  simpa using h
theorem least_all : allLT (fun x => !(okN x) || (Nat.beq (minN x * minN x % 4051) x && Nat.ble (2 * minN x) 4051)) 4051 = true := by decide +kernel
theorem least {a : Int} (h : rtOk a = true) : fm (rtMin a * rtMin a) = fm a ∧ 0 ≤ rtMin a ∧ 2 * rtMin a ≤ 4051 := by
  have hh := fm_all least_all a
  rw [rtOk_nat] at h
  simp only [h, Bool.not_true, Bool.false_or, Bool.and_eq_true] at hh
  rw [rtMin_nat]
  refine ⟨?_, by omega, ?_⟩
  · rw [← Int.natCast_mul, fm_nat, Nat.eq_of_beq_eq_true hh.1, fm_toNat]
  · have := Nat.le_of_ble_eq_true hh.2; omega
theorem least_le (a : Int) : 0 ≤ rtMin a ∧ rtMin a ≤ 4050 := by
  unfold rtMin rt
  have := fpow_lo a 1013; have := fpow_hi a 1013; have := fm_lo (0 - fpow a 1013); have := fm_hi (0 - fpow a 1013); omega
theorem either_all : allLT (fun x => Nat.beq x 0 || (okN x != okN ((4051 - x) % 4051))) 4051 = true := by decide +kernel
theorem either {a : Int} (h : fm a ≠ 0) : rtOk (fm (0 - a)) = !(rtOk a) := by
  have hh := fm_all either_all a
  simp only [Bool.or_eq_true] at hh
  have e : (fm (fm (0 - a))).toNat = (4051 - (fm a).toNat) % 4051 := by
    have := fm_lo a; have := fm_hi a; have : fm (fm (0 - a)) = fm (0 - fm a) := by unfold fm; omega
    rw [this]; generalize fm a = y at *; unfold fm; omega
  rw [rtOk_nat, rtOk_nat, e]
  rcases hh with h0 | h1
  · have := Nat.eq_of_beq_eq_true h0; have := fm_lo a; omega
  · revert h1; cases okN (fm a).toNat <;> cases okN ((4051 - (fm a).toNat) % 4051) <;> simp
theorem okZero {a : Int} (h : fm a = 0) : rtOk a = true := by rw [rtOk_nat, h]; decide +kernel
end Go.Proofs.Ytmijjjdedadklag
