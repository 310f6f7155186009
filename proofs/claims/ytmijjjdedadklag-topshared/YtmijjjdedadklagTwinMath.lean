/- Plain facts on pairs of numbers, where i times i is -1, modulo 4051; nothing of the program stands in here. -/
import Derived.Test.YtmijjjdedadklagMath
namespace Go.Proofs.Ytmijjjdedadklag

/-- The product of two, over the whole numbers. -/
def cm (x y : Int × Int) : Int × Int := (x.1 * y.1 - x.2 * y.2, x.1 * y.2 + x.2 * y.1)
/-- Both modulo 4051. -/
def cf (x : Int × Int) : Int × Int := (fm x.1, fm x.2)
/-- The power, over the whole numbers. -/
def cp (x : Int × Int) (n : Nat) : Int × Int := Nat.rec (1, 0) (fun _ r => cm r x) n
/-- The product, and the power, modulo 4051. -/
def tm (x y : Int × Int) : Int × Int := cf (cm x y)
def tp (x : Int × Int) (n : Nat) : Int × Int := cf (cp x n)
/-- The sum, what is turned, and the norm. -/
def ta (x y : Int × Int) : Int × Int := (fm (x.1 + y.1), fm (x.2 + y.2))
def tc (x : Int × Int) : Int × Int := (fm x.1, fm (0 - x.2))
def tn (x : Int × Int) : Int := fm (x.1 * x.1 + x.2 * x.2)
/-- The inverse. -/
def ti (x : Int × Int) : Int × Int := tm (tc x) (fpow (tn x) 4049, 0)

theorem cp_zero (x : Int × Int) : cp x 0 = (1, 0) := rfl
theorem cp_succ (x : Int × Int) (n : Nat) : cp x (n + 1) = cm (cp x n) x := rfl
theorem cm_comm (x y : Int × Int) : cm x y = cm y x := by
  apply Prod.ext <;> simp only [cm] <;> grind
theorem cm_assoc (x y z : Int × Int) : cm (cm x y) z = cm x (cm y z) := by
  apply Prod.ext <;> simp only [cm] <;> grind
theorem cm_one (x : Int × Int) : cm x (1, 0) = x := by
  apply Prod.ext <;> simp only [cm] <;> grind
theorem one_cm (x : Int × Int) : cm (1, 0) x = x := by rw [cm_comm, cm_one]
theorem cp_add (x : Int × Int) (m n : Nat) : cp x (m + n) = cm (cp x m) (cp x n) := by
  induction n with
  | zero => rw [Nat.add_zero, cp_zero, cm_one]
  | succ n ih => rw [← Nat.add_assoc, cp_succ, cp_succ, ih, cm_assoc]
theorem cp_mul (x y : Int × Int) (n : Nat) : cp (cm x y) n = cm (cp x n) (cp y n) := by
  induction n with
  | zero => rw [cp_zero, cp_zero, cp_zero, cm_one]
  | succ n ih =>
    rw [cp_succ, cp_succ, cp_succ, ih, cm_assoc, cm_assoc, ← cm_assoc (cp y n), ← cm_assoc x, cm_comm (cp y n) x]
theorem cp_dbl (x : Int × Int) (n : Nat) : cp (cm x x) n = cp x (2 * n) := by
  rw [cp_mul, ← cp_add, show n + n = 2 * n by omega]
theorem cf_cf (x : Int × Int) : cf (cf x) = cf x := by simp only [cf, fm_fm]
theorem cf_ext {x y : Int × Int} (h : cf x = cf y) : fm x.1 = fm y.1 ∧ fm x.2 = fm y.2 := by
  simp only [cf, Prod.mk.injEq] at h; exact h
theorem cf_cm_l (x y : Int × Int) : cf (cm (cf x) y) = cf (cm x y) := by
  simp only [cf, cm, Prod.mk.injEq]
  refine ⟨?_, ?_⟩
  · rw [← fm_sub, fm_mul_l, fm_mul_l, fm_sub]
  · rw [← fm_add, fm_mul_l, fm_mul_l, fm_add]
theorem cf_cm_r (x y : Int × Int) : cf (cm x (cf y)) = cf (cm x y) := by
  rw [cm_comm, cf_cm_l, cm_comm]
theorem cf_cp (x : Int × Int) (n : Nat) : cf (cp (cf x) n) = cf (cp x n) := by
  induction n with
  | zero => rfl
  | succ n ih => rw [cp_succ, cp_succ, cf_cm_r, ← cf_cm_l, ih, cf_cm_l]
theorem cf_cm_congr {x x' y y' : Int × Int} (h : cf x = cf x') (k : cf y = cf y') : cf (cm x y) = cf (cm x' y') := by
  rw [← cf_cm_l x, h, cf_cm_l, ← cf_cm_r x', k, cf_cm_r]
theorem tm_cf_l (x y : Int × Int) : tm (cf x) y = tm x y := cf_cm_l x y
theorem tm_cf_r (x y : Int × Int) : tm x (cf y) = tm x y := cf_cm_r x y
theorem tm_tm_l (x y z : Int × Int) : tm (tm x y) z = cf (cm (cm x y) z) := cf_cm_l _ _
theorem tm_tm_r (x y z : Int × Int) : tm x (tm y z) = cf (cm x (cm y z)) := cf_cm_r _ _
theorem tm_comm (x y : Int × Int) : tm x y = tm y x := by unfold tm; rw [cm_comm]
theorem tm_assoc (x y z : Int × Int) : tm (tm x y) z = tm x (tm y z) := by rw [tm_tm_l, tm_tm_r, cm_assoc]
theorem tp_cf (x : Int × Int) (n : Nat) : tp (cf x) n = tp x n := cf_cp x n
theorem tp_add (x : Int × Int) (m n : Nat) : tm (tp x m) (tp x n) = tp x (m + n) := by
  unfold tp tm; rw [cf_cm_l, cf_cm_r, cp_add]
theorem tp_succ (x : Int × Int) (n : Nat) : tp x (n + 1) = tm (tp x n) x := by
  unfold tp tm; rw [cf_cm_l, cp_succ]
theorem tp_zero (x : Int × Int) : tp x 0 = (1, 0) := rfl
theorem tp_mul (x y : Int × Int) (n : Nat) : tp (tm x y) n = tm (tp x n) (tp y n) := by
  unfold tp tm; rw [cf_cp, cp_mul, cf_cm_l, cf_cm_r]
theorem tp_mulexp (x : Int × Int) (m n : Nat) : tp (tp x m) n = tp x (m * n) := by
  induction n with
  | zero => rfl
  | succ n ih => rw [tp_succ, ih, tp_add, Nat.mul_succ]
theorem cf_lo (x : Int × Int) : 0 ≤ (cf x).1 ∧ (cf x).1 ≤ 4050 ∧ 0 ≤ (cf x).2 ∧ (cf x).2 ≤ 4050 := ⟨fm_lo _, fm_hi _, fm_lo _, fm_hi _⟩
theorem cf_tm (x y : Int × Int) : cf (tm x y) = tm x y := cf_cf _
theorem cf_tp (x : Int × Int) (n : Nat) : cf (tp x n) = tp x n := cf_cf _

/-- A step of the loop. -/
theorem tstep_odd {a p s : Int × Int} {k : Int} {N : Nat} (h0 : 0 < k) (h1 : k % 2 = 1) (h : tm p (tp s k.toNat) = tp a N) :
    tm (tm p s) (tp (tm s s) (k / 2).toNat) = tp a N := by
  rw [← h]
  have e : k.toNat = 1 + 2 * (k / 2).toNat := by omega
  have e2 : tp s (1 + 2 * (k / 2).toNat) = tm s (tp s (2 * (k / 2).toNat)) := by
    rw [Nat.add_comm, tp_succ, tm_comm]
  rw [e, e2, ← tm_assoc]
  congr 1
  unfold tp tm; rw [cf_cp, cp_dbl]
theorem tstep_even {a p s : Int × Int} {k : Int} {N : Nat} (h0 : 0 < k) (h1 : k % 2 = 0) (h : tm p (tp s k.toNat) = tp a N) :
    tm p (tp (tm s s) (k / 2).toNat) = tp a N := by
  rw [← h]
  have e : k.toNat = 2 * (k / 2).toNat := by omega
  rw [e]
  congr 1
  unfold tp tm; rw [cf_cp, cp_dbl]

/-! Frobenius: of (1, c) for all c, by the kernel; the rest by a factor of the field. -/
def nm (x y : Nat × Nat) : Nat × Nat := ((x.1 * y.1 + (4051 * 4051 - x.2 * y.2)) % 4051, (x.1 * y.2 + x.2 * y.1) % 4051)
/-- The power whose digits are told. -/
def np (x : Nat × Nat) : List Bool → Nat × Nat
  | [] => (1, 0)
  | b :: l => cond b (nm (nm (np x l) (np x l)) x) (nm (np x l) (np x l))
def val : List Bool → Nat
  | [] => 0
  | b :: l => 2 * val l + cond b 1 0
def toI (x : Nat × Nat) : Int × Int := (x.1, x.2)
theorem nm_lt (x y : Nat × Nat) : (nm x y).1 < 4051 ∧ (nm x y).2 < 4051 := by unfold nm; constructor <;> exact Nat.mod_lt _ (by omega)
theorem toI_nm {x y : Nat × Nat} (h2 : x.2 < 4051) (k2 : y.2 < 4051) : toI (nm x y) = tm (toI x) (toI y) := by
  have hb : x.2 * y.2 ≤ 4050 * 4050 := Nat.mul_le_mul (by omega) (by omega)
  unfold toI nm tm cf cm
  simp only [Prod.mk.injEq]
  refine ⟨?_, ?_⟩
  · rw [← fm_nat, Int.natCast_add, Int.natCast_sub (by omega), Int.natCast_mul, Int.natCast_mul, Int.natCast_mul]
    unfold fm
    generalize (x.1 : Int) * (y.1 : Int) = u; generalize (x.2 : Int) * (y.2 : Int) = v
    omega
  · rw [← fm_nat, Int.natCast_add, Int.natCast_mul, Int.natCast_mul]
theorem np_lt {x : Nat × Nat} (l : List Bool) : (np x l).1 < 4051 ∧ (np x l).2 < 4051 := by
  cases l with
  | nil => exact ⟨Nat.lt_of_sub_eq_succ rfl, Nat.lt_of_sub_eq_succ rfl⟩
  | cons b l =>
    show (cond b (nm (nm (np x l) (np x l)) x) (nm (np x l) (np x l))).1 < 4051 ∧ (cond b (nm (nm (np x l) (np x l)) x) (nm (np x l) (np x l))).2 < 4051
    cases b <;> exact nm_lt _ _
theorem toI_np {x : Nat × Nat} (h : x.2 < 4051) (l : List Bool) : toI (np x l) = tp (toI x) (val l) := by
  induction l with
  | nil => rfl
  | cons b l ih =>
    have hl := np_lt (x := x) l
    have hq : toI (nm (np x l) (np x l)) = tp (toI x) (2 * val l) := by
      rw [toI_nm hl.2 hl.2, ih, tp_add, show val l + val l = 2 * val l by omega]
    cases b with
    | false => exact hq
    | true =>
      show toI (nm (nm (np x l) (np x l)) x) = tp (toI x) (2 * val l + 1)
      rw [toI_nm (nm_lt _ _).2 h, hq, tp_succ]
def bits4051 : List Bool := [true, true, false, false, true, false, true, true, true, true, true, true]
theorem frob_all : allLT (fun c => let z := np (1, c) bits4051; Nat.beq z.1 1 && Nat.beq z.2 ((4051 - c) % 4051)) 4051 = true := by decide +kernel
theorem frob_one (c : Int) : tp (1, c) 4051 = (1, fm (0 - c)) := by
  have h := fm_all frob_all c
  simp only [Bool.and_eq_true] at h
  have h1 := fm_lo c; have h2 := fm_hi c
  have e := toI_np (x := (1, (fm c).toNat)) (by simp; omega) bits4051
  have ev : val bits4051 = 4051 := rfl
  rw [ev] at e
  have e1 : toI (1, (fm c).toNat) = cf (1, c) := by
    unfold toI cf; simp only [fm_toNat]; rfl
  rw [e1, tp_cf] at e
  rw [← e]
  unfold toI
  rw [Nat.eq_of_beq_eq_true h.1, Nat.eq_of_beq_eq_true h.2]
  simp only [Prod.mk.injEq]
  refine ⟨rfl, ?_⟩
  rw [show fm (0 - c) = fm (0 - fm c) by unfold fm; omega]
  generalize fm c = y at *
  unfold fm; omega
theorem frob_i : tp (0, 1) 4051 = (0, 4050) := by
  have e := toI_np (x := (0, 1)) (by decide) bits4051
  have ev : val bits4051 = 4051 := rfl
  rw [ev] at e
  have e1 : toI (0, 1) = (0, 1) := rfl
  rw [e1] at e
  rw [← e]
  decide +kernel
theorem cp_real (a : Int) (n : Nat) : cp (a, 0) n = (a ^ n, 0) := by
  induction n with
  | zero => rw [cp_zero, Int.pow_zero]
  | succ n ih => rw [cp_succ, ih]; apply Prod.ext <;> simp [cm, Int.pow_succ]
theorem tp_real (a : Int) (n : Nat) : tp (a, 0) n = (fpow a n, 0) := by
  unfold tp fpow; rw [cp_real]; rfl
theorem fpow_P (a : Int) : fpow a 4051 = fm a := by
  by_cases h : fm a = 0
  · rw [← fpow_fm, h, show (4051 : Nat) = 4050 + 1 from rfl, ← fpow_mul, Int.zero_mul]; rfl
  · rw [show (4051 : Nat) = 4050 + 1 from rfl, ← fpow_mul, fermat h, Int.mul_one]
theorem frob (x : Int × Int) : tp x 4051 = cf (x.1, 0 - x.2) := by
  obtain ⟨a, b⟩ := x
  by_cases h : fm a = 0
  · have e : cf (a, b) = tm (b, 0) (0, 1) := by
      unfold cf tm cf cm; simp [h]; rfl
    rw [← tp_cf, e, tp_mul, tp_real, fpow_P, frob_i]
    unfold cf tm cf cm
    simp only [Prod.mk.injEq, Int.zero_mul, Int.mul_zero, Int.sub_zero, Int.zero_sub, Int.add_zero]
    refine ⟨by rw [h]; rfl, ?_⟩
    unfold fm; omega
  · have hi := fm_inv h
    generalize fpow a 4049 = t at hi
    have e : cf (a, b) = tm (a, 0) (1, b * t) := by
      unfold cf tm cf cm
      simp only [Prod.mk.injEq]
      refine ⟨by simp, ?_⟩
      rw [show a * (b * t) + 0 * 1 = (a * t) * b by grind, ← fm_mul_l, hi, Int.one_mul]
    rw [← tp_cf, e, tp_mul, tp_real, fpow_P, frob_one]
    unfold cf tm cf cm
    simp only [Prod.mk.injEq]
    refine ⟨by simp [fm_fm], ?_⟩
    rw [show fm a * fm (0 - b * t) + 0 * 1 = fm a * fm (0 - b * t) by omega, fm_mul, show a * (0 - b * t) = (a * t) * (0 - b) by grind, ← fm_mul_l, hi, Int.one_mul]

/-! The norm. -/
/-- -1 has no root: so the norm is 0 of 0 alone. -/
theorem nosq_all : allLT (fun x => !(Nat.beq ((x * x + 1) % 4051) 0)) 4051 = true := by decide +kernel
theorem nosq (c : Int) : fm (c * c + 1) ≠ 0 := by
  have h := fm_all nosq_all c
  have e : fm (c * c + 1) = (((fm c).toNat * (fm c).toNat + 1) % 4051 : Nat) := by
    rw [← fm_nat, Int.natCast_add, Int.natCast_mul, fm_toNat, ← fm_add_l (fm c * fm c), fm_mul, fm_add_l]; rfl
  rw [e]
  intro h0
  have : Nat.beq (((fm c).toNat * (fm c).toNat + 1) % 4051) 0 = true := by
    rw [show ((fm c).toNat * (fm c).toNat + 1) % 4051 = 0 by omega]; rfl
  rw [this] at h; exact absurd h (by decide)
theorem norm_zero {a b : Int} (h : fm (a * a + b * b) = 0) : fm a = 0 ∧ fm b = 0 := by
  by_cases hb : fm b = 0
  · refine ⟨?_, hb⟩
    have h2 : fm (a * a) = 0 := by
      rw [← fm_add_r, ← fm_mul_l, hb, Int.zero_mul, show fm 0 = 0 from rfl, Int.add_zero] at h; exact h
    by_cases ha : fm a = 0
    · exact ha
    · exact fm_zero h2 ha
  · exfalso
    have hi := fm_inv hb
    generalize fpow b 4049 = t at hi
    have e : fm ((a * t) * (a * t) + 1) = 0 := by
      have e1 : fm ((a * a + b * b) * (t * t)) = 0 := by rw [← fm_mul_l, h, Int.zero_mul]; rfl
      rw [← e1, show (a * a + b * b) * (t * t) = (a * t) * (a * t) + (b * t) * (b * t) by grind, ← fm_add_r _ (b * t * (b * t)), ← fm_mul, hi]; rfl
    exact nosq _ e
end Go.Proofs.Ytmijjjdedadklag
