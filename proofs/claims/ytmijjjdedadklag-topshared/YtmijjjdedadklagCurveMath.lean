/- Spots of whole numbers against spots of numbers below 4051: what is wrong with one, sums by lines, what is lifted. Apart from the program. -/
import Derived.Test.YtmijjjdedadklagCurveIdx
namespace Go.Proofs.Ytmijjjdedadklag
set_option linter.unusedSimpArgs false
set_option linter.unusedVariables false

theorem fm_of {a b : Int} (k : Int) (h : a = b + 4051 * k) : fm a = fm b := by unfold fm; omega
theorem nat_fm (n : Nat) : ((n % 4051 : Nat) : Int) = fm (n : Int) := (fm_nat n).symm
/-- Y times Y at a place. -/
def sqI (x : Int) : Int := fm (fm (x * fm (x * x)) + x)
theorem sqI_eq (x : Int) : sqI x = fm (x * x * x + x) := by
  unfold sqI
  simp only [fm_add_l, fm_add_r, fm_sub_l, fm_sub_r, fm_mul_l, fm_mul_r, fm_fm]; congr 1; grind
theorem sqI_fm (x : Int) : fm (sqI x) = sqI x := fm_fm _
/-- What is wrong with a spot. -/
def ckI (x y : Int) (f : Bool) : Int :=
  bif f then (bif (x == 0) && (y == 0) then 0 else 1)
  else bif decide (0 ≤ x) && decide (x < 4051) && decide (0 ≤ y) && decide (y < 4051) then (bif fm (y * y) == sqI x then 0 else 3) else 1
theorem sq_nat (x : Nat) : sqI (x : Int) = (((x * x * x + x) % 4051 : Nat) : Int) := by
  rw [sqI_eq, nat_fm]; congr 1
theorem yy_nat (y : Nat) : fm ((y : Int) * (y : Int)) = ((y * y % 4051 : Nat) : Int) := by
  rw [nat_fm]; congr 1
theorem ckI_of_ok {s : Sn} (h : okS s = true) : ckI s.1 s.2.1 s.2.2 = 0 := by
  obtain ⟨x, y, f⟩ := s
  unfold okS at h
  unfold ckI
  cases f with
  | true =>
    simp only [cond_true, Bool.and_eq_true] at h
    have h1 := Nat.eq_of_beq_eq_true h.1
    have h2 := Nat.eq_of_beq_eq_true h.2
    subst h1 h2; rfl
  | false =>
    simp only [cond_false, Bool.and_eq_true, Nat.blt_eq] at h
    obtain ⟨⟨h1, h2⟩, h3⟩ := h
    have h4 := Nat.eq_of_beq_eq_true h3
    simp only [cond_false]
    rw [sq_nat, yy_nat, h4]
    simp [show (x : Int) < 4051 by omega, show (y : Int) < 4051 by omega]
theorem ckI_ok {x y : Int} {f : Bool} (h : ckI x y f = 0) : ∃ s : Sn, okS s = true ∧ x = s.1 ∧ y = s.2.1 ∧ f = s.2.2 := by
  unfold ckI at h
  cases f with
  | true =>
    simp only [cond_true] at h
    cases h1 : x == 0 <;> cases h2 : y == 0 <;> simp [h1, h2] at h
    exact ⟨farN, rfl, beq_iff_eq.mp h1, beq_iff_eq.mp h2, rfl⟩
  | false =>
    simp only [cond_false] at h
    by_cases h1 : 0 ≤ x ∧ x < 4051 ∧ 0 ≤ y ∧ y < 4051
    · obtain ⟨a1, a2, a3, a4⟩ := h1
      simp only [a1, a2, a3, a4, decide_true, Bool.and_true, cond_true] at h
      cases h5 : fm (y * y) == sqI x
      · rw [h5] at h; cases h
      · obtain ⟨n, rfl⟩ := Int.eq_ofNat_of_zero_le a1
        obtain ⟨m, rfl⟩ := Int.eq_ofNat_of_zero_le a3
        rw [sq_nat, yy_nat, beq_int] at h5
        refine ⟨(n, m, false), ?_, rfl, rfl, rfl⟩
        unfold okS
        simp only [cond_false, Bool.and_eq_true, Nat.blt_eq]
        exact ⟨⟨by omega, by omega⟩, h5⟩
    · have h2 : (decide (0 ≤ x) && decide (x < 4051) && decide (0 ≤ y) && decide (y < 4051)) = false := by
        rw [Bool.eq_false_iff]; simp only [ne_eq, Bool.and_eq_true, decide_eq_true_eq]; omega
      rw [h2] at h; cases h
theorem ckI_tN {x y : Int} {f : Bool} (h : ckI x y f = 0) : ∃ k, k < 4052 ∧ x = (tM k).1 ∧ y = (tM k).2.1 ∧ f = (tM k).2.2 := by
  obtain ⟨s, hs, rfl, rfl, rfl⟩ := ckI_ok h
  obtain ⟨k, hk, rfl⟩ := is_tN hs
  exact ⟨k, hk, by rw [tM_lt hk], by rw [tM_lt hk], by rw [tM_lt hk]⟩
theorem tM_ok (k : Nat) : okS (tM k) = true := tN_ok (Nat.mod_lt _ (by omega))
theorem ck_tM (k : Nat) : ckI (tM k).1 (tM k).2.1 (tM k).2.2 = 0 := ckI_of_ok (tM_ok k)
/-- The three cases of a fault. -/
theorem ckI_far {x y : Int} (h : (x == 0 && y == 0) = false) : ckI x y true = 1 := by unfold ckI; rw [h]; rfl
theorem ckI_out {x y : Int} (h : ¬ (0 ≤ x ∧ x < 4051 ∧ 0 ≤ y ∧ y < 4051)) : ckI x y false = 1 := by
  unfold ckI
  have h2 : (decide (0 ≤ x) && decide (x < 4051) && decide (0 ≤ y) && decide (y < 4051)) = false := by
    rw [Bool.eq_false_iff]; simp only [ne_eq, Bool.and_eq_true, decide_eq_true_eq]; omega
  rw [h2]; rfl
theorem ckI_in {x y : Int} (h0 : 0 ≤ x) (h1 : x < 4051) (h2 : 0 ≤ y) (h3 : y < 4051) : ckI x y false = bif fm (y * y) == sqI x then 0 else 3 := by
  unfold ckI; simp only [h0, h1, h2, h3, decide_true, Bool.and_true, cond_true, cond_false]
theorem ckI_bd {x y : Int} {f : Bool} : ckI x y f = 0 ∨ ckI x y f = 1 ∨ ckI x y f = 3 := by
  unfold ckI
  cases f <;> simp only [cond_true, cond_false]
  · cases (decide (0 ≤ x) && decide (x < 4051) && decide (0 ≤ y) && decide (y < 4051)) <;> simp only [cond_true, cond_false]
    · simp
    · cases (fm (y * y) == sqI x) <;> simp
  · cases (x == 0 && y == 0) <;> simp

/-- Lines. -/
theorem neg_pw_all : allLT (fun x => Nat.beq (pw ((4051 - x) % 4051) 4049) ((4051 - pw x 4049) % 4051)) 4051 = true := by decide +kernel
theorem pw_neg {x : Nat} (h : x < 4051) : pw ((4051 - x) % 4051) 4049 = (4051 - pw x 4049) % 4051 := Nat.eq_of_beq_eq_true (allLT_spec neg_pw_all x h)
theorem sN_cast {a b : Nat} (h : b ≤ 4051) : ((sN a b : Nat) : Int) = fm ((a : Int) - b) := by
  unfold sN; rw [nat_fm]; exact fm_of 1 (by omega)
theorem sN_swap {a b : Nat} (ha : a < 4051) (hb : b < 4051) : sN b a = (4051 - sN a b) % 4051 := by unfold sN; omega
theorem fpow_nat (n : Nat) (k : Nat) : fpow (n : Int) k = ((pw n k : Nat) : Int) := by
  unfold fpow pw; rw [nat_fm, Int.natCast_pow]
/-- The slope through two, either way. -/
theorem cslI {x1 y1 x2 y2 : Nat} (h1 : x1 < 4051) (h2 : x2 < 4051) (k1 : y1 < 4051) (k2 : y2 < 4051) :
    fm (fm ((y2 : Int) - y1) * fpow (fm ((x2 : Int) - x1)) 4049) = (cslN x1 y1 x2 y2 : Int) := by
  unfold cslN
  rw [← sN_cast (by omega), ← sN_cast (by omega), fpow_nat, nat_fm, sN_swap h1 h2, pw_neg (sN_lt _ _), sN_swap k1 k2]
  have a1 := sN_lt y1 y2
  have a2 := pw_lt (sN x1 x2) 4049
  rw [nat_fm, nat_fm, fm_mul, Int.natCast_mul]
  rw [show ((4051 - sN y1 y2 : Nat) : Int) = 4051 - (sN y1 y2 : Int) by omega, show ((4051 - pw (sN x1 x2) 4049 : Nat) : Int) = 4051 - (pw (sN x1 x2) 4049 : Int) by omega]
  exact fm_of (4051 - (sN y1 y2 : Int) - (pw (sN x1 x2) 4049 : Int)) (by grind)
/-- The slope through two, as the plain reckoning has it. -/
theorem cslR {x1 y1 x2 y2 : Nat} (h2 : x2 < 4051) (k2 : y2 < 4051) :
    fm (fm ((y1 : Int) - y2) * fpow (fm ((x1 : Int) - x2)) 4049) = (cslN x1 y1 x2 y2 : Int) := by
  unfold cslN
  rw [← sN_cast (by omega), ← sN_cast (by omega), fpow_nat, nat_fm, Int.natCast_mul]
/-- The slope of what touches. -/
theorem dslI (x y : Nat) : fm (fm (fm (3 * fm ((x : Int) * x)) + 1) * fpow (fm (2 * (y : Int))) 4049) = (dslN x y : Int) := by
  unfold dslN
  rw [show fm (2 * (y : Int)) = ((2 * y % 4051 : Nat) : Int) by rw [nat_fm]; congr 1, fpow_nat, nat_fm, fm_mul_l]
  rw [Int.natCast_mul, ← fm_mul_l, ← fm_mul_l ((3 * x * x + 1 : Nat) : Int)]
  congr 2
  simp only [fm_add_l, fm_add_r, fm_sub_l, fm_sub_r, fm_mul_l, fm_mul_r, fm_fm]; congr 1
  simp only [Int.natCast_add, Int.natCast_mul]; grind
/-- The third one on a line, turned. -/
theorem lineI_x {s x1 y1 x2 : Nat} (h1 : x1 < 4051) (h2 : x2 < 4051) : fm (fm ((s : Int) * s) - fm ((x1 : Int) + x2)) = ((lineN s x1 y1 x2).1 : Int) := by
  unfold lineN
  simp only
  rw [nat_fm, fm_sub]
  exact fm_of (-2) (by simp only [Int.natCast_add, Int.natCast_mul]; omega)
theorem lineI_y {s x1 y1 x2 : Nat} (h0 : y1 < 4051) (h1 : x1 < 4051) (h2 : x2 < 4051) :
    fm (0 - fm ((y1 : Int) + fm (s * fm (((lineN s x1 y1 x2).1 : Int) - x1)))) = ((lineN s x1 y1 x2).2.1 : Int) := by
  have h3 := (line_lt s x1 y1 x2).1
  have e : (lineN s x1 y1 x2).2.1 = (s * sN x1 (lineN s x1 y1 x2).1 + (4051 - y1)) % 4051 := rfl
  rw [e, nat_fm, Int.natCast_add, Int.natCast_mul, sN_cast (by omega)]
  clear e h3
  generalize ((lineN s x1 y1 x2).1 : Int) = X
  rw [show ((4051 - y1 : Nat) : Int) = 4051 - (y1 : Int) by omega]
  rw [show fm ((s : Int) * fm ((x1 : Int) - X) + (4051 - (y1 : Int))) = fm ((s : Int) * ((x1 : Int) - X) + (4051 - (y1 : Int))) by rw [← fm_add_l, fm_mul_r, fm_add_l]]
  simp only [fm_add_l, fm_add_r, fm_sub_l, fm_sub_r, fm_mul_l, fm_mul_r, fm_fm]
  exact fm_of (-1) (by grind)
theorem lineR_x {s x1 y1 x2 : Nat} (h1 : x1 < 4051) (h2 : x2 < 4051) : fm ((s : Int) * s - x1 - x2) = ((lineN s x1 y1 x2).1 : Int) := by
  rw [← lineI_x (y1 := y1) h1 h2, fm_sub]; congr 1; omega
theorem lineR_y {s x1 y1 x2 : Nat} (h0 : y1 < 4051) (h1 : x1 < 4051) (h2 : x2 < 4051) : fm ((s : Int) * (x1 - ((lineN s x1 y1 x2).1 : Int)) - y1) = ((lineN s x1 y1 x2).2.1 : Int) := by
  rw [← lineI_y h0 h1 h2]
  generalize ((lineN s x1 y1 x2).1 : Int) = X
  simp only [fm_add_l, fm_add_r, fm_sub_l, fm_sub_r, fm_mul_l, fm_mul_r, fm_fm]; congr 1; grind
/-- What is turned. -/
theorem negI {s : Sn} (h : s.2.1 < 4051) : fm (0 - (s.2.1 : Int)) = ((negN s).2.1 : Int) := by
  unfold negN; simp only; rw [nat_fm]; exact fm_of (-1) (by omega)
theorem okS_lt {s : Sn} (h : okS s = true) : s.1 < 4051 ∧ s.2.1 < 4051 := by
  obtain ⟨x, y, f⟩ := s
  unfold okS at h
  cases f with
  | true =>
    simp only [cond_true, Bool.and_eq_true] at h
    have h1 := Nat.eq_of_beq_eq_true h.1
    have h2 := Nat.eq_of_beq_eq_true h.2
    simp only at h1 h2 ⊢; omega
  | false =>
    simp only [cond_false, Bool.and_eq_true, Nat.blt_eq] at h
    exact h.1
theorem neg_tM (k : Nat) : negN (tM k) = tM (4052 - k % 4052) := neg_tN (Nat.mod_lt _ (by omega))
theorem tM_zero : tM 0 = farN := rfl
theorem tM_whole {j k : Nat} (h : (j + k) % 4052 = 0) : tM (j + k) = farN := by rw [tM_N, h]; rfl
/-- The spot at place 0. -/
theorem tM_nul : tM 2026 = (0, 0, false) := by decide +kernel

/-- The height of what is turned; of the third one, ahead of turning. -/
def ny (y : Nat) : Nat := (4051 - y) % 4051
theorem nyI {y : Nat} (h : y < 4051) : fm (0 - (y : Int)) = (ny y : Int) := by unfold ny; rw [nat_fm]; exact fm_of (-1) (by omega)
theorem ny_lt (y : Nat) : ny y < 4051 := by unfold ny; omega
theorem negN_eq (x y : Nat) (f : Bool) : negN (x, y, f) = (x, ny y, f) := rfl
def tyN (s x1 y1 x2 : Nat) : Nat := (fm ((y1 : Int) + fm (s * fm (((lineN s x1 y1 x2).1 : Int) - x1)))).toNat
theorem tyI (s x1 y1 x2 : Nat) : fm ((y1 : Int) + fm (s * fm (((lineN s x1 y1 x2).1 : Int) - x1))) = (tyN s x1 y1 x2 : Int) := by unfold tyN; exact (fm_toNat _).symm
theorem ty_lt (s x1 y1 x2 : Nat) : tyN s x1 y1 x2 < 4051 := by
  have h := tyI s x1 y1 x2
  have := fm_hi ((y1 : Int) + fm (s * fm (((lineN s x1 y1 x2).1 : Int) - x1)))
  omega
theorem ty_neg {s x1 y1 x2 : Nat} (h0 : y1 < 4051) (h1 : x1 < 4051) (h2 : x2 < 4051) : ny (tyN s x1 y1 x2) = (lineN s x1 y1 x2).2.1 := by
  have h := lineI_y (s := s) h0 h1 h2
  rw [tyI, nyI (ty_lt _ _ _ _)] at h
  omega
/-- Two at one place are one, or one is the other turned. -/
theorem same_place {x y1 y2 : Nat} (h1 : okS (x, y1, false) = true) (h2 : okS (x, y2, false) = true) : y2 = y1 ∨ y2 = ny y1 := by
  obtain ⟨j, hj, e1⟩ := is_tN h1
  obtain ⟨k, hk, e2⟩ := is_tN h2
  have j0 : j ≠ 0 := by rintro rfl; cases e1
  have k0 : k ≠ 0 := by rintro rfl; cases e2
  have e3 : (tN j).1 = (tN k).1 := by rw [e1, e2]
  rcases place_inj j0 k0 hj hk e3 with rfl | h
  · rw [e1] at e2; left; injection e2 with _ e2; injection e2 with e2 _; exact e2.symm
  · right
    have e4 := neg_tN hj
    rw [show 4052 - j = k by omega, tM_lt hk, e1, e2, negN_eq] at e4
    injection e4 with _ e4; injection e4 with e4 _; exact e4.symm

/-- What is lifted. -/
theorem lift_ok {x : Int} (h0 : 0 ≤ x) (h1 : x < 4051) (h : rtOk (sqI x) = true) : ckI x (rtMin (sqI x)) false = 0 := by
  obtain ⟨a, b, c⟩ := least h
  rw [ckI_in h0 h1 b (by omega), a, sqI_fm]; simp
theorem lift_low {x : Int} (h : rtOk (sqI x) = true) : rtMin (sqI x) ≤ fm (0 - rtMin (sqI x)) := by
  obtain ⟨a, b, c⟩ := least h
  unfold fm; omega
theorem sq_neg (x : Int) : sqI (fm (0 - x)) = fm (0 - sqI x) := by
  rw [sqI_eq, sqI_eq, fm_sub_r]
  rw [← fm_add, fm_fm, ← fm_mul, ← fm_mul (fm (0 - x)), fm_fm, fm_mul (0 - x), fm_mul, fm_add]; congr 1; grind
theorem lift_either {x : Int} (h : rtOk (sqI x) = false) : rtOk (sqI (fm (0 - x))) = true := by
  rw [sq_neg, either, h]; rfl
  intro h2; rw [okZero h2] at h; cases h
end Go.Proofs.Ytmijjjdedadklag
