/- What lines through multiples of (3, 156) are at the turned place of a spot: both ways of summing up three, the last one (3, 156), give the same but for a factor below 4051. Nothing of the program stands in here. -/
import Derived.Test.YtmijjjdedadklagPairFin
import Derived.Test.YtmijjjdedadklagCurveMath
import Derived.Test.YtmijjjdedadklagTwinMath
namespace Go.Proofs.Ytmijjjdedadklag
set_option linter.unusedVariables false
set_option linter.unusedSimpArgs false

/-- Is there a line through two that does not stand upright? Its slope; what it is at the turned place of q (1, where there is none). -/
def hasL (a b : Sn) : Bool := cond a.2.2 false (cond b.2.2 false (cond (Nat.beq a.1 b.1) (Nat.beq a.2.1 b.2.1 && !(Nat.beq a.2.1 0)) true))
def slN (a b : Sn) : Nat := cond (Nat.beq a.1 b.1) (dslN a.1 a.2.1) (cslN a.1 a.2.1 b.1 b.2.1)
def lvN (a b q : Sn) : Nat := (slN a b * (q.1 + a.1) + (4051 - a.2.1)) % 4051
def hvN (a b q : Sn) : Nat × Nat := cond (hasL a b) (lvN a b q, q.2.1) (1, 0)

theorem has_aff {a b : Sn} (h : hasL a b = true) : a.2.2 = false ∧ b.2.2 = false := by
  unfold hasL at h
  cases ha : a.2.2 <;> cases hb : b.2.2 <;> simp [ha, hb] at h ⊢
theorem addN_has {a b : Sn} (h : hasL a b = true) : addN a b = lineN (slN a b) a.1 a.2.1 b.1 := by
  obtain ⟨ha, hb⟩ := has_aff h
  unfold hasL at h
  unfold addN slN
  rw [ha, hb] at h ⊢
  simp only [cond_false] at h ⊢
  cases hx : Nat.beq a.1 b.1 with
  | true =>
    rw [hx] at h
    simp only [cond_true] at h ⊢
    rw [h, ← Nat.eq_of_beq_eq_true hx]; rfl
  | false => rfl
theorem addN_hasno {a b : Sn} (ha : a.2.2 = false) (hb : b.2.2 = false) (h : hasL a b = false) : addN a b = farN := by
  unfold hasL at h
  unfold addN
  rw [ha, hb] at h ⊢
  simp only [cond_false] at h ⊢
  cases hx : Nat.beq a.1 b.1 with
  | true => rw [hx] at h; simp only [cond_true] at h ⊢; rw [h]; rfl
  | false => rw [hx] at h; cases h
theorem tM_near {i : Nat} (h : i % 4052 ≠ 0) : (tM i).2.2 = false := by rw [tM_N]; exact tN_aff h
theorem has_yes {i j : Nat} (hi : i % 4052 ≠ 0) (hj : j % 4052 ≠ 0) (h : (i + j) % 4052 ≠ 0) : hasL (tM i) (tM j) = true := by
  cases hh : hasL (tM i) (tM j) with
  | true => rfl
  | false =>
    have := addN_hasno (tM_near hi) (tM_near hj) hh
    rw [tM_add] at this
    have h2 := tM_near h
    rw [this] at h2; cases h2
theorem has_no {i j : Nat} (h : (i + j) % 4052 = 0) : hasL (tM i) (tM j) = false := by
  cases hh : hasL (tM i) (tM j) with
  | false => rfl
  | true =>
    have e := addN_has hh
    rw [tM_add, tM_N, h] at e
    have : (tN 0).2.2 = false := by rw [e]; rfl
    cases this
theorem has_far_l {i j : Nat} (h : i % 4052 = 0) : hasL (tM i) (tM j) = false := by rw [tM_N i, h]; rfl
theorem has_far_r {i j : Nat} (h : j % 4052 = 0) : hasL (tM i) (tM j) = false := by
  rw [tM_N j, h]
  show hasL (tM i) farN = false
  unfold hasL farN; cases (tM i).2.2 <;> rfl
theorem hv_none {a b : Sn} (q : Sn) (h : hasL a b = false) : hvN a b q = (1, 0) := by unfold hvN; rw [h]; rfl
theorem hv_line {a b : Sn} (q : Sn) (h : hasL a b = true) : hvN a b q = (lvN a b q, q.2.1) := by unfold hvN; rw [h]; rfl

theorem dsl (x y : Nat) (hy : y < 4051) (h0 : y ≠ 0) : ph (dslN x y) * (2 * ph y) = 3 * ph x * ph x + 1 := by
  have hi := ph_inv (a := 2 * y % 4051) (Nat.mod_lt _ (by omega)) (by omega)
  rw [ph_mod, ph_mul] at hi
  unfold dslN
  rw [ph_mod, ph_mul, ph_add, ph_mul, ph_mul]
  have e2 : ph 2 = 2 := rfl
  have e3 : ph 3 = 3 := rfl
  have e1 : ph 1 = 1 := rfl
  rw [e2] at hi
  rw [e3, e1]
  generalize ph (pw (2 * y % 4051) 4049) = i at hi ⊢
  generalize ph x = X at *
  generalize ph y = Y at *
  clear e1 e2 e3 hy h0
  generalize 3 * X * X + 1 = Z
  grobner
theorem line_of {a b : Sn} (ha : okS a = true) (hb : okS b = true) (h : hasL a b = true) : LineF (ph (slN a b)) (ph a.1) (ph a.2.1) (ph b.1) (ph b.2.1) := by
  obtain ⟨fa, fb⟩ := has_aff h
  obtain ⟨a1, a2, a3⟩ := okS_aff ha fa
  obtain ⟨b1, b2, b3⟩ := okS_aff hb fb
  unfold hasL at h
  unfold slN
  rw [fa, fb] at h
  simp only [cond_false] at h
  cases hx : Nat.beq a.1 b.1 with
  | true =>
    rw [hx] at h
    simp only [cond_true, Bool.and_eq_true, Bool.not_eq_true'] at h ⊢
    have ex := Nat.eq_of_beq_eq_true hx
    have ey := Nat.eq_of_beq_eq_true h.1
    have e0 : a.2.1 ≠ 0 := by intro e; rw [e] at h; exact absurd h.2 (by decide)
    rw [← ex, ← ey]
    exact lf_touch (dsl _ _ a2 e0)
  | false =>
    simp only [cond_false]
    have ne : a.1 ≠ b.1 := by intro e; rw [e, Nat.beq_refl] at hx; cases hx
    exact lf_chord a3 b3 (csl _ _ _ _ a1 b1 b2 ne) (dif_inv a1 b1 ne)
theorem lv_ph {a b : Sn} (q : Sn) (h : a.2.1 < 4051) : ph (lvN a b q) = ph (slN a b) * (ph q.1 + ph a.1) - ph a.2.1 := by
  unfold lvN; rw [ph_mod, ph_sub _ _ (by omega), ph_mul, ph_add]
theorem lv_lt (a b q : Sn) : lvN a b q < 4051 := Nat.mod_lt _ (by omega)
theorem nm_re (x y : Nat × Nat) (h : x.2 < 4051) (k : y.2 < 4051) : ph (nm x y).1 = ph x.1 * ph y.1 - ph x.2 * ph y.2 := by
  have hb : x.2 * y.2 ≤ 4050 * 4050 := Nat.mul_le_mul (by omega) (by omega)
  apply Fin.ext
  unfold nm
  rw [ph_mod, Fin.val_sub, Fin.val_mul, Fin.val_mul, ph_val, ph_val, ph_val, ph_val, ph_val, ← Nat.mul_mod, ← Nat.mul_mod]
  generalize x.1 * y.1 = u
  generalize x.2 * y.2 = v at hb ⊢
  omega
theorem nm_im (x y : Nat × Nat) : ph (nm x y).2 = ph x.1 * ph y.2 + ph x.2 * ph y.1 := by
  unfold nm; rw [ph_mod, ph_add, ph_mul, ph_mul]
theorem nm_ext {x y z w : Nat × Nat} (h1 : ph (nm x y).1 = ph (nm z w).1) (h2 : ph (nm x y).2 = ph (nm z w).2) : nm x y = nm z w :=
  Prod.ext (ph_inj (nm_lt _ _).1 (nm_lt _ _).1 h1) (ph_inj (nm_lt _ _).2 (nm_lt _ _).2 h2)
/-- The same but for a factor below 4051. -/
def sim (z w : Nat × Nat) : Prop := ∃ c d : Nat, 0 < c ∧ c < 4051 ∧ 0 < d ∧ d < 4051 ∧ nm (c, 0) z = nm (d, 0) w
theorem sim_refl (z : Nat × Nat) : sim z z := ⟨1, 1, by omega, by omega, by omega, by omega, rfl⟩
/-- The turned place of a spot of height not 0 is no spot's place. -/
theorem q_place {a q : Sn} (ha : okS a = true) (fa : a.2.2 = false) (hq : okS q = true) (fq : q.2.2 = false) (h0 : q.2.1 ≠ 0) : (q.1 + a.1) % 4051 ≠ 0 := by
  intro h
  obtain ⟨a1, a2, a3⟩ := okS_aff ha fa
  obtain ⟨q1, q2, q3⟩ := okS_aff hq fq
  have e : ph a.1 = - ph q.1 := by
    have : ph (q.1 + a.1) = 0 := by rw [← ph_mod, h]; rfl
    rw [ph_add] at this
    generalize ph a.1 = u at *
    generalize ph q.1 = v at *
    clear a3 q3
    grobner
  rw [e] at a3
  have e2 : ph a.2.1 * ph a.2.1 + ph q.2.1 * ph q.2.1 = 0 := by
    rw [a3, q3]
    generalize ph q.1 = v
    grobner
  have e3 : ph (a.2.1 * a.2.1 + q.2.1 * q.2.1) = 0 := by rw [ph_add, ph_mul, ph_mul]; exact e2
  have e4 := congrArg Fin.val e3
  rw [ph_val] at e4
  have e5 : (a.2.1 * a.2.1 + q.2.1 * q.2.1) % 4051 = 0 := e4
  have e6 : fm ((a.2.1 : Int) * a.2.1 + (q.2.1 : Int) * q.2.1) = 0 := by
    unfold fm
    have : ((a.2.1 * a.2.1 + q.2.1 * q.2.1 : Nat) : Int) % 4051 = 0 := by omega
    rwa [Int.natCast_add, Int.natCast_mul, Int.natCast_mul] at this
  have := (norm_zero e6).2
  unfold fm at this
  omega
end Go.Proofs.Ytmijjjdedadklag
