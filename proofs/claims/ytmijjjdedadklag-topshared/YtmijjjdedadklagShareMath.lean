/- Numbers modulo 1013, polynomials over them, and weights of places: of each polynomial of no more coefficients than places the values there, weighted, add up to its value at 0. Nothing of the program stands in here. -/
import Derived.Test.YtmijjjdedadklagMath
namespace Go.Proofs.Ytmijjjdedadklag
set_option linter.unusedVariables false
set_option linter.unusedSimpArgs false

abbrev QF := Fin 1013
def zq (n : Int) : QF := Fin.ofNat 1013 (n % 1013).toNat
theorem zq_val (n : Int) : ((zq n).val : Int) = n % 1013 := by
  show (((n % 1013).toNat % 1013 : Nat) : Int) = n % 1013
  omega
theorem zq_eq {a b : Int} (h : a % 1013 = b % 1013) : zq a = zq b := by unfold zq; rw [h]
theorem zq_inj {a b : Int} (h : zq a = zq b) : a % 1013 = b % 1013 := by rw [← zq_val, ← zq_val, h]
theorem zq_mod (a : Int) : zq (a % 1013) = zq a := zq_eq (by omega)
theorem zq_back (a : QF) : zq (a.val : Int) = a := by
  apply Fin.ext
  have := a.isLt
  show ((a.val : Int) % 1013).toNat % 1013 = a.val
  omega
theorem zq_add (a b : Int) : zq (a + b) = zq a + zq b := by
  apply Fin.ext
  rw [Fin.val_add]
  show ((a + b) % 1013).toNat % 1013 = ((a % 1013).toNat % 1013 + (b % 1013).toNat % 1013) % 1013
  omega
theorem zq_sub (a b : Int) : zq (a - b) = zq a - zq b := by
  apply Fin.ext
  rw [Fin.val_sub]
  show ((a - b) % 1013).toNat % 1013 = (1013 - (b % 1013).toNat % 1013 + (a % 1013).toNat % 1013) % 1013
  omega
theorem zq_mul (a b : Int) : zq (a * b) = zq a * zq b := by
  have h : ((zq (a * b)).val : Int) = ((zq a * zq b).val : Int) := by
    rw [zq_val, Fin.val_mul, Int.natCast_emod, Int.natCast_mul, zq_val, zq_val]
    show a * b % 1013 = a % 1013 * (b % 1013) % 1013
    rw [← Int.mul_emod]
  exact Fin.ext (by omega)
theorem zq_zero : zq 0 = 0 := rfl
theorem zq_one : zq 1 = 1 := rfl
theorem zq_ne {n : Int} (h0 : 0 < n) (h1 : n < 1013) : zq n ≠ 0 := by
  intro h
  have := zq_inj (a := n) (b := 0) h
  omega
/-- The inverse. -/
def qpw (x n : Nat) : Nat := x ^ n % 1013
def ivq (a : QF) : QF := Fin.ofNat 1013 (qpw a.val 1011)
theorem qinv_all : allLT (fun x => Nat.beq x 0 || Nat.beq (x * qpw x 1011 % 1013) 1) 1013 = true := by decide +kernel
theorem iv_mul {a : QF} (h : a ≠ 0) : a * ivq a = 1 := by
  have hs := allLT_spec qinv_all a.val a.isLt
  have h0 : Nat.beq a.val 0 = false := by
    rw [← Bool.not_eq_true]; intro e; exact h (Fin.ext (Nat.eq_of_beq_eq_true e))
  rw [h0, Bool.false_or] at hs
  have hs := Nat.eq_of_beq_eq_true hs
  apply Fin.ext
  rw [Fin.val_mul]
  show a.val * (qpw a.val 1011 % 1013) % 1013 = 1
  rw [Nat.mul_mod, Nat.mod_mod, ← Nat.mul_mod]
  exact hs
theorem q_zero {a b : QF} (h : a * b = 0) (ha : a ≠ 0) : b = 0 := by
  have := iv_mul ha
  grind
theorem q_mul_ne {a b : QF} (ha : a ≠ 0) (hb : b ≠ 0) : a * b ≠ 0 := fun h => hb (q_zero h ha)
theorem iv_of {a b : QF} (h : a * b = 1) : ivq a = b := by
  have ha : a ≠ 0 := by rintro rfl; rw [Fin.zero_mul] at h; exact absurd h (by decide)
  have := iv_mul ha
  grind
theorem iv_prod {a b : QF} (ha : a ≠ 0) (hb : b ≠ 0) : ivq (a * b) = ivq a * ivq b := by
  refine iv_of ?_
  have := iv_mul ha
  have := iv_mul hb
  grind
theorem iv_ne {a : QF} (h : a ≠ 0) : ivq a ≠ 0 := by
  intro e
  have := iv_mul h
  rw [e, Fin.mul_zero] at this
  exact absurd this (by decide)
/-! Sums. -/
def sm (f : Nat → QF) : Nat → QF
  | 0 => 0
  | n + 1 => sm f n + f n
theorem sm_congr {f g : Nat → QF} : ∀ {n : Nat}, (∀ i, i < n → f i = g i) → sm f n = sm g n
  | 0, _ => rfl
  | n + 1, h => by
    show sm f n + f n = sm g n + g n
    rw [sm_congr fun i hi => h i (by omega), h n (by omega)]
theorem sm_add (f g : Nat → QF) (n : Nat) : sm (fun i => f i + g i) n = sm f n + sm g n := by
  induction n with
  | zero => rfl
  | succ n ih => show sm (fun i => f i + g i) n + (f n + g n) = sm f n + f n + (sm g n + g n); rw [ih]; grind
theorem sm_sub (f g : Nat → QF) (n : Nat) : sm (fun i => f i - g i) n = sm f n - sm g n := by
  induction n with
  | zero => rfl
  | succ n ih => show sm (fun i => f i - g i) n + (f n - g n) = sm f n + f n - (sm g n + g n); rw [ih]; grind
theorem sm_mul (c : QF) (f : Nat → QF) (n : Nat) : sm (fun i => c * f i) n = c * sm f n := by
  induction n with
  | zero => exact (Fin.mul_zero c).symm
  | succ n ih => show sm (fun i => c * f i) n + c * f n = c * (sm f n + f n); rw [ih]; grind
theorem sm_first (f : Nat → QF) (n : Nat) : sm f (n + 1) = f 0 + sm (fun i => f (i + 1)) n := by
  induction n with
  | zero => show 0 + f 0 = f 0 + 0; grind
  | succ n ih => show sm f (n + 1) + f (n + 1) = f 0 + (sm (fun i => f (i + 1)) n + f (n + 1)); rw [ih]; grind
/-! Products over all places but one. -/
def pr (x : Nat → QF) : Nat → Nat → QF
  | 0, _ => 1
  | n + 1, i => pr x n i * (if n = i then 1 else x n - x i)
def Dist (x : Nat → QF) (n : Nat) : Prop := ∀ j k, j < n → k < n → x j = x k → j = k
theorem Dist.less {x : Nat → QF} {n : Nat} (h : Dist x (n + 1)) : Dist x n := fun j k hj hk => h j k (by omega) (by omega)
theorem Dist.tail {x : Nat → QF} {n : Nat} (h : Dist x (n + 1)) : Dist (fun i => x (i + 1)) n := fun j k hj hk e => by
  have := h (j + 1) (k + 1) (by omega) (by omega) e
  omega
theorem Dist.ne {x : Nat → QF} {n j k : Nat} (h : Dist x n) (hj : j < n) (hk : k < n) (hne : j ≠ k) : x j - x k ≠ 0 := by
  intro e
  exact hne (h j k hj hk (by grind))
theorem pr_ne {x : Nat → QF} {N i : Nat} (h : Dist x N) (hi : i < N) : ∀ n, n ≤ N → pr x n i ≠ 0
  | 0, _ => by show (1 : QF) ≠ 0; decide
  | n + 1, hn => by
    refine q_mul_ne (pr_ne h hi n (by omega)) ?_
    by_cases e : n = i
    · rw [if_pos e]; decide
    · rw [if_neg e]; exact h.ne (by omega) hi e
theorem pr_last (x : Nat → QF) (n : Nat) : pr x (n + 1) n = pr x n n := by
  show pr x n n * (if n = n then 1 else x n - x n) = pr x n n
  rw [if_pos rfl]; exact Fin.mul_one _
theorem pr_step (x : Nat → QF) {n i : Nat} (h : i < n) : pr x (n + 1) i = pr x n i * (x n - x i) := by
  show pr x n i * (if n = i then 1 else x n - x i) = _
  rw [if_neg (by omega)]
theorem pr_tail (x : Nat → QF) (n i : Nat) : pr x (n + 1) (i + 1) = (x 0 - x (i + 1)) * pr (fun j => x (j + 1)) n i := by
  induction n with
  | zero =>
    show 1 * (if 0 = i + 1 then 1 else x 0 - x (i + 1)) = (x 0 - x (i + 1)) * 1
    rw [if_neg (by omega)]; grind
  | succ n ih =>
    show pr x (n + 1) (i + 1) * (if n + 1 = i + 1 then 1 else x (n + 1) - x (i + 1)) = (x 0 - x (i + 1)) * (pr (fun j => x (j + 1)) n i * (if n = i then 1 else x (n + 1) - x (i + 1)))
    rw [ih]
    by_cases e : n = i
    · rw [if_pos e, if_pos (by omega)]; grind
    · rw [if_neg e, if_neg (by omega)]; grind
theorem cancel {a b c : QF} (ha : a ≠ 0) (hb : b ≠ 0) : b * (c * ivq (a * b)) = c * ivq a := by
  rw [iv_prod ha hb]
  have := iv_mul hb
  grind
/-- What is told by values at unlike places, each by its product. -/
def dd (h x : Nat → QF) (n : Nat) : QF := sm (fun i => h i * ivq (pr x n i)) n
theorem dd_by_last {h x : Nat → QF} {n : Nat} (hx : Dist x (n + 1)) : sm (fun i => (x n - x i) * (h i * ivq (pr x (n + 1) i))) (n + 1) = dd h x n := by
  show sm (fun i => (x n - x i) * (h i * ivq (pr x (n + 1) i))) n + (x n - x n) * _ = _
  have e : (x n - x n) * (h n * ivq (pr x (n + 1) n)) = 0 := by grind
  rw [e]
  have e2 : sm (fun i => (x n - x i) * (h i * ivq (pr x (n + 1) i))) n = dd h x n := sm_congr fun i hi => by
    rw [pr_step x hi]
    exact cancel (pr_ne hx (by omega) n (by omega)) (hx.ne (by omega) (by omega) (by omega))
  rw [e2]; grind
theorem dd_by_first {h x : Nat → QF} {n : Nat} (hx : Dist x (n + 1)) : sm (fun i => (x 0 - x i) * (h i * ivq (pr x (n + 1) i))) (n + 1) = dd (fun i => h (i + 1)) (fun i => x (i + 1)) n := by
  rw [sm_first]
  have e : (x 0 - x 0) * (h 0 * ivq (pr x (n + 1) 0)) = 0 := by grind
  rw [e]
  have e2 : sm (fun i => (x 0 - x (i + 1)) * (h (i + 1) * ivq (pr x (n + 1) (i + 1)))) n = dd (fun i => h (i + 1)) (fun i => x (i + 1)) n := sm_congr fun i hi => by
    show (x 0 - x (i + 1)) * (h (i + 1) * ivq (pr x (n + 1) (i + 1))) = h (i + 1) * ivq (pr (fun j => x (j + 1)) n i)
    rw [pr_tail, show (x 0 - x (i + 1)) * pr (fun j => x (j + 1)) n i = pr (fun j => x (j + 1)) n i * (x 0 - x (i + 1)) by grind]
    exact cancel (pr_ne hx.tail hi n (Nat.le_refl _)) (hx.ne (by omega) (by omega) (by omega))
  rw [e2]; grind
theorem dd_one_rec {x : Nat → QF} {n : Nat} (hx : Dist x (n + 1)) : (x n - x 0) * dd (fun _ => 1) x (n + 1) = dd (fun _ => 1) x n - dd (fun _ => 1) (fun i => x (i + 1)) n := by
  rw [← dd_by_last hx, ← dd_by_first (h := fun _ => 1) hx, ← sm_sub]
  unfold dd
  rw [← sm_mul]
  exact sm_congr fun i _ => by grind
theorem dd_one : ∀ (n : Nat) (x : Nat → QF), Dist x (n + 2) → dd (fun _ => 1) x (n + 2) = 0
  | 0, x, hx => by
    have h := dd_one_rec hx
    have e : dd (fun _ => 1) x 1 - dd (fun _ => 1) (fun i => x (i + 1)) 1 = 0 := by
      show (0 + 1 * ivq (1 * (if 0 = 0 then 1 else x 0 - x 0))) - (0 + 1 * ivq (1 * (if 0 = 0 then 1 else x 1 - x 1))) = 0
      rw [if_pos rfl, if_pos rfl]; grind
    rw [e] at h
    exact q_zero h (hx.ne (by omega) (by omega) (by omega))
  | n + 1, x, hx => by
    have h := dd_one_rec hx
    rw [dd_one n x hx.less, dd_one n _ hx.tail, show (0 : QF) - 0 = 0 by decide] at h
    exact q_zero h (hx.ne (by omega) (by omega) (by omega))
/-- The value of a polynomial. -/
def ev : List QF → QF → QF
  | [], _ => 0
  | c :: cs, x => c + x * ev cs x
theorem ev_zero (c : QF) (cs : List QF) : ev (c :: cs) 0 = c := by show c + 0 * ev cs 0 = c; grind
theorem dd_cons (c : QF) (cs : List QF) {x : Nat → QF} {n : Nat} (hx : Dist x (n + 1)) :
    dd (fun i => ev (c :: cs) (x i)) x (n + 1) = c * dd (fun _ => 1) x (n + 1) + (x n * dd (fun i => ev cs (x i)) x (n + 1) - dd (fun i => ev cs (x i)) x n) := by
  rw [← dd_by_last (h := fun i => ev cs (x i)) hx]
  unfold dd
  rw [← sm_mul, ← sm_mul, ← sm_sub, ← sm_add]
  exact sm_congr fun i _ => by
    show (c + x i * ev cs (x i)) * _ = _
    grind
/-- With more places than coefficients nothing is told. -/
theorem dd_zero : ∀ (cs : List QF) (n : Nat) (x : Nat → QF), cs.length < n → Dist x n → dd (fun i => ev cs (x i)) x n = 0
  | [], n, x, _, hx => by
    have : dd (fun i => ev [] (x i)) x n = sm (fun i => 0 * ivq (pr x n i)) n := rfl
    rw [this, sm_mul]; exact Fin.zero_mul _
  | c :: cs, 0, x, h, hx => absurd h (Nat.not_lt_zero _)
  | c :: cs, 1, x, h, hx => by simp at h
  | c :: cs, n + 2, x, h, hx => by
    have hl : cs.length < n + 1 := by simpa using h
    rw [dd_cons c cs hx, dd_one n x hx, dd_zero cs (n + 2) x (by omega) hx, dd_zero cs (n + 1) x hl hx.less]
    grind
/-! The weights. -/
def upq (x : Nat → QF) : Nat → Nat → QF
  | 0, _ => 1
  | n + 1, i => upq x n i * (if n = i then 1 else x n)
def wtq (x : Nat → QF) (n i : Nat) : QF := upq x n i * ivq (pr x n i)
def pdq (x : Nat → QF) : Nat → QF
  | 0 => 1
  | n + 1 => pdq x n * x n
theorem up_out (x : Nat → QF) (i : Nat) : ∀ n, n ≤ i → upq x n i = pdq x n
  | 0, _ => rfl
  | n + 1, h => by
    show upq x n i * (if n = i then 1 else x n) = pdq x n * x n
    rw [if_neg (by omega), up_out x i n (by omega)]
theorem up_pd (x : Nat → QF) (i : Nat) : ∀ n, i < n → x i * upq x n i = pdq x n
  | 0, h => absurd h (Nat.not_lt_zero _)
  | n + 1, h => by
    show x i * (upq x n i * (if n = i then 1 else x n)) = pdq x n * x n
    by_cases e : n = i
    · subst e; rw [if_pos rfl, up_out x n n (Nat.le_refl _)]; grind
    · rw [if_neg e, ← up_pd x i n (by omega)]; grind
theorem up_ne {x : Nat → QF} (i : Nat) : ∀ n, (∀ j, j < n → x j ≠ 0) → upq x n i ≠ 0
  | 0, _ => by show (1 : QF) ≠ 0; decide
  | n + 1, h => by
    refine q_mul_ne (up_ne i n fun j hj => h j (by omega)) ?_
    by_cases e : n = i
    · rw [if_pos e]; decide
    · rw [if_neg e]; exact h n (by omega)
theorem pd_ne {x : Nat → QF} : ∀ n, (∀ j, j < n → x j ≠ 0) → pdq x n ≠ 0
  | 0, _ => by show (1 : QF) ≠ 0; decide
  | n + 1, h => q_mul_ne (pd_ne n fun j hj => h j (by omega)) (h n (by omega))
theorem wt_ne {x : Nat → QF} {n i : Nat} (h : ∀ j, j < n → x j ≠ 0) (hx : Dist x n) (hi : i < n) : wtq x n i ≠ 0 :=
  q_mul_ne (up_ne i n h) (iv_ne (pr_ne hx hi n (Nat.le_refl _)))
/-- 0 ahead of the places. -/
def zx (x : Nat → QF) : Nat → QF
  | 0 => 0
  | n + 1 => x n
theorem zx_dist {x : Nat → QF} {n : Nat} (h : ∀ j, j < n → x j ≠ 0) (hx : Dist x n) : Dist (zx x) (n + 1) := by
  intro j k hj hk e
  cases j with
  | zero =>
    cases k with
    | zero => rfl
    | succ k => exact absurd (show x k = 0 from e.symm) (h k (by omega))
  | succ j =>
    cases k with
    | zero => exact absurd (show x j = 0 from e) (h j (by omega))
    | succ k => rw [hx j k (by omega) (by omega) e]
theorem zx_pr (x : Nat → QF) (n : Nat) : pr (zx x) (n + 1) 0 = pdq x n := by
  induction n with
  | zero => show 1 * (if 0 = 0 then 1 else zx x 0 - zx x 0) = 1; rw [if_pos rfl]; rfl
  | succ n ih =>
    show pr (zx x) (n + 1) 0 * (if n + 1 = 0 then 1 else x n - 0) = pdq x n * x n
    rw [if_neg (by omega), ih]; grind
/-- The values at the places, weighted, tell the value at 0. -/
theorem lagrange (cs : List QF) {n : Nat} {x : Nat → QF} (hl : cs.length ≤ n) (h : ∀ j, j < n → x j ≠ 0) (hx : Dist x n) :
    sm (fun i => wtq x n i * ev cs (x i)) n = ev cs 0 := by
  have h0 := dd_zero cs (n + 1) (zx x) (by omega) (zx_dist h hx)
  unfold dd at h0
  rw [sm_first, zx_pr] at h0
  have e : sm (fun i => ev cs (zx x (i + 1)) * ivq (pr (zx x) (n + 1) (i + 1))) n = sm (fun i => (0 - ivq (pdq x n)) * (wtq x n i * ev cs (x i))) n := sm_congr fun i hi => by
    show ev cs (x i) * ivq (pr (zx x) (n + 1) (i + 1)) = _
    have e1 : pr (zx x) (n + 1) (i + 1) = (0 - x i) * pr x n i := pr_tail (zx x) n i
    have n1 := pr_ne hx hi n (Nat.le_refl _)
    have n2 := h i hi
    have n3 : (0 : QF) - x i ≠ 0 := by intro e; exact n2 (by grind)
    have n4 := pd_ne n h
    rw [e1, iv_prod n3 n1]
    unfold wtq
    have e2 := up_pd x i n hi
    have i1 := iv_mul n3
    have i2 := iv_mul n4
    have e3 : ivq (0 - x i) = (0 - ivq (pdq x n)) * upq x n i := by
      refine iv_of ?_
      rw [← e2] at i2 ⊢
      grind
    rw [e3]; grind
  rw [e, sm_mul] at h0
  have n4 := iv_mul (pd_ne n h)
  show _ = ev cs 0
  have h0 : ev cs 0 * ivq (pdq x n) + (0 - ivq (pdq x n)) * sm (fun i => wtq x n i * ev cs (x i)) n = 0 := h0
  generalize sm (fun i => wtq x n i * ev cs (x i)) n = s at h0 ⊢
  generalize ev cs 0 = t at h0 ⊢
  generalize ivq (pdq x n) = u at h0 n4
  generalize pdq x n = v at n4
  clear e
  grind
end Go.Proofs.Ytmijjjdedadklag
