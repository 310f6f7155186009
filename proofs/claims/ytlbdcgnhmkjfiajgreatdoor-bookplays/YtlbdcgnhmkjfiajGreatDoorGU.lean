/- Texts joined: USpot ShareMath HideMath RefBy RefSum RefHide BookClose. A text's spot is so many times the base. Numbers modulo 1013, polynomials over them, and weights of places: of each polynomial of no more coefficients than places the values there, weighted, add up to its value at 0. Nothing of the program stands in here. What is hidden, as numbers modulo 1013. What the plain reckoning of so many times the base (stoneref2.By) and of a share (stoneref2.Share) answers. What the plain reckoning of so many times the base and so many times another spot (stoneref1.Sum) answers. What the plain reckoning of what is hidden (stoneref2: Second, Hide) answers. Seals that close a deal, apart from the program. The second base stands behind names that nothing reckons out. -/
import Derived.Test.YtlbdcgnhmkjfiajGreatDoorHashMath
import Derived.Test.YtlbdcgnhmkjfiajGreatDoorHash
import Derived.Test.YtlbdcgnhmkjfiajGreatDoorMath
import Derived.Test.YtlbdcgnhmkjfiajGreatDoorSealMath
import Derived.Test.YtlbdcgnhmkjfiajGreatDoorRefTimes
import Derived.Test.YtlbdcgnhmkjfiajGreatDoorRefSec
import Derived.Test.YtlbdcgnhmkjfiajGreatDoorRefHash
import Derived.Test.YtlbdcgnhmkjfiajGreatDoorBookMath
/- USpot -/
namespace Go.Proofs.YtlbdcgnhmkjfiajGreatDoor
open Go.RowKit Go.Sort
set_option linter.unusedVariables false
set_option linter.unusedSimpArgs false
/-- A text's spot is so many times the base. -/
def uN (t : ByteArray) : Nat := spN (longN t) / 4
theorem uN_is (t : ByteArray) : spN (longN t) = 4 * uN t := by
  have := (farI_iff _).1 (sp_in (longN t))
  unfold uN; omega
theorem uN_f (t : ByteArray) : (tM (4 * uN t)).2.2 = false := by rw [← uN_is]; exact sp_f _
theorem spot_u (t : ByteArray) (w : World) (ht : t.size ≤ 9223372036854775807) : Calls Tryz.prog 64 #[.string t] w fun e w' => e = .returned (.agg #[.int .i64 ((tM (4 * uN t)).1 : Int), .int .i64 ((tM (4 * uN t)).2.1 : Int), .bool false]) ∧ Below w.heap.size w w' := by
  have := spot_any t w ht
  rwa [uN_is] at this
theorem spot_w (t : ByteArray) (w : World) (ht : t.size ≤ 9223372036854775807) : Calls Tryz.prog 64 #[.string t] w fun e w' => e = .returned (.agg #[.int .i64 ((tM (4 * uN t)).1 : Int), .int .i64 ((tM (4 * uN t)).2.1 : Int), .bool (tM (4 * uN t)).2.2]) ∧ Below w.heap.size w w' := by
  rw [uN_f]; exact spot_u t w ht
end Go.Proofs.YtlbdcgnhmkjfiajGreatDoor
/- ShareMath -/
namespace Go.Proofs.YtlbdcgnhmkjfiajGreatDoor
set_option linter.unusedVariables false
set_option linter.unusedSimpArgs false

abbrev QF := Fin 1013
def zq (n : Int) : QF := Fin.ofNat 1013 (n % 1013).toNat
theorem zq_val (n : Int) : ((zq n).val : Int) = n % 1013 := by
  show (((n % 1013).toNat % 1013 : Nat) : Int) = n % 1013
  omega
theorem zq_eq {a b : Int} (h : a % 1013 = b % 1013) : zq a = zq b := by unfold zq; rw [h]
theorem zq_inj {a b : Int} (h : zq a = zq b) : a % 1013 = b % 1013 := by rw [← zq_val, ← zq_val, h]
theorem zq_mod (a : Int) : zq (a % 1013) = zq a := zq_eq (by omega)
theorem zq_back (a : QF) : zq (a.val : Int) = a := by
  apply Fin.ext
  have := a.isLt
  show ((a.val : Int) % 1013).toNat % 1013 = a.val
  omega
theorem zq_add (a b : Int) : zq (a + b) = zq a + zq b := by
  apply Fin.ext
  rw [Fin.val_add]
  show ((a + b) % 1013).toNat % 1013 = ((a % 1013).toNat % 1013 + (b % 1013).toNat % 1013) % 1013
  omega
theorem zq_sub (a b : Int) : zq (a - b) = zq a - zq b := by
  apply Fin.ext
  rw [Fin.val_sub]
  show ((a - b) % 1013).toNat % 1013 = (1013 - (b % 1013).toNat % 1013 + (a % 1013).toNat % 1013) % 1013
  omega
theorem zq_mul (a b : Int) : zq (a * b) = zq a * zq b := by
  have h : ((zq (a * b)).val : Int) = ((zq a * zq b).val : Int) := by
    rw [zq_val, Fin.val_mul, Int.natCast_emod, Int.natCast_mul, zq_val, zq_val]
    show a * b % 1013 = a % 1013 * (b % 1013) % 1013
    rw [← Int.mul_emod]
  exact Fin.ext (by omega)
theorem zq_zero : zq 0 = 0 := rfl
theorem zq_one : zq 1 = 1 := rfl
theorem zq_ne {n : Int} (h0 : 0 < n) (h1 : n < 1013) : zq n ≠ 0 := by
  intro h
  have := zq_inj (a := n) (b := 0) h
  omega
/-- The inverse. -/
def qpw (x n : Nat) : Nat := x ^ n % 1013
def ivq (a : QF) : QF := Fin.ofNat 1013 (qpw a.val 1011)
theorem qinv_all : allLT (fun x => Nat.beq x 0 || Nat.beq (x * qpw x 1011 % 1013) 1) 1013 = true := by decide +kernel
theorem iv_mul {a : QF} (h : a ≠ 0) : a * ivq a = 1 := by
  have hs := allLT_spec qinv_all a.val a.isLt
  have h0 : Nat.beq a.val 0 = false := by
    rw [← Bool.not_eq_true]; intro e; exact h (Fin.ext (Nat.eq_of_beq_eq_true e))
  rw [h0, Bool.false_or] at hs
  have hs := Nat.eq_of_beq_eq_true hs
  apply Fin.ext
  rw [Fin.val_mul]
  show a.val * (qpw a.val 1011 % 1013) % 1013 = 1
  rw [Nat.mul_mod, Nat.mod_mod, ← Nat.mul_mod]
  exact hs
theorem q_zero {a b : QF} (h : a * b = 0) (ha : a ≠ 0) : b = 0 := by
  have := iv_mul ha
  grind
theorem q_mul_ne {a b : QF} (ha : a ≠ 0) (hb : b ≠ 0) : a * b ≠ 0 := fun h => hb (q_zero h ha)
theorem iv_of {a b : QF} (h : a * b = 1) : ivq a = b := by
  have ha : a ≠ 0 := by rintro rfl; rw [Fin.zero_mul] at h; exact absurd h (by decide)
  have := iv_mul ha
  grind
theorem iv_prod {a b : QF} (ha : a ≠ 0) (hb : b ≠ 0) : ivq (a * b) = ivq a * ivq b := by
  refine iv_of ?_
  have := iv_mul ha
  have := iv_mul hb
  grind
theorem iv_ne {a : QF} (h : a ≠ 0) : ivq a ≠ 0 := by
  intro e
  have := iv_mul h
  rw [e, Fin.mul_zero] at this
  exact absurd this (by decide)
/-! Sums. -/
def sm (f : Nat → QF) : Nat → QF
  | 0 => 0
  | n + 1 => sm f n + f n
theorem sm_congr {f g : Nat → QF} : ∀ {n : Nat}, (∀ i, i < n → f i = g i) → sm f n = sm g n
  | 0, _ => rfl
  | n + 1, h => by
    show sm f n + f n = sm g n + g n
    rw [sm_congr fun i hi => h i (by omega), h n (by omega)]
theorem sm_add (f g : Nat → QF) (n : Nat) : sm (fun i => f i + g i) n = sm f n + sm g n := by
  induction n with
  | zero => rfl
  | succ n ih => show sm (fun i => f i + g i) n + (f n + g n) = sm f n + f n + (sm g n + g n); rw [ih]; grind
theorem sm_sub (f g : Nat → QF) (n : Nat) : sm (fun i => f i - g i) n = sm f n - sm g n := by
  induction n with
  | zero => rfl
  | succ n ih => show sm (fun i => f i - g i) n + (f n - g n) = sm f n + f n - (sm g n + g n); rw [ih]; grind
theorem sm_mul (c : QF) (f : Nat → QF) (n : Nat) : sm (fun i => c * f i) n = c * sm f n := by
  induction n with
  | zero => exact (Fin.mul_zero c).symm
  | succ n ih => show sm (fun i => c * f i) n + c * f n = c * (sm f n + f n); rw [ih]; grind
theorem sm_first (f : Nat → QF) (n : Nat) : sm f (n + 1) = f 0 + sm (fun i => f (i + 1)) n := by
  induction n with
  | zero => show 0 + f 0 = f 0 + 0; grind
  | succ n ih => show sm f (n + 1) + f (n + 1) = f 0 + (sm (fun i => f (i + 1)) n + f (n + 1)); rw [ih]; grind
/-! Products over all places but one. -/
def pr (x : Nat → QF) : Nat → Nat → QF
  | 0, _ => 1
  | n + 1, i => pr x n i * (if n = i then 1 else x n - x i)
def Dist (x : Nat → QF) (n : Nat) : Prop := ∀ j k, j < n → k < n → x j = x k → j = k
theorem Dist.less {x : Nat → QF} {n : Nat} (h : Dist x (n + 1)) : Dist x n := fun j k hj hk => h j k (by omega) (by omega)
theorem Dist.tail {x : Nat → QF} {n : Nat} (h : Dist x (n + 1)) : Dist (fun i => x (i + 1)) n := fun j k hj hk e => by
  have := h (j + 1) (k + 1) (by omega) (by omega) e
  omega
theorem Dist.ne {x : Nat → QF} {n j k : Nat} (h : Dist x n) (hj : j < n) (hk : k < n) (hne : j ≠ k) : x j - x k ≠ 0 := by
  intro e
  exact hne (h j k hj hk (by grind))
theorem pr_ne {x : Nat → QF} {N i : Nat} (h : Dist x N) (hi : i < N) : ∀ n, n ≤ N → pr x n i ≠ 0
  | 0, _ => by show (1 : QF) ≠ 0; decide
  | n + 1, hn => by
    refine q_mul_ne (pr_ne h hi n (by omega)) ?_
    by_cases e : n = i
    · rw [if_pos e]; decide
    · rw [if_neg e]; exact h.ne (by omega) hi e
theorem pr_last (x : Nat → QF) (n : Nat) : pr x (n + 1) n = pr x n n := by
  show pr x n n * (if n = n then 1 else x n - x n) = pr x n n
  rw [if_pos rfl]; exact Fin.mul_one _
theorem pr_step (x : Nat → QF) {n i : Nat} (h : i < n) : pr x (n + 1) i = pr x n i * (x n - x i) := by
  show pr x n i * (if n = i then 1 else x n - x i) = _
  rw [if_neg (by omega)]
theorem pr_tail (x : Nat → QF) (n i : Nat) : pr x (n + 1) (i + 1) = (x 0 - x (i + 1)) * pr (fun j => x (j + 1)) n i := by
  induction n with
  | zero =>
    show 1 * (if 0 = i + 1 then 1 else x 0 - x (i + 1)) = (x 0 - x (i + 1)) * 1
    rw [if_neg (by omega)]; grind
  | succ n ih =>
    show pr x (n + 1) (i + 1) * (if n + 1 = i + 1 then 1 else x (n + 1) - x (i + 1)) = (x 0 - x (i + 1)) * (pr (fun j => x (j + 1)) n i * (if n = i then 1 else x (n + 1) - x (i + 1)))
    rw [ih]
    by_cases e : n = i
    · rw [if_pos e, if_pos (by omega)]; grind
    · rw [if_neg e, if_neg (by omega)]; grind
theorem cancel {a b c : QF} (ha : a ≠ 0) (hb : b ≠ 0) : b * (c * ivq (a * b)) = c * ivq a := by
  rw [iv_prod ha hb]
  have := iv_mul hb
  grind
/-- What is told by values at unlike places, each by its product. -/
def dd (h x : Nat → QF) (n : Nat) : QF := sm (fun i => h i * ivq (pr x n i)) n
theorem dd_by_last {h x : Nat → QF} {n : Nat} (hx : Dist x (n + 1)) : sm (fun i => (x n - x i) * (h i * ivq (pr x (n + 1) i))) (n + 1) = dd h x n := by
  show sm (fun i => (x n - x i) * (h i * ivq (pr x (n + 1) i))) n + (x n - x n) * _ = _
  have e : (x n - x n) * (h n * ivq (pr x (n + 1) n)) = 0 := by grind
  rw [e]
  have e2 : sm (fun i => (x n - x i) * (h i * ivq (pr x (n + 1) i))) n = dd h x n := sm_congr fun i hi => by
    rw [pr_step x hi]
    exact cancel (pr_ne hx (by omega) n (by omega)) (hx.ne (by omega) (by omega) (by omega))
  rw [e2]; grind
theorem dd_by_first {h x : Nat → QF} {n : Nat} (hx : Dist x (n + 1)) : sm (fun i => (x 0 - x i) * (h i * ivq (pr x (n + 1) i))) (n + 1) = dd (fun i => h (i + 1)) (fun i => x (i + 1)) n := by
  rw [sm_first]
  have e : (x 0 - x 0) * (h 0 * ivq (pr x (n + 1) 0)) = 0 := by grind
  rw [e]
  have e2 : sm (fun i => (x 0 - x (i + 1)) * (h (i + 1) * ivq (pr x (n + 1) (i + 1)))) n = dd (fun i => h (i + 1)) (fun i => x (i + 1)) n := sm_congr fun i hi => by
    show (x 0 - x (i + 1)) * (h (i + 1) * ivq (pr x (n + 1) (i + 1))) = h (i + 1) * ivq (pr (fun j => x (j + 1)) n i)
    rw [pr_tail, show (x 0 - x (i + 1)) * pr (fun j => x (j + 1)) n i = pr (fun j => x (j + 1)) n i * (x 0 - x (i + 1)) by grind]
    exact cancel (pr_ne hx.tail hi n (Nat.le_refl _)) (hx.ne (by omega) (by omega) (by omega))
  rw [e2]; grind
theorem dd_one_rec {x : Nat → QF} {n : Nat} (hx : Dist x (n + 1)) : (x n - x 0) * dd (fun _ => 1) x (n + 1) = dd (fun _ => 1) x n - dd (fun _ => 1) (fun i => x (i + 1)) n := by
  rw [← dd_by_last hx, ← dd_by_first (h := fun _ => 1) hx, ← sm_sub]
  unfold dd
  rw [← sm_mul]
  exact sm_congr fun i _ => by grind
theorem dd_one : ∀ (n : Nat) (x : Nat → QF), Dist x (n + 2) → dd (fun _ => 1) x (n + 2) = 0
  | 0, x, hx => by
    have h := dd_one_rec hx
    have e : dd (fun _ => 1) x 1 - dd (fun _ => 1) (fun i => x (i + 1)) 1 = 0 := by
      show (0 + 1 * ivq (1 * (if 0 = 0 then 1 else x 0 - x 0))) - (0 + 1 * ivq (1 * (if 0 = 0 then 1 else x 1 - x 1))) = 0
      rw [if_pos rfl, if_pos rfl]; grind
    rw [e] at h
    exact q_zero h (hx.ne (by omega) (by omega) (by omega))
  | n + 1, x, hx => by
    have h := dd_one_rec hx
    rw [dd_one n x hx.less, dd_one n _ hx.tail, show (0 : QF) - 0 = 0 by decide] at h
    exact q_zero h (hx.ne (by omega) (by omega) (by omega))
/-- The value of a polynomial. -/
def ev : List QF → QF → QF
  | [], _ => 0
  | c :: cs, x => c + x * ev cs x
theorem ev_zero (c : QF) (cs : List QF) : ev (c :: cs) 0 = c := by show c + 0 * ev cs 0 = c; grind
theorem dd_cons (c : QF) (cs : List QF) {x : Nat → QF} {n : Nat} (hx : Dist x (n + 1)) :
    dd (fun i => ev (c :: cs) (x i)) x (n + 1) = c * dd (fun _ => 1) x (n + 1) + (x n * dd (fun i => ev cs (x i)) x (n + 1) - dd (fun i => ev cs (x i)) x n) := by
  rw [← dd_by_last (h := fun i => ev cs (x i)) hx]
  unfold dd
  rw [← sm_mul, ← sm_mul, ← sm_sub, ← sm_add]
  exact sm_congr fun i _ => by
    show (c + x i * ev cs (x i)) * _ = _
    grind
/-- With more places than coefficients nothing is told. -/
theorem dd_zero : ∀ (cs : List QF) (n : Nat) (x : Nat → QF), cs.length < n → Dist x n → dd (fun i => ev cs (x i)) x n = 0
  | [], n, x, _, hx => by
    have : dd (fun i => ev [] (x i)) x n = sm (fun i => 0 * ivq (pr x n i)) n := rfl
    rw [this, sm_mul]; exact Fin.zero_mul _
  | c :: cs, 0, x, h, hx => absurd h (Nat.not_lt_zero _)
  | c :: cs, 1, x, h, hx => by simp at h
  | c :: cs, n + 2, x, h, hx => by
    have hl : cs.length < n + 1 := by simpa using h
    rw [dd_cons c cs hx, dd_one n x hx, dd_zero cs (n + 2) x (by omega) hx, dd_zero cs (n + 1) x hl hx.less]
    grind
/-! The weights. -/
def upq (x : Nat → QF) : Nat → Nat → QF
  | 0, _ => 1
  | n + 1, i => upq x n i * (if n = i then 1 else x n)
def wtq (x : Nat → QF) (n i : Nat) : QF := upq x n i * ivq (pr x n i)
def pdq (x : Nat → QF) : Nat → QF
  | 0 => 1
  | n + 1 => pdq x n * x n
theorem up_out (x : Nat → QF) (i : Nat) : ∀ n, n ≤ i → upq x n i = pdq x n
  | 0, _ => rfl
  | n + 1, h => by
    show upq x n i * (if n = i then 1 else x n) = pdq x n * x n
    rw [if_neg (by omega), up_out x i n (by omega)]
theorem up_pd (x : Nat → QF) (i : Nat) : ∀ n, i < n → x i * upq x n i = pdq x n
  | 0, h => absurd h (Nat.not_lt_zero _)
  | n + 1, h => by
    show x i * (upq x n i * (if n = i then 1 else x n)) = pdq x n * x n
    by_cases e : n = i
    · subst e; rw [if_pos rfl, up_out x n n (Nat.le_refl _)]; grind
    · rw [if_neg e, ← up_pd x i n (by omega)]; grind
theorem up_ne {x : Nat → QF} (i : Nat) : ∀ n, (∀ j, j < n → x j ≠ 0) → upq x n i ≠ 0
  | 0, _ => by show (1 : QF) ≠ 0; decide
  | n + 1, h => by
    refine q_mul_ne (up_ne i n fun j hj => h j (by omega)) ?_
    by_cases e : n = i
    · rw [if_pos e]; decide
    · rw [if_neg e]; exact h n (by omega)
theorem pd_ne {x : Nat → QF} : ∀ n, (∀ j, j < n → x j ≠ 0) → pdq x n ≠ 0
  | 0, _ => by show (1 : QF) ≠ 0; decide
  | n + 1, h => q_mul_ne (pd_ne n fun j hj => h j (by omega)) (h n (by omega))
theorem wt_ne {x : Nat → QF} {n i : Nat} (h : ∀ j, j < n → x j ≠ 0) (hx : Dist x n) (hi : i < n) : wtq x n i ≠ 0 :=
  q_mul_ne (up_ne i n h) (iv_ne (pr_ne hx hi n (Nat.le_refl _)))
/-- 0 ahead of the places. -/
def zx (x : Nat → QF) : Nat → QF
  | 0 => 0
  | n + 1 => x n
theorem zx_dist {x : Nat → QF} {n : Nat} (h : ∀ j, j < n → x j ≠ 0) (hx : Dist x n) : Dist (zx x) (n + 1) := by
  intro j k hj hk e
  cases j with
  | zero =>
    cases k with
    | zero => rfl
    | succ k => exact absurd (show x k = 0 from e.symm) (h k (by omega))
  | succ j =>
    cases k with
    | zero => exact absurd (show x j = 0 from e) (h j (by omega))
    | succ k => rw [hx j k (by omega) (by omega) e]
theorem zx_pr (x : Nat → QF) (n : Nat) : pr (zx x) (n + 1) 0 = pdq x n := by
  induction n with
  | zero => show 1 * (if 0 = 0 then 1 else zx x 0 - zx x 0) = 1; rw [if_pos rfl]; rfl
  | succ n ih =>
    show pr (zx x) (n + 1) 0 * (if n + 1 = 0 then 1 else x n - 0) = pdq x n * x n
    rw [if_neg (by omega), ih]; grind
/-- The values at the places, weighted, tell the value at 0. -/
theorem lagrange (cs : List QF) {n : Nat} {x : Nat → QF} (hl : cs.length ≤ n) (h : ∀ j, j < n → x j ≠ 0) (hx : Dist x n) :
    sm (fun i => wtq x n i * ev cs (x i)) n = ev cs 0 := by
  have h0 := dd_zero cs (n + 1) (zx x) (by omega) (zx_dist h hx)
  unfold dd at h0
  rw [sm_first, zx_pr] at h0
  have e : sm (fun i => ev cs (zx x (i + 1)) * ivq (pr (zx x) (n + 1) (i + 1))) n = sm (fun i => (0 - ivq (pdq x n)) * (wtq x n i * ev cs (x i))) n := sm_congr fun i hi => by
    show ev cs (x i) * ivq (pr (zx x) (n + 1) (i + 1)) = _
    have e1 : pr (zx x) (n + 1) (i + 1) = (0 - x i) * pr x n i := pr_tail (zx x) n i
    have n1 := pr_ne hx hi n (Nat.le_refl _)
    have n2 := h i hi
    have n3 : (0 : QF) - x i ≠ 0 := by intro e; exact n2 (by grind)
    have n4 := pd_ne n h
    rw [e1, iv_prod n3 n1]
    unfold wtq
    have e2 := up_pd x i n hi
    have i1 := iv_mul n3
    have i2 := iv_mul n4
    have e3 : ivq (0 - x i) = (0 - ivq (pdq x n)) * upq x n i := by
      refine iv_of ?_
      rw [← e2] at i2 ⊢
      grind
    rw [e3]; grind
  rw [e, sm_mul] at h0
  have n4 := iv_mul (pd_ne n h)
  show _ = ev cs 0
  have h0 : ev cs 0 * ivq (pdq x n) + (0 - ivq (pdq x n)) * sm (fun i => wtq x n i * ev cs (x i)) n = 0 := h0
  generalize sm (fun i => wtq x n i * ev cs (x i)) n = s at h0 ⊢
  generalize ev cs 0 = t at h0 ⊢
  generalize ivq (pdq x n) = u at h0 n4
  generalize pdq x n = v at n4
  clear e
  grind
end Go.Proofs.YtlbdcgnhmkjfiajGreatDoor
/- HideMath -/
namespace Go.Proofs.YtlbdcgnhmkjfiajGreatDoor
set_option linter.unusedSimpArgs false
set_option linter.unusedVariables false

theorem un_ne (t : ByteArray) : uN t % 1013 ≠ 0 := by
  intro h
  have h1 := sp_near (longN t)
  rw [uN_is] at h1
  have h2 := (farI_iff (4 * uN t)).2 (by omega)
  rw [h2] at h1; cases h1
/-- Each number that is not 0 modulo 1013 has one by which it is 1. -/
theorem turn_q {d : Nat} (h : d % 1013 ≠ 0) : ∃ e, (d * e) % 1013 = 1 := by
  have hd : Fin.ofNat 1013 d ≠ (0 : QF) := by
    intro e
    have := congrArg Fin.val e
    exact h this
  have h1 := congrArg Fin.val (iv_mul hd)
  rw [Fin.val_mul] at h1
  refine ⟨(ivq (Fin.ofNat 1013 d)).val, ?_⟩
  have h2 : (d % 1013) * (ivq (Fin.ofNat 1013 d)).val % 1013 = 1 := h1
  rwa [Nat.mul_mod, Nat.mod_mod, ← Nat.mul_mod] at h2
section
variable {h : Nat} (hh : h % 1013 ≠ 0)
include hh
theorem hf_find (i v : Nat) : ∃ n, n < 1013 ∧ (v + h * n) % 1013 = i % 1013 := by
  obtain ⟨e, he⟩ := turn_q hh
  obtain ⟨d, hd⟩ : ∃ d, (v + d) % 1013 = i % 1013 := ⟨i % 1013 + 1013 - v % 1013, by have := Nat.mod_lt v (show 0 < 1013 by omega); omega⟩
  refine ⟨(e * d) % 1013, Nat.mod_lt _ (by omega), ?_⟩
  have h1 : (h * (e * d % 1013)) % 1013 = d % 1013 := by
    rw [Nat.mul_mod, Nat.mod_mod, ← Nat.mul_mod, ← Nat.mul_assoc, Nat.mul_mod, he, Nat.one_mul, Nat.mod_mod]
  omega
theorem hf_one {v n m : Nat} (hn : n < 1013) (hm : m < 1013) (k : (v + h * n) % 1013 = (v + h * m) % 1013) : n = m := by
  obtain ⟨e, he⟩ := turn_q hh
  have h1 : (h * n) % 1013 = (h * m) % 1013 := by omega
  have key : ∀ k, (h * k * e) % 1013 = k % 1013 := fun k => by
    rw [show h * k * e = h * e * k by ac_rfl, Nat.mul_mod, he, Nat.one_mul, Nat.mod_mod]
  have h2 : (h * n * e) % 1013 = (h * m * e) % 1013 := by rw [Nat.mul_mod, h1, ← Nat.mul_mod]
  rw [key, key] at h2
  omega
theorem hf_far {v r : Nat} (hv : v < 1013) (hr : r < 1013) (k : (v + h * r) % 1013 = 0) : r = 0 ↔ v = 0 := by
  constructor
  · rintro rfl
    omega
  · rintro rfl
    exact hf_one hh (v := 0) hr (by omega) (k.trans (by omega))
end
theorem hf_sum (h v r w s : Nat) : ((v + h * r) + (w + h * s)) % 1013 = ((v + w) % 1013 + h * ((r + s) % 1013)) % 1013 := by
  have h1 : (h * ((r + s) % 1013)) % 1013 = (h * (r + s)) % 1013 := by rw [Nat.mul_mod, Nat.mod_mod, ← Nat.mul_mod]
  have h2 : h * (r + s) = h * r + h * s := Nat.mul_add _ _ _
  omega
theorem hf_em (h v r : Nat) : (4 * em (v : Int) + 4 * h * em (r : Int)) % 4052 = (4 * (v + h * r)) % 4052 := by
  have h1 : (4 * h * em (r : Int)) % 4052 = (4 * h * r) % 4052 := by
    rw [Nat.mul_mod, show em (r : Int) % 4052 = r % 4052 by unfold em; omega, ← Nat.mul_mod]
  have h2 : 4 * em (v : Int) % 4052 = 4 * v % 4052 := by unfold em; omega
  have h3 : 4 * (v + h * r) = 4 * v + 4 * h * r := by rw [Nat.mul_add, Nat.mul_assoc]
  omega
/-- The word of the second base. -/
def secT : ByteArray := ⟨#[115, 101, 99, 111, 110, 100]⟩
/-- The second base is so many times the base. -/
def h2N : Nat := uN secT
theorem h2_is : h2N = uN secT := by unfold h2N; rfl
theorem h2_ne : h2N % 1013 ≠ 0 := by rw [h2_is]; exact un_ne secT
theorem h2_f : (tM (4 * h2N)).2.2 = false := by rw [h2_is]; exact uN_f secT
/-- A value, and a number by which it is hidden: so many times the base. -/
def hdN (v r : Nat) : Nat := v + h2N * r
theorem hd_is (v r : Nat) : hdN v r = v + h2N * r := by unfold hdN; rfl
/-- Any number is hidden by some number, of any value. -/
theorem hd_find (i v : Nat) : ∃ n, n < 1013 ∧ hdN v n % 1013 = i % 1013 := by
  obtain ⟨n, h1, h2⟩ := hf_find h2_ne i v
  exact ⟨n, h1, by rw [hd_is]; exact h2⟩
/-- And by no other one. -/
theorem hd_one {v n m : Nat} (hn : n < 1013) (hm : m < 1013) (h : hdN v n % 1013 = hdN v m % 1013) : n = m := by
  rw [hd_is, hd_is] at h
  exact hf_one h2_ne hn hm h
theorem hd_iff (i v r : Nat) : tM (4 * i) = tM (4 * hdN v r) ↔ i % 1013 = hdN v r % 1013 := t4_iff _ _
theorem hd_sum (v r w s : Nat) : tM (4 * hdN v r + 4 * hdN w s) = tM (4 * hdN ((v + w) % 1013) ((r + s) % 1013)) := by
  rw [← Nat.mul_add, hd_is, hd_is, hd_is]
  exact t4_congr (hf_sum h2N v r w s)
theorem hd_far {v r : Nat} (hv : v < 1013) (hr : r < 1013) (h : hdN v r % 1013 = 0) : r = 0 ↔ v = 0 := by
  rw [hd_is] at h
  exact hf_far h2_ne hv hr h
theorem hd_em (v r : Nat) : tM (4 * em (v : Int) + 4 * h2N * em (r : Int)) = tM (4 * hdN v r) := by
  rw [hd_is]
  exact tM_congr (hf_em h2N v r)
theorem hd_zero : tM (4 * hdN 0 0) = (0, 0, true) := by
  rw [hd_is, Nat.mul_zero]; rfl
end Go.Proofs.YtlbdcgnhmkjfiajGreatDoor
/- RefBy -/
namespace Go.Proofs.YtlbdcgnhmkjfiajGreatDoor
open Go.RowKit Go.Sort
set_option linter.unusedVariables false
set_option linter.unusedSimpArgs false
theorem rbase_is (w : World) : Calls Tryz.prog 60 #[] w fun e w' => e = .returned (.agg #[.int .i64 ((tM 4).1 : Int), .int .i64 ((tM 4).2.1 : Int), .bool (tM 4).2.2]) ∧ Below w.heap.size w w' := by
  rw [show (tM 4).2.2 = false by rw [tM_f]; rfl]
  exact rbase_f w
end Go.Proofs.YtlbdcgnhmkjfiajGreatDoor
/- RefSum -/
namespace Go.Proofs.YtlbdcgnhmkjfiajGreatDoor
open Go.RowKit Go.Sort
set_option linter.unusedVariables false
set_option linter.unusedSimpArgs false
end Go.Proofs.YtlbdcgnhmkjfiajGreatDoor
/- RefHide -/
namespace Go.Proofs.YtlbdcgnhmkjfiajGreatDoor
open Go.RowKit Go.Sort
set_option linter.unusedVariables false
set_option linter.unusedSimpArgs false
theorem rof_second (w : World) : Calls Tryz.prog 34 #[.string ⟨#[115, 101, 99, 111, 110, 100]⟩] w fun e w' => e = .returned (.agg #[.int .i64 ((tM (4 * h2N)).1 : Int), .int .i64 ((tM (4 * h2N)).2.1 : Int), .bool false]) ∧ Below w.heap.size w w' := by
  have := rof_any secT w (by decide)
  rw [uN_is, ← h2_is] at this
  exact this
set_option maxRecDepth 100000 in
set_option maxHeartbeats 4000000 in
theorem rsecond (w : World) : Calls Tryz.prog 11 #[] w fun e w' => e = .returned (.agg #[.int .i64 ((tM (4 * h2N)).1 : Int), .int .i64 ((tM (4 * h2N)).2.1 : Int), .bool false]) ∧ Below w.heap.size w w' := by
  have HO : Hid (∀ w, Calls Tryz.prog 34 #[.string ⟨#[115, 101, 99, 111, 110, 100]⟩] w fun e w' => e = .returned (.agg #[.int .i64 ((tM (4 * h2N)).1 : Int), .int .i64 ((tM (4 * h2N)).2.1 : Int), .bool false]) ∧ Below w.heap.size w w') := rof_second
  have m1 : True := trivial
  go_enter Tryz.func11, Tryz.ntmps11
  go_wp2_with (go_at_call 34; clear m1; refine (HO.out _).mono ?_; rintro e w1 ⟨rfl, hbw1⟩; have krw1 : At w1 (w.heap.size) [.int .i64 0, .int .i64 0, .bool false] := (by repeat (first | (with_reducible assumption) | ((with_reducible refine at_new' _ _ _ _ ?_); (first | rfl | (simp; done))) | (with_reducible refine At.alloc ?_ _) | (with_reducible refine At.drew ?_) | (with_reducible refine At.drewN ?_) | (with_reducible refine At.set ?_ (by omega)) | (with_reducible apply At.store4) | (with_reducible apply At.store3) | (with_reducible apply At.store2) | (with_reducible apply At.put43) | (refine At.below ?_ (by with_reducible assumption)))); have hqw1 : Below w.heap.size w w1 := (by repeat (first | (with_reducible exact Below.refl _ _) | (with_reducible assumption) | (with_reducible refine Below.setCell ?_ (by first | (simp; done) | (simp; omega) | omega) _) | (with_reducible refine Below.alloc ?_ (by first | (simp; done) | (simp; omega) | omega) _) | (refine bl_call ?_ (by assumption) (by first | (simp; done) | (simp; omega) | omega)) | (with_reducible refine bl_drewN ?_) | (with_reducible refine Below.drew ?_) | (with_reducible refine bl_grow ?_ (by first | (simp; done) | (simp; omega) | omega)))); have hzw1 := hqw1.size; obtain ⟨zrw1, cr0w1, cr1w1, cr2w1, fr0w1, fr1w1, fr2w1⟩ := krw1.three; clear hbw1)
  exact bodyPost_ret (v := .agg #[.int .i64 ((tM (4 * h2N)).1 : Int), .int .i64 ((tM (4 * h2N)).2.1 : Int), .bool false]) (by simp [results, Tryz.results11, go_sem, *]) rfl ⟨rfl, by repeat (first | (with_reducible exact Below.refl _ _) | (with_reducible assumption) | (with_reducible refine Below.setCell ?_ (by first | (simp; done) | (simp; omega) | omega) _) | (with_reducible refine Below.alloc ?_ (by first | (simp; done) | (simp; omega) | omega) _) | (refine bl_call ?_ (by assumption) (by first | (simp; done) | (simp; omega) | omega)) | (with_reducible refine bl_drewN ?_) | (with_reducible refine Below.drew ?_) | (with_reducible refine bl_grow ?_ (by first | (simp; done) | (simp; omega) | omega)))⟩
theorem rsecond_w (w : World) : Calls Tryz.prog 11 #[] w fun e w' => e = .returned (.agg #[.int .i64 ((tM (4 * h2N)).1 : Int), .int .i64 ((tM (4 * h2N)).2.1 : Int), .bool (tM (4 * h2N)).2.2]) ∧ Below w.heap.size w w' := by
  rw [h2_f]; exact rsecond w
end Go.Proofs.YtlbdcgnhmkjfiajGreatDoor
/- BookClose -/
namespace Go.Proofs.YtlbdcgnhmkjfiajGreatDoor
set_option linter.unusedVariables false
set_option linter.unusedSimpArgs false
/-- So many times the second base: 4 * clR k times (3, 156). -/
def clR (k : Nat) : Nat := h2N * k
theorem clR_is (k : Nat) : clR k = h2N * k := by unfold clR; rfl
/-- A closing seal's number. -/
def clS (r k a : Nat) : Nat := (k + baN (4 * clR k) a * r) % 1013
theorem clS_lt (r k a : Nat) : clS r k a < 1013 := Nat.mod_lt _ (by omega)
/-- Is a deal closed as it should be? S times Second is R, and the challenge times the excess. -/
def closedB (h a x s : Nat) : Bool := sameS (tM (4 * h * s)) (tM (a + 4 * x * baN a (4 * x)))
def closeB (a x s : Nat) : Bool := closedB h2N a x s
theorem close_is (a x s : Nat) : closeB a x s = closedB h2N a x s := by unfold closeB; rfl
theorem close_iff (a x s : Nat) : closeB a x s = true ↔ tM (4 * clR s) = tM (a + 4 * x * baN a (4 * x)) := by
  rw [close_is, clR_is]
  unfold closedB
  rw [sameS_iff, Nat.mul_assoc]
/-- A deal that is closed by a number r holds just if the excess is r times the second base, or the challenge is 0. -/
theorem close_own (h r k x a b : Nat) (hh : h % 1013 ≠ 0) (hb : b < 1013) : (h * ((k + b * r) % 1013)) % 1013 = (h * k + x * b) % 1013 ↔ (x % 1013 = (h * r) % 1013 ∨ b = 0) := by
  have e1 : (h * ((k + b * r) % 1013)) % 1013 = (h * k + (h * r) * b) % 1013 := by
    rw [Nat.mul_mod, Nat.mod_mod, ← Nat.mul_mod]
    congr 1
    grind
  rw [e1]
  constructor
  · intro e
    by_cases h0 : b = 0
    · exact Or.inr h0
    · left
      have e2 : ((h * r) * b) % 1013 = (x * b) % 1013 := by omega
      obtain ⟨f, hf⟩ := turn_q (d := b) (by omega)
      have e3 : (h * r) * (b * f) % 1013 = x * (b * f) % 1013 := by
        rw [← Nat.mul_assoc, ← Nat.mul_assoc, Nat.mul_mod, e2, ← Nat.mul_mod]
      rw [Nat.mul_mod (h * r), hf, Nat.mul_mod x, hf] at e3
      omega
  · rintro (e | e)
    · have e2 : (x * b) % 1013 = ((h * r) * b) % 1013 := by rw [Nat.mul_mod, e, ← Nat.mul_mod]
      omega
    · subst e; simp
end Go.Proofs.YtlbdcgnhmkjfiajGreatDoor
