/- Numbers modulo 1013 as whole numbers: products, weights and values step by step; which fault places have. Apart from the program. -/
import Derived.Test.YtmijjjdedadklagShareMath
import Derived.Test.YtmijjjdedadklagRefMath
namespace Go.Proofs.Ytmijjjdedadklag
set_option linter.unusedVariables false
set_option linter.unusedSimpArgs false

/-- A number modulo 1013, as a whole number. -/
def vI (a : QF) : Int := (a.val : Int)
theorem vI_lo (a : QF) : 0 ≤ vI a := by unfold vI; omega
theorem vI_hi (a : QF) : vI a < 1013 := by unfold vI; have := a.isLt; omega
theorem vI_zq (n : Int) : vI (zq n) = n % 1013 := zq_val n
theorem zq_vI (a : QF) : zq (vI a) = a := zq_back a
theorem vI_mul (a : QF) (n : Int) : (vI a * n) % 1013 = vI (a * zq n) := by
  have h : zq (vI a * n) = a * zq n := by rw [zq_mul, zq_vI]
  rw [← h, vI_zq]
theorem vI_mulv (a b : QF) : (vI a * vI b) % 1013 = vI (a * b) := by rw [vI_mul, zq_vI]
theorem vI_addm (a : QF) (n m : Int) : (vI a + n * m) % 1013 = vI (a + zq n * zq m) := by
  have h : zq (vI a + n * m) = a + zq n * zq m := by rw [zq_add, zq_vI, zq_mul]
  rw [← h, vI_zq]
theorem vI_one : vI 1 = 1 := rfl
theorem vI_zero : vI 0 = 0 := rfl
theorem vI_bd (a : QF) {n : Int} (h0 : 0 ≤ n) (h1 : n < 1013) : 0 ≤ vI a * n ∧ vI a * n ≤ 1100000 := by
  have h2 := vI_lo a
  have h3 := vI_hi a
  have h4 : vI a * n ≤ 1013 * 1013 := Int.mul_le_mul (by omega) (by omega) h0 (by omega)
  exact ⟨Int.mul_nonneg h2 h0, by omega⟩
theorem qpw_lt (x n : Nat) : qpw x n < 1013 := Nat.mod_lt _ (by omega)
theorem qturn_all : allLT (fun n => Nat.beq n 0 || chkT 1013 (qpw n 1011) 40 false 1013 n 0 1) 1013 = true := by decide +kernel
theorem qturn_start {a : QF} (h : a ≠ 0) : chkT 1013 (vI (ivq a)).toNat 40 false 1013 (vI a).toNat 0 1 = true := by
  have h1 := allLT_spec qturn_all a.val a.isLt
  have h2 : a.val ≠ 0 := fun e => h (Fin.ext e)
  have h3 : Nat.beq a.val 0 = false := by
    cases hb : Nat.beq a.val 0 with
    | false => rfl
    | true => exact absurd (Nat.eq_of_beq_eq_true hb) h2
  rw [h3, Bool.false_or] at h1
  have h4 : (vI (ivq a)).toNat = qpw a.val 1011 := by
    unfold vI ivq
    rw [Int.toNat_natCast]
    show qpw a.val 1011 % 1013 = _
    exact Nat.mod_eq_of_lt (qpw_lt _ _)
  rw [h4]
  exact h1
/-- The places as numbers modulo 1013. -/
def xq (X : Nat → Int) (j : Nat) : QF := zq (X j)
theorem up_skip (x : Nat → QF) (i : Nat) : upq x (i + 1) i = upq x i i := by show upq x i i * (if i = i then 1 else x i) = _; rw [if_pos rfl]; grind
theorem up_more (x : Nat → QF) {k i : Nat} (h : k ≠ i) : upq x (k + 1) i = upq x k i * x k := by show upq x k i * (if k = i then 1 else x k) = _; rw [if_neg h]
theorem pr_skip (x : Nat → QF) (i : Nat) : pr x (i + 1) i = pr x i i := by show pr x i i * (if i = i then 1 else x i - x i) = _; rw [if_pos rfl]; grind
theorem pr_more (x : Nat → QF) {k i : Nat} (h : k ≠ i) : pr x (k + 1) i = pr x k i * (x k - x i) := by show pr x k i * (if k = i then 1 else x k - x i) = _; rw [if_neg h]
/-- Powers, and a polynomial's value term by term. -/
def pwq (x : QF) : Nat → QF
  | 0 => 1
  | k + 1 => pwq x k * x
def vlq (X : Nat → QF) (x : QF) : Nat → QF
  | 0 => 0
  | k + 1 => vlq X x k + X k * pwq x k
theorem ev_more (l : List QF) (c x : QF) : ev (l ++ [c]) x = ev l x + c * pwq x l.length := by
  induction l with
  | nil => show c + x * 0 = 0 + c * 1; grind
  | cons d l ih =>
    show d + x * ev (l ++ [c]) x = d + x * ev l x + c * (pwq x l.length * x)
    rw [ih]; grind
theorem vl_ev (X : Nat → QF) (x : QF) (n : Nat) : vlq X x n = ev ((List.range n).map X) x := by
  induction n with
  | zero => rfl
  | succ n ih => rw [List.range_succ, List.map_append]; show _ = ev (_ ++ [X n]) x; rw [ev_more, ← ih, List.length_map, List.length_range]; rfl
/-- Is a place there ahead? -/
def clsB (X : Nat → Int) (i : Nat) : Bool := (List.range i).any fun j => X j == X i
def plE (s : Int → Bool) (X : Nat → Int) : Nat → Int
  | 0 => 0
  | k + 1 => bif plE s X k == 0 then (bif s (X k) then (bif clsB X k then 7 else 0) else 1) else plE s X k
theorem pl_stay {s : Int → Bool} {X : Nat → Int} {k : Nat} (h : (plE s X k == 0) = false) : ∀ n, k ≤ n → plE s X n = plE s X k
  | 0, hn => by have : k = 0 := by omega
                rw [this]
  | n + 1, hn => by
    rcases Nat.lt_or_ge n k with h1 | h1
    · have : k = n + 1 := by omega
      rw [this]
    · have e := pl_stay h n h1
      show (bif plE s X n == 0 then _ else plE s X n) = _
      rw [e, h]; rfl
theorem cls_no {X : Nat → Int} {i : Nat} (h : ∀ j, j < i → X j ≠ X i) : clsB X i = false := by
  unfold clsB
  rw [List.any_eq_false]
  intro j hj
  have := h j (List.mem_range.1 hj)
  simpa using this
theorem cls_yes {X : Nat → Int} {i j : Nat} (hj : j < i) (h : X j = X i) : clsB X i = true := by
  unfold clsB
  rw [List.any_eq_true]
  exact ⟨j, List.mem_range.2 hj, by simpa using h⟩
theorem pl_good {s : Int → Bool} {X : Nat → Int} : ∀ {n : Nat}, plE s X n = 0 → ∀ i, i < n → s (X i) = true ∧ clsB X i = false
  | 0, _, i, hi => absurd hi (Nat.not_lt_zero _)
  | n + 1, h, i, hi => by
    cases h1 : plE s X n == 0 with
    | false => rw [pl_stay h1 (n + 1) (by omega)] at h; rw [h] at h1; cases h1
    | true =>
      have h2 : plE s X n = 0 := by simpa using h1
      rcases Nat.lt_succ_iff_lt_or_eq.1 hi with h3 | rfl
      · exact pl_good h2 i h3
      · have h4 : (bif plE s X i == 0 then (bif s (X i) then (bif clsB X i then (7 : Int) else 0) else 1) else plE s X i) = 0 := h
        rw [h1] at h4
        cases h5 : s (X i) with
        | false => rw [h5] at h4; cases h4
        | true =>
          rw [h5] at h4
          cases h6 : clsB X i with
          | false => exact ⟨rfl, rfl⟩
          | true => rw [h6] at h4; cases h4
/-- Places without a fault are unlike modulo 1013. -/
theorem pl_dist {s : Int → Bool} {X : Nat → Int} {n : Nat} (hs : ∀ m, s m = true → 1 ≤ m ∧ m < 1013) (h : plE s X n = 0) : Dist (xq X) n := by
  have key : ∀ j k, j < n → k < n → j < k → xq X j ≠ xq X k := by
    intro j k hj hk hlt e
    have h1 := zq_inj e
    have h2 := hs _ (pl_good h j hj).1
    have h3 := hs _ (pl_good h k hk).1
    have h4 := (pl_good h k hk).2
    rw [cls_yes hlt (by omega)] at h4
    cases h4
  intro j k hj hk e
  rcases Nat.lt_trichotomy j k with h1 | h1 | h1
  · exact absurd e (key j k hj hk h1)
  · exact h1
  · exact absurd e.symm (key k j hk hj h1)
end Go.Proofs.Ytmijjjdedadklag
