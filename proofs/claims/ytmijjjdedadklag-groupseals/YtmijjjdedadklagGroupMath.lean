/- Coefficients of keys, their sum, and the number of a seal of all that sign together. Apart from the program. -/
import Derived.Test.YtmijjjdedadklagSealMath
import Derived.Test.YtmijjjdedadklagSumMath
namespace Go.Proofs.Ytmijjjdedadklag
set_option linter.unusedSimpArgs false
set_option linter.unusedVariables false

/-- The bytes of so many spots. -/
def lsB (K : Nat → Nat) (n : Nat) : ByteArray := ⟨(lsL K n).toArray⟩
/-- The coefficient of one of them. -/
def cfN (K : Nat → Nat) (n i : Nat) : Nat := longN (lsB K n ++ pkB (tM (K i))) % 1013
theorem cfN_lt (K : Nat → Nat) (n i : Nat) : cfN K n i < 1013 := Nat.mod_lt _ (by omega)
theorem cfI (K : Nat → Nat) (n i : Nat) : ((longN (lsB K n ++ pkB (tM (K i))) : Nat) : Int) % 1013 = (cfN K n i : Int) := by unfold cfN; omega
theorem ls_size (K : Nat → Nat) {n : Nat} (h : n ≤ 12) : (lsB K n).size ≤ 37 := by
  have := rowL_le K n
  show (lsL K n).toArray.size ≤ 37
  rw [List.size_toArray]
  show (rowL K n).length + 1 ≤ 37
  omega
theorem cf_size (K : Nat → Nat) {n : Nat} (h : n ≤ 12) (i : Nat) : (lsB K n ++ pkB (tM (K i))).size ≤ 40 := by
  have h1 := ls_size K h
  have h2 := pkB_size (tM (K i))
  rw [ByteArray.size_append]
  omega
theorem rowL_congr {K J : Nat → Nat} : ∀ {n : Nat}, (∀ i, i < n → tM (K i) = tM (J i)) → rowL K n = rowL J n
  | 0, _ => rfl
  | n + 1, h => by rw [rowL_succ, rowL_succ, rowL_congr (fun i hi => h i (by omega)), h n (by omega)]
theorem cf_congr {K J : Nat → Nat} {n i : Nat} (h : ∀ i, i < n → tM (K i) = tM (J i)) (hi : i < n) : cfN K n i = cfN J n i := by
  unfold cfN lsB lsL
  rw [rowL_congr h, h i hi]
/-- So many spots together, each its coefficient times. -/
def jtN (K : Nat → Nat) (n : Nat) : Nat → Nat
  | 0 => 0
  | k + 1 => jtN K n k + K k * cfN K n k
/-- So many secrets together, each the coefficient of its key times. -/
def sxN (x : Nat → Nat) (n : Nat) : Nat → Nat
  | 0 => 0
  | k + 1 => sxN x n k + cfN (fun i => 4 * x i) n k * x k
theorem jt_four (x : Nat → Nat) (n : Nat) : ∀ k, jtN (fun i => 4 * x i) n k = 4 * sxN x n k
  | 0 => rfl
  | k + 1 => by
    show jtN (fun i => 4 * x i) n k + 4 * x k * cfN (fun i => 4 * x i) n k = 4 * (sxN x n k + cfN (fun i => 4 * x i) n k * x k)
    rw [jt_four x n k, Nat.mul_add, Nat.mul_assoc 4 (x k), Nat.mul_comm (x k)]
/-- The challenge of those that sign together. -/
def gaN (x z : Nat → Nat) (n : Nat) (t : ByteArray) : Nat := askN (4 * jsN z n) (jtN (fun i => 4 * x i) n n) t
theorem gaN_lt (x z : Nat → Nat) (n : Nat) (t : ByteArray) : gaN x z n t < 1013 := askN_lt _ _ _
/-- The number of their seal. -/
def gsN (x z : Nat → Nat) (n : Nat) (t : ByteArray) : Nat := (jsN z n + gaN x z n t * sxN x n n) % 1013
theorem gsN_lt (x z : Nat → Nat) (n : Nat) (t : ByteArray) : gsN x z n t < 1013 := Nat.mod_lt _ (by omega)
/-- What that number times the base is: R and the challenge times the joint key. -/
theorem gs_right (x z : Nat → Nat) (n : Nat) (t : ByteArray) : tM (4 * gsN x z n t) = tM (4 * jsN z n + jtN (fun i => 4 * x i) n n * gaN x z n t) := by
  rw [show 4 * jsN z n + jtN (fun i => 4 * x i) n n * gaN x z n t = 4 * (jsN z n + gaN x z n t * sxN x n n) by
    rw [jt_four, Nat.mul_add, Nat.mul_assoc 4, Nat.mul_comm (sxN x n n)]]
  exact t4_congr (by unfold gsN; omega)
theorem gs_wrong (x z : Nat → Nat) (n : Nat) (t : ByteArray) {m : Nat} (h : m % 1013 ≠ gsN x z n t) : tM (4 * m) ≠ tM (4 * jsN z n + jtN (fun i => 4 * x i) n n * gaN x z n t) := by
  rw [← gs_right]
  intro e
  have := (t4_iff _ _).1 e
  have h2 := gsN_lt x z n t
  omega
theorem js_bd {z : Nat → Nat} : ∀ {n : Nat}, (∀ i, i < n → z i < 1013) → jsN z n ≤ 1013 * n
  | 0, _ => Nat.le_refl _
  | n + 1, h => by
    have h1 := js_bd (n := n) fun i hi => h i (by omega)
    have h2 := h n (by omega)
    show jsN z n + z n ≤ _
    omega
/-- The sum as it is reckoned one by one: each product modulo 1013. -/
def smN (x : Nat → Nat) (n : Nat) : Nat → Nat
  | 0 => 0
  | k + 1 => smN x n k + cfN (fun i => 4 * x i) n k * x k % 1013
theorem sm_mod (x : Nat → Nat) (n : Nat) : ∀ k, smN x n k % 1013 = sxN x n k % 1013
  | 0 => rfl
  | k + 1 => by
    have := sm_mod x n k
    show (smN x n k + cfN (fun i => 4 * x i) n k * x k % 1013) % 1013 = (sxN x n k + cfN (fun i => 4 * x i) n k * x k) % 1013
    omega
theorem sm_bd (x : Nat → Nat) (n : Nat) : ∀ k, smN x n k ≤ 1013 * k
  | 0 => Nat.le_refl _
  | k + 1 => by
    have h1 := sm_bd x n k
    have h2 := Nat.mod_lt (cfN (fun i => 4 * x i) n k * x k) (show 1013 > 0 by omega)
    show smN x n k + cfN (fun i => 4 * x i) n k * x k % 1013 ≤ _
    omega
theorem gs_sm (x z : Nat → Nat) (n : Nat) (t : ByteArray) : (jsN z n + gaN x z n t * smN x n n) % 1013 = gsN x z n t := by
  unfold gsN
  rw [Nat.add_mod, Nat.mul_mod, sm_mod, ← Nat.mul_mod, ← Nat.add_mod]
end Go.Proofs.Ytmijjjdedadklag
