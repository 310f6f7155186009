/- Challenges around a ring of keys, as numbers modulo 1013. Apart from the program. -/
import Derived.Test.YtiddfngopoednaiDoorGroupMath
namespace Go.Proofs.YtiddfngopoednaiDoor
set_option linter.unusedSimpArgs false
set_option linter.unusedVariables false

/-- The challenge of so many keys, a spot and a text. -/
def raN (K : Nat → Nat) (n j : Nat) (t : ByteArray) : Nat := longN (lsB K n ++ pkB (tM j) ++ t) % 1013
theorem raN_lt (K : Nat → Nat) (n j : Nat) (t : ByteArray) : raN K n j t < 1013 := Nat.mod_lt _ (by omega)
theorem raI (K : Nat → Nat) (n j : Nat) (t : ByteArray) : ((longN (lsB K n ++ pkB (tM j) ++ t) : Nat) : Int) % 1013 = (raN K n j t : Int) := by unfold raN; omega
theorem ra_size (K : Nat → Nat) {n : Nat} (h : n ≤ 12) (j : Nat) {t : ByteArray} (ht : t.size ≤ 60) : (lsB K n ++ pkB (tM j) ++ t).size ≤ 100 := by
  have h1 := ls_size K h
  have h2 := pkB_size (tM j)
  rw [ByteArray.size_append, ByteArray.size_append]
  omega
theorem ra_congr {K J : Nat → Nat} {n i j : Nat} (h : ∀ i, i < n → tM (K i) = tM (J i)) (hij : tM i = tM j) (t : ByteArray) : raN K n i t = raN J n j t := by
  unfold raN lsB lsL
  rw [rowL_congr h, hij]
/-- The challenge behind the key at a place, of the one ahead of it and its answer. -/
def rnN (K : Nat → Nat) (n i c s : Nat) (t : ByteArray) : Nat := raN K n (4 * s + K i * c) t
theorem rnN_lt (K : Nat → Nat) (n i c s : Nat) (t : ByteArray) : rnN K n i c s t < 1013 := raN_lt _ _ _ _
/-- From a challenge on, key by key: behind so many. -/
def rcN (K S : Nat → Nat) (n : Nat) (t : ByteArray) (c0 : Nat) : Nat → Nat
  | 0 => c0
  | i + 1 => rnN K n i (rcN K S n t c0 i) (S i) t
theorem rcN_lt {K S : Nat → Nat} {n : Nat} {t : ByteArray} {c0 : Nat} (h : c0 < 1013) : ∀ i, rcN K S n t c0 i < 1013
  | 0 => h
  | _ + 1 => rnN_lt _ _ _ _ _ _
/-- Around from behind a place on: the challenge ahead of the j-th key behind it. -/
def rsN (K S : Nat → Nat) (n : Nat) (t : ByteArray) (a k : Nat) : Nat → Nat
  | 0 => raN K n (4 * k) t
  | j + 1 => rnN K n ((a + 1 + j) % n) (rsN K S n t a k j) (S ((a + 1 + j) % n)) t
theorem rsN_lt {K S : Nat → Nat} {n : Nat} {t : ByteArray} {a k : Nat} : ∀ j, rsN K S n t a k j < 1013
  | 0 => raN_lt _ _ _ _
  | _ + 1 => rnN_lt _ _ _ _ _ _
/-- The answer at the place of who signs, and all answers. -/
def rzN (K S : Nat → Nat) (n : Nat) (t : ByteArray) (a x k : Nat) : Nat := (k + (1013 - rsN K S n t a k (n - 1)) * x) % 1013
theorem rzN_lt (K S : Nat → Nat) (n : Nat) (t : ByteArray) (a x k : Nat) : rzN K S n t a x k < 1013 := Nat.mod_lt _ (by omega)
theorem rz_int {c x k : Nat} (hc : c < 1013) : ((k : Int) - (c : Int) * (x : Int)) % 1013 = (((k + (1013 - c) * x) % 1013 : Nat) : Int) := by
  have e : ((k + (1013 - c) * x : Nat) : Int) = (k : Int) - (c : Int) * (x : Int) + 1013 * (x : Int) := by
    rw [Int.natCast_add, Int.natCast_mul, Int.natCast_sub (by omega), Int.sub_mul]
    omega
  rw [Int.natCast_emod, e]
  show _ = ((k : Int) - (c : Int) * (x : Int) + 1013 * (x : Int)) % 1013
  omega
def rwN (K S : Nat → Nat) (n : Nat) (t : ByteArray) (a x k i : Nat) : Nat := bif Nat.beq i a then rzN K S n t a x k else S i
theorem rw_at (K S : Nat → Nat) (n : Nat) (t : ByteArray) (a x k : Nat) : rwN K S n t a x k a = rzN K S n t a x k := by unfold rwN; rw [Nat.beq_refl]; rfl
theorem rw_ne (K S : Nat → Nat) (n : Nat) (t : ByteArray) {a i : Nat} (x k : Nat) (h : i ≠ a) : rwN K S n t a x k i = S i := by
  unfold rwN
  have : Nat.beq i a = false := by
    cases hb : Nat.beq i a with
    | false => rfl
    | true => exact absurd (Nat.eq_of_beq_eq_true hb) h
  rw [this]; rfl
/-- The challenge ahead of the first key. -/
def r0N (K S : Nat → Nat) (n : Nat) (t : ByteArray) (a k : Nat) : Nat := rsN K S n t a k (n - 1 - a)
theorem r0N_lt (K S : Nat → Nat) (n : Nat) (t : ByteArray) (a k : Nat) : r0N K S n t a k < 1013 := rsN_lt _
/-- What is asked at the place itself: who has the number of the key comes to where the ring began. -/
theorem rz_back {c x k : Nat} (hc : c < 1013) : tM (4 * ((k + (1013 - c) * x) % 1013) + 4 * x * c) = tM (4 * k) := by
  have e : 4 * ((k + (1013 - c) * x) % 1013) + 4 * x * c = 4 * ((k + (1013 - c) * x) % 1013 + x * c) := by
    rw [Nat.mul_add, Nat.mul_assoc]
  rw [e]
  apply t4_congr
  have e2 : k + (1013 - c) * x + x * c = k + 1013 * x := by
    rw [Nat.mul_comm x c, Nat.add_assoc, ← Nat.add_mul, show 1013 - c + c = 1013 by omega]
  omega
theorem rc_first {K S : Nat → Nat} {n : Nat} {t : ByteArray} {a x k : Nat} (ha : a < n) : ∀ i, i ≤ a → rcN K (rwN K S n t a x k) n t (r0N K S n t a k) i = rsN K S n t a k (n - 1 - a + i)
  | 0, _ => rfl
  | i + 1, h => by
    have ih := rc_first (K := K) (S := S) (t := t) (x := x) (k := k) ha i (by omega)
    show rnN K n i (rcN K (rwN K S n t a x k) n t (r0N K S n t a k) i) (rwN K S n t a x k i) t = rnN K n ((a + 1 + (n - 1 - a + i)) % n) (rsN K S n t a k (n - 1 - a + i)) (S ((a + 1 + (n - 1 - a + i)) % n)) t
    rw [ih, rw_ne K S n t x k (by omega), show a + 1 + (n - 1 - a + i) = i + n by omega, Nat.add_mod_right, Nat.mod_eq_of_lt (show i < n by omega)]
theorem rc_at {K S : Nat → Nat} {n : Nat} {t : ByteArray} {a x k : Nat} (ha : a < n) (hK : tM (K a) = tM (4 * x)) : rcN K (rwN K S n t a x k) n t (r0N K S n t a k) (a + 1) = rsN K S n t a k 0 := by
  show rnN K n a (rcN K (rwN K S n t a x k) n t (r0N K S n t a k) a) (rwN K S n t a x k a) t = raN K n (4 * k) t
  rw [rc_first ha a (Nat.le_refl _), rw_at, show n - 1 - a + a = n - 1 by omega]
  unfold rnN rzN
  apply ra_congr (fun _ _ => rfl)
  have hc := rsN_lt (K := K) (S := S) (n := n) (t := t) (a := a) (k := k) (n - 1)
  rw [← rz_back (x := x) (k := k) hc]
  apply tM_congr
  rw [Nat.add_mod, Nat.mul_mod (K a), tM_inj hK, ← Nat.mul_mod, ← Nat.add_mod]
theorem rc_rest {K S : Nat → Nat} {n : Nat} {t : ByteArray} {a x k : Nat} (ha : a < n) (hK : tM (K a) = tM (4 * x)) : ∀ j, a + 1 + j ≤ n → rcN K (rwN K S n t a x k) n t (r0N K S n t a k) (a + 1 + j) = rsN K S n t a k j
  | 0, _ => rc_at ha hK
  | j + 1, h => by
    have ih := rc_rest (S := S) (t := t) (k := k) ha hK j (by omega)
    show rnN K n (a + 1 + j) (rcN K (rwN K S n t a x k) n t (r0N K S n t a k) (a + 1 + j)) (rwN K S n t a x k (a + 1 + j)) t = rnN K n ((a + 1 + j) % n) (rsN K S n t a k j) (S ((a + 1 + j) % n)) t
    rw [ih, rw_ne K S n t x k (by omega), Nat.mod_eq_of_lt (show a + 1 + j < n by omega)]
/-- What is sealed by one of them comes around. -/
theorem rc_right {K S : Nat → Nat} {n : Nat} {t : ByteArray} {a x k : Nat} (ha : a < n) (hK : tM (K a) = tM (4 * x)) : rcN K (rwN K S n t a x k) n t (r0N K S n t a k) n = r0N K S n t a k := by
  have := rc_rest (S := S) (t := t) (k := k) ha hK (n - 1 - a) (by omega)
  rw [show a + 1 + (n - 1 - a) = n by omega] at this
  exact this
end Go.Proofs.YtiddfngopoednaiDoor
