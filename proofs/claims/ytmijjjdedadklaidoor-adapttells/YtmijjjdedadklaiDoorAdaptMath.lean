/- Seals that lack a secret, as numbers modulo 1013. Apart from the program. -/
import Derived.Test.YtmijjjdedadklaiDoorSealMath
namespace Go.Proofs.YtmijjjdedadklaiDoor
set_option linter.unusedSimpArgs false
set_option linter.unusedVariables false

/-- The number of a seal that lacks a secret: its spot is so many times the base, and one more. -/
def apN (x k j : Nat) (t : ByteArray) : Nat := (k + askN (4 * k + j) (4 * x) t * x) % 1013
theorem apN_lt (x k j : Nat) (t : ByteArray) : apN x k j t < 1013 := Nat.mod_lt _ (by omega)
theorem apI (x k j : Nat) (t : ByteArray) : ((k : Int) + (askN (4 * k + j) (4 * x) t : Int) * (x : Int)) % 1013 = (apN x k j t : Int) := by
  unfold apN
  rw [Int.natCast_emod, Int.natCast_add, Int.natCast_mul]
  rfl
/-- It is right as such: with the spot that it lacks. -/
theorem ap_right (x k j : Nat) (t : ByteArray) : tM (4 * apN x k j t + j) = tM (4 * k + j + 4 * x * askN (4 * k + j) (4 * x) t) := by
  rw [← tM_add, show 4 * k + j + 4 * x * askN (4 * k + j) (4 * x) t = 4 * (k + askN (4 * k + j) (4 * x) t * x) + j by
    rw [Nat.mul_add, Nat.mul_assoc 4 x, Nat.mul_comm x]; omega, ← tM_add (4 * (k + askN (4 * k + j) (4 * x) t * x))]
  rw [t4_congr (show apN x k j t % 1013 = (k + askN (4 * k + j) (4 * x) t * x) % 1013 by unfold apN; omega)]
/-- Filled with a number: right just if it is that of the spot. -/
theorem ap_fill (x k n m : Nat) (t : ByteArray) (hn : n < 1013) (hm : m < 1013) : tM (4 * ((apN x k (4 * n) t + m) % 1013)) = tM (4 * k + 4 * n + 4 * x * askN (4 * k + 4 * n) (4 * x) t) ↔ m = n := by
  rw [← ap_right, ← Nat.mul_add, t4_iff]
  omega
/-- What undoes it: the secret of one and the other. -/
def afN (s p : Nat) : Nat := (s + (1013 - p)) % 1013
theorem afN_lt (s p : Nat) : afN s p < 1013 := Nat.mod_lt _ (by omega)
theorem af_int {s p : Nat} (hp : p < 1013) : ((s : Int) - (p : Int)) % 1013 = (afN s p : Int) := by unfold afN; omega
theorem af_fill {p n : Nat} (hp : p < 1013) (hn : n < 1013) : afN ((p + n) % 1013) p = n := by unfold afN; omega
theorem af_self {p : Nat} (hp : p < 1013) : afN p p = 0 := by unfold afN; omega
end Go.Proofs.YtmijjjdedadklaiDoor
