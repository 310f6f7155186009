/- Challenges and seals as numbers modulo 1013. Apart from the program. -/
import Derived.Test.YtmijjjdedadklagBytesMath
import Derived.Test.YtmijjjdedadklagLongMath
import Derived.Test.YtmijjjdedadklagTimesMath
import Derived.Test.YtmijjjdedadklagT4Math
namespace Go.Proofs.Ytmijjjdedadklag
set_option linter.unusedSimpArgs false
set_option linter.unusedVariables false

/-- The challenge of two spots and a text. -/
def askN (i j : Nat) (t : ByteArray) : Nat := longN (pkB (tM i) ++ pkB (tM j) ++ t) % 1013
theorem askN_lt (i j : Nat) (t : ByteArray) : askN i j t < 1013 := Nat.mod_lt _ (by omega)
theorem askI (i j : Nat) (t : ByteArray) : ((longN (pkB (tM i) ++ pkB (tM j) ++ t) : Nat) : Int) % 1013 = (askN i j t : Int) := by unfold askN; omega
theorem askN_congr {i j i' j' : Nat} (h : tM i = tM i') (k : tM j = tM j') (t : ByteArray) : askN i j t = askN i' j' t := by unfold askN; rw [h, k]
theorem join_size (i j : Nat) {t : ByteArray} (h : t.size ≤ 60) : (pkB (tM i) ++ pkB (tM j) ++ t).size ≤ 66 := by
  have h1 := pkB_size (tM i)
  have h2 := pkB_size (tM j)
  rw [ByteArray.size_append, ByteArray.size_append]
  omega
/-- The number of a seal. -/
def sgN (x k : Nat) (t : ByteArray) : Nat := (k + askN (4 * k) (4 * x) t * x) % 1013
theorem sgN_lt (x k : Nat) (t : ByteArray) : sgN x k t < 1013 := Nat.mod_lt _ (by omega)
theorem sgI (x k : Nat) (t : ByteArray) : ((k : Int) + (askN (4 * k) (4 * x) t : Int) * (x : Int)) % 1013 = (sgN x k t : Int) := by
  unfold sgN
  rw [Int.natCast_emod, Int.natCast_add, Int.natCast_mul]
  rfl
theorem sg_bd {c x k : Nat} (h : c < 1013) (h1 : x < 1013) (h2 : k < 1013) : (c : Int) * (x : Int) ≤ 1100000 ∧ 0 ≤ (c : Int) * (x : Int) := by
  have h3 : c * x ≤ 1013 * 1013 := Nat.mul_le_mul (by omega) (by omega)
  have h4 : ((c * x : Nat) : Int) = (c : Int) * (x : Int) := Int.natCast_mul c x
  omega
/-- What a seal's number times the base is: R and the challenge times the key. -/
theorem sg_right (x k : Nat) (t : ByteArray) : tM (4 * sgN x k t) = tM (4 * k + 4 * x * askN (4 * k) (4 * x) t) := by
  rw [show 4 * k + 4 * x * askN (4 * k) (4 * x) t = 4 * (k + askN (4 * k) (4 * x) t * x) by
    rw [Nat.mul_add, Nat.mul_assoc 4 x, Nat.mul_comm x]]
  exact t4_congr (by unfold sgN; omega)
theorem sg_wrong (x k : Nat) (t : ByteArray) {n : Nat} (h : n % 1013 ≠ sgN x k t) : tM (4 * n) ≠ tM (4 * k + 4 * x * askN (4 * k) (4 * x) t) := by
  rw [← sg_right]
  intro e
  have := (t4_iff _ _).1 e
  have h2 := sgN_lt x k t
  omega
theorem em_nat {k : Nat} (h : k < 1013) : em (k : Int) = k := by unfold em; omega
/-- Are two spots the same, cell by cell? -/
def sameS (a b : Sn) : Bool := ((a.1 : Int) == (b.1 : Int)) && ((a.2.1 : Int) == (b.2.1 : Int)) && (a.2.2 == b.2.2)
theorem sameS_iff (a b : Sn) : sameS a b = true ↔ a = b := by
  obtain ⟨x, y, f⟩ := a
  obtain ⟨x', y', f'⟩ := b
  simp only [sameS, Bool.and_eq_true, beq_iff_eq, Prod.mk.injEq]
  constructor
  · rintro ⟨⟨h1, h2⟩, h3⟩; exact ⟨by omega, by omega, h3⟩
  · rintro ⟨h1, h2, h3⟩; exact ⟨⟨by omega, by omega⟩, h3⟩
theorem sameS_no {a b : Sn} (h : a ≠ b) : sameS a b = false := by
  cases hs : sameS a b with
  | false => rfl
  | true => exact absurd ((sameS_iff a b).1 hs) h
theorem sameS_yes {a b : Sn} (h : a = b) : sameS a b = true := (sameS_iff a b).2 h
end Go.Proofs.Ytmijjjdedadklag
