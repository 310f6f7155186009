/- Seals that close a deal, apart from the program. The second base stands behind names that nothing reckons out. -/
import Derived.Test.YtmijjjdedadklajHideMath
import Derived.Test.YtmijjjdedadklajBookMath
import Derived.Test.YtmijjjdedadklajSealMath
namespace Go.Proofs.Ytmijjjdedadklaj
set_option linter.unusedVariables false
set_option linter.unusedSimpArgs false
/-- So many times the second base: 4 * clR k times (3, 156). -/
def clR (k : Nat) : Nat := h2N * k
theorem clR_is (k : Nat) : clR k = h2N * k := by unfold clR; rfl
/-- A closing seal's number. -/
def clS (r k a : Nat) : Nat := (k + baN (4 * clR k) a * r) % 1013
theorem clS_lt (r k a : Nat) : clS r k a < 1013 := Nat.mod_lt _ (by omega)
/-- Is a deal closed as it should be? S times Second is R, and the challenge times the excess. -/
def closedB (h a x s : Nat) : Bool := sameS (tM (4 * h * s)) (tM (a + 4 * x * baN a (4 * x)))
def closeB (a x s : Nat) : Bool := closedB h2N a x s
theorem close_is (a x s : Nat) : closeB a x s = closedB h2N a x s := by unfold closeB; rfl
theorem close_iff (a x s : Nat) : closeB a x s = true ↔ tM (4 * clR s) = tM (a + 4 * x * baN a (4 * x)) := by
  rw [close_is, clR_is]
  unfold closedB
  rw [sameS_iff, Nat.mul_assoc]
/-- A deal that is closed by a number r holds just if the excess is r times the second base, or the challenge is 0. -/
theorem close_own (h r k x a b : Nat) (hh : h % 1013 ≠ 0) (hb : b < 1013) : (h * ((k + b * r) % 1013)) % 1013 = (h * k + x * b) % 1013 ↔ (x % 1013 = (h * r) % 1013 ∨ b = 0) := by
  have e1 : (h * ((k + b * r) % 1013)) % 1013 = (h * k + (h * r) * b) % 1013 := by
    rw [Nat.mul_mod, Nat.mod_mod, ← Nat.mul_mod]
    congr 1
    grind
  rw [e1]
  constructor
  · intro e
    by_cases h0 : b = 0
    · exact Or.inr h0
    · left
      have e2 : ((h * r) * b) % 1013 = (x * b) % 1013 := by omega
      obtain ⟨f, hf⟩ := turn_q (d := b) (by omega)
      have e3 : (h * r) * (b * f) % 1013 = x * (b * f) % 1013 := by
        rw [← Nat.mul_assoc, ← Nat.mul_assoc, Nat.mul_mod, e2, ← Nat.mul_mod]
      rw [Nat.mul_mod (h * r), hf, Nat.mul_mod x, hf] at e3
      omega
  · rintro (e | e)
    · have e2 : (x * b) % 1013 = ((h * r) * b) % 1013 := by rw [Nat.mul_mod, e, ← Nat.mul_mod]
      omega
    · subst e; simp
end Go.Proofs.Ytmijjjdedadklaj
