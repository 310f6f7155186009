/- Pairs as numbers modulo 1013: powers of the pair of the base and itself are the same just if both numbers are, modulo 1013. Nothing of the program stands in here. -/
import Derived.Test.YtmijjjdedadklaePairEnd
import Derived.Test.YtmijjjdedadklaeT4Math
import Derived.Test.YtmijjjdedadklaeShareMath
namespace Go.Proofs.Ytmijjjdedadklae
set_option linter.unusedVariables false
set_option linter.unusedSimpArgs false

theorem gI_ne : gI ≠ (1, 0) := by decide
/-- Each number that is not 0 modulo 1013 has one by which it is 1. -/
theorem q_turn {d : Nat} (h : d % 1013 ≠ 0) : ∃ e, (d * e) % 1013 = 1 := by
  have hd : Fin.ofNat 1013 d ≠ (0 : QF) := by
    intro e
    have := congrArg Fin.val e
    exact h this
  have h1 := congrArg Fin.val (iv_mul hd)
  rw [Fin.val_mul] at h1
  refine ⟨(ivq (Fin.ofNat 1013 d)).val, ?_⟩
  have h2 : (d % 1013) * (ivq (Fin.ofNat 1013 d)).val % 1013 = 1 := h1
  rwa [Nat.mul_mod, Nat.mod_mod, ← Nat.mul_mod] at h2
theorem gI_pow_ne {d : Nat} (h : d % 1013 ≠ 0) : tp gI d ≠ (1, 0) := by
  intro e
  obtain ⟨k, hk⟩ := q_turn h
  have h1 : tp (tp gI d) k = (1, 0) := by rw [e, tp_one]
  rw [tp_mulexp, gI_congr (n := 1) hk] at h1
  exact absurd h1 (by decide +kernel)
/-- Powers of the pair of the base and itself. -/
theorem gI_iff (m n : Nat) : tp gI m = tp gI n ↔ m % 1013 = n % 1013 := by
  constructor
  · intro h
    by_cases hd : m % 1013 = n % 1013
    · exact hd
    exfalso
    have e : (m + (1013 - n % 1013)) % 1013 ≠ 0 := by omega
    have h1 : tp gI (m + (1013 - n % 1013)) = (1, 0) := by
      rw [← tp_add, h, tp_add, gI_congr (n := 0) (by omega), tp_zero]
    exact gI_pow_ne e h1
  · exact gI_congr
end Go.Proofs.Ytmijjjdedadklae
