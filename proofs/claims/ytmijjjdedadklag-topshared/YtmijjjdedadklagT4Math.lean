/- Spots that count as numbers modulo 1013: so many times the base is so many times the base just if both are the same modulo 1013. Nothing of the program stands in here. -/
import Derived.Test.YtmijjjdedadklagCurveIdx
namespace Go.Proofs.Ytmijjjdedadklag
set_option linter.unusedVariables false
set_option linter.unusedSimpArgs false

theorem tM_inj {j k : Nat} (h : tM j = tM k) : j % 4052 = k % 4052 := by
  rw [tM_N j, tM_N k] at h
  exact tN_inj (Nat.mod_lt _ (by omega)) (Nat.mod_lt _ (by omega)) h
theorem t4_iff (a b : Nat) : tM (4 * a) = tM (4 * b) ↔ a % 1013 = b % 1013 := by
  constructor
  · intro h; have := tM_inj h; omega
  · intro h; exact tM_congr (by omega)
theorem t4_congr {a b : Nat} (h : a % 1013 = b % 1013) : tM (4 * a) = tM (4 * b) := (t4_iff a b).2 h
end Go.Proofs.Ytmijjjdedadklag
