/- Texts as spots: what the rule gives. Apart from the program. -/
import Derived.Test.YtmijjjdedadklagLongMath
import Derived.Test.YtmijjjdedadklagTimesMath
import Derived.Test.YtmijjjdedadklagBytesMath
namespace Go.Proofs.Ytmijjjdedadklag
set_option linter.unusedSimpArgs false
set_option linter.unusedVariables false

/-- Which spot is at a place, if one is: so many times the one spot. -/
def atX (x k : Nat) : Bool := decide (tM k = (x, ltN x, false))
theorem atX_iff (x k : Nat) : atX x k = true ↔ tM k = (x, ltN x, false) := by unfold atX; exact decide_eq_true_iff
def kxN (x : Nat) : Nat := ((List.range 4052).find? (atX x)).getD 0
theorem kx_is {x : Nat} (h1 : x < 4051) (h : rtOk (sqI (x : Int)) = true) : tM (kxN x) = (x, ltN x, false) := by
  obtain ⟨k, hk, e⟩ := is_tN (lt_ok h1 h)
  unfold kxN
  have hx : atX x k = true := (atX_iff x k).2 (by rw [tM_lt hk, e])
  cases hf : (List.range 4052).find? (atX x) with
  | none =>
    rw [List.find?_eq_none] at hf
    exact absurd hx (hf k (List.mem_range.2 hk))
  | some j => exact (atX_iff x j).1 (List.find?_some hf)
/-- Does a spot that counts come of a place? -/
def fdN (x : Nat) : Bool := rtOk (sqI (x : Int)) && !(farI (kxN x * 4))
/-- The spot of a long number, from byte k on, so many bytes left. -/
def spF (n : Nat) : Nat → Nat → Nat
  | 0, _ => 4
  | m + 1, k => bif fdN (bhN n k % 4051) then kxN (bhN n k % 4051) * 4 else spF n m (k + 1)
def spN (n : Nat) : Nat := spF n 256 0
theorem spF_yes {n m k : Nat} (h : fdN (bhN n k % 4051) = true) : spF n (m + 1) k = kxN (bhN n k % 4051) * 4 := by
  show (bif _ then _ else _) = _; rw [h]; rfl
theorem spF_no {n m k : Nat} (h : fdN (bhN n k % 4051) = false) : spF n (m + 1) k = spF n m (k + 1) := by
  show (bif _ then _ else _) = _; rw [h]; rfl
theorem spF_good (n : Nat) : ∀ m k, farI (spF n m k) = false ∧ farI (spF n m k * 1013) = true
  | 0, k => by
    show farI 4 = false ∧ farI (4 * 1013) = true
    exact ⟨by rw [← Bool.not_eq_true, farI_iff]; omega, by rw [farI_iff]⟩
  | m + 1, k => by
    cases h : fdN (bhN n k % 4051) with
    | true =>
      rw [spF_yes h]
      refine ⟨?_, ?_⟩
      · unfold fdN at h; simp only [Bool.and_eq_true, Bool.not_eq_true'] at h; exact h.2
      · rw [farI_iff]; omega
    | false => rw [spF_no h]; exact spF_good n m (k + 1)
theorem sp_near (n : Nat) : farI (spN n) = false := (spF_good n 256 0).1
theorem sp_in (n : Nat) : farI (spN n * 1013) = true := (spF_good n 256 0).2
theorem sp_f (n : Nat) : (tM (spN n)).2.2 = false := by rw [tM_f]; exact sp_near n
end Go.Proofs.Ytmijjjdedadklag
