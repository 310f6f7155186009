/- What the plain reckoning of the statements (stoneref1: Mod, Turn, Power, Root) answers; it writes nothing. -/
import Derived.Test.YtmijjjdedadklagPrime
import Derived.Test.YtmijjjdedadklagRefMath
namespace Go.Proofs.Ytmijjjdedadklag
open Go.RowKit

theorem tmod_or' (n m : Int) (hm : 0 < m) : n.tmod m = n % m ∨ (n.tmod m < 0 ∧ n.tmod m + m = n % m ∧ 0 < n % m) := by
  by_cases h : 0 ≤ n
  · left; exact Int.tmod_eq_emod_of_nonneg h
  · have e : n.tmod m = - ((-n) % m) := by
      rw [← Int.tmod_eq_emod_of_nonneg (by omega : 0 ≤ -n), Int.neg_tmod, Int.neg_neg]
    have h1 := Int.emod_nonneg (-n) (by omega : m ≠ 0)
    have h2 := Int.emod_lt_of_pos (-n) hm
    have h3 := Int.emod_nonneg n (by omega : m ≠ 0)
    have h4 := Int.emod_lt_of_pos n hm
    have h5 : (n % m + (-n) % m) % m = 0 := by
      rw [← Int.add_emod, Int.add_right_neg, Int.zero_emod]
    rw [e]
    by_cases h6 : (-n) % m = 0
    · rw [h6, Int.add_zero, Int.emod_emod_of_dvd _ (Int.dvd_refl m)] at h5
      left; omega
    · right
      have h7 : n % m + (-n) % m = m := by
        rcases Int.lt_or_le (n % m + (-n) % m) m with h8 | h8
        · rw [Int.emod_eq_of_lt (by omega) h8] at h5; omega
        · have h9 : (n % m + (-n) % m - m) % m = 0 := by rw [Int.sub_emod_right]; exact h5
          rw [Int.emod_eq_of_lt (by omega) (by omega)] at h9; omega
      omega
theorem tmod_bd' (n m : Int) (hm : 0 < m) : -m < n.tmod m ∧ n.tmod m < m := by
  have h2 := Int.emod_nonneg n (by omega : m ≠ 0); have h3 := Int.emod_lt_of_pos n hm
  rcases tmod_or' n m hm with h1 | h1
  · rw [h1]; constructor <;> omega
  · obtain ⟨h4, h5, h6⟩ := h1; constructor <;> omega
end Go.Proofs.Ytmijjjdedadklag
