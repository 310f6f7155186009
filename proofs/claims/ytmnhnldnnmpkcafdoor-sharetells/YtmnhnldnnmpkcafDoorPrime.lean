/- What each function of package prime answers, for every number, in whatever memory; it writes nothing. -/
import Derived.Test.YtmnhnldnnmpkcafDoorChecked
import Derived.Test.YtmnhnldnnmpkcafDoorMath
import Derived.WalkKit
namespace Go.Proofs.YtmnhnldnnmpkcafDoor
open Go.RowKit

theorem tmod_or (n : Int) : n.tmod 4051 = fm n ∨ (n.tmod 4051 < 0 ∧ n.tmod 4051 + 4051 = fm n ∧ 0 < fm n) := by
  unfold fm
  by_cases h : 0 ≤ n
  · left; exact Int.tmod_eq_emod_of_nonneg h
  · have e : n.tmod 4051 = - ((-n) % 4051) := by
      rw [← Int.tmod_eq_emod_of_nonneg (by omega : 0 ≤ -n), Int.neg_tmod, Int.neg_neg]
    rw [e]; omega
theorem tmod_neg_lt {n : Int} (h : n.tmod 4051 < 0) : n.tmod 4051 + 4051 = fm n := by
  have := fm_lo n; rcases tmod_or n with h1 | h1 <;> omega
theorem tmod_pos {n : Int} (h : 0 ≤ n.tmod 4051) : n.tmod 4051 = fm n := by
  rcases tmod_or n with h1 | h1 <;> omega
theorem tmod_bd (n : Int) : -4051 < n.tmod 4051 ∧ n.tmod 4051 < 4051 := by
  have h2 := fm_lo n; have h3 := fm_hi n
  rcases tmod_or n with h1 | h1
  · rw [h1]; constructor <;> omega
  · obtain ⟨h4, h5, h6⟩ := h1; constructor <;> omega
theorem ret_int {k : IntKind} {a b : Int} (h : a = b) : Ending.returned (.int k a) = .returned (.int k b) := by rw [h]

theorem ret2_int {k : IntKind} {a b : Int} {v : Value} (h : a = b) : Ending.returned (.tuple #[.int k a, v]) = .returned (.tuple #[.int k b, v]) := by rw [h]
theorem mul_bd {x y : Int} (h1 : 0 ≤ x) (h2 : x ≤ 4050) (h3 : 0 ≤ y) (h4 : y ≤ 4050) : 0 ≤ x * y ∧ x * y ≤ 16402500 := by
  refine ⟨Int.mul_nonneg h1 h3, ?_⟩
  have := Int.mul_le_mul h2 h4 h3 (by omega : (0 : Int) ≤ 4050)
  omega

/-- A step of the loop, where the number is odd. -/
theorem step_odd {a p s k : Int} {N : Nat} (h0 : 0 < k) (h1 : k % 2 = 1) (h : fm (p * s ^ k.toNat) = fpow a N) :
    fm (fm (p * s) * fm (s * s) ^ (k / 2).toNat) = fpow a N := by
  rw [← h]
  have e : k.toNat = 1 + 2 * (k / 2).toNat := by omega
  rw [e, pow_add, ← pow_dbl, show s ^ 1 = s by rw [Int.pow_succ, Int.pow_zero, Int.one_mul], ← Int.mul_assoc]
  exact fm_mul_congr (fm_fm _) (fm_pow _ _)
theorem step_even {a p s k : Int} {N : Nat} (h0 : 0 < k) (h1 : k % 2 = 0) (h : fm (p * s ^ k.toNat) = fpow a N) :
    fm (p * fm (s * s) ^ (k / 2).toNat) = fpow a N := by
  rw [← h]
  have e : k.toNat = 2 * (k / 2).toNat := by omega
  rw [e, ← pow_dbl]
  exact fm_mul_congr rfl (fm_pow _ _)

/-- What an error that is made of a number of package api is. -/
abbrev errOf (n : Int) : Value := .iface 42 (.int .i64 n)
end Go.Proofs.YtmnhnldnnmpkcafDoor
