/- The contracts of package twin with what they answer said otherwise, and of prime in the form of the others. -/
import Derived.Test.YtmijjjdedadklagTwin
import Derived.Test.YtmijjjdedadklagMem
namespace Go.Proofs.Ytmijjjdedadklag
open Go.RowKit Go.Sort

theorem tmul_eq {x y z : Int × Int} (h : tm x y = z) (w : World) :
    Calls Try.prog 97 #[.agg #[.int .i64 x.1, .int .i64 x.2], .agg #[.int .i64 y.1, .int .i64 y.2]] w fun e w' => e = .returned (.agg #[.int .i64 z.1, .int .i64 z.2]) ∧ Below w.heap.size w w' := by
  rw [← h]; exact tmul_any x y w
theorem tof_eq {x z : Int × Int} (h : cf x = z) (w : World) :
    Calls Try.prog 98 #[.agg #[.int .i64 x.1, .int .i64 x.2]] w fun e w' => e = .returned (.agg #[.int .i64 z.1, .int .i64 z.2]) ∧ Below w.heap.size w w' := by
  rw [← h]; exact tof_any x w
theorem tpow_eq {x z : Int × Int} {n : Int} (h : tp x n.toNat = z) (w : World) (hn : 0 ≤ n) (hm : n ≤ 9223372036854775807) :
    Calls Try.prog 90 #[.agg #[.int .i64 x.1, .int .i64 x.2], .int .i64 n] w fun e w' => e = .returned (.tuple #[.agg #[.int .i64 z.1, .int .i64 z.2], .nilIface]) ∧ Below w.heap.size w w' := by
  rw [← h]; exact tpow_yes x n w hn hm
/-! The laws of the greater field. -/
theorem t_distr (x y z : Int × Int) : tm x (ta y z) = ta (tm x y) (tm x z) := by
  unfold tm ta cf cm
  simp only [Prod.mk.injEq]
  refine ⟨?_, ?_⟩
  · rw [fm_add, ← fm_sub, fm_mul_r, fm_mul_r, fm_sub]; congr 1; grind
  · rw [fm_add, ← fm_add, fm_mul_r, fm_mul_r, fm_add]; congr 1; grind
theorem t_norm (x y : Int × Int) : tn (tm x y) = fm (tn x * tn y) := by
  unfold tn tm cf cm
  simp only
  rw [← fm_add, fm_mul, fm_mul, fm_add, fm_mul]; congr 1; grind
theorem t_conj (x : Int × Int) : tm x (tc x) = (tn x, 0) := by
  unfold tm tc tn cf cm
  simp only [Prod.mk.injEq]
  refine ⟨?_, ?_⟩
  · rw [← fm_sub, fm_mul_r, fm_mul_r, fm_sub]; congr 1; grind
  · rw [← fm_add, fm_mul_r, fm_mul_r, fm_add, show x.1 * (0 - x.2) + x.2 * x.1 = 0 by grind]; rfl
theorem t_frob (x : Int × Int) : tp x 4051 = tc x := frob x
theorem tn_fm (x : Int × Int) : fm (tn x) = tn x := fm_fm _
theorem tn_zero {x : Int × Int} (h : tn x = 0) : cf x = (0, 0) := by
  obtain ⟨h1, h2⟩ := norm_zero h
  unfold cf; rw [h1, h2]
theorem tn_of_cf {x : Int × Int} (h : cf x = (0, 0)) : tn x = 0 := by
  unfold cf at h; simp only [Prod.mk.injEq] at h
  unfold tn
  rw [← fm_add, ← fm_mul_l, h.1, ← fm_mul_l x.2, h.2, Int.zero_mul, Int.zero_mul]; rfl
theorem t_inv {x : Int × Int} (h : tn x ≠ 0) : tm x (ti x) = (1, 0) := by
  unfold ti
  rw [← tm_assoc, t_conj]
  have hi := fm_inv (a := tn x) (by rw [tn_fm]; exact h)
  generalize fpow (tn x) 4049 = t at *
  unfold tm cf cm
  simp only [Prod.mk.injEq]
  refine ⟨?_, by rw [Int.zero_mul, Int.mul_zero]; rfl⟩
  rw [Int.zero_mul, Int.sub_zero]; exact hi
end Go.Proofs.Ytmijjjdedadklag
