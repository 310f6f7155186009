/- What the plain reckoning of seals (stoneref2: Secret, Rest, By, Ask, Sign, Seal, Right; stoneref1.Sum) answers. -/
import Derived.Test.YtmmcgiielnfceaeDoorMathAll
import Derived.Test.YtmmcgiielnfceaeDoorRefTimes
import Derived.Test.YtmmcgiielnfceaeDoorRefBytes
import Derived.Test.YtmmcgiielnfceaeDoorRefHash
import Derived.Deep.RegionHeld3
import Derived.Deep.CutRange
namespace Go.Proofs.YtmmcgiielnfceaeDoor
open Go.RowKit Go.Sort
set_option linter.unusedVariables false
set_option linter.unusedSimpArgs false
/-- May a number be a secret? -/
def secB (n : Int) : Bool := decide (1 ≤ n ∧ n < 1013)
def resB (n : Int) : Bool := decide (0 ≤ n ∧ n < 1013)
theorem rb_lt {W w1 : World} (hb : Below W.heap.size W w1) : ∀ b, b < W.heap.size → b < w1.heap.size := fun b h => Nat.lt_of_lt_of_le h hb.size
theorem rb_ne {W w1 : World} (hb : Below W.heap.size W w1) : ∀ b, b < W.heap.size → (b = w1.heap.size) = False := fun b h => eq_false (Nat.ne_of_lt (rb_lt hb b h))
theorem rb_ne2 {W w1 : World} (hb : Below W.heap.size W w1) : ∀ b, b < W.heap.size → (w1.heap.size = b) = False := fun b h => eq_false (Nat.ne_of_gt (rb_lt hb b h))
theorem rsecret (n : Int) (w : World) : Calls Tryd.prog 4 #[.int .i64 n] w fun e w' => e = .returned (.bool (secB n)) ∧ Below w.heap.size w w' := by
  by_cases h : n ≥ 1
  · by_cases h2 : n < 1013
    · rw [show secB n = true from decide_eq_true ⟨h, h2⟩]
      go_enter Tryd.func4, Tryd.ntmps4
      go_wp2_with fail
      go_ret
      exact ⟨rfl, by repeat (first | (with_reducible exact Below.refl _ _) | (with_reducible assumption) | (with_reducible refine Below.setCell ?_ (by first | (simp; done) | (simp; omega) | omega) _) | (with_reducible refine Below.alloc ?_ (by first | (simp; done) | (simp; omega) | omega) _) | (refine bl_call ?_ (by assumption) (by first | (simp; done) | (simp; omega) | omega)) | (with_reducible refine bl_drewN ?_) | (with_reducible refine Below.drew ?_) | (with_reducible refine bl_grow ?_ (by first | (simp; done) | (simp; omega) | omega)))⟩
    · rw [show secB n = false from decide_eq_false fun k => h2 k.2]
      go_enter Tryd.func4, Tryd.ntmps4
      go_wp2_with fail
      go_ret
      exact ⟨rfl, by repeat (first | (with_reducible exact Below.refl _ _) | (with_reducible assumption) | (with_reducible refine Below.setCell ?_ (by first | (simp; done) | (simp; omega) | omega) _) | (with_reducible refine Below.alloc ?_ (by first | (simp; done) | (simp; omega) | omega) _) | (refine bl_call ?_ (by assumption) (by first | (simp; done) | (simp; omega) | omega)) | (with_reducible refine bl_drewN ?_) | (with_reducible refine Below.drew ?_) | (with_reducible refine bl_grow ?_ (by first | (simp; done) | (simp; omega) | omega)))⟩
  · rw [show secB n = false from decide_eq_false fun k => h k.1]
    go_enter Tryd.func4, Tryd.ntmps4
    go_wp2_with fail
    go_ret
    exact ⟨rfl, by repeat (first | (with_reducible exact Below.refl _ _) | (with_reducible assumption) | (with_reducible refine Below.setCell ?_ (by first | (simp; done) | (simp; omega) | omega) _) | (with_reducible refine Below.alloc ?_ (by first | (simp; done) | (simp; omega) | omega) _) | (refine bl_call ?_ (by assumption) (by first | (simp; done) | (simp; omega) | omega)) | (with_reducible refine bl_drewN ?_) | (with_reducible refine Below.drew ?_) | (with_reducible refine bl_grow ?_ (by first | (simp; done) | (simp; omega) | omega)))⟩
theorem rbase_is (w : World) : Calls Tryd.prog 9 #[] w fun e w' => e = .returned (.agg #[.int .i64 ((tM 4).1 : Int), .int .i64 ((tM 4).2.1 : Int), .bool (tM 4).2.2]) ∧ Below w.heap.size w w' := by
  rw [show (tM 4).2.2 = false by rw [tM_f]; rfl]
  exact rbase_f w
end Go.Proofs.YtmmcgiielnfceaeDoor
