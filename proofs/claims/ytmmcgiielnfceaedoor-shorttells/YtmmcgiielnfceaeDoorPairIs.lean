/- What is told of any two spots: the fault, the number of both, the error. -/
import Derived.Test.YtmmcgiielnfceaeDoorRefPair
import Derived.Test.YtmmcgiielnfceaeDoorPairMany
import Derived.Test.YtmmcgiielnfceaeDoorTold
namespace Go.Proofs.YtmmcgiielnfceaeDoor
open Go.RowKit Go.Sort
set_option linter.unusedVariables false
set_option linter.unusedSimpArgs false
/-- What is told of two spots: the fault, the number, the error. -/
def TwoIs (p q : Value) (e : Int) (x : Int × Int) (v : Value) : Prop :=
  (∀ w, Calls Tryd.prog 10 #[p, q] w fun ex w' => ex = .returned (.int .i64 e) ∧ Below w.heap.size w w') ∧ (∀ w, Calls Tryd.prog 35 #[p, q] w fun ex w' => ex = .returned (.tuple #[.agg #[.int .i64 (x).1, .int .i64 (x).2], v]) ∧ Below w.heap.size w w') ∧
  ((e = 0 ∧ v = .nilIface ∧ ∀ w, Calls Tryd.prog 11 #[p, q] w fun ex w' => ex = .returned (.agg #[.int .i64 (x).1, .int .i64 (x).2]) ∧ Below w.heap.size w w') ∨ ((e == 0) = false ∧ v = errOf e ∧ x = (0, 0)))
theorem two_is (x1 y1 x2 y2 : Int) (f1 f2 : Bool) : ∃ e x v, TwoIs (.agg #[.int .i64 x1, .int .i64 y1, .bool f1]) (.agg #[.int .i64 x2, .int .i64 y2, .bool f2]) e x v := by
  cases h1 : ckI x1 y1 f1 == 0 with
  | false => exact ⟨_, (0, 0), _, fun w => rtwo_no1 x1 y1 x2 y2 f1 f2 w h1, fun w => pair_no1 x1 y1 x2 y2 f1 f2 w h1, Or.inr ⟨h1, rfl, rfl⟩⟩
  | true =>
    have h1' : ckI x1 y1 f1 = 0 := by simpa using h1
    cases h2 : ckI x2 y2 f2 == 0 with
    | false => exact ⟨_, (0, 0), _, fun w => rtwo_no2 x1 y1 x2 y2 f1 f2 w h1' h2, fun w => pair_no2 x1 y1 x2 y2 f1 f2 w h1' h2, Or.inr ⟨h2, rfl, rfl⟩⟩
    | true =>
      have h2' : ckI x2 y2 f2 = 0 := by simpa using h2
      obtain ⟨i, _, rfl, rfl, rfl⟩ := ckI_tN h1'
      obtain ⟨j, _, rfl, rfl, rfl⟩ := ckI_tN h2'
      cases h3 : farI (i * 1013) && farI (j * 1013) with
      | false =>
        refine ⟨3, (0, 0), _, fun w => ?_, fun w => pair_not i j w h3, Or.inr ⟨rfl, rfl, rfl⟩⟩
        have := rtwo_in i j w _ _ rfl rfl
        rw [h3] at this
        exact this
      | true =>
        have h4 := h3
        rw [Bool.and_eq_true] at h4
        obtain ⟨a, rfl⟩ := cnt_four h4.1
        obtain ⟨b, rfl⟩ := cnt_four h4.2
        refine ⟨0, tp gI (a * b), _, fun w => ?_, fun w => pair_tM a b w, Or.inl ⟨rfl, rfl, fun w => rpair_tM a b w⟩⟩
        have := rtwo_in (4 * a) (4 * b) w _ _ rfl rfl
        rw [h3] at this
        exact this
theorem told_self (e : Int) : (toldI (errOf e) == e) = true := by rw [toldI_err]; simp
theorem first_bad (ef : Nat → Int) : ∀ n, ∃ t, t ≤ n ∧ (∀ k, k < t → ef k = 0) ∧ (t = n ∨ (t < n ∧ (ef t == 0) = false))
  | 0 => ⟨0, Nat.le_refl _, fun k hk => absurd hk (Nat.not_lt_zero _), Or.inl rfl⟩
  | n + 1 => by
    obtain ⟨t, h1, h2, h3⟩ := first_bad ef n
    rcases h3 with rfl | ⟨h3, h4⟩
    · cases h : ef t == 0 with
      | false => exact ⟨t, by omega, h2, Or.inr ⟨by omega, h⟩⟩
      | true =>
        refine ⟨t + 1, by omega, fun k hk => ?_, Or.inl rfl⟩
        rcases Nat.lt_succ_iff_lt_or_eq.1 hk with h5 | rfl
        · exact h2 k h5
        · simpa using h
    · exact ⟨t, by omega, h2, Or.inr ⟨by omega, h4⟩⟩
end Go.Proofs.YtmmcgiielnfceaeDoor
