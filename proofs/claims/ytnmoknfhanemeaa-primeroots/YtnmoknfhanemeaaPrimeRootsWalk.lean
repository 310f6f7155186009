/- Proved: stonelaw4.PrimeRoots answers true for every int: of a number and its negative just one has a root, if it is not 0. No condition stands behind it. -/
import Derived.Test.YtnmoknfhanemeaaPrime
import Derived.BigQuiet
import Derived.RowKit3
namespace Go.Proofs.Ytnmoknfhanemeaa
open Go.RowKit
set_option linter.unusedVariables false

theorem four_ok : rtOk 4 = true := by rw [rtOk_nat]; decide +kernel
theorem four_two : rtMin 4 = 2 := by rw [rtMin_nat]; decide +kernel
theorem neg_ok {a : Int} (h : fm a = 0) : rtOk (fm (0 - a)) = true := by
  apply okZero; revert h; unfold fm; omega

theorem walkPrimeRoots (a0 : Int) (w0 : (Lit.int .i64 a0).wf = true) (w : World) :
    Calls Try.prog 5 #[.int .i64 a0] w fun e w' => e = .returned (.bool true) ∧ Grown w w' := by
  have h4 := four_ok
  have h42 := four_two
  clear w0
  by_cases hz : fm a0 = 0
  · have h1 := okZero hz
    have h2 := neg_ok hz
    rw [Int.zero_sub] at h2
    have hz' : (fm a0 == 0) = true := by rw [hz]; rfl
    clear hz
    go_enter Try.func5, Try.ntmps5
    go_wp2_with (first | (go_at_call 13; refine (sqrt_yes _ _ ?hok).mono ?_; (case hok => simp only [h1, h2, h4]); rintro e w' ⟨rfl, rfl⟩) | (go_at_call 10; refine (of_any _ _).mono ?_; rintro e w' ⟨rfl, rfl⟩) | (go_at_call 9; refine (sub_any _ _ _).mono ?_; rintro e w' ⟨rfl, rfl⟩))
    go_ret
    exact ⟨rfl, Grown.refl _⟩
  · have h2 := either hz
    rw [Int.zero_sub] at h2
    have hz' : (fm a0 == 0) = false := beq_eq_false_iff_ne.mpr hz
    clear hz
    cases h1 : rtOk a0
    all_goals
      simp only [h1, Bool.not_true, Bool.not_false] at h2
      go_enter Try.func5, Try.ntmps5
      go_wp2_with (first | (go_at_call 13; refine (sqrt_yes _ _ ?hok).mono ?_; (case hok => simp only [h1, h2, h4]); rintro e w' ⟨rfl, rfl⟩) | (go_at_call 13; refine (sqrt_no _ _ ?hok).mono ?_; (case hok => simp only [h1, h2]); rintro e w' ⟨rfl, rfl⟩) | (go_at_call 10; refine (of_any _ _).mono ?_; rintro e w' ⟨rfl, rfl⟩) | (go_at_call 9; refine (sub_any _ _ _).mono ?_; rintro e w' ⟨rfl, rfl⟩))
      go_quiet (fail)
      go_wp2_with fail
      go_ret
      exact ⟨rfl, by repeat (first | exact Grown.refl _ | apply Grown.drew | apply Grown.alloc)⟩
end Go.Proofs.Ytnmoknfhanemeaa
