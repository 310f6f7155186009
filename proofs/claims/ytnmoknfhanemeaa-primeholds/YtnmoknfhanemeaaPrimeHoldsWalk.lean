/- Proved: stonelaw1.PrimeHolds answers true for every three ints: package prime is a field (sums and products in any order, one over the other; inverses; Fermat; Euler). No condition stands behind it. -/
import Derived.Test.YtnmoknfhanemeaaPrime
import Derived.BigQuiet
import Derived.RowKit3
namespace Go.Proofs.Ytnmoknfhanemeaa
open Go.RowKit
set_option linter.unusedVariables false

theorem c1 : fm 16402500 = 1 := by unfold fm; omega
theorem c2 : fm 4053 = 2 := by unfold fm; omega
theorem f1 (a b : Int) : (fm (a * b) == fm (b * a)) = true := by rw [Int.mul_comm]; simp
theorem f2 (a b c : Int) : (fm (fm (a * b) * c) == fm (a * fm (b * c))) = true := by rw [fm_mul_l, fm_mul_r, Int.mul_assoc]; simp
theorem f3 (a b : Int) : (fm (a + b) == fm (b + a)) = true := by rw [Int.add_comm]; simp
theorem f4 (a b c : Int) : (fm (a * fm (b + c)) == fm (fm (a * b) + fm (a * c))) = true := by rw [fm_mul_r, fm_add, Int.mul_add]; simp
theorem f5 (a b : Int) : (fm (fm (a + b) - b) == fm a) = true := by rw [fm_sub_l, Int.add_sub_cancel]; simp
theorem f6 {a b : Int} (ha : (fm a == 0) = false) (hb : (fm b == 0) = false) : (fm (a * b) == 0) = false := by
  rw [beq_eq_false_iff_ne] at *
  exact fun h => hb (fm_zero h ha)
theorem f7 {a : Int} (ha : (fm a == 0) = false) : fm (a * fpow a 4049) = 1 := fm_inv (beq_eq_false_iff_ne.mp ha)
theorem f8 {a : Int} (ha : (fm a == 0) = false) : fpow a 4050 = 1 := fermat (beq_eq_false_iff_ne.mp ha)
theorem f9 {a : Int} (h : rtOk a = true) : (fm (rtMin a * rtMin a) != fm a) = false := by rw [(least h).1]; simp
theorem f10 {a : Int} (h : rtOk a = true) : (fpow a 2025 != 4050) = true := by rw [euler] at h; exact h
theorem f11 {a : Int} (h : rtOk a = false) : (fpow a 2025 != 4050) = false := by rw [euler] at h; exact h
theorem f15 {a : Int} {b : Bool} (h : (fm a == 0) = b) : (fm a != 0) = !b := by rw [← h]; rfl
theorem f16 {a : Int} (ha : (fm a == 0) = false) : (fm (a * fpow a 4049) != 1) = false := by rw [f7 ha]; rfl
theorem f12 {a : Int} (h : rtOk a = false) : (fm a == 0) = false := by
  rw [beq_eq_false_iff_ne]; intro h0; rw [okZero h0] at h; exact absurd h (by decide)

theorem f13 {a b : Int} (h : (fm a == 0) = true) : (fm (a * b) == 0) = true := by
  rw [beq_iff_eq] at *; rw [← fm_mul_l, h, Int.zero_mul]; rfl
theorem f14 {a b : Int} (ha : (fm a == 0) = false) (hp : (fm (a * b) == 0) = true) : (fm b == 0) = true := by
  rw [beq_eq_false_iff_ne] at ha; rw [beq_iff_eq] at *; exact fm_zero hp ha

set_option maxRecDepth 100000 in
set_option maxHeartbeats 1000000 in
theorem holdsA (a0 : Int) (a1 : Int) (a2 : Int) (w : World) (ha : (fm a0 == 0) = true) :
    Calls Try.prog 4 #[.int .i64 a0, .int .i64 a1, .int .i64 a2] w fun e w' => e = .returned (.bool true) ∧ Grown w w' := by
  have g1 := c1; have g2 := c2
  have e1 := f1 a0 a1; have e2 := f2 a0 a1 a2; have e3 := f3 a0 a1; have e4 := f4 a0 a1 a2; have e5 := f5 a0 a1
  have hok := okZero (beq_iff_eq.mp ha)
  have ha' : (fm a0 != 0) = false := f15 ha
  have hp := f13 (b := a1) ha
  have e9 := f9 hok
  have e10 := f10 hok
  have e11 := (least hok).2.1; have e12 := (least hok).2.2
  go_enter Try.func4, Try.ntmps4
  go_wp2_with (first | (go_at_call 7; refine (mul_any _ _ _).mono ?_; rintro e w' ⟨rfl, rfl⟩) | (go_at_call 8; refine (add_any _ _ _).mono ?_; rintro e w' ⟨rfl, rfl⟩) | (go_at_call 9; refine (sub_any _ _ _).mono ?_; rintro e w' ⟨rfl, rfl⟩) | (go_at_call 10; refine (of_any _ _).mono ?_; rintro e w' ⟨rfl, rfl⟩) | (go_at_call 12; refine (pow_yes _ _ _ (by omega) (by omega)).mono ?_; rintro e w' ⟨rfl, rfl⟩) | (go_at_call 11; refine (inv_no _ _ ha).mono ?_; rintro e w' ⟨rfl, rfl⟩) | (go_at_call 13; refine (sqrt_yes _ _ hok).mono ?_; rintro e w' ⟨rfl, rfl⟩))
  go_quiet ((first | (go_at_call 7; exact Calls.quiet_of_same (mul_any _ _ _)) | (go_at_call 10; exact Calls.quiet_of_same (of_any _ _))))
  go_wp2_with (first | (go_at_call 7; refine (mul_any _ _ _).mono ?_; rintro e w' ⟨rfl, rfl⟩) | (go_at_call 8; refine (add_any _ _ _).mono ?_; rintro e w' ⟨rfl, rfl⟩) | (go_at_call 9; refine (sub_any _ _ _).mono ?_; rintro e w' ⟨rfl, rfl⟩) | (go_at_call 10; refine (of_any _ _).mono ?_; rintro e w' ⟨rfl, rfl⟩) | (go_at_call 12; refine (pow_yes _ _ _ (by omega) (by omega)).mono ?_; rintro e w' ⟨rfl, rfl⟩) | (go_at_call 11; refine (inv_no _ _ ha).mono ?_; rintro e w' ⟨rfl, rfl⟩) | (go_at_call 13; refine (sqrt_yes _ _ hok).mono ?_; rintro e w' ⟨rfl, rfl⟩))
  go_ret
  exact ⟨rfl, by repeat (first | exact Grown.refl _ | apply Grown.drew | apply Grown.alloc)⟩
set_option maxRecDepth 100000 in
set_option maxHeartbeats 1000000 in
theorem holdsB (a0 : Int) (a1 : Int) (a2 : Int) (w : World) (ha : (fm a0 == 0) = false) (hp : (fm (a0 * a1) == 0) = true) (hok : rtOk a0 = true) :
    Calls Try.prog 4 #[.int .i64 a0, .int .i64 a1, .int .i64 a2] w fun e w' => e = .returned (.bool true) ∧ Grown w w' := by
  have g1 := c1; have g2 := c2
  have e1 := f1 a0 a1; have e2 := f2 a0 a1 a2; have e3 := f3 a0 a1; have e4 := f4 a0 a1 a2; have e5 := f5 a0 a1
  have hb := f14 ha hp
  have e7 := f16 ha; have e8 := f8 ha
  have ha' : (fm a0 != 0) = true := f15 ha
  have e9 := f9 hok
  have e10 := f10 hok
  have e11 := (least hok).2.1; have e12 := (least hok).2.2
  go_enter Try.func4, Try.ntmps4
  go_wp2_with (first | (go_at_call 7; refine (mul_any _ _ _).mono ?_; rintro e w' ⟨rfl, rfl⟩) | (go_at_call 8; refine (add_any _ _ _).mono ?_; rintro e w' ⟨rfl, rfl⟩) | (go_at_call 9; refine (sub_any _ _ _).mono ?_; rintro e w' ⟨rfl, rfl⟩) | (go_at_call 10; refine (of_any _ _).mono ?_; rintro e w' ⟨rfl, rfl⟩) | (go_at_call 12; refine (pow_yes _ _ _ (by omega) (by omega)).mono ?_; rintro e w' ⟨rfl, rfl⟩) | (go_at_call 11; refine (inv_yes _ _ ha).mono ?_; rintro e w' ⟨rfl, rfl⟩) | (go_at_call 13; refine (sqrt_yes _ _ hok).mono ?_; rintro e w' ⟨rfl, rfl⟩))
  go_quiet ((first | (go_at_call 7; exact Calls.quiet_of_same (mul_any _ _ _)) | (go_at_call 10; exact Calls.quiet_of_same (of_any _ _))))
  go_wp2_with (first | (go_at_call 7; refine (mul_any _ _ _).mono ?_; rintro e w' ⟨rfl, rfl⟩) | (go_at_call 8; refine (add_any _ _ _).mono ?_; rintro e w' ⟨rfl, rfl⟩) | (go_at_call 9; refine (sub_any _ _ _).mono ?_; rintro e w' ⟨rfl, rfl⟩) | (go_at_call 10; refine (of_any _ _).mono ?_; rintro e w' ⟨rfl, rfl⟩) | (go_at_call 12; refine (pow_yes _ _ _ (by omega) (by omega)).mono ?_; rintro e w' ⟨rfl, rfl⟩) | (go_at_call 11; refine (inv_yes _ _ ha).mono ?_; rintro e w' ⟨rfl, rfl⟩) | (go_at_call 13; refine (sqrt_yes _ _ hok).mono ?_; rintro e w' ⟨rfl, rfl⟩))
  go_ret
  exact ⟨rfl, by repeat (first | exact Grown.refl _ | apply Grown.drew | apply Grown.alloc)⟩
set_option maxRecDepth 100000 in
set_option maxHeartbeats 1000000 in
theorem holdsC (a0 : Int) (a1 : Int) (a2 : Int) (w : World) (ha : (fm a0 == 0) = false) (hp : (fm (a0 * a1) == 0) = false) (hok : rtOk a0 = true) :
    Calls Try.prog 4 #[.int .i64 a0, .int .i64 a1, .int .i64 a2] w fun e w' => e = .returned (.bool true) ∧ Grown w w' := by
  have g1 := c1; have g2 := c2
  have e1 := f1 a0 a1; have e2 := f2 a0 a1 a2; have e3 := f3 a0 a1; have e4 := f4 a0 a1 a2; have e5 := f5 a0 a1
  have e7 := f16 ha; have e8 := f8 ha
  have ha' : (fm a0 != 0) = true := f15 ha
  have e9 := f9 hok
  have e10 := f10 hok
  have e11 := (least hok).2.1; have e12 := (least hok).2.2
  go_enter Try.func4, Try.ntmps4
  go_wp2_with (first | (go_at_call 7; refine (mul_any _ _ _).mono ?_; rintro e w' ⟨rfl, rfl⟩) | (go_at_call 8; refine (add_any _ _ _).mono ?_; rintro e w' ⟨rfl, rfl⟩) | (go_at_call 9; refine (sub_any _ _ _).mono ?_; rintro e w' ⟨rfl, rfl⟩) | (go_at_call 10; refine (of_any _ _).mono ?_; rintro e w' ⟨rfl, rfl⟩) | (go_at_call 12; refine (pow_yes _ _ _ (by omega) (by omega)).mono ?_; rintro e w' ⟨rfl, rfl⟩) | (go_at_call 11; refine (inv_yes _ _ ha).mono ?_; rintro e w' ⟨rfl, rfl⟩) | (go_at_call 13; refine (sqrt_yes _ _ hok).mono ?_; rintro e w' ⟨rfl, rfl⟩))
  go_quiet ((first | (go_at_call 7; exact Calls.quiet_of_same (mul_any _ _ _)) | (go_at_call 10; exact Calls.quiet_of_same (of_any _ _))))
  go_wp2_with (first | (go_at_call 7; refine (mul_any _ _ _).mono ?_; rintro e w' ⟨rfl, rfl⟩) | (go_at_call 8; refine (add_any _ _ _).mono ?_; rintro e w' ⟨rfl, rfl⟩) | (go_at_call 9; refine (sub_any _ _ _).mono ?_; rintro e w' ⟨rfl, rfl⟩) | (go_at_call 10; refine (of_any _ _).mono ?_; rintro e w' ⟨rfl, rfl⟩) | (go_at_call 12; refine (pow_yes _ _ _ (by omega) (by omega)).mono ?_; rintro e w' ⟨rfl, rfl⟩) | (go_at_call 11; refine (inv_yes _ _ ha).mono ?_; rintro e w' ⟨rfl, rfl⟩) | (go_at_call 13; refine (sqrt_yes _ _ hok).mono ?_; rintro e w' ⟨rfl, rfl⟩))
  go_ret
  exact ⟨rfl, by repeat (first | exact Grown.refl _ | apply Grown.drew | apply Grown.alloc)⟩
set_option maxRecDepth 100000 in
set_option maxHeartbeats 1000000 in
theorem holdsD (a0 : Int) (a1 : Int) (a2 : Int) (w : World) (ha : (fm a0 == 0) = false) (hp : (fm (a0 * a1) == 0) = true) (hok : rtOk a0 = false) :
    Calls Try.prog 4 #[.int .i64 a0, .int .i64 a1, .int .i64 a2] w fun e w' => e = .returned (.bool true) ∧ Grown w w' := by
  have g1 := c1; have g2 := c2
  have e1 := f1 a0 a1; have e2 := f2 a0 a1 a2; have e3 := f3 a0 a1; have e4 := f4 a0 a1 a2; have e5 := f5 a0 a1
  have hb := f14 ha hp
  have e7 := f16 ha; have e8 := f8 ha
  have ha' : (fm a0 != 0) = true := f15 ha
  have e10 := f11 hok
  go_enter Try.func4, Try.ntmps4
  go_wp2_with (first | (go_at_call 7; refine (mul_any _ _ _).mono ?_; rintro e w' ⟨rfl, rfl⟩) | (go_at_call 8; refine (add_any _ _ _).mono ?_; rintro e w' ⟨rfl, rfl⟩) | (go_at_call 9; refine (sub_any _ _ _).mono ?_; rintro e w' ⟨rfl, rfl⟩) | (go_at_call 10; refine (of_any _ _).mono ?_; rintro e w' ⟨rfl, rfl⟩) | (go_at_call 12; refine (pow_yes _ _ _ (by omega) (by omega)).mono ?_; rintro e w' ⟨rfl, rfl⟩) | (go_at_call 11; refine (inv_yes _ _ ha).mono ?_; rintro e w' ⟨rfl, rfl⟩) | (go_at_call 13; refine (sqrt_no _ _ hok).mono ?_; rintro e w' ⟨rfl, rfl⟩))
  go_quiet ((first | (go_at_call 7; exact Calls.quiet_of_same (mul_any _ _ _)) | (go_at_call 10; exact Calls.quiet_of_same (of_any _ _))))
  go_wp2_with (first | (go_at_call 7; refine (mul_any _ _ _).mono ?_; rintro e w' ⟨rfl, rfl⟩) | (go_at_call 8; refine (add_any _ _ _).mono ?_; rintro e w' ⟨rfl, rfl⟩) | (go_at_call 9; refine (sub_any _ _ _).mono ?_; rintro e w' ⟨rfl, rfl⟩) | (go_at_call 10; refine (of_any _ _).mono ?_; rintro e w' ⟨rfl, rfl⟩) | (go_at_call 12; refine (pow_yes _ _ _ (by omega) (by omega)).mono ?_; rintro e w' ⟨rfl, rfl⟩) | (go_at_call 11; refine (inv_yes _ _ ha).mono ?_; rintro e w' ⟨rfl, rfl⟩) | (go_at_call 13; refine (sqrt_no _ _ hok).mono ?_; rintro e w' ⟨rfl, rfl⟩))
  go_ret
  exact ⟨rfl, by repeat (first | exact Grown.refl _ | apply Grown.drew | apply Grown.alloc)⟩
set_option maxRecDepth 100000 in
set_option maxHeartbeats 1000000 in
theorem holdsE (a0 : Int) (a1 : Int) (a2 : Int) (w : World) (ha : (fm a0 == 0) = false) (hp : (fm (a0 * a1) == 0) = false) (hok : rtOk a0 = false) :
    Calls Try.prog 4 #[.int .i64 a0, .int .i64 a1, .int .i64 a2] w fun e w' => e = .returned (.bool true) ∧ Grown w w' := by
  have g1 := c1; have g2 := c2
  have e1 := f1 a0 a1; have e2 := f2 a0 a1 a2; have e3 := f3 a0 a1; have e4 := f4 a0 a1 a2; have e5 := f5 a0 a1
  have e7 := f16 ha; have e8 := f8 ha
  have ha' : (fm a0 != 0) = true := f15 ha
  have e10 := f11 hok
  go_enter Try.func4, Try.ntmps4
  go_wp2_with (first | (go_at_call 7; refine (mul_any _ _ _).mono ?_; rintro e w' ⟨rfl, rfl⟩) | (go_at_call 8; refine (add_any _ _ _).mono ?_; rintro e w' ⟨rfl, rfl⟩) | (go_at_call 9; refine (sub_any _ _ _).mono ?_; rintro e w' ⟨rfl, rfl⟩) | (go_at_call 10; refine (of_any _ _).mono ?_; rintro e w' ⟨rfl, rfl⟩) | (go_at_call 12; refine (pow_yes _ _ _ (by omega) (by omega)).mono ?_; rintro e w' ⟨rfl, rfl⟩) | (go_at_call 11; refine (inv_yes _ _ ha).mono ?_; rintro e w' ⟨rfl, rfl⟩) | (go_at_call 13; refine (sqrt_no _ _ hok).mono ?_; rintro e w' ⟨rfl, rfl⟩))
  go_quiet ((first | (go_at_call 7; exact Calls.quiet_of_same (mul_any _ _ _)) | (go_at_call 10; exact Calls.quiet_of_same (of_any _ _))))
  go_wp2_with (first | (go_at_call 7; refine (mul_any _ _ _).mono ?_; rintro e w' ⟨rfl, rfl⟩) | (go_at_call 8; refine (add_any _ _ _).mono ?_; rintro e w' ⟨rfl, rfl⟩) | (go_at_call 9; refine (sub_any _ _ _).mono ?_; rintro e w' ⟨rfl, rfl⟩) | (go_at_call 10; refine (of_any _ _).mono ?_; rintro e w' ⟨rfl, rfl⟩) | (go_at_call 12; refine (pow_yes _ _ _ (by omega) (by omega)).mono ?_; rintro e w' ⟨rfl, rfl⟩) | (go_at_call 11; refine (inv_yes _ _ ha).mono ?_; rintro e w' ⟨rfl, rfl⟩) | (go_at_call 13; refine (sqrt_no _ _ hok).mono ?_; rintro e w' ⟨rfl, rfl⟩))
  go_ret
  exact ⟨rfl, by repeat (first | exact Grown.refl _ | apply Grown.drew | apply Grown.alloc)⟩

theorem walkPrimeHolds (a0 : Int) (a1 : Int) (a2 : Int) (w0 : (Lit.int .i64 a0).wf = true) (w1 : (Lit.int .i64 a1).wf = true) (w2 : (Lit.int .i64 a2).wf = true) (w : World) :
    Calls Try.prog 4 #[.int .i64 a0, .int .i64 a1, .int .i64 a2] w fun e w' => e = .returned (.bool true) ∧ Grown w w' := by
  cases ha : fm a0 == 0
  · cases hp : fm (a0 * a1) == 0
    · cases hok : rtOk a0
      · exact holdsE a0 a1 a2 w ha hp hok
      · exact holdsC a0 a1 a2 w ha hp hok
    · cases hok : rtOk a0
      · exact holdsD a0 a1 a2 w ha hp hok
      · exact holdsB a0 a1 a2 w ha hp hok
  · exact holdsA a0 a1 a2 w ha
end Go.Proofs.Ytnmoknfhanemeaa
