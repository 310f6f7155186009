/- Proved: stonelaw1.PrimeTells answers true for every three ints: sum, difference, product, inverse, any power, and root are the document's. No condition on the inputs stands behind it; the one listed variable of package errors is tied to the program's text (the card). -/
import Derived.Test.YtnmoknfhanemeaaDoorRef
import Derived.Test.YtnmoknfhanemeaaDoorTold
import Derived.OpenShut
namespace Go.Proofs.YtnmoknfhanemeaaDoor
open Go.RowKit
set_option linter.unusedVariables false

theorem t1 (a b : Int) : (fm (a + b) == (fm a + fm b) % 4051) = true := by rw [beq_iff_eq]; exact (fm_add a b).symm
theorem t2 (a b : Int) : (fm (a - b) == fm (fm a - fm b)) = true := by rw [beq_iff_eq]; exact (fm_sub a b).symm
theorem t3 (a b : Int) : (fm (a * b) == fm a * fm b % 4051) = true := by rw [beq_iff_eq]; exact (fm_mul a b).symm

set_option maxRecDepth 100000 in
set_option maxHeartbeats 1000000 in
theorem tells000 (a0 : Int) (a1 : Int) (a2 : Int) (w : World) (hd : Door w) (q1 : -9223372036854775808 ≤ a2) (q2 : a2 ≤ 9223372036854775807) (hz : (fm a0 == 0) = false) (hok : rtOk a0 = false) (hn : 0 ≤ a2) :
    Calls Tryd.prog 3 #[.int .i64 a0, .int .i64 a1, .int .i64 a2] w fun e w' => e = .returned (.bool true) ∧ Grown w w' := by
  have e1 := t1 a0 a1; have e2 := t2 a0 a1; have e3 := t3 a0 a1
  have b1 := fm_lo a0; have b2 := fm_hi a0; have b3 := fm_lo a1; have b4 := fm_hi a1
  obtain ⟨m1, m2⟩ := mul_bd b1 b2 b3 b4
  obtain ⟨m3, m4⟩ := least_le a0
  go_enter Tryd.func3, Tryd.ntmps3
  go_wp2_with (first
    | (go_at_call 4; refine (rmod_fm _ _).mono ?_; rintro e w' ⟨rfl, rfl⟩)
    | (go_at_call 5; refine (of_any _ _).mono ?_; rintro e w' ⟨rfl, rfl⟩)
    | (go_at_call 6; refine (add_any _ _ _).mono ?_; rintro e w' ⟨rfl, rfl⟩)
    | (go_at_call 7; refine (sub_any _ _ _).mono ?_; rintro e w' ⟨rfl, rfl⟩)
    | (go_at_call 8; refine (mul_any _ _ _).mono ?_; rintro e w' ⟨rfl, rfl⟩)
    | (go_at_call 9; refine (turn_fm _ _ hz).mono ?_; rintro e w' ⟨rfl, rfl⟩)
    | (go_at_call 10; refine (inv_yes _ _ hz).mono ?_; rintro e w' ⟨rfl, rfl⟩)
    | (go_at_call 12; refine (rpow_fm _ _ _ hn q2).mono ?_; rintro e w' ⟨rfl, rfl⟩)
    | (go_at_call 13; refine (pow_yes _ _ _ hn q2).mono ?_; rintro e w' ⟨rfl, rfl⟩)
    | (go_at_call 14; refine (rroot_no _ _ hok).mono ?_; rintro e w' ⟨rfl, rfl⟩)
    | (go_at_call 15; refine (sqrt_no _ _ hok).mono ?_; rintro e w' ⟨rfl, rfl⟩)
    | (go_at_call 11; refine (same_any _ _ _ (by first | exact isErr_nil | exact isErr_err _) (by assumption)).mono ?_; rintro e w' ⟨rfl, hg⟩; have hd' := Door.grown (by assumption) hg))
  go_ret
  exact ⟨rfl, by repeat (first | exact Grown.refl _ | assumption | refine grown_trans ?_ (by assumption))⟩
set_option maxRecDepth 100000 in
set_option maxHeartbeats 1000000 in
theorem tells001 (a0 : Int) (a1 : Int) (a2 : Int) (w : World) (hd : Door w) (q1 : -9223372036854775808 ≤ a2) (q2 : a2 ≤ 9223372036854775807) (hz : (fm a0 == 0) = false) (hok : rtOk a0 = false) (hn : a2 < 0) :
    Calls Tryd.prog 3 #[.int .i64 a0, .int .i64 a1, .int .i64 a2] w fun e w' => e = .returned (.bool true) ∧ Grown w w' := by
  have e1 := t1 a0 a1; have e2 := t2 a0 a1; have e3 := t3 a0 a1
  have b1 := fm_lo a0; have b2 := fm_hi a0; have b3 := fm_lo a1; have b4 := fm_hi a1
  obtain ⟨m1, m2⟩ := mul_bd b1 b2 b3 b4
  obtain ⟨m3, m4⟩ := least_le a0
  go_enter Tryd.func3, Tryd.ntmps3
  go_wp2_with (first
    | (go_at_call 4; refine (rmod_fm _ _).mono ?_; rintro e w' ⟨rfl, rfl⟩)
    | (go_at_call 5; refine (of_any _ _).mono ?_; rintro e w' ⟨rfl, rfl⟩)
    | (go_at_call 6; refine (add_any _ _ _).mono ?_; rintro e w' ⟨rfl, rfl⟩)
    | (go_at_call 7; refine (sub_any _ _ _).mono ?_; rintro e w' ⟨rfl, rfl⟩)
    | (go_at_call 8; refine (mul_any _ _ _).mono ?_; rintro e w' ⟨rfl, rfl⟩)
    | (go_at_call 9; refine (turn_fm _ _ hz).mono ?_; rintro e w' ⟨rfl, rfl⟩)
    | (go_at_call 10; refine (inv_yes _ _ hz).mono ?_; rintro e w' ⟨rfl, rfl⟩)
    | (go_at_call 13; refine (pow_no _ _ _ hn).mono ?_; rintro e w' ⟨rfl, rfl⟩)
    | (go_at_call 14; refine (rroot_no _ _ hok).mono ?_; rintro e w' ⟨rfl, rfl⟩)
    | (go_at_call 15; refine (sqrt_no _ _ hok).mono ?_; rintro e w' ⟨rfl, rfl⟩)
    | (go_at_call 11; refine (same_any _ _ _ (by first | exact isErr_nil | exact isErr_err _) (by assumption)).mono ?_; rintro e w' ⟨rfl, hg⟩; have hd' := Door.grown (by assumption) hg))
  go_ret
  exact ⟨rfl, by repeat (first | exact Grown.refl _ | assumption | refine grown_trans ?_ (by assumption))⟩
set_option maxRecDepth 100000 in
set_option maxHeartbeats 1000000 in
theorem tells010 (a0 : Int) (a1 : Int) (a2 : Int) (w : World) (hd : Door w) (q1 : -9223372036854775808 ≤ a2) (q2 : a2 ≤ 9223372036854775807) (hz : (fm a0 == 0) = false) (hok : rtOk a0 = true) (hn : 0 ≤ a2) :
    Calls Tryd.prog 3 #[.int .i64 a0, .int .i64 a1, .int .i64 a2] w fun e w' => e = .returned (.bool true) ∧ Grown w w' := by
  have e1 := t1 a0 a1; have e2 := t2 a0 a1; have e3 := t3 a0 a1
  have b1 := fm_lo a0; have b2 := fm_hi a0; have b3 := fm_lo a1; have b4 := fm_hi a1
  obtain ⟨m1, m2⟩ := mul_bd b1 b2 b3 b4
  obtain ⟨m3, m4⟩ := least_le a0
  go_enter Tryd.func3, Tryd.ntmps3
  go_wp2_with (first
    | (go_at_call 4; refine (rmod_fm _ _).mono ?_; rintro e w' ⟨rfl, rfl⟩)
    | (go_at_call 5; refine (of_any _ _).mono ?_; rintro e w' ⟨rfl, rfl⟩)
    | (go_at_call 6; refine (add_any _ _ _).mono ?_; rintro e w' ⟨rfl, rfl⟩)
    | (go_at_call 7; refine (sub_any _ _ _).mono ?_; rintro e w' ⟨rfl, rfl⟩)
    | (go_at_call 8; refine (mul_any _ _ _).mono ?_; rintro e w' ⟨rfl, rfl⟩)
    | (go_at_call 9; refine (turn_fm _ _ hz).mono ?_; rintro e w' ⟨rfl, rfl⟩)
    | (go_at_call 10; refine (inv_yes _ _ hz).mono ?_; rintro e w' ⟨rfl, rfl⟩)
    | (go_at_call 12; refine (rpow_fm _ _ _ hn q2).mono ?_; rintro e w' ⟨rfl, rfl⟩)
    | (go_at_call 13; refine (pow_yes _ _ _ hn q2).mono ?_; rintro e w' ⟨rfl, rfl⟩)
    | (go_at_call 14; refine (rroot_yes _ _ hok).mono ?_; rintro e w' ⟨rfl, rfl⟩)
    | (go_at_call 15; refine (sqrt_yes _ _ hok).mono ?_; rintro e w' ⟨rfl, rfl⟩)
    | (go_at_call 11; refine (same_any _ _ _ (by first | exact isErr_nil | exact isErr_err _) (by assumption)).mono ?_; rintro e w' ⟨rfl, hg⟩; have hd' := Door.grown (by assumption) hg))
  go_ret
  exact ⟨rfl, by repeat (first | exact Grown.refl _ | assumption | refine grown_trans ?_ (by assumption))⟩
set_option maxRecDepth 100000 in
set_option maxHeartbeats 1000000 in
theorem tells011 (a0 : Int) (a1 : Int) (a2 : Int) (w : World) (hd : Door w) (q1 : -9223372036854775808 ≤ a2) (q2 : a2 ≤ 9223372036854775807) (hz : (fm a0 == 0) = false) (hok : rtOk a0 = true) (hn : a2 < 0) :
    Calls Tryd.prog 3 #[.int .i64 a0, .int .i64 a1, .int .i64 a2] w fun e w' => e = .returned (.bool true) ∧ Grown w w' := by
  have e1 := t1 a0 a1; have e2 := t2 a0 a1; have e3 := t3 a0 a1
  have b1 := fm_lo a0; have b2 := fm_hi a0; have b3 := fm_lo a1; have b4 := fm_hi a1
  obtain ⟨m1, m2⟩ := mul_bd b1 b2 b3 b4
  obtain ⟨m3, m4⟩ := least_le a0
  go_enter Tryd.func3, Tryd.ntmps3
  go_wp2_with (first
    | (go_at_call 4; refine (rmod_fm _ _).mono ?_; rintro e w' ⟨rfl, rfl⟩)
    | (go_at_call 5; refine (of_any _ _).mono ?_; rintro e w' ⟨rfl, rfl⟩)
    | (go_at_call 6; refine (add_any _ _ _).mono ?_; rintro e w' ⟨rfl, rfl⟩)
    | (go_at_call 7; refine (sub_any _ _ _).mono ?_; rintro e w' ⟨rfl, rfl⟩)
    | (go_at_call 8; refine (mul_any _ _ _).mono ?_; rintro e w' ⟨rfl, rfl⟩)
    | (go_at_call 9; refine (turn_fm _ _ hz).mono ?_; rintro e w' ⟨rfl, rfl⟩)
    | (go_at_call 10; refine (inv_yes _ _ hz).mono ?_; rintro e w' ⟨rfl, rfl⟩)
    | (go_at_call 13; refine (pow_no _ _ _ hn).mono ?_; rintro e w' ⟨rfl, rfl⟩)
    | (go_at_call 14; refine (rroot_yes _ _ hok).mono ?_; rintro e w' ⟨rfl, rfl⟩)
    | (go_at_call 15; refine (sqrt_yes _ _ hok).mono ?_; rintro e w' ⟨rfl, rfl⟩)
    | (go_at_call 11; refine (same_any _ _ _ (by first | exact isErr_nil | exact isErr_err _) (by assumption)).mono ?_; rintro e w' ⟨rfl, hg⟩; have hd' := Door.grown (by assumption) hg))
  go_ret
  exact ⟨rfl, by repeat (first | exact Grown.refl _ | assumption | refine grown_trans ?_ (by assumption))⟩
set_option maxRecDepth 100000 in
set_option maxHeartbeats 1000000 in
theorem tells110 (a0 : Int) (a1 : Int) (a2 : Int) (w : World) (hd : Door w) (q1 : -9223372036854775808 ≤ a2) (q2 : a2 ≤ 9223372036854775807) (hz : (fm a0 == 0) = true) (hok : rtOk a0 = true) (hn : 0 ≤ a2) :
    Calls Tryd.prog 3 #[.int .i64 a0, .int .i64 a1, .int .i64 a2] w fun e w' => e = .returned (.bool true) ∧ Grown w w' := by
  have e1 := t1 a0 a1; have e2 := t2 a0 a1; have e3 := t3 a0 a1
  have b1 := fm_lo a0; have b2 := fm_hi a0; have b3 := fm_lo a1; have b4 := fm_hi a1
  obtain ⟨m1, m2⟩ := mul_bd b1 b2 b3 b4
  obtain ⟨m3, m4⟩ := least_le a0
  go_enter Tryd.func3, Tryd.ntmps3
  go_wp2_with (first
    | (go_at_call 4; refine (rmod_fm _ _).mono ?_; rintro e w' ⟨rfl, rfl⟩)
    | (go_at_call 5; refine (of_any _ _).mono ?_; rintro e w' ⟨rfl, rfl⟩)
    | (go_at_call 6; refine (add_any _ _ _).mono ?_; rintro e w' ⟨rfl, rfl⟩)
    | (go_at_call 7; refine (sub_any _ _ _).mono ?_; rintro e w' ⟨rfl, rfl⟩)
    | (go_at_call 8; refine (mul_any _ _ _).mono ?_; rintro e w' ⟨rfl, rfl⟩)
    | (go_at_call 10; refine (inv_no _ _ hz).mono ?_; rintro e w' ⟨rfl, rfl⟩)
    | (go_at_call 12; refine (rpow_fm _ _ _ hn q2).mono ?_; rintro e w' ⟨rfl, rfl⟩)
    | (go_at_call 13; refine (pow_yes _ _ _ hn q2).mono ?_; rintro e w' ⟨rfl, rfl⟩)
    | (go_at_call 14; refine (rroot_yes _ _ hok).mono ?_; rintro e w' ⟨rfl, rfl⟩)
    | (go_at_call 15; refine (sqrt_yes _ _ hok).mono ?_; rintro e w' ⟨rfl, rfl⟩)
    | (go_at_call 11; refine (same_any _ _ _ (by first | exact isErr_nil | exact isErr_err _) (by assumption)).mono ?_; rintro e w' ⟨rfl, hg⟩; have hd' := Door.grown (by assumption) hg))
  go_ret
  exact ⟨rfl, by repeat (first | exact Grown.refl _ | assumption | refine grown_trans ?_ (by assumption))⟩
set_option maxRecDepth 100000 in
set_option maxHeartbeats 1000000 in
theorem tells111 (a0 : Int) (a1 : Int) (a2 : Int) (w : World) (hd : Door w) (q1 : -9223372036854775808 ≤ a2) (q2 : a2 ≤ 9223372036854775807) (hz : (fm a0 == 0) = true) (hok : rtOk a0 = true) (hn : a2 < 0) :
    Calls Tryd.prog 3 #[.int .i64 a0, .int .i64 a1, .int .i64 a2] w fun e w' => e = .returned (.bool true) ∧ Grown w w' := by
  have e1 := t1 a0 a1; have e2 := t2 a0 a1; have e3 := t3 a0 a1
  have b1 := fm_lo a0; have b2 := fm_hi a0; have b3 := fm_lo a1; have b4 := fm_hi a1
  obtain ⟨m1, m2⟩ := mul_bd b1 b2 b3 b4
  obtain ⟨m3, m4⟩ := least_le a0
  go_enter Tryd.func3, Tryd.ntmps3
  go_wp2_with (first
    | (go_at_call 4; refine (rmod_fm _ _).mono ?_; rintro e w' ⟨rfl, rfl⟩)
    | (go_at_call 5; refine (of_any _ _).mono ?_; rintro e w' ⟨rfl, rfl⟩)
    | (go_at_call 6; refine (add_any _ _ _).mono ?_; rintro e w' ⟨rfl, rfl⟩)
    | (go_at_call 7; refine (sub_any _ _ _).mono ?_; rintro e w' ⟨rfl, rfl⟩)
    | (go_at_call 8; refine (mul_any _ _ _).mono ?_; rintro e w' ⟨rfl, rfl⟩)
    | (go_at_call 10; refine (inv_no _ _ hz).mono ?_; rintro e w' ⟨rfl, rfl⟩)
    | (go_at_call 13; refine (pow_no _ _ _ hn).mono ?_; rintro e w' ⟨rfl, rfl⟩)
    | (go_at_call 14; refine (rroot_yes _ _ hok).mono ?_; rintro e w' ⟨rfl, rfl⟩)
    | (go_at_call 15; refine (sqrt_yes _ _ hok).mono ?_; rintro e w' ⟨rfl, rfl⟩)
    | (go_at_call 11; refine (same_any _ _ _ (by first | exact isErr_nil | exact isErr_err _) (by assumption)).mono ?_; rintro e w' ⟨rfl, hg⟩; have hd' := Door.grown (by assumption) hg))
  go_ret
  exact ⟨rfl, by repeat (first | exact Grown.refl _ | assumption | refine grown_trans ?_ (by assumption))⟩

theorem walkPrimeTells (a0 : Int) (a1 : Int) (a2 : Int) (w0 : (Lit.int .i64 a0).wf = true) (w1 : (Lit.int .i64 a1).wf = true) (w2 : (Lit.int .i64 a2).wf = true) (w : World) (hd : Door w) :
    Calls Tryd.prog 3 #[.int .i64 a0, .int .i64 a1, .int .i64 a2] w fun e w' => e = .returned (.bool true) ∧ Grown w w' := by
  have ⟨q1, q2⟩ : -9223372036854775808 ≤ a2 ∧ a2 ≤ 9223372036854775807 := Go.bounds_i64 w2
  rcases Int.lt_or_le a2 0 with hn | hn
  · cases hz : fm a0 == 0
    · cases hok : rtOk a0
      · exact tells001 a0 a1 a2 w hd q1 q2 hz hok hn
      · exact tells011 a0 a1 a2 w hd q1 q2 hz hok hn
    · exact tells111 a0 a1 a2 w hd q1 q2 hz (okZero (beq_iff_eq.mp hz)) hn
  · cases hz : fm a0 == 0
    · cases hok : rtOk a0
      · exact tells000 a0 a1 a2 w hd q1 q2 hz hok hn
      · exact tells010 a0 a1 a2 w hd q1 q2 hz hok hn
    · exact tells110 a0 a1 a2 w hd q1 q2 hz (okZero (beq_iff_eq.mp hz)) hn
end Go.Proofs.YtnmoknfhanemeaaDoor
