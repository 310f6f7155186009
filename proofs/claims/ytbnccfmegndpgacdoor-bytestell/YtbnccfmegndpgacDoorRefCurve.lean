/- What the plain reckoning of the statements (stoneref1: Spot, Neg, Slope, Add, Lift) answers. -/
import Derived.Test.YtbnccfmegndpgacDoorRef
import Derived.Test.YtbnccfmegndpgacDoorCurveMath
import Derived.Test.YtbnccfmegndpgacDoorMem
namespace Go.Proofs.YtbnccfmegndpgacDoor
open Go.RowKit Go.Sort
set_option linter.unusedVariables false
set_option linter.unusedSimpArgs false

theorem mul_box {x y A B : Int} (h1 : 0 ≤ x) (h2 : x ≤ A) (h3 : 0 ≤ y) (h4 : y ≤ B) : 0 ≤ x * y ∧ x * y ≤ A * B :=
  ⟨Int.mul_nonneg h1 h3, Int.mul_le_mul h2 h4 h3 (by omega)⟩
theorem mul_box2 {s d : Int} (h1 : 0 ≤ s) (h2 : s ≤ 4050) (h3 : -4050 ≤ d) (h4 : d ≤ 4050) : -16402500 ≤ s * d ∧ s * d ≤ 16402500 := by
  have a := Int.mul_le_mul_of_nonneg_left h4 h1
  have b := Int.mul_le_mul_of_nonneg_left h3 h1
  constructor <;> omega
theorem rspot_1 (x y : Int) (f : Bool) (h : x < 0) (w : World) :
    Calls Tryd.prog 4 #[.agg #[.int .i64 x, .int .i64 y, .bool f]] w fun e w' => e = .returned (.int .i64 1) ∧ Below w.heap.size w w' := by
  go_enter Tryd.func4, Tryd.ntmps4
  go_wp2_with fail
  go_ret
  exact ⟨rfl, by repeat (first | (with_reducible exact Below.refl _ _) | (with_reducible assumption) | (with_reducible refine Below.setCell ?_ (by first | (simp; done) | (simp; omega) | omega) _) | (with_reducible refine Below.alloc ?_ (by first | (simp; done) | (simp; omega) | omega) _) | (refine bl_call ?_ (by assumption) (by first | (simp; done) | (simp; omega) | omega)) | (with_reducible refine bl_drewN ?_) | (with_reducible refine Below.drew ?_) | (with_reducible refine bl_grow ?_ (by first | (simp; done) | (simp; omega) | omega)))⟩
theorem rspot_2 (x y : Int) (f : Bool) (h0 : 0 ≤ x) (h : 4051 ≤ x) (w : World) :
    Calls Tryd.prog 4 #[.agg #[.int .i64 x, .int .i64 y, .bool f]] w fun e w' => e = .returned (.int .i64 1) ∧ Below w.heap.size w w' := by
  go_enter Tryd.func4, Tryd.ntmps4
  go_wp2_with fail
  go_ret
  exact ⟨rfl, by repeat (first | (with_reducible exact Below.refl _ _) | (with_reducible assumption) | (with_reducible refine Below.setCell ?_ (by first | (simp; done) | (simp; omega) | omega) _) | (with_reducible refine Below.alloc ?_ (by first | (simp; done) | (simp; omega) | omega) _) | (refine bl_call ?_ (by assumption) (by first | (simp; done) | (simp; omega) | omega)) | (with_reducible refine bl_drewN ?_) | (with_reducible refine Below.drew ?_) | (with_reducible refine bl_grow ?_ (by first | (simp; done) | (simp; omega) | omega)))⟩
theorem rspot_3 (x y : Int) (f : Bool) (h0 : 0 ≤ x) (h1 : x ≤ 4050) (h : y < 0) (w : World) :
    Calls Tryd.prog 4 #[.agg #[.int .i64 x, .int .i64 y, .bool f]] w fun e w' => e = .returned (.int .i64 1) ∧ Below w.heap.size w w' := by
  go_enter Tryd.func4, Tryd.ntmps4
  go_wp2_with fail
  go_ret
  exact ⟨rfl, by repeat (first | (with_reducible exact Below.refl _ _) | (with_reducible assumption) | (with_reducible refine Below.setCell ?_ (by first | (simp; done) | (simp; omega) | omega) _) | (with_reducible refine Below.alloc ?_ (by first | (simp; done) | (simp; omega) | omega) _) | (refine bl_call ?_ (by assumption) (by first | (simp; done) | (simp; omega) | omega)) | (with_reducible refine bl_drewN ?_) | (with_reducible refine Below.drew ?_) | (with_reducible refine bl_grow ?_ (by first | (simp; done) | (simp; omega) | omega)))⟩
theorem rspot_4 (x y : Int) (f : Bool) (h0 : 0 ≤ x) (h1 : x ≤ 4050) (h2 : 0 ≤ y) (h : 4051 ≤ y) (w : World) :
    Calls Tryd.prog 4 #[.agg #[.int .i64 x, .int .i64 y, .bool f]] w fun e w' => e = .returned (.int .i64 1) ∧ Below w.heap.size w w' := by
  go_enter Tryd.func4, Tryd.ntmps4
  go_wp2_with fail
  go_ret
  exact ⟨rfl, by repeat (first | (with_reducible exact Below.refl _ _) | (with_reducible assumption) | (with_reducible refine Below.setCell ?_ (by first | (simp; done) | (simp; omega) | omega) _) | (with_reducible refine Below.alloc ?_ (by first | (simp; done) | (simp; omega) | omega) _) | (refine bl_call ?_ (by assumption) (by first | (simp; done) | (simp; omega) | omega)) | (with_reducible refine bl_drewN ?_) | (with_reducible refine Below.drew ?_) | (with_reducible refine bl_grow ?_ (by first | (simp; done) | (simp; omega) | omega)))⟩
theorem rspot_5 (x y : Int) (h0 : 0 ≤ x) (h1 : x ≤ 4050) (h2 : 0 ≤ y) (h3 : y ≤ 4050) (h : (x == 0) = false) (w : World) :
    Calls Tryd.prog 4 #[.agg #[.int .i64 x, .int .i64 y, .bool true]] w fun e w' => e = .returned (.int .i64 1) ∧ Below w.heap.size w w' := by
  have e1 : (x != 0) = true := by rw [bne, h]; rfl
  have e2 : ¬ x = 0 := by simpa using h
  go_enter Tryd.func4, Tryd.ntmps4
  go_wp2_with fail
  go_ret
  exact ⟨rfl, by repeat (first | (with_reducible exact Below.refl _ _) | (with_reducible assumption) | (with_reducible refine Below.setCell ?_ (by first | (simp; done) | (simp; omega) | omega) _) | (with_reducible refine Below.alloc ?_ (by first | (simp; done) | (simp; omega) | omega) _) | (refine bl_call ?_ (by assumption) (by first | (simp; done) | (simp; omega) | omega)) | (with_reducible refine bl_drewN ?_) | (with_reducible refine Below.drew ?_) | (with_reducible refine bl_grow ?_ (by first | (simp; done) | (simp; omega) | omega)))⟩
theorem rspot_6 (y : Int) (h2 : 0 ≤ y) (h3 : y ≤ 4050) (h : (y == 0) = false) (w : World) :
    Calls Tryd.prog 4 #[.agg #[.int .i64 0, .int .i64 y, .bool true]] w fun e w' => e = .returned (.int .i64 1) ∧ Below w.heap.size w w' := by
  have e1 : (y != 0) = true := by rw [bne, h]; rfl
  have e2 : ¬ y = 0 := by simpa using h
  go_enter Tryd.func4, Tryd.ntmps4
  go_wp2_with fail
  go_ret
  exact ⟨rfl, by repeat (first | (with_reducible exact Below.refl _ _) | (with_reducible assumption) | (with_reducible refine Below.setCell ?_ (by first | (simp; done) | (simp; omega) | omega) _) | (with_reducible refine Below.alloc ?_ (by first | (simp; done) | (simp; omega) | omega) _) | (refine bl_call ?_ (by assumption) (by first | (simp; done) | (simp; omega) | omega)) | (with_reducible refine bl_drewN ?_) | (with_reducible refine Below.drew ?_) | (with_reducible refine bl_grow ?_ (by first | (simp; done) | (simp; omega) | omega)))⟩
theorem rspot_7  (w : World) :
    Calls Tryd.prog 4 #[.agg #[.int .i64 0, .int .i64 0, .bool true]] w fun e w' => e = .returned (.int .i64 0) ∧ Below w.heap.size w w' := by
  go_enter Tryd.func4, Tryd.ntmps4
  go_wp2_with fail
  go_ret
  exact ⟨rfl, by repeat (first | (with_reducible exact Below.refl _ _) | (with_reducible assumption) | (with_reducible refine Below.setCell ?_ (by first | (simp; done) | (simp; omega) | omega) _) | (with_reducible refine Below.alloc ?_ (by first | (simp; done) | (simp; omega) | omega) _) | (refine bl_call ?_ (by assumption) (by first | (simp; done) | (simp; omega) | omega)) | (with_reducible refine bl_drewN ?_) | (with_reducible refine Below.drew ?_) | (with_reducible refine bl_grow ?_ (by first | (simp; done) | (simp; omega) | omega)))⟩
theorem rspot_8 (x y : Int) (h0 : 0 ≤ x) (h1 : x ≤ 4050) (h2 : 0 ≤ y) (h3 : y ≤ 4050) (h : (y * y % 4051 == (x * x % 4051 * x + x) % 4051) = true) (w : World) :
    Calls Tryd.prog 4 #[.agg #[.int .i64 x, .int .i64 y, .bool false]] w fun e w' => e = .returned (.int .i64 0) ∧ Below w.heap.size w w' := by
  obtain ⟨b1, b2⟩ := mul_bd h2 h3 h2 h3
  obtain ⟨b3, b4⟩ := mul_bd h0 h1 h0 h1
  obtain ⟨b5, b6⟩ := mul_bd (x := x * x % 4051) (y := x) (by omega) (by omega) h0 h1
  go_enter Tryd.func4, Tryd.ntmps4
  go_wp2_with fail
  go_ret
  exact ⟨rfl, by repeat (first | (with_reducible exact Below.refl _ _) | (with_reducible assumption) | (with_reducible refine Below.setCell ?_ (by first | (simp; done) | (simp; omega) | omega) _) | (with_reducible refine Below.alloc ?_ (by first | (simp; done) | (simp; omega) | omega) _) | (refine bl_call ?_ (by assumption) (by first | (simp; done) | (simp; omega) | omega)) | (with_reducible refine bl_drewN ?_) | (with_reducible refine Below.drew ?_) | (with_reducible refine bl_grow ?_ (by first | (simp; done) | (simp; omega) | omega)))⟩
theorem rspot_9 (x y : Int) (h0 : 0 ≤ x) (h1 : x ≤ 4050) (h2 : 0 ≤ y) (h3 : y ≤ 4050) (h : (y * y % 4051 == (x * x % 4051 * x + x) % 4051) = false) (w : World) :
    Calls Tryd.prog 4 #[.agg #[.int .i64 x, .int .i64 y, .bool false]] w fun e w' => e = .returned (.int .i64 3) ∧ Below w.heap.size w w' := by
  obtain ⟨b1, b2⟩ := mul_bd h2 h3 h2 h3
  obtain ⟨b3, b4⟩ := mul_bd h0 h1 h0 h1
  obtain ⟨b5, b6⟩ := mul_bd (x := x * x % 4051) (y := x) (by omega) (by omega) h0 h1
  go_enter Tryd.func4, Tryd.ntmps4
  go_wp2_with fail
  go_ret
  exact ⟨rfl, by repeat (first | (with_reducible exact Below.refl _ _) | (with_reducible assumption) | (with_reducible refine Below.setCell ?_ (by first | (simp; done) | (simp; omega) | omega) _) | (with_reducible refine Below.alloc ?_ (by first | (simp; done) | (simp; omega) | omega) _) | (refine bl_call ?_ (by assumption) (by first | (simp; done) | (simp; omega) | omega)) | (with_reducible refine bl_drewN ?_) | (with_reducible refine Below.drew ?_) | (with_reducible refine bl_grow ?_ (by first | (simp; done) | (simp; omega) | omega)))⟩
theorem sqR (x : Int) : (x * x % 4051 * x + x) % 4051 = sqI x := by
  rw [sqI_eq]
  show fm (fm (x * x) * x + x) = _
  rw [← fm_add_l, fm_mul_l, fm_add_l]
theorem rspot_any (x y : Int) (f : Bool) (w : World) :
    Calls Tryd.prog 4 #[.agg #[.int .i64 x, .int .i64 y, .bool f]] w fun e w' => e = .returned (.int .i64 (ckI x y f)) ∧ Below w.heap.size w w' := by
  by_cases h : 0 ≤ x ∧ x < 4051 ∧ 0 ≤ y ∧ y < 4051
  · obtain ⟨h0, h1, h2, h3⟩ := h
    cases f with
    | true =>
      cases e1 : x == 0
      · rw [ckI_far (by rw [e1]; rfl)]; exact rspot_5 x y h0 (by omega) h2 (by omega) e1 w
      · obtain rfl : x = 0 := by simpa using e1
        cases e2 : y == 0
        · rw [ckI_far (by rw [e2]; rfl)]; exact rspot_6 y h2 (by omega) e2 w
        · obtain rfl : y = 0 := by simpa using e2
          exact rspot_7 w
    | false =>
      rw [ckI_in h0 h1 h2 h3]
      cases e : fm (y * y) == sqI x
      · exact rspot_9 x y h0 (by omega) h2 (by omega) (by rw [sqR]; exact e) w
      · exact rspot_8 x y h0 (by omega) h2 (by omega) (by rw [sqR]; exact e) w
  · have e : ckI x y f = 1 := by
      cases f with
      | false => exact ckI_out h
      | true =>
        refine ckI_far ?_
        rw [Bool.eq_false_iff]; simp only [ne_eq, Bool.and_eq_true, beq_iff_eq]; omega
    rw [e]
    by_cases a1 : x < 0
    · exact rspot_1 x y f a1 w
    by_cases a2 : 4051 ≤ x
    · exact rspot_2 x y f (by omega) a2 w
    by_cases a3 : y < 0
    · exact rspot_3 x y f (by omega) (by omega) a3 w
    · exact rspot_4 x y f (by omega) (by omega) (by omega) (by omega) w
theorem rspot_yes {x y : Int} {f : Bool} (h : ckI x y f = 0) (w : World) :
    Calls Tryd.prog 4 #[.agg #[.int .i64 x, .int .i64 y, .bool f]] w fun e w' => e = .returned (.int .i64 0) ∧ Below w.heap.size w w' := by
  have := rspot_any x y f w; rwa [h] at this
theorem rneg_any (x y : Nat) (f : Bool) (w : World) (h : y < 4051) :
    Calls Tryd.prog 17 #[.agg #[.int .i64 (x : Int), .int .i64 (y : Int), .bool f]] w fun e w' => e = .returned (.agg #[.int .i64 (x : Int), .int .i64 (ny y : Int), .bool f]) ∧ Below w.heap.size w w' := by
  have H : Hid (fm (-(y : Int)) = (ny y : Int)) := by have := nyI h; rwa [Int.zero_sub] at this
  have h' : (y : Int) ≤ 4050 := by omega
  go_enter Tryd.func17, Tryd.ntmps17
  go_wp2_with (go_at_call 30; refine (rmod_fm _ _).mono ?_; rintro e w' ⟨rfl, rfl⟩; rw [H.out])
  exact bodyPost_ret (v := .agg #[.int .i64 (x : Int), .int .i64 (ny y : Int), .bool f]) (by simp [results, Tryd.results17, go_sem]) rfl ⟨rfl, by repeat (first | (with_reducible exact Below.refl _ _) | (with_reducible assumption) | (with_reducible refine Below.setCell ?_ (by first | (simp; done) | (simp; omega) | omega) _) | (with_reducible refine Below.alloc ?_ (by first | (simp; done) | (simp; omega) | omega) _) | (refine bl_call ?_ (by assumption) (by first | (simp; done) | (simp; omega) | omega)) | (with_reducible refine bl_drewN ?_) | (with_reducible refine Below.drew ?_) | (with_reducible refine bl_grow ?_ (by first | (simp; done) | (simp; omega) | omega)))⟩
theorem rneg_tM (k : Nat) (w : World) :
    Calls Tryd.prog 17 #[.agg #[.int .i64 ((tM k).1 : Int), .int .i64 ((tM k).2.1 : Int), .bool (tM k).2.2]] w fun e w' => e = .returned (.agg #[.int .i64 ((tM (4052 - k % 4052)).1 : Int), .int .i64 ((tM (4052 - k % 4052)).2.1 : Int), .bool (tM (4052 - k % 4052)).2.2]) ∧ Below w.heap.size w w' := by
  have h := rneg_any (tM k).1 (tM k).2.1 (tM k).2.2 w (okS_lt (tM_ok k)).2
  rw [← neg_tM k]
  exact h
theorem rootI_sq (x : Int) : rootI (x * x % 4051 * x + x) = rootI (sqI x) := by
  have e : fm (x * x % 4051 * x + x) = sqI x := sqR x
  have e1 : rt (x * x % 4051 * x + x) = rt (sqI x) := by unfold rt; rw [← fpow_fm, e]
  unfold rootI rtOk rtMin; rw [e1, e, sqI_fm]
theorem rlift_yes (x : Int) (w : World) (h0 : 0 ≤ x) (h1 : x ≤ 4050) (h : rtOk (sqI x) = true) :
    Calls Tryd.prog 16 #[.int .i64 x] w fun e w' => e = .returned (.tuple #[.agg #[.int .i64 x, .int .i64 (rtMin (sqI x)), .bool false], .bool true]) ∧ Below w.heap.size w w' := by
  have H : Hid (rootI (x * x % 4051 * x + x) = rtMin (sqI x)) := by show rootI _ = _; rw [rootI_sq, rootI, h]; rfl
  have hr := (least_le (sqI x)).1
  obtain ⟨b3, b4⟩ := mul_bd h0 h1 h0 h1
  obtain ⟨b5, b6⟩ := mul_bd (x := x * x % 4051) (y := x) (by omega) (by omega) h0 h1
  go_enter Tryd.func16, Tryd.ntmps16
  go_wp2_with (go_at_call 29; refine (rroot_any _ _).mono ?_; rintro e w' ⟨rfl, rfl⟩; rw [H.out])
  exact bodyPost_ret (v := .tuple #[.agg #[.int .i64 x, .int .i64 (rtMin (sqI x)), .bool false], .bool true]) (by simp [results, Tryd.results16, go_sem, *]) rfl ⟨rfl, by repeat (first | (with_reducible exact Below.refl _ _) | (with_reducible assumption) | (with_reducible refine Below.setCell ?_ (by first | (simp; done) | (simp; omega) | omega) _) | (with_reducible refine Below.alloc ?_ (by first | (simp; done) | (simp; omega) | omega) _) | (refine bl_call ?_ (by assumption) (by first | (simp; done) | (simp; omega) | omega)) | (with_reducible refine bl_drewN ?_) | (with_reducible refine Below.drew ?_) | (with_reducible refine bl_grow ?_ (by first | (simp; done) | (simp; omega) | omega)))⟩
theorem rlift_no (x : Int) (w : World) (h0 : 0 ≤ x) (h1 : x ≤ 4050) (h : rtOk (sqI x) = false) :
    Calls Tryd.prog 16 #[.int .i64 x] w fun e w' => e = .returned (.tuple #[.agg #[.int .i64 0, .int .i64 0, .bool false], .bool false]) ∧ Below w.heap.size w w' := by
  have H : Hid (rootI (x * x % 4051 * x + x) = -1) := by show rootI _ = _; rw [rootI_sq, rootI, h]; rfl
  obtain ⟨b3, b4⟩ := mul_bd h0 h1 h0 h1
  obtain ⟨b5, b6⟩ := mul_bd (x := x * x % 4051) (y := x) (by omega) (by omega) h0 h1
  go_enter Tryd.func16, Tryd.ntmps16
  go_wp2_with (go_at_call 29; refine (rroot_any _ _).mono ?_; rintro e w' ⟨rfl, rfl⟩; rw [H.out])
  exact bodyPost_ret (v := .tuple #[.agg #[.int .i64 0, .int .i64 0, .bool false], .bool false]) (by simp [results, Tryd.results16, go_sem, *]) rfl ⟨rfl, by repeat (first | (with_reducible exact Below.refl _ _) | (with_reducible assumption) | (with_reducible refine Below.setCell ?_ (by first | (simp; done) | (simp; omega) | omega) _) | (with_reducible refine Below.alloc ?_ (by first | (simp; done) | (simp; omega) | omega) _) | (refine bl_call ?_ (by assumption) (by first | (simp; done) | (simp; omega) | omega)) | (with_reducible refine bl_drewN ?_) | (with_reducible refine Below.drew ?_) | (with_reducible refine bl_grow ?_ (by first | (simp; done) | (simp; omega) | omega)))⟩
end Go.Proofs.YtbnccfmegndpgacDoor
