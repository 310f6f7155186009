/- What the plain reckoning of the statements (stoneref1: Spot, Neg, Slope, Add, Lift) answers. -/
import Derived.Test.YtmijjjdedadklaiDoorRef
import Derived.Test.YtmijjjdedadklaiDoorCurveMath
import Derived.Test.YtmijjjdedadklaiDoorMem
namespace Go.Proofs.YtmijjjdedadklaiDoor
open Go.RowKit Go.Sort
set_option linter.unusedVariables false
set_option linter.unusedSimpArgs false

theorem mul_box {x y A B : Int} (h1 : 0 ≤ x) (h2 : x ≤ A) (h3 : 0 ≤ y) (h4 : y ≤ B) : 0 ≤ x * y ∧ x * y ≤ A * B :=
  ⟨Int.mul_nonneg h1 h3, Int.mul_le_mul h2 h4 h3 (by omega)⟩
theorem mul_box2 {s d : Int} (h1 : 0 ≤ s) (h2 : s ≤ 4050) (h3 : -4050 ≤ d) (h4 : d ≤ 4050) : -16402500 ≤ s * d ∧ s * d ≤ 16402500 := by
  have a := Int.mul_le_mul_of_nonneg_left h4 h1
  have b := Int.mul_le_mul_of_nonneg_left h3 h1
  constructor <;> omega
theorem sqR (x : Int) : (x * x % 4051 * x + x) % 4051 = sqI x := by
  rw [sqI_eq]
  show fm (fm (x * x) * x + x) = _
  rw [← fm_add_l, fm_mul_l, fm_add_l]
theorem rspot_1 (x y : Int) (f : Bool) (h : x < 0) (w : World) :
    Calls Tryd.prog 13 #[.agg #[.int .i64 x, .int .i64 y, .bool f]] w fun e w' => e = .returned (.int .i64 1) ∧ Below w.heap.size w w' := by
  go_enter Tryd.func13, Tryd.ntmps13
  go_wp2_with fail
  go_ret
  exact ⟨rfl, by repeat (first | (with_reducible exact Below.refl _ _) | (with_reducible assumption) | (with_reducible refine Below.setCell ?_ (by first | (simp; done) | (simp; omega) | omega) _) | (with_reducible refine Below.alloc ?_ (by first | (simp; done) | (simp; omega) | omega) _) | (refine bl_call ?_ (by assumption) (by first | (simp; done) | (simp; omega) | omega)) | (with_reducible refine bl_drewN ?_) | (with_reducible refine Below.drew ?_) | (with_reducible refine bl_grow ?_ (by first | (simp; done) | (simp; omega) | omega)))⟩
theorem rspot_2 (x y : Int) (f : Bool) (h0 : 0 ≤ x) (h : 4051 ≤ x) (w : World) :
    Calls Tryd.prog 13 #[.agg #[.int .i64 x, .int .i64 y, .bool f]] w fun e w' => e = .returned (.int .i64 1) ∧ Below w.heap.size w w' := by
  go_enter Tryd.func13, Tryd.ntmps13
  go_wp2_with fail
  go_ret
  exact ⟨rfl, by repeat (first | (with_reducible exact Below.refl _ _) | (with_reducible assumption) | (with_reducible refine Below.setCell ?_ (by first | (simp; done) | (simp; omega) | omega) _) | (with_reducible refine Below.alloc ?_ (by first | (simp; done) | (simp; omega) | omega) _) | (refine bl_call ?_ (by assumption) (by first | (simp; done) | (simp; omega) | omega)) | (with_reducible refine bl_drewN ?_) | (with_reducible refine Below.drew ?_) | (with_reducible refine bl_grow ?_ (by first | (simp; done) | (simp; omega) | omega)))⟩
theorem rspot_3 (x y : Int) (f : Bool) (h0 : 0 ≤ x) (h1 : x ≤ 4050) (h : y < 0) (w : World) :
    Calls Tryd.prog 13 #[.agg #[.int .i64 x, .int .i64 y, .bool f]] w fun e w' => e = .returned (.int .i64 1) ∧ Below w.heap.size w w' := by
  go_enter Tryd.func13, Tryd.ntmps13
  go_wp2_with fail
  go_ret
  exact ⟨rfl, by repeat (first | (with_reducible exact Below.refl _ _) | (with_reducible assumption) | (with_reducible refine Below.setCell ?_ (by first | (simp; done) | (simp; omega) | omega) _) | (with_reducible refine Below.alloc ?_ (by first | (simp; done) | (simp; omega) | omega) _) | (refine bl_call ?_ (by assumption) (by first | (simp; done) | (simp; omega) | omega)) | (with_reducible refine bl_drewN ?_) | (with_reducible refine Below.drew ?_) | (with_reducible refine bl_grow ?_ (by first | (simp; done) | (simp; omega) | omega)))⟩
theorem rspot_4 (x y : Int) (f : Bool) (h0 : 0 ≤ x) (h1 : x ≤ 4050) (h2 : 0 ≤ y) (h : 4051 ≤ y) (w : World) :
    Calls Tryd.prog 13 #[.agg #[.int .i64 x, .int .i64 y, .bool f]] w fun e w' => e = .returned (.int .i64 1) ∧ Below w.heap.size w w' := by
  go_enter Tryd.func13, Tryd.ntmps13
  go_wp2_with fail
  go_ret
  exact ⟨rfl, by repeat (first | (with_reducible exact Below.refl _ _) | (with_reducible assumption) | (with_reducible refine Below.setCell ?_ (by first | (simp; done) | (simp; omega) | omega) _) | (with_reducible refine Below.alloc ?_ (by first | (simp; done) | (simp; omega) | omega) _) | (refine bl_call ?_ (by assumption) (by first | (simp; done) | (simp; omega) | omega)) | (with_reducible refine bl_drewN ?_) | (with_reducible refine Below.drew ?_) | (with_reducible refine bl_grow ?_ (by first | (simp; done) | (simp; omega) | omega)))⟩
theorem rspot_5 (x y : Int) (h0 : 0 ≤ x) (h1 : x ≤ 4050) (h2 : 0 ≤ y) (h3 : y ≤ 4050) (h : (x == 0) = false) (w : World) :
    Calls Tryd.prog 13 #[.agg #[.int .i64 x, .int .i64 y, .bool true]] w fun e w' => e = .returned (.int .i64 1) ∧ Below w.heap.size w w' := by
  have e1 : (x != 0) = true := by rw [bne, h]; rfl
  have e2 : ¬ x = 0 := by simpa using h
  go_enter Tryd.func13, Tryd.ntmps13
  go_wp2_with fail
  go_ret
  exact ⟨rfl, by repeat (first | (with_reducible exact Below.refl _ _) | (with_reducible assumption) | (with_reducible refine Below.setCell ?_ (by first | (simp; done) | (simp; omega) | omega) _) | (with_reducible refine Below.alloc ?_ (by first | (simp; done) | (simp; omega) | omega) _) | (refine bl_call ?_ (by assumption) (by first | (simp; done) | (simp; omega) | omega)) | (with_reducible refine bl_drewN ?_) | (with_reducible refine Below.drew ?_) | (with_reducible refine bl_grow ?_ (by first | (simp; done) | (simp; omega) | omega)))⟩
theorem rspot_6 (y : Int) (h2 : 0 ≤ y) (h3 : y ≤ 4050) (h : (y == 0) = false) (w : World) :
    Calls Tryd.prog 13 #[.agg #[.int .i64 0, .int .i64 y, .bool true]] w fun e w' => e = .returned (.int .i64 1) ∧ Below w.heap.size w w' := by
  have e1 : (y != 0) = true := by rw [bne, h]; rfl
  have e2 : ¬ y = 0 := by simpa using h
  go_enter Tryd.func13, Tryd.ntmps13
  go_wp2_with fail
  go_ret
  exact ⟨rfl, by repeat (first | (with_reducible exact Below.refl _ _) | (with_reducible assumption) | (with_reducible refine Below.setCell ?_ (by first | (simp; done) | (simp; omega) | omega) _) | (with_reducible refine Below.alloc ?_ (by first | (simp; done) | (simp; omega) | omega) _) | (refine bl_call ?_ (by assumption) (by first | (simp; done) | (simp; omega) | omega)) | (with_reducible refine bl_drewN ?_) | (with_reducible refine Below.drew ?_) | (with_reducible refine bl_grow ?_ (by first | (simp; done) | (simp; omega) | omega)))⟩
theorem rspot_7  (w : World) :
    Calls Tryd.prog 13 #[.agg #[.int .i64 0, .int .i64 0, .bool true]] w fun e w' => e = .returned (.int .i64 0) ∧ Below w.heap.size w w' := by
  go_enter Tryd.func13, Tryd.ntmps13
  go_wp2_with fail
  go_ret
  exact ⟨rfl, by repeat (first | (with_reducible exact Below.refl _ _) | (with_reducible assumption) | (with_reducible refine Below.setCell ?_ (by first | (simp; done) | (simp; omega) | omega) _) | (with_reducible refine Below.alloc ?_ (by first | (simp; done) | (simp; omega) | omega) _) | (refine bl_call ?_ (by assumption) (by first | (simp; done) | (simp; omega) | omega)) | (with_reducible refine bl_drewN ?_) | (with_reducible refine Below.drew ?_) | (with_reducible refine bl_grow ?_ (by first | (simp; done) | (simp; omega) | omega)))⟩
theorem rspot_8 (x y : Int) (h0 : 0 ≤ x) (h1 : x ≤ 4050) (h2 : 0 ≤ y) (h3 : y ≤ 4050) (h : (y * y % 4051 == (x * x % 4051 * x + x) % 4051) = true) (w : World) :
    Calls Tryd.prog 13 #[.agg #[.int .i64 x, .int .i64 y, .bool false]] w fun e w' => e = .returned (.int .i64 0) ∧ Below w.heap.size w w' := by
  obtain ⟨b1, b2⟩ := mul_bd h2 h3 h2 h3
  obtain ⟨b3, b4⟩ := mul_bd h0 h1 h0 h1
  obtain ⟨b5, b6⟩ := mul_bd (x := x * x % 4051) (y := x) (by omega) (by omega) h0 h1
  go_enter Tryd.func13, Tryd.ntmps13
  go_wp2_with fail
  go_ret
  exact ⟨rfl, by repeat (first | (with_reducible exact Below.refl _ _) | (with_reducible assumption) | (with_reducible refine Below.setCell ?_ (by first | (simp; done) | (simp; omega) | omega) _) | (with_reducible refine Below.alloc ?_ (by first | (simp; done) | (simp; omega) | omega) _) | (refine bl_call ?_ (by assumption) (by first | (simp; done) | (simp; omega) | omega)) | (with_reducible refine bl_drewN ?_) | (with_reducible refine Below.drew ?_) | (with_reducible refine bl_grow ?_ (by first | (simp; done) | (simp; omega) | omega)))⟩
theorem rspot_9 (x y : Int) (h0 : 0 ≤ x) (h1 : x ≤ 4050) (h2 : 0 ≤ y) (h3 : y ≤ 4050) (h : (y * y % 4051 == (x * x % 4051 * x + x) % 4051) = false) (w : World) :
    Calls Tryd.prog 13 #[.agg #[.int .i64 x, .int .i64 y, .bool false]] w fun e w' => e = .returned (.int .i64 3) ∧ Below w.heap.size w w' := by
  obtain ⟨b1, b2⟩ := mul_bd h2 h3 h2 h3
  obtain ⟨b3, b4⟩ := mul_bd h0 h1 h0 h1
  obtain ⟨b5, b6⟩ := mul_bd (x := x * x % 4051) (y := x) (by omega) (by omega) h0 h1
  go_enter Tryd.func13, Tryd.ntmps13
  go_wp2_with fail
  go_ret
  exact ⟨rfl, by repeat (first | (with_reducible exact Below.refl _ _) | (with_reducible assumption) | (with_reducible refine Below.setCell ?_ (by first | (simp; done) | (simp; omega) | omega) _) | (with_reducible refine Below.alloc ?_ (by first | (simp; done) | (simp; omega) | omega) _) | (refine bl_call ?_ (by assumption) (by first | (simp; done) | (simp; omega) | omega)) | (with_reducible refine bl_drewN ?_) | (with_reducible refine Below.drew ?_) | (with_reducible refine bl_grow ?_ (by first | (simp; done) | (simp; omega) | omega)))⟩
theorem rspot_any (x y : Int) (f : Bool) (w : World) :
    Calls Tryd.prog 13 #[.agg #[.int .i64 x, .int .i64 y, .bool f]] w fun e w' => e = .returned (.int .i64 (ckI x y f)) ∧ Below w.heap.size w w' := by
  by_cases h : 0 ≤ x ∧ x < 4051 ∧ 0 ≤ y ∧ y < 4051
  · obtain ⟨h0, h1, h2, h3⟩ := h
    cases f with
    | true =>
      cases e1 : x == 0
      · rw [ckI_far (by rw [e1]; rfl)]; exact rspot_5 x y h0 (by omega) h2 (by omega) e1 w
      · obtain rfl : x = 0 := by simpa using e1
        cases e2 : y == 0
        · rw [ckI_far (by rw [e2]; rfl)]; exact rspot_6 y h2 (by omega) e2 w
        · obtain rfl : y = 0 := by simpa using e2
          exact rspot_7 w
    | false =>
      rw [ckI_in h0 h1 h2 h3]
      cases e : fm (y * y) == sqI x
      · exact rspot_9 x y h0 (by omega) h2 (by omega) (by rw [sqR]; exact e) w
      · exact rspot_8 x y h0 (by omega) h2 (by omega) (by rw [sqR]; exact e) w
  · have e : ckI x y f = 1 := by
      cases f with
      | false => exact ckI_out h
      | true =>
        refine ckI_far ?_
        rw [Bool.eq_false_iff]; simp only [ne_eq, Bool.and_eq_true, beq_iff_eq]; omega
    rw [e]
    by_cases a1 : x < 0
    · exact rspot_1 x y f a1 w
    by_cases a2 : 4051 ≤ x
    · exact rspot_2 x y f (by omega) a2 w
    by_cases a3 : y < 0
    · exact rspot_3 x y f (by omega) (by omega) a3 w
    · exact rspot_4 x y f (by omega) (by omega) (by omega) (by omega) w
theorem rspot_yes {x y : Int} {f : Bool} (h : ckI x y f = 0) (w : World) :
    Calls Tryd.prog 13 #[.agg #[.int .i64 x, .int .i64 y, .bool f]] w fun e w' => e = .returned (.int .i64 0) ∧ Below w.heap.size w w' := by
  have := rspot_any x y f w; rwa [h] at this
theorem turn_n (n : Int) (w : World) (h0 : 1 ≤ n) (h1 : n ≤ 4050) :
    Calls Tryd.prog 107 #[.int .i64 n, .int .i64 4051] w fun x w' => x = .returned (.int .i64 (fpow n 4049)) ∧ w' = w :=
  turn_any 4051 n (fpow n 4049) w (by omega) (by omega) (by omega) (by omega) 40 (turn_start h0 h1) (fpow_lo _ _)
theorem dslR (x y : Nat) : (3 * (x : Int) * x + 1) % 4051 * fpow (2 * (y : Int) % 4051) 4049 % 4051 = (dslN x y : Int) := by
  rw [← dslI]
  show fm (fm (3 * (x : Int) * x + 1) * fpow (fm (2 * (y : Int))) 4049) = _
  rw [fm_mul_l, ← fm_mul_l (fm (fm (3 * fm ((x : Int) * x)) + 1))]
  rw [← fm_mul_l]
  congr 2
  simp only [fm_add_l, fm_add_r, fm_sub_l, fm_sub_r, fm_mul_l, fm_mul_r, fm_fm]
  congr 1; grind
theorem rslope_no1 (x1 y1 y2 : Nat) (w : World) (h : ((y1 : Int) == (y2 : Int)) = false) :
    Calls Tryd.prog 80 #[.agg #[.int .i64 (x1 : Int), .int .i64 (y1 : Int), .bool false], .agg #[.int .i64 (x1 : Int), .int .i64 (y2 : Int), .bool false]] w fun e w' => e = .returned (.tuple #[.int .i64 0, .bool false]) ∧ Below w.heap.size w w' := by
  go_enter Tryd.func80, Tryd.ntmps80
  go_wp2_with fail
  go_ret2
  exact ⟨rfl, by repeat (first | (with_reducible exact Below.refl _ _) | (with_reducible assumption) | (with_reducible refine Below.setCell ?_ (by first | (simp; done) | (simp; omega) | omega) _) | (with_reducible refine Below.alloc ?_ (by first | (simp; done) | (simp; omega) | omega) _) | (refine bl_call ?_ (by assumption) (by first | (simp; done) | (simp; omega) | omega)) | (with_reducible refine bl_drewN ?_) | (with_reducible refine Below.drew ?_) | (with_reducible refine bl_grow ?_ (by first | (simp; done) | (simp; omega) | omega)))⟩
theorem rslope_no2 (x1 : Nat) (w : World) :
    Calls Tryd.prog 80 #[.agg #[.int .i64 (x1 : Int), .int .i64 0, .bool false], .agg #[.int .i64 (x1 : Int), .int .i64 0, .bool false]] w fun e w' => e = .returned (.tuple #[.int .i64 0, .bool false]) ∧ Below w.heap.size w w' := by
  go_enter Tryd.func80, Tryd.ntmps80
  go_wp2_with fail
  go_ret2
  exact ⟨rfl, by repeat (first | (with_reducible exact Below.refl _ _) | (with_reducible assumption) | (with_reducible refine Below.setCell ?_ (by first | (simp; done) | (simp; omega) | omega) _) | (with_reducible refine Below.alloc ?_ (by first | (simp; done) | (simp; omega) | omega) _) | (refine bl_call ?_ (by assumption) (by first | (simp; done) | (simp; omega) | omega)) | (with_reducible refine bl_drewN ?_) | (with_reducible refine Below.drew ?_) | (with_reducible refine bl_grow ?_ (by first | (simp; done) | (simp; omega) | omega)))⟩
set_option maxHeartbeats 1000000 in
theorem rslope_one (x1 y1 : Nat) (w : World) (k1 : x1 < 4051) (k : y1 < 4051) (h : y1 ≠ 0) :
    Calls Tryd.prog 80 #[.agg #[.int .i64 (x1 : Int), .int .i64 (y1 : Int), .bool false], .agg #[.int .i64 (x1 : Int), .int .i64 (y1 : Int), .bool false]] w fun e w' => e = .returned (.tuple #[.int .i64 (dslN x1 y1 : Int), .bool true]) ∧ Below w.heap.size w w' := by
  have H : Hid ((3 * (x1 : Int) * x1 + 1) % 4051 * fpow (2 * (y1 : Int) % 4051) 4049 % 4051 = (dslN x1 y1 : Int)) := dslR x1 y1
  have k1' : (x1 : Int) ≤ 4050 := by omega
  have k' : (y1 : Int) ≤ 4050 := by omega
  have k0 : 0 ≤ (x1 : Int) := by omega
  have j0 : 0 ≤ (y1 : Int) := by omega
  have hy : ((y1 : Int) == 0) = false := by rw [beq_eq_false_iff_ne]; omega
  obtain ⟨b1, b2⟩ := mul_box (x := 3 * (x1 : Int)) (y := (x1 : Int)) (A := 12150) (B := 4050) (by omega) (by omega) k0 k1'
  have t1 : 1 ≤ 2 * (y1 : Int) % 4051 := by omega
  have t2 : 2 * (y1 : Int) % 4051 ≤ 4050 := by omega
  obtain ⟨b3, b4⟩ := mul_bd (x := (3 * (x1 : Int) * x1 + 1) % 4051) (y := fpow (2 * (y1 : Int) % 4051) 4049) (by omega) (by omega) (fpow_lo _ _) (fpow_hi _ _)
  clear k1 k h
  go_enter Tryd.func80, Tryd.ntmps80
  go_wp2_with fail
  refine wp_region_quiet_below (by kernel_rfl) (by kernel_rfl) ?_
  repeat (go_big_quiet_step ((go_at_call 107; exact Calls.regrown_of (below_of_same (turn_n _ _ t1 t2)))))
  refine wpQuiet_nil ?_
  intro _ hw1
  obtain ⟨⟨dq, osq⟩, hw2⟩ := hw1
  subst hw2
  go_wp2_with fail
  go_ret2
  exact ⟨ret2_int H.out, by repeat (first | (with_reducible exact Below.refl _ _) | (with_reducible assumption) | (with_reducible refine Below.setCell ?_ (by first | (simp; done) | (simp; omega) | omega) _) | (with_reducible refine Below.alloc ?_ (by first | (simp; done) | (simp; omega) | omega) _) | (refine bl_call ?_ (by assumption) (by first | (simp; done) | (simp; omega) | omega)) | (with_reducible refine bl_drewN ?_) | (with_reducible refine Below.drew ?_) | (with_reducible refine bl_grow ?_ (by first | (simp; done) | (simp; omega) | omega)))⟩
set_option maxHeartbeats 1000000 in
theorem rslope_two (x1 y1 x2 y2 : Nat) (w : World) (h1 : x1 < 4051) (h2 : x2 < 4051) (k1 : y1 < 4051) (k2 : y2 < 4051) (h : x1 ≠ x2) :
    Calls Tryd.prog 80 #[.agg #[.int .i64 (x1 : Int), .int .i64 (y1 : Int), .bool false], .agg #[.int .i64 (x2 : Int), .int .i64 (y2 : Int), .bool false]] w fun e w' => e = .returned (.tuple #[.int .i64 (cslN x1 y1 x2 y2 : Int), .bool true]) ∧ Below w.heap.size w w' := by
  have H : Hid (fm ((y1 : Int) - y2) * fpow (fm ((x1 : Int) - x2)) 4049 % 4051 = (cslN x1 y1 x2 y2 : Int)) := cslR h2 k2
  have E : ((x1 : Int) == (x2 : Int)) = false := by rw [beq_eq_false_iff_ne]; omega
  have h1' : (x1 : Int) ≤ 4050 := by omega
  have h2' : (x2 : Int) ≤ 4050 := by omega
  have k1' : (y1 : Int) ≤ 4050 := by omega
  have k2' : (y2 : Int) ≤ 4050 := by omega
  have h10 : 0 ≤ (x1 : Int) := by omega
  have h20 : 0 ≤ (x2 : Int) := by omega
  have k10 : 0 ≤ (y1 : Int) := by omega
  have k20 : 0 ≤ (y2 : Int) := by omega
  have t1 : 1 ≤ fm ((x1 : Int) - x2) := by unfold fm; omega
  have t2 := fm_hi ((x1 : Int) - x2)
  obtain ⟨b3, b4⟩ := mul_bd (x := fm ((y1 : Int) - y2)) (y := fpow (fm ((x1 : Int) - x2)) 4049) (fm_lo _) (fm_hi _) (fpow_lo _ _) (fpow_hi _ _)
  clear h1 h2 k1 k2 h
  go_enter Tryd.func80, Tryd.ntmps80
  go_wp2_with fail
  refine wp_region_quiet_below (by kernel_rfl) (by kernel_rfl) ?_
  repeat (go_big_quiet_step (first | (go_at_call 107; exact Calls.regrown_of (below_of_same (turn_n _ _ t1 t2))) | (go_at_call 23; exact Calls.regrown_of (below_of_same (rmod_fm _ _)))))
  refine wpQuiet_nil ?_
  intro _ hw1
  obtain ⟨⟨dq, osq⟩, hw2⟩ := hw1
  subst hw2
  go_wp2_with fail
  go_ret2
  exact ⟨ret2_int H.out, by repeat (first | (with_reducible exact Below.refl _ _) | (with_reducible assumption) | (with_reducible refine Below.setCell ?_ (by first | (simp; done) | (simp; omega) | omega) _) | (with_reducible refine Below.alloc ?_ (by first | (simp; done) | (simp; omega) | omega) _) | (refine bl_call ?_ (by assumption) (by first | (simp; done) | (simp; omega) | omega)) | (with_reducible refine bl_drewN ?_) | (with_reducible refine Below.drew ?_) | (with_reducible refine bl_grow ?_ (by first | (simp; done) | (simp; omega) | omega)))⟩
theorem radd_far1 (x2 y2 : Int) (f2 : Bool) (w : World) :
    Calls Tryd.prog 48 #[.agg #[.int .i64 0, .int .i64 0, .bool true], .agg #[.int .i64 x2, .int .i64 y2, .bool f2]] w fun e w' => e = .returned (.agg #[.int .i64 x2, .int .i64 y2, .bool f2]) ∧ Below w.heap.size w w' := by
  go_enter Tryd.func48, Tryd.ntmps48
  go_wp2_with fail
  exact bodyPost_ret (v := .agg #[.int .i64 x2, .int .i64 y2, .bool f2]) (by simp [results, Tryd.results48, go_sem, *]) rfl ⟨rfl, by repeat (first | (with_reducible exact Below.refl _ _) | (with_reducible assumption) | (with_reducible refine Below.setCell ?_ (by first | (simp; done) | (simp; omega) | omega) _) | (with_reducible refine Below.alloc ?_ (by first | (simp; done) | (simp; omega) | omega) _) | (refine bl_call ?_ (by assumption) (by first | (simp; done) | (simp; omega) | omega)) | (with_reducible refine bl_drewN ?_) | (with_reducible refine Below.drew ?_) | (with_reducible refine bl_grow ?_ (by first | (simp; done) | (simp; omega) | omega)))⟩
theorem radd_far2 (x1 y1 : Int) (w : World) :
    Calls Tryd.prog 48 #[.agg #[.int .i64 x1, .int .i64 y1, .bool false], .agg #[.int .i64 0, .int .i64 0, .bool true]] w fun e w' => e = .returned (.agg #[.int .i64 x1, .int .i64 y1, .bool false]) ∧ Below w.heap.size w w' := by
  go_enter Tryd.func48, Tryd.ntmps48
  go_wp2_with fail
  exact bodyPost_ret (v := .agg #[.int .i64 x1, .int .i64 y1, .bool false]) (by simp [results, Tryd.results48, go_sem, *]) rfl ⟨rfl, by repeat (first | (with_reducible exact Below.refl _ _) | (with_reducible assumption) | (with_reducible refine Below.setCell ?_ (by first | (simp; done) | (simp; omega) | omega) _) | (with_reducible refine Below.alloc ?_ (by first | (simp; done) | (simp; omega) | omega) _) | (refine bl_call ?_ (by assumption) (by first | (simp; done) | (simp; omega) | omega)) | (with_reducible refine bl_drewN ?_) | (with_reducible refine Below.drew ?_) | (with_reducible refine bl_grow ?_ (by first | (simp; done) | (simp; omega) | omega)))⟩
theorem radd_no1 (x1 y1 y2 : Nat) (w : World) (h : ((y1 : Int) == (y2 : Int)) = false) :
    Calls Tryd.prog 48 #[.agg #[.int .i64 (x1 : Int), .int .i64 (y1 : Int), .bool false], .agg #[.int .i64 (x1 : Int), .int .i64 (y2 : Int), .bool false]] w fun e w' => e = .returned (.agg #[.int .i64 0, .int .i64 0, .bool true]) ∧ Below w.heap.size w w' := by
  have m1 : True := trivial
  go_enter Tryd.func48, Tryd.ntmps48
  go_wp2_with (go_at_call 80; clear m1; refine (rslope_no1 _ _ _ _ h).mono ?_; rintro e w1 ⟨rfl, hbw1⟩; have kaw1 : At w1 (w.heap.size) [.int .i64 (x1 : Int), .int .i64 (y1 : Int), .bool false] := (by repeat (first | assumption | ((with_reducible refine at_new' _ _ _ _ ?_); (first | rfl | (simp; done))) | (with_reducible refine At.alloc ?_ _) | (with_reducible refine At.drewN ?_) | (with_reducible refine At.grow ?_) | (with_reducible refine At.store4 (by assumption)) | (with_reducible refine At.store3 (by assumption)) | (with_reducible refine At.store2 (by assumption)) | (with_reducible refine At.set ?_ (by omega)) | (with_reducible apply At.store4) | (with_reducible apply At.store3) | (with_reducible apply At.put43) | (refine At.below ?_ (by assumption)))); have kbw1 : At w1 (w.heap.size + 1) [.int .i64 (x1 : Int), .int .i64 (y2 : Int), .bool false] := (by repeat (first | assumption | ((with_reducible refine at_new' _ _ _ _ ?_); (first | rfl | (simp; done))) | (with_reducible refine At.alloc ?_ _) | (with_reducible refine At.drewN ?_) | (with_reducible refine At.grow ?_) | (with_reducible refine At.store4 (by assumption)) | (with_reducible refine At.store3 (by assumption)) | (with_reducible refine At.store2 (by assumption)) | (with_reducible refine At.set ?_ (by omega)) | (with_reducible apply At.store4) | (with_reducible apply At.store3) | (with_reducible apply At.put43) | (refine At.below ?_ (by assumption)))); have krw1 : At w1 (w.heap.size + 2) [.int .i64 0, .int .i64 0, .bool false] := (by repeat (first | assumption | ((with_reducible refine at_new' _ _ _ _ ?_); (first | rfl | (simp; done))) | (with_reducible refine At.alloc ?_ _) | (with_reducible refine At.drewN ?_) | (with_reducible refine At.grow ?_) | (with_reducible refine At.store4 (by assumption)) | (with_reducible refine At.store3 (by assumption)) | (with_reducible refine At.store2 (by assumption)) | (with_reducible refine At.set ?_ (by omega)) | (with_reducible apply At.store4) | (with_reducible apply At.store3) | (with_reducible apply At.put43) | (refine At.below ?_ (by assumption)))); have hqw1 : Below w.heap.size w w1 := (by repeat (first | (with_reducible exact Below.refl _ _) | (with_reducible assumption) | (with_reducible refine Below.setCell ?_ (by first | (simp; done) | (simp; omega) | omega) _) | (with_reducible refine Below.alloc ?_ (by first | (simp; done) | (simp; omega) | omega) _) | (refine bl_call ?_ (by assumption) (by first | (simp; done) | (simp; omega) | omega)) | (with_reducible refine bl_drewN ?_) | (with_reducible refine Below.drew ?_) | (with_reducible refine bl_grow ?_ (by first | (simp; done) | (simp; omega) | omega)))); have hzw1 := hqw1.size; obtain ⟨zaw1, ca0w1, ca1w1, ca2w1, fa0w1, fa1w1, fa2w1⟩ := kaw1.three; obtain ⟨zbw1, cb0w1, cb1w1, cb2w1, fb0w1, fb1w1, fb2w1⟩ := kbw1.three; obtain ⟨zrw1, cr0w1, cr1w1, cr2w1, fr0w1, fr1w1, fr2w1⟩ := krw1.three; clear hbw1)
  exact bodyPost_ret (v := .agg #[.int .i64 0, .int .i64 0, .bool true]) (by simp [results, Tryd.results48, go_sem, *]) rfl ⟨rfl, by repeat (first | (with_reducible exact Below.refl _ _) | (with_reducible assumption) | (with_reducible refine Below.setCell ?_ (by first | (simp; done) | (simp; omega) | omega) _) | (with_reducible refine Below.alloc ?_ (by first | (simp; done) | (simp; omega) | omega) _) | (refine bl_call ?_ (by assumption) (by first | (simp; done) | (simp; omega) | omega)) | (with_reducible refine bl_drewN ?_) | (with_reducible refine Below.drew ?_) | (with_reducible refine bl_grow ?_ (by first | (simp; done) | (simp; omega) | omega)))⟩
theorem radd_no2 (x1 : Nat) (w : World) :
    Calls Tryd.prog 48 #[.agg #[.int .i64 (x1 : Int), .int .i64 0, .bool false], .agg #[.int .i64 (x1 : Int), .int .i64 0, .bool false]] w fun e w' => e = .returned (.agg #[.int .i64 0, .int .i64 0, .bool true]) ∧ Below w.heap.size w w' := by
  have m1 : True := trivial
  go_enter Tryd.func48, Tryd.ntmps48
  go_wp2_with (go_at_call 80; clear m1; refine (rslope_no2 _ _).mono ?_; rintro e w1 ⟨rfl, hbw1⟩; have kaw1 : At w1 (w.heap.size) [.int .i64 (x1 : Int), .int .i64 0, .bool false] := (by repeat (first | assumption | ((with_reducible refine at_new' _ _ _ _ ?_); (first | rfl | (simp; done))) | (with_reducible refine At.alloc ?_ _) | (with_reducible refine At.drewN ?_) | (with_reducible refine At.grow ?_) | (with_reducible refine At.store4 (by assumption)) | (with_reducible refine At.store3 (by assumption)) | (with_reducible refine At.store2 (by assumption)) | (with_reducible refine At.set ?_ (by omega)) | (with_reducible apply At.store4) | (with_reducible apply At.store3) | (with_reducible apply At.put43) | (refine At.below ?_ (by assumption)))); have kbw1 : At w1 (w.heap.size + 1) [.int .i64 (x1 : Int), .int .i64 0, .bool false] := (by repeat (first | assumption | ((with_reducible refine at_new' _ _ _ _ ?_); (first | rfl | (simp; done))) | (with_reducible refine At.alloc ?_ _) | (with_reducible refine At.drewN ?_) | (with_reducible refine At.grow ?_) | (with_reducible refine At.store4 (by assumption)) | (with_reducible refine At.store3 (by assumption)) | (with_reducible refine At.store2 (by assumption)) | (with_reducible refine At.set ?_ (by omega)) | (with_reducible apply At.store4) | (with_reducible apply At.store3) | (with_reducible apply At.put43) | (refine At.below ?_ (by assumption)))); have krw1 : At w1 (w.heap.size + 2) [.int .i64 0, .int .i64 0, .bool false] := (by repeat (first | assumption | ((with_reducible refine at_new' _ _ _ _ ?_); (first | rfl | (simp; done))) | (with_reducible refine At.alloc ?_ _) | (with_reducible refine At.drewN ?_) | (with_reducible refine At.grow ?_) | (with_reducible refine At.store4 (by assumption)) | (with_reducible refine At.store3 (by assumption)) | (with_reducible refine At.store2 (by assumption)) | (with_reducible refine At.set ?_ (by omega)) | (with_reducible apply At.store4) | (with_reducible apply At.store3) | (with_reducible apply At.put43) | (refine At.below ?_ (by assumption)))); have hqw1 : Below w.heap.size w w1 := (by repeat (first | (with_reducible exact Below.refl _ _) | (with_reducible assumption) | (with_reducible refine Below.setCell ?_ (by first | (simp; done) | (simp; omega) | omega) _) | (with_reducible refine Below.alloc ?_ (by first | (simp; done) | (simp; omega) | omega) _) | (refine bl_call ?_ (by assumption) (by first | (simp; done) | (simp; omega) | omega)) | (with_reducible refine bl_drewN ?_) | (with_reducible refine Below.drew ?_) | (with_reducible refine bl_grow ?_ (by first | (simp; done) | (simp; omega) | omega)))); have hzw1 := hqw1.size; obtain ⟨zaw1, ca0w1, ca1w1, ca2w1, fa0w1, fa1w1, fa2w1⟩ := kaw1.three; obtain ⟨zbw1, cb0w1, cb1w1, cb2w1, fb0w1, fb1w1, fb2w1⟩ := kbw1.three; obtain ⟨zrw1, cr0w1, cr1w1, cr2w1, fr0w1, fr1w1, fr2w1⟩ := krw1.three; clear hbw1)
  exact bodyPost_ret (v := .agg #[.int .i64 0, .int .i64 0, .bool true]) (by simp [results, Tryd.results48, go_sem, *]) rfl ⟨rfl, by repeat (first | (with_reducible exact Below.refl _ _) | (with_reducible assumption) | (with_reducible refine Below.setCell ?_ (by first | (simp; done) | (simp; omega) | omega) _) | (with_reducible refine Below.alloc ?_ (by first | (simp; done) | (simp; omega) | omega) _) | (refine bl_call ?_ (by assumption) (by first | (simp; done) | (simp; omega) | omega)) | (with_reducible refine bl_drewN ?_) | (with_reducible refine Below.drew ?_) | (with_reducible refine bl_grow ?_ (by first | (simp; done) | (simp; omega) | omega)))⟩
set_option maxHeartbeats 1000000 in
theorem radd_two (x1 y1 x2 y2 : Nat) (w : World) (h1 : x1 < 4051) (h2 : x2 < 4051) (k1 : y1 < 4051) (k2 : y2 < 4051) (h : x1 ≠ x2) :
    Calls Tryd.prog 48 #[.agg #[.int .i64 (x1 : Int), .int .i64 (y1 : Int), .bool false], .agg #[.int .i64 (x2 : Int), .int .i64 (y2 : Int), .bool false]] w fun e w' => e = .returned (.agg #[.int .i64 ((lineN (cslN x1 y1 x2 y2) x1 y1 x2).1 : Int), .int .i64 ((lineN (cslN x1 y1 x2 y2) x1 y1 x2).2.1 : Int), .bool false]) ∧ Below w.heap.size w w' := by
  have h1' : (x1 : Int) ≤ 4050 := by omega
  have k1' : (y1 : Int) ≤ 4050 := by omega
  have h10 : 0 ≤ (x1 : Int) := by omega
  have k10 : 0 ≤ (y1 : Int) := by omega
  have h2' : (x2 : Int) ≤ 4050 := by omega
  have h20 : 0 ≤ (x2 : Int) := by omega
  have H1 : Hid (fm (((cslN x1 y1 x2 y2 : Nat) : Int) * (cslN x1 y1 x2 y2 : Nat) - x1 - x2) = ((lineN (cslN x1 y1 x2 y2) x1 y1 x2).1 : Int)) := lineR_x (by omega) (by omega)
  have H2 : Hid (fm (((cslN x1 y1 x2 y2 : Nat) : Int) * (x1 - ((lineN (cslN x1 y1 x2 y2) x1 y1 x2).1 : Int)) - y1) = ((lineN (cslN x1 y1 x2 y2) x1 y1 x2).2.1 : Int)) := lineR_y (by omega) (by omega) (by omega)
  have hs : (((cslN x1 y1 x2 y2 : Nat) : Int)) ≤ 4050 := by have : cslN x1 y1 x2 y2 < 4051 := (by unfold cslN; omega); omega
  have hs0 : 0 ≤ (((cslN x1 y1 x2 y2 : Nat) : Int)) := by omega
  have hX : ((lineN (cslN x1 y1 x2 y2) x1 y1 x2).1 : Int) ≤ 4050 := by have := (line_lt (cslN x1 y1 x2 y2) x1 y1 x2).1; omega
  have hX0 : 0 ≤ ((lineN (cslN x1 y1 x2 y2) x1 y1 x2).1 : Int) := by omega
  obtain ⟨q1, q2⟩ := mul_bd hs0 hs hs0 hs
  obtain ⟨q3, q4⟩ := mul_box2 (d := (x1 : Int) - ((lineN (cslN x1 y1 x2 y2) x1 y1 x2).1 : Int)) hs0 hs (by omega) (by omega)
  have m2 : True := trivial
  have m1 : True := trivial
  go_enter Tryd.func48, Tryd.ntmps48
  go_wp2_with (first | (go_at_call 80; clear m1; refine (rslope_two _ _ _ _ _ h1 h2 k1 k2 h).mono ?_; rintro e w1 ⟨rfl, hbw1⟩; have kaw1 : At w1 (w.heap.size) [.int .i64 (x1 : Int), .int .i64 (y1 : Int), .bool false] := (by repeat (first | assumption | ((with_reducible refine at_new' _ _ _ _ ?_); (first | rfl | (simp; done))) | (with_reducible refine At.alloc ?_ _) | (with_reducible refine At.drewN ?_) | (with_reducible refine At.grow ?_) | (with_reducible refine At.store4 (by assumption)) | (with_reducible refine At.store3 (by assumption)) | (with_reducible refine At.store2 (by assumption)) | (with_reducible refine At.set ?_ (by omega)) | (with_reducible apply At.store4) | (with_reducible apply At.store3) | (with_reducible apply At.put43) | (refine At.below ?_ (by assumption)))); have kbw1 : At w1 (w.heap.size + 1) [.int .i64 (x2 : Int), .int .i64 (y2 : Int), .bool false] := (by repeat (first | assumption | ((with_reducible refine at_new' _ _ _ _ ?_); (first | rfl | (simp; done))) | (with_reducible refine At.alloc ?_ _) | (with_reducible refine At.drewN ?_) | (with_reducible refine At.grow ?_) | (with_reducible refine At.store4 (by assumption)) | (with_reducible refine At.store3 (by assumption)) | (with_reducible refine At.store2 (by assumption)) | (with_reducible refine At.set ?_ (by omega)) | (with_reducible apply At.store4) | (with_reducible apply At.store3) | (with_reducible apply At.put43) | (refine At.below ?_ (by assumption)))); have krw1 : At w1 (w.heap.size + 2) [.int .i64 0, .int .i64 0, .bool false] := (by repeat (first | assumption | ((with_reducible refine at_new' _ _ _ _ ?_); (first | rfl | (simp; done))) | (with_reducible refine At.alloc ?_ _) | (with_reducible refine At.drewN ?_) | (with_reducible refine At.grow ?_) | (with_reducible refine At.store4 (by assumption)) | (with_reducible refine At.store3 (by assumption)) | (with_reducible refine At.store2 (by assumption)) | (with_reducible refine At.set ?_ (by omega)) | (with_reducible apply At.store4) | (with_reducible apply At.store3) | (with_reducible apply At.put43) | (refine At.below ?_ (by assumption)))); have hqw1 : Below w.heap.size w w1 := (by repeat (first | (with_reducible exact Below.refl _ _) | (with_reducible assumption) | (with_reducible refine Below.setCell ?_ (by first | (simp; done) | (simp; omega) | omega) _) | (with_reducible refine Below.alloc ?_ (by first | (simp; done) | (simp; omega) | omega) _) | (refine bl_call ?_ (by assumption) (by first | (simp; done) | (simp; omega) | omega)) | (with_reducible refine bl_drewN ?_) | (with_reducible refine Below.drew ?_) | (with_reducible refine bl_grow ?_ (by first | (simp; done) | (simp; omega) | omega)))); have hzw1 := hqw1.size; obtain ⟨zaw1, ca0w1, ca1w1, ca2w1, fa0w1, fa1w1, fa2w1⟩ := kaw1.three; obtain ⟨zbw1, cb0w1, cb1w1, cb2w1, fb0w1, fb1w1, fb2w1⟩ := kbw1.three; obtain ⟨zrw1, cr0w1, cr1w1, cr2w1, fr0w1, fr1w1, fr2w1⟩ := krw1.three; clear hbw1) | (go_at_call 23; clear m2; refine (rmod_fm _ _).mono ?_; rintro e w' ⟨rfl, rfl⟩; rw [H1.out]) | (go_at_call 23; refine (rmod_fm _ _).mono ?_; rintro e w' ⟨rfl, rfl⟩; rw [H2.out]))
  exact bodyPost_ret (v := .agg #[.int .i64 ((lineN (cslN x1 y1 x2 y2) x1 y1 x2).1 : Int), .int .i64 ((lineN (cslN x1 y1 x2 y2) x1 y1 x2).2.1 : Int), .bool false]) (by simp [results, Tryd.results48, go_sem, *]) rfl ⟨rfl, by repeat (first | (with_reducible exact Below.refl _ _) | (with_reducible assumption) | (with_reducible refine Below.setCell ?_ (by first | (simp; done) | (simp; omega) | omega) _) | (with_reducible refine Below.alloc ?_ (by first | (simp; done) | (simp; omega) | omega) _) | (refine bl_call ?_ (by assumption) (by first | (simp; done) | (simp; omega) | omega)) | (with_reducible refine bl_drewN ?_) | (with_reducible refine Below.drew ?_) | (with_reducible refine bl_grow ?_ (by first | (simp; done) | (simp; omega) | omega)))⟩
set_option maxHeartbeats 1000000 in
theorem radd_one (x1 y1 : Nat) (w : World) (h1 : x1 < 4051) (k1 : y1 < 4051) (h : y1 ≠ 0) :
    Calls Tryd.prog 48 #[.agg #[.int .i64 (x1 : Int), .int .i64 (y1 : Int), .bool false], .agg #[.int .i64 (x1 : Int), .int .i64 (y1 : Int), .bool false]] w fun e w' => e = .returned (.agg #[.int .i64 ((lineN (dslN x1 y1) x1 y1 x1).1 : Int), .int .i64 ((lineN (dslN x1 y1) x1 y1 x1).2.1 : Int), .bool false]) ∧ Below w.heap.size w w' := by
  have h1' : (x1 : Int) ≤ 4050 := by omega
  have k1' : (y1 : Int) ≤ 4050 := by omega
  have h10 : 0 ≤ (x1 : Int) := by omega
  have k10 : 0 ≤ (y1 : Int) := by omega
  have H1 : Hid (fm (((dslN x1 y1 : Nat) : Int) * (dslN x1 y1 : Nat) - x1 - x1) = ((lineN (dslN x1 y1) x1 y1 x1).1 : Int)) := lineR_x (by omega) (by omega)
  have H2 : Hid (fm (((dslN x1 y1 : Nat) : Int) * (x1 - ((lineN (dslN x1 y1) x1 y1 x1).1 : Int)) - y1) = ((lineN (dslN x1 y1) x1 y1 x1).2.1 : Int)) := lineR_y (by omega) (by omega) (by omega)
  have hs : (((dslN x1 y1 : Nat) : Int)) ≤ 4050 := by have : dslN x1 y1 < 4051 := (by unfold dslN; omega); omega
  have hs0 : 0 ≤ (((dslN x1 y1 : Nat) : Int)) := by omega
  have hX : ((lineN (dslN x1 y1) x1 y1 x1).1 : Int) ≤ 4050 := by have := (line_lt (dslN x1 y1) x1 y1 x1).1; omega
  have hX0 : 0 ≤ ((lineN (dslN x1 y1) x1 y1 x1).1 : Int) := by omega
  obtain ⟨q1, q2⟩ := mul_bd hs0 hs hs0 hs
  obtain ⟨q3, q4⟩ := mul_box2 (d := (x1 : Int) - ((lineN (dslN x1 y1) x1 y1 x1).1 : Int)) hs0 hs (by omega) (by omega)
  have m2 : True := trivial
  have m1 : True := trivial
  go_enter Tryd.func48, Tryd.ntmps48
  go_wp2_with (first | (go_at_call 80; clear m1; refine (rslope_one _ _ _ h1 k1 h).mono ?_; rintro e w1 ⟨rfl, hbw1⟩; have kaw1 : At w1 (w.heap.size) [.int .i64 (x1 : Int), .int .i64 (y1 : Int), .bool false] := (by repeat (first | assumption | ((with_reducible refine at_new' _ _ _ _ ?_); (first | rfl | (simp; done))) | (with_reducible refine At.alloc ?_ _) | (with_reducible refine At.drewN ?_) | (with_reducible refine At.grow ?_) | (with_reducible refine At.store4 (by assumption)) | (with_reducible refine At.store3 (by assumption)) | (with_reducible refine At.store2 (by assumption)) | (with_reducible refine At.set ?_ (by omega)) | (with_reducible apply At.store4) | (with_reducible apply At.store3) | (with_reducible apply At.put43) | (refine At.below ?_ (by assumption)))); have kbw1 : At w1 (w.heap.size + 1) [.int .i64 (x1 : Int), .int .i64 (y1 : Int), .bool false] := (by repeat (first | assumption | ((with_reducible refine at_new' _ _ _ _ ?_); (first | rfl | (simp; done))) | (with_reducible refine At.alloc ?_ _) | (with_reducible refine At.drewN ?_) | (with_reducible refine At.grow ?_) | (with_reducible refine At.store4 (by assumption)) | (with_reducible refine At.store3 (by assumption)) | (with_reducible refine At.store2 (by assumption)) | (with_reducible refine At.set ?_ (by omega)) | (with_reducible apply At.store4) | (with_reducible apply At.store3) | (with_reducible apply At.put43) | (refine At.below ?_ (by assumption)))); have krw1 : At w1 (w.heap.size + 2) [.int .i64 0, .int .i64 0, .bool false] := (by repeat (first | assumption | ((with_reducible refine at_new' _ _ _ _ ?_); (first | rfl | (simp; done))) | (with_reducible refine At.alloc ?_ _) | (with_reducible refine At.drewN ?_) | (with_reducible refine At.grow ?_) | (with_reducible refine At.store4 (by assumption)) | (with_reducible refine At.store3 (by assumption)) | (with_reducible refine At.store2 (by assumption)) | (with_reducible refine At.set ?_ (by omega)) | (with_reducible apply At.store4) | (with_reducible apply At.store3) | (with_reducible apply At.put43) | (refine At.below ?_ (by assumption)))); have hqw1 : Below w.heap.size w w1 := (by repeat (first | (with_reducible exact Below.refl _ _) | (with_reducible assumption) | (with_reducible refine Below.setCell ?_ (by first | (simp; done) | (simp; omega) | omega) _) | (with_reducible refine Below.alloc ?_ (by first | (simp; done) | (simp; omega) | omega) _) | (refine bl_call ?_ (by assumption) (by first | (simp; done) | (simp; omega) | omega)) | (with_reducible refine bl_drewN ?_) | (with_reducible refine Below.drew ?_) | (with_reducible refine bl_grow ?_ (by first | (simp; done) | (simp; omega) | omega)))); have hzw1 := hqw1.size; obtain ⟨zaw1, ca0w1, ca1w1, ca2w1, fa0w1, fa1w1, fa2w1⟩ := kaw1.three; obtain ⟨zbw1, cb0w1, cb1w1, cb2w1, fb0w1, fb1w1, fb2w1⟩ := kbw1.three; obtain ⟨zrw1, cr0w1, cr1w1, cr2w1, fr0w1, fr1w1, fr2w1⟩ := krw1.three; clear hbw1) | (go_at_call 23; clear m2; refine (rmod_fm _ _).mono ?_; rintro e w' ⟨rfl, rfl⟩; rw [H1.out]) | (go_at_call 23; refine (rmod_fm _ _).mono ?_; rintro e w' ⟨rfl, rfl⟩; rw [H2.out]))
  exact bodyPost_ret (v := .agg #[.int .i64 ((lineN (dslN x1 y1) x1 y1 x1).1 : Int), .int .i64 ((lineN (dslN x1 y1) x1 y1 x1).2.1 : Int), .bool false]) (by simp [results, Tryd.results48, go_sem, *]) rfl ⟨rfl, by repeat (first | (with_reducible exact Below.refl _ _) | (with_reducible assumption) | (with_reducible refine Below.setCell ?_ (by first | (simp; done) | (simp; omega) | omega) _) | (with_reducible refine Below.alloc ?_ (by first | (simp; done) | (simp; omega) | omega) _) | (refine bl_call ?_ (by assumption) (by first | (simp; done) | (simp; omega) | omega)) | (with_reducible refine bl_drewN ?_) | (with_reducible refine Below.drew ?_) | (with_reducible refine bl_grow ?_ (by first | (simp; done) | (simp; omega) | omega)))⟩
theorem raddN_aff (x1 y1 x2 y2 : Nat) : addN (x1, y1, false) (x2, y2, false) = cond (Nat.beq x1 x2) (cond (Nat.beq y1 y2 && !(Nat.beq y1 0)) (lineN (dslN x1 y1) x1 y1 x1) farN) (lineN (cslN x1 y1 x2 y2) x1 y1 x2) := rfl
theorem radd_ok (a b : Sn) (w : World) (ha : okS a = true) (hb : okS b = true) :
    Calls Tryd.prog 48 #[.agg #[.int .i64 ((a).1 : Int), .int .i64 ((a).2.1 : Int), .bool (a).2.2], .agg #[.int .i64 ((b).1 : Int), .int .i64 ((b).2.1 : Int), .bool (b).2.2]] w fun e w' => e = .returned (.agg #[.int .i64 ((addN a b).1 : Int), .int .i64 ((addN a b).2.1 : Int), .bool (addN a b).2.2]) ∧ Below w.heap.size w w' := by
  obtain ⟨x1, y1, f1⟩ := a
  obtain ⟨x2, y2, f2⟩ := b
  have l1 := okS_lt ha
  have l2 := okS_lt hb
  simp only at l1 l2
  cases f1 with
  | true =>
    obtain ⟨rfl, rfl⟩ : x1 = 0 ∧ y1 = 0 := by
      unfold okS at ha; simp only [cond_true, Bool.and_eq_true] at ha
      exact ⟨Nat.eq_of_beq_eq_true ha.1, Nat.eq_of_beq_eq_true ha.2⟩
    exact radd_far1 x2 y2 f2 w
  | false =>
    cases f2 with
    | true =>
      obtain ⟨rfl, rfl⟩ : x2 = 0 ∧ y2 = 0 := by
        unfold okS at hb; simp only [cond_true, Bool.and_eq_true] at hb
        exact ⟨Nat.eq_of_beq_eq_true hb.1, Nat.eq_of_beq_eq_true hb.2⟩
      exact radd_far2 x1 y1 w
    | false =>
      rw [raddN_aff]
      by_cases hx : x1 = x2
      · subst hx
        rw [show Nat.beq x1 x1 = true from Nat.beq_refl x1]
        by_cases hy : y1 = y2
        · subst hy
          by_cases hy0 : y1 = 0
          · subst hy0
            exact radd_no2 x1 w
          · rw [show (Nat.beq y1 y1 && !(Nat.beq y1 0)) = true by
              simp only [Bool.and_eq_true, Bool.not_eq_true']
              exact ⟨Nat.beq_refl y1, by rw [← Bool.not_eq_true]; intro h; exact hy0 (Nat.eq_of_beq_eq_true h)⟩]
            exact radd_one x1 y1 w l1.1 l1.2 hy0
        · rw [show (Nat.beq y1 y2 && !(Nat.beq y1 0)) = false by
            rw [show Nat.beq y1 y2 = false by rw [← Bool.not_eq_true]; intro h; exact hy (Nat.eq_of_beq_eq_true h)]; rfl]
          exact radd_no1 x1 y1 y2 w (by rw [beq_eq_false_iff_ne]; omega)
      · rw [show Nat.beq x1 x2 = false by rw [← Bool.not_eq_true]; intro h; exact hx (Nat.eq_of_beq_eq_true h)]
        exact radd_two x1 y1 x2 y2 w l1.1 l2.1 l1.2 l2.2 hx
theorem radd_tM (j k : Nat) (w : World) :
    Calls Tryd.prog 48 #[.agg #[.int .i64 ((tM j).1 : Int), .int .i64 ((tM j).2.1 : Int), .bool (tM j).2.2], .agg #[.int .i64 ((tM k).1 : Int), .int .i64 ((tM k).2.1 : Int), .bool (tM k).2.2]] w fun e w' => e = .returned (.agg #[.int .i64 ((tM (j + k)).1 : Int), .int .i64 ((tM (j + k)).2.1 : Int), .bool (tM (j + k)).2.2]) ∧ Below w.heap.size w w' := by
  have := radd_ok (tM j) (tM k) w (tM_ok j) (tM_ok k)
  rwa [tM_add] at this
theorem rootI_sq (x : Int) : rootI (x * x % 4051 * x + x) = rootI (sqI x) := by
  have e : fm (x * x % 4051 * x + x) = sqI x := sqR x
  have e1 : rt (x * x % 4051 * x + x) = rt (sqI x) := by unfold rt; rw [← fpow_fm, e]
  unfold rootI rtOk rtMin; rw [e1, e, sqI_fm]
theorem rlift_yes (x : Int) (w : World) (h0 : 0 ≤ x) (h1 : x ≤ 4050) (h : rtOk (sqI x) = true) :
    Calls Tryd.prog 79 #[.int .i64 x] w fun e w' => e = .returned (.tuple #[.agg #[.int .i64 x, .int .i64 (rtMin (sqI x)), .bool false], .bool true]) ∧ Below w.heap.size w w' := by
  have H : Hid (rootI (x * x % 4051 * x + x) = rtMin (sqI x)) := by show rootI _ = _; rw [rootI_sq, rootI, h]; rfl
  have hr := (least_le (sqI x)).1
  obtain ⟨b3, b4⟩ := mul_bd h0 h1 h0 h1
  obtain ⟨b5, b6⟩ := mul_bd (x := x * x % 4051) (y := x) (by omega) (by omega) h0 h1
  go_enter Tryd.func79, Tryd.ntmps79
  go_wp2_with (go_at_call 106; refine (rroot_any _ _).mono ?_; rintro e w' ⟨rfl, rfl⟩; rw [H.out])
  exact bodyPost_ret (v := .tuple #[.agg #[.int .i64 x, .int .i64 (rtMin (sqI x)), .bool false], .bool true]) (by simp [results, Tryd.results79, go_sem, *]) rfl ⟨rfl, by repeat (first | (with_reducible exact Below.refl _ _) | (with_reducible assumption) | (with_reducible refine Below.setCell ?_ (by first | (simp; done) | (simp; omega) | omega) _) | (with_reducible refine Below.alloc ?_ (by first | (simp; done) | (simp; omega) | omega) _) | (refine bl_call ?_ (by assumption) (by first | (simp; done) | (simp; omega) | omega)) | (with_reducible refine bl_drewN ?_) | (with_reducible refine Below.drew ?_) | (with_reducible refine bl_grow ?_ (by first | (simp; done) | (simp; omega) | omega)))⟩
theorem rlift_no (x : Int) (w : World) (h0 : 0 ≤ x) (h1 : x ≤ 4050) (h : rtOk (sqI x) = false) :
    Calls Tryd.prog 79 #[.int .i64 x] w fun e w' => e = .returned (.tuple #[.agg #[.int .i64 0, .int .i64 0, .bool false], .bool false]) ∧ Below w.heap.size w w' := by
  have H : Hid (rootI (x * x % 4051 * x + x) = -1) := by show rootI _ = _; rw [rootI_sq, rootI, h]; rfl
  obtain ⟨b3, b4⟩ := mul_bd h0 h1 h0 h1
  obtain ⟨b5, b6⟩ := mul_bd (x := x * x % 4051) (y := x) (by omega) (by omega) h0 h1
  go_enter Tryd.func79, Tryd.ntmps79
  go_wp2_with (go_at_call 106; refine (rroot_any _ _).mono ?_; rintro e w' ⟨rfl, rfl⟩; rw [H.out])
  exact bodyPost_ret (v := .tuple #[.agg #[.int .i64 0, .int .i64 0, .bool false], .bool false]) (by simp [results, Tryd.results79, go_sem, *]) rfl ⟨rfl, by repeat (first | (with_reducible exact Below.refl _ _) | (with_reducible assumption) | (with_reducible refine Below.setCell ?_ (by first | (simp; done) | (simp; omega) | omega) _) | (with_reducible refine Below.alloc ?_ (by first | (simp; done) | (simp; omega) | omega) _) | (refine bl_call ?_ (by assumption) (by first | (simp; done) | (simp; omega) | omega)) | (with_reducible refine bl_drewN ?_) | (with_reducible refine Below.drew ?_) | (with_reducible refine bl_grow ?_ (by first | (simp; done) | (simp; omega) | omega)))⟩
end Go.Proofs.YtmijjjdedadklaiDoor
