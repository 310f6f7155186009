/- What each function of package curve answers, for all spots, in whatever memory; nothing that was there is turned. -/
import Derived.Test.YtmijjjdedadklagPrime
import Derived.Test.YtmijjjdedadklagCurveMath
import Derived.Test.YtmijjjdedadklagMem
namespace Go.Proofs.Ytmijjjdedadklag
open Go.RowKit Go.Sort
set_option linter.unusedVariables false
set_option linter.unusedSimpArgs false

theorem sub_eq {a b r : Int} (h : fm (a - b) = r) (w : World) : Calls Try.prog 80 #[.int .i64 a, .int .i64 b] w fun e w' => e = .returned (.int .i64 r) ∧ w' = w := h ▸ sub_any a b w
theorem add_eq {a b r : Int} (h : fm (a + b) = r) (w : World) : Calls Try.prog 81 #[.int .i64 a, .int .i64 b] w fun e w' => e = .returned (.int .i64 r) ∧ w' = w := h ▸ add_any a b w
theorem infield_any (n : Int) (w : World) :
    Calls Try.prog 66 #[.int .i64 n] w fun e w' => e = .returned (.bool (decide (0 ≤ n) && decide (n < 4051))) ∧ w' = w := by
  by_cases h : 0 ≤ n
  · by_cases h1 : n < 4051
    · go_enter Try.func66, Try.ntmps66
      go_wp2
      go_ret
      simp [h, h1]
    · go_enter Try.func66, Try.ntmps66
      go_wp2
      go_ret
      simp [h, h1]
  · go_enter Try.func66, Try.ntmps66
    go_wp2
    go_ret
    simp; omega
theorem infield_yes (n : Int) (w : World) (h : 0 ≤ n) (h1 : n < 4051) :
    Calls Try.prog 66 #[.int .i64 n] w fun e w' => e = .returned (.bool true) ∧ w' = w := by
  have := infield_any n w; simpa [h, h1] using this
theorem infield_no (n : Int) (w : World) (h : ¬ (0 ≤ n ∧ n < 4051)) :
    Calls Try.prog 66 #[.int .i64 n] w fun e w' => e = .returned (.bool false) ∧ w' = w := by
  have h2 : (decide (0 ≤ n) && decide (n < 4051)) = false := by rw [Bool.eq_false_iff]; simp only [ne_eq, Bool.and_eq_true, decide_eq_true_eq]; omega
  have := infield_any n w; rwa [h2] at this
theorem squareAt_any (x : Int) (w : World) :
    Calls Try.prog 68 #[.int .i64 x] w fun e w' => e = .returned (.int .i64 (sqI x)) ∧ w' = w := by
  go_enter Try.func68, Try.ntmps68
  go_wp2_with (first | (go_at_call 67; refine (mul_any _ _ _).mono ?_; rintro e w' ⟨rfl, rfl⟩) | (go_at_call 81; refine (add_any _ _ _).mono ?_; rintro e w' ⟨rfl, rfl⟩))
  go_ret
  exact ⟨rfl, rfl⟩
theorem check_far (w : World) :
    Calls Try.prog 31 #[.agg #[.int .i64 0, .int .i64 0, .bool true]] w fun e w' => e = .returned .nilIface ∧ Below w.heap.size w w' := by
  go_enter Try.func31, Try.ntmps31
  go_wp2_with fail
  go_ret
  exact ⟨rfl, by repeat (first | (with_reducible exact Below.refl _ _) | (with_reducible assumption) | (with_reducible refine Below.setCell ?_ (by first | (simp; done) | (simp; omega) | omega) _) | (with_reducible refine Below.alloc ?_ (by first | (simp; done) | (simp; omega) | omega) _) | (refine bl_call ?_ (by assumption) (by first | (simp; done) | (simp; omega) | omega)) | (with_reducible refine bl_drewN ?_) | (with_reducible refine Below.drew ?_) | (with_reducible refine bl_grow ?_ (by first | (simp; done) | (simp; omega) | omega)))⟩
theorem check_far1 (x y : Int) (w : World) (h : (x == 0) = false) :
    Calls Try.prog 31 #[.agg #[.int .i64 x, .int .i64 y, .bool true]] w fun e w' => e = .returned (errOf 1) ∧ Below w.heap.size w w' := by
  go_enter Try.func31, Try.ntmps31
  go_wp2_with fail
  go_ret
  exact ⟨rfl, by repeat (first | (with_reducible exact Below.refl _ _) | (with_reducible assumption) | (with_reducible refine Below.setCell ?_ (by first | (simp; done) | (simp; omega) | omega) _) | (with_reducible refine Below.alloc ?_ (by first | (simp; done) | (simp; omega) | omega) _) | (refine bl_call ?_ (by assumption) (by first | (simp; done) | (simp; omega) | omega)) | (with_reducible refine bl_drewN ?_) | (with_reducible refine Below.drew ?_) | (with_reducible refine bl_grow ?_ (by first | (simp; done) | (simp; omega) | omega)))⟩
theorem check_far2 (y : Int) (w : World) (h : (y == 0) = false) :
    Calls Try.prog 31 #[.agg #[.int .i64 0, .int .i64 y, .bool true]] w fun e w' => e = .returned (errOf 1) ∧ Below w.heap.size w w' := by
  go_enter Try.func31, Try.ntmps31
  go_wp2_with fail
  go_ret
  exact ⟨rfl, by repeat (first | (with_reducible exact Below.refl _ _) | (with_reducible assumption) | (with_reducible refine Below.setCell ?_ (by first | (simp; done) | (simp; omega) | omega) _) | (with_reducible refine Below.alloc ?_ (by first | (simp; done) | (simp; omega) | omega) _) | (refine bl_call ?_ (by assumption) (by first | (simp; done) | (simp; omega) | omega)) | (with_reducible refine bl_drewN ?_) | (with_reducible refine Below.drew ?_) | (with_reducible refine bl_grow ?_ (by first | (simp; done) | (simp; omega) | omega)))⟩
theorem check_out1 (x y : Int) (w : World) (h : ¬ (0 ≤ x ∧ x < 4051)) :
    Calls Try.prog 31 #[.agg #[.int .i64 x, .int .i64 y, .bool false]] w fun e w' => e = .returned (errOf 1) ∧ Below w.heap.size w w' := by
  have H : Hid (¬ (0 ≤ x ∧ x < 4051)) := h
  clear h
  go_enter Try.func31, Try.ntmps31
  go_wp2_with (go_at_call 66; refine (infield_no _ _ H.out).mono ?_; rintro e w' ⟨rfl, rfl⟩)
  go_ret
  exact ⟨rfl, by repeat (first | (with_reducible exact Below.refl _ _) | (with_reducible assumption) | (with_reducible refine Below.setCell ?_ (by first | (simp; done) | (simp; omega) | omega) _) | (with_reducible refine Below.alloc ?_ (by first | (simp; done) | (simp; omega) | omega) _) | (refine bl_call ?_ (by assumption) (by first | (simp; done) | (simp; omega) | omega)) | (with_reducible refine bl_drewN ?_) | (with_reducible refine Below.drew ?_) | (with_reducible refine bl_grow ?_ (by first | (simp; done) | (simp; omega) | omega)))⟩
theorem check_out2 (x y : Int) (w : World) (h0 : 0 ≤ x) (h1 : x < 4051) (h : ¬ (0 ≤ y ∧ y < 4051)) :
    Calls Try.prog 31 #[.agg #[.int .i64 x, .int .i64 y, .bool false]] w fun e w' => e = .returned (errOf 1) ∧ Below w.heap.size w w' := by
  have H : Hid (¬ (0 ≤ y ∧ y < 4051)) := h
  clear h
  have m1 : True := trivial
  go_enter Try.func31, Try.ntmps31
  go_wp2_with (first | (go_at_call 66; clear m1; refine (infield_yes _ _ h0 h1).mono ?_; rintro e w' ⟨rfl, rfl⟩) | (go_at_call 66; refine (infield_no _ _ H.out).mono ?_; rintro e w' ⟨rfl, rfl⟩))
  go_ret
  exact ⟨rfl, by repeat (first | (with_reducible exact Below.refl _ _) | (with_reducible assumption) | (with_reducible refine Below.setCell ?_ (by first | (simp; done) | (simp; omega) | omega) _) | (with_reducible refine Below.alloc ?_ (by first | (simp; done) | (simp; omega) | omega) _) | (refine bl_call ?_ (by assumption) (by first | (simp; done) | (simp; omega) | omega)) | (with_reducible refine bl_drewN ?_) | (with_reducible refine Below.drew ?_) | (with_reducible refine bl_grow ?_ (by first | (simp; done) | (simp; omega) | omega)))⟩
theorem check_on (x y : Int) (w : World) (h0 : 0 ≤ x) (h1 : x < 4051) (h2 : 0 ≤ y) (h3 : y < 4051) (h : (fm (y * y) == sqI x) = true) :
    Calls Try.prog 31 #[.agg #[.int .i64 x, .int .i64 y, .bool false]] w fun e w' => e = .returned .nilIface ∧ Below w.heap.size w w' := by
  have m1 : True := trivial
  go_enter Try.func31, Try.ntmps31
  go_wp2_with (first | (go_at_call 66; clear m1; refine (infield_yes _ _ h0 h1).mono ?_; rintro e w' ⟨rfl, rfl⟩) | (go_at_call 66; refine (infield_yes _ _ h2 h3).mono ?_; rintro e w' ⟨rfl, rfl⟩))
  refine wp_region_quiet_below (by kernel_rfl) (by kernel_rfl) ?_
  repeat (go_big_quiet_step (first | (go_at_call 67; exact Calls.regrown_of (below_of_same (mul_any _ _ _))) | (go_at_call 68; exact Calls.regrown_of (below_of_same (squareAt_any _ _)))))
  refine wpQuiet_nil ?_
  intro _ hw1
  obtain ⟨⟨dq, osq⟩, hw2⟩ := hw1
  subst hw2
  go_wp2_with fail
  go_ret
  exact ⟨rfl, by repeat (first | (with_reducible exact Below.refl _ _) | (with_reducible assumption) | (with_reducible refine Below.setCell ?_ (by first | (simp; done) | (simp; omega) | omega) _) | (with_reducible refine Below.alloc ?_ (by first | (simp; done) | (simp; omega) | omega) _) | (refine bl_call ?_ (by assumption) (by first | (simp; done) | (simp; omega) | omega)) | (with_reducible refine bl_drewN ?_) | (with_reducible refine Below.drew ?_) | (with_reducible refine bl_grow ?_ (by first | (simp; done) | (simp; omega) | omega)))⟩
theorem check_off (x y : Int) (w : World) (h0 : 0 ≤ x) (h1 : x < 4051) (h2 : 0 ≤ y) (h3 : y < 4051) (h : (fm (y * y) == sqI x) = false) :
    Calls Try.prog 31 #[.agg #[.int .i64 x, .int .i64 y, .bool false]] w fun e w' => e = .returned (errOf 3) ∧ Below w.heap.size w w' := by
  have m1 : True := trivial
  go_enter Try.func31, Try.ntmps31
  go_wp2_with (first | (go_at_call 66; clear m1; refine (infield_yes _ _ h0 h1).mono ?_; rintro e w' ⟨rfl, rfl⟩) | (go_at_call 66; refine (infield_yes _ _ h2 h3).mono ?_; rintro e w' ⟨rfl, rfl⟩))
  refine wp_region_quiet_below (by kernel_rfl) (by kernel_rfl) ?_
  repeat (go_big_quiet_step (first | (go_at_call 67; exact Calls.regrown_of (below_of_same (mul_any _ _ _))) | (go_at_call 68; exact Calls.regrown_of (below_of_same (squareAt_any _ _)))))
  refine wpQuiet_nil ?_
  intro _ hw1
  obtain ⟨⟨dq, osq⟩, hw2⟩ := hw1
  subst hw2
  go_wp2_with fail
  go_ret
  exact ⟨rfl, by repeat (first | (with_reducible exact Below.refl _ _) | (with_reducible assumption) | (with_reducible refine Below.setCell ?_ (by first | (simp; done) | (simp; omega) | omega) _) | (with_reducible refine Below.alloc ?_ (by first | (simp; done) | (simp; omega) | omega) _) | (refine bl_call ?_ (by assumption) (by first | (simp; done) | (simp; omega) | omega)) | (with_reducible refine bl_drewN ?_) | (with_reducible refine Below.drew ?_) | (with_reducible refine bl_grow ?_ (by first | (simp; done) | (simp; omega) | omega)))⟩
/-- What is wrong with a spot is told. -/
theorem check_no (x y : Int) (f : Bool) (w : World) (h : (ckI x y f == 0) = false) :
    Calls Try.prog 31 #[.agg #[.int .i64 x, .int .i64 y, .bool f]] w fun e w' => e = .returned (errOf (ckI x y f)) ∧ Below w.heap.size w w' := by
  cases f with
  | true =>
    cases h1 : x == 0
    · rw [ckI_far (by rw [h1]; rfl)]; exact check_far1 x y w h1
    · obtain rfl : x = 0 := by simpa using h1
      cases h2 : y == 0
      · rw [ckI_far (by rw [h2]; rfl)]; exact check_far2 y w h2
      · obtain rfl : y = 0 := by simpa using h2
        cases h
  | false =>
    by_cases h1 : 0 ≤ x ∧ x < 4051
    · by_cases h2 : 0 ≤ y ∧ y < 4051
      · rw [ckI_in h1.1 h1.2 h2.1 h2.2] at h ⊢
        cases h3 : fm (y * y) == sqI x
        · exact check_off x y w h1.1 h1.2 h2.1 h2.2 h3
        · rw [h3] at h; cases h
      · rw [ckI_out (by omega)]; exact check_out2 x y w h1.1 h1.2 h2
    · rw [ckI_out (by omega)]; exact check_out1 x y w h1
theorem check_yes (x y : Int) (f : Bool) (w : World) (h : ckI x y f = 0) :
    Calls Try.prog 31 #[.agg #[.int .i64 x, .int .i64 y, .bool f]] w fun e w' => e = .returned .nilIface ∧ Below w.heap.size w w' := by
  cases f with
  | true =>
    cases h1 : x == 0
    · rw [ckI_far (by rw [h1]; rfl)] at h; cases h
    · obtain rfl : x = 0 := by simpa using h1
      cases h2 : y == 0
      · rw [ckI_far (by rw [h2]; rfl)] at h; cases h
      · obtain rfl : y = 0 := by simpa using h2
        exact check_far w
  | false =>
    by_cases h1 : 0 ≤ x ∧ x < 4051 ∧ 0 ≤ y ∧ y < 4051
    · obtain ⟨a, b, c, d⟩ := h1
      rw [ckI_in a b c d] at h
      cases h3 : fm (y * y) == sqI x
      · rw [h3] at h; cases h
      · exact check_on x y w a b c d h3
    · rw [ckI_out h1] at h; cases h
theorem turned_any (x y : Nat) (f : Bool) (w : World) (h : y < 4051) :
    Calls Try.prog 57 #[.agg #[.int .i64 (x : Int), .int .i64 (y : Int), .bool f]] w fun e w' => e = .returned (.agg #[.int .i64 (x : Int), .int .i64 (ny y : Int), .bool f]) ∧ Below w.heap.size w w' := by
  have H : Hid (fm (0 - (y : Int)) = (ny y : Int)) := nyI h
  go_enter Try.func57, Try.ntmps57
  go_wp2_with (go_at_call 80; refine (sub_any _ _ _).mono ?_; rintro e w' ⟨rfl, rfl⟩; rw [H.out])
  exact bodyPost_ret (v := .agg #[.int .i64 (x : Int), .int .i64 (ny y : Int), .bool f]) (by simp [results, Try.results57, go_sem]) rfl ⟨rfl, by repeat (first | (with_reducible exact Below.refl _ _) | (with_reducible assumption) | (with_reducible refine Below.setCell ?_ (by first | (simp; done) | (simp; omega) | omega) _) | (with_reducible refine Below.alloc ?_ (by first | (simp; done) | (simp; omega) | omega) _) | (refine bl_call ?_ (by assumption) (by first | (simp; done) | (simp; omega) | omega)) | (with_reducible refine bl_drewN ?_) | (with_reducible refine Below.drew ?_) | (with_reducible refine bl_grow ?_ (by first | (simp; done) | (simp; omega) | omega)))⟩
theorem slope_two (x1 y1 x2 y2 : Nat) (w : World) (h1 : x1 < 4051) (h2 : x2 < 4051) (k1 : y1 < 4051) (k2 : y2 < 4051) (h : x1 ≠ x2) :
    Calls Try.prog 58 #[.agg #[.int .i64 (x1 : Int), .int .i64 (y1 : Int), .bool false], .agg #[.int .i64 (x2 : Int), .int .i64 (y2 : Int), .bool false]] w fun e w' => e = .returned (.tuple #[.int .i64 (cslN x1 y1 x2 y2 : Int), .nilIface]) ∧ Below w.heap.size w w' := by
  have H : Hid (fm (fm ((y2 : Int) - y1) * fpow (fm ((x2 : Int) - x1)) 4049) = (cslN x1 y1 x2 y2 : Int)) := cslI h1 h2 k1 k2
  have E : ((x1 : Int) == (x2 : Int)) = false := by rw [beq_eq_false_iff_ne]; omega
  have R : (fm (fm ((x2 : Int) - x1)) == 0) = false := by rw [beq_eq_false_iff_ne, fm_fm]; unfold fm; omega
  clear h1 h2 k1 k2 h
  go_enter Try.func58, Try.ntmps58
  go_wp2_with fail
  refine wp_region_quiet_below (by kernel_rfl) (by kernel_rfl) ?_
  repeat (go_big_quiet_step ((go_at_call 80; exact Calls.regrown_of (below_of_same (sub_any _ _ _)))))
  refine wpQuiet_nil ?_
  intro _ hw1
  obtain ⟨⟨dq, osq⟩, hw2⟩ := hw1
  subst hw2
  go_wp2_with (first | (go_at_call 82; refine (inv_yes _ _ R).mono ?_; rintro e w' ⟨rfl, rfl⟩) | (go_at_call 67; refine (mul_any _ _ _).mono ?_; rintro e w' ⟨rfl, rfl⟩; rw [H.out]))
  go_ret2
  exact ⟨rfl, by repeat (first | (with_reducible exact Below.refl _ _) | (with_reducible assumption) | (with_reducible refine Below.setCell ?_ (by first | (simp; done) | (simp; omega) | omega) _) | (with_reducible refine Below.alloc ?_ (by first | (simp; done) | (simp; omega) | omega) _) | (refine bl_call ?_ (by assumption) (by first | (simp; done) | (simp; omega) | omega)) | (with_reducible refine bl_drewN ?_) | (with_reducible refine Below.drew ?_) | (with_reducible refine bl_grow ?_ (by first | (simp; done) | (simp; omega) | omega)))⟩
theorem slope_one (x y : Nat) (w : World) (k : y < 4051) (h : y ≠ 0) :
    Calls Try.prog 58 #[.agg #[.int .i64 (x : Int), .int .i64 (y : Int), .bool false], .agg #[.int .i64 (x : Int), .int .i64 (y : Int), .bool false]] w fun e w' => e = .returned (.tuple #[.int .i64 (dslN x y : Int), .nilIface]) ∧ Below w.heap.size w w' := by
  have H : Hid (fm (fm (fm (3 * fm ((x : Int) * x)) + 1) * fpow (fm (2 * (y : Int))) 4049) = (dslN x y : Int)) := dslI x y
  have R : (fm (fm (2 * (y : Int))) == 0) = false := by rw [beq_eq_false_iff_ne, fm_fm]; unfold fm; omega
  clear k h
  have m1 : True := trivial
  go_enter Try.func58, Try.ntmps58
  go_wp2_with fail
  refine wp_region_quiet_below (by kernel_rfl) (by kernel_rfl) ?_
  repeat (go_big_quiet_step ((go_at_call 80; exact Calls.regrown_of (below_of_same (sub_any _ _ _)))))
  refine wpQuiet_nil ?_
  intro _ hw1
  obtain ⟨⟨dq, osq⟩, hw2⟩ := hw1
  subst hw2
  go_wp2_with (first | (go_at_call 82; clear m1; refine (inv_yes _ _ R).mono ?_; rintro e w' ⟨rfl, rfl⟩) | (go_at_call 67; clear m1; have m1 : True := trivial; refine (mul_any _ _ _).mono ?_; rintro e w' ⟨rfl, rfl⟩) | (go_at_call 67; refine (mul_any _ _ _).mono ?_; rintro e w' ⟨rfl, rfl⟩; rw [H.out]) | (go_at_call 81; refine (add_any _ _ _).mono ?_; rintro e w' ⟨rfl, rfl⟩))
  go_ret2
  exact ⟨rfl, by repeat (first | (with_reducible exact Below.refl _ _) | (with_reducible assumption) | (with_reducible refine Below.setCell ?_ (by first | (simp; done) | (simp; omega) | omega) _) | (with_reducible refine Below.alloc ?_ (by first | (simp; done) | (simp; omega) | omega) _) | (refine bl_call ?_ (by assumption) (by first | (simp; done) | (simp; omega) | omega)) | (with_reducible refine bl_drewN ?_) | (with_reducible refine Below.drew ?_) | (with_reducible refine bl_grow ?_ (by first | (simp; done) | (simp; omega) | omega)))⟩
theorem third_any (x1 y1 x2 y2 s : Nat) (f g : Bool) (w : World) (h1 : x1 < 4051) (h2 : x2 < 4051) :
    Calls Try.prog 59 #[.agg #[.int .i64 (x1 : Int), .int .i64 (y1 : Int), .bool f], .agg #[.int .i64 (x2 : Int), .int .i64 (y2 : Int), .bool g], .int .i64 (s : Int)] w fun e w' => e = .returned (.agg #[.int .i64 ((lineN s x1 y1 x2).1 : Int), .int .i64 (tyN s x1 y1 x2 : Int), .bool false]) ∧ Below w.heap.size w w' := by
  have H : Hid (fm (fm ((s : Int) * s) - fm ((x1 : Int) + x2)) = ((lineN s x1 y1 x2).1 : Int)) := lineI_x h1 h2
  have K : Hid (fm ((y1 : Int) + fm (s * fm (((lineN s x1 y1 x2).1 : Int) - x1))) = (tyN s x1 y1 x2 : Int)) := tyI s x1 y1 x2
  clear h1 h2
  go_enter Try.func59, Try.ntmps59
  go_wp2_with fail
  refine wp_region_quiet_below (by kernel_rfl) (by kernel_rfl) ?_
  repeat (go_big_quiet_step (first | (go_at_call 80; exact Calls.regrown_of (below_of_same (sub_eq H.out _))) | (go_at_call 67; exact Calls.regrown_of (below_of_same (mul_any _ _ _))) | (go_at_call 81; exact Calls.regrown_of (below_of_same (add_any _ _ _)))))
  refine wpQuiet_nil ?_
  intro _ hw1
  obtain ⟨⟨dq, osq⟩, hw2⟩ := hw1
  subst hw2
  go_wp2_with fail
  refine wp_gen (fun W1 => At W1 (w.heap.size) [.int .i64 (x1 : Int), .int .i64 (y1 : Int), .bool f] ∧ At W1 (w.heap.size + 1) [.int .i64 (x2 : Int), .int .i64 (y2 : Int), .bool g] ∧ At W1 (w.heap.size + 2) [.int .i64 0, .int .i64 0, .bool false] ∧ Below w.heap.size w W1) ⟨by repeat (first | assumption | ((with_reducible refine at_new' _ _ _ _ ?_); (first | rfl | (simp; done))) | (with_reducible refine At.alloc ?_ _) | (with_reducible refine At.drewN ?_) | (with_reducible refine At.grow ?_) | (with_reducible refine At.store4 (by assumption)) | (with_reducible refine At.store3 (by assumption)) | (with_reducible refine At.store2 (by assumption)) | (with_reducible refine At.set ?_ (by omega)) | (with_reducible apply At.store4) | (with_reducible apply At.store3) | (with_reducible apply At.put43) | (refine At.below ?_ (by assumption))), by repeat (first | assumption | ((with_reducible refine at_new' _ _ _ _ ?_); (first | rfl | (simp; done))) | (with_reducible refine At.alloc ?_ _) | (with_reducible refine At.drewN ?_) | (with_reducible refine At.grow ?_) | (with_reducible refine At.store4 (by assumption)) | (with_reducible refine At.store3 (by assumption)) | (with_reducible refine At.store2 (by assumption)) | (with_reducible refine At.set ?_ (by omega)) | (with_reducible apply At.store4) | (with_reducible apply At.store3) | (with_reducible apply At.put43) | (refine At.below ?_ (by assumption))), by repeat (first | assumption | ((with_reducible refine at_new' _ _ _ _ ?_); (first | rfl | (simp; done))) | (with_reducible refine At.alloc ?_ _) | (with_reducible refine At.drewN ?_) | (with_reducible refine At.grow ?_) | (with_reducible refine At.store4 (by assumption)) | (with_reducible refine At.store3 (by assumption)) | (with_reducible refine At.store2 (by assumption)) | (with_reducible refine At.set ?_ (by omega)) | (with_reducible apply At.store4) | (with_reducible apply At.store3) | (with_reducible apply At.put43) | (refine At.below ?_ (by assumption))), by repeat (first | (with_reducible exact Below.refl _ _) | (with_reducible assumption) | (with_reducible refine Below.setCell ?_ (by first | (simp; done) | (simp; omega) | omega) _) | (with_reducible refine Below.alloc ?_ (by first | (simp; done) | (simp; omega) | omega) _) | (refine bl_call ?_ (by assumption) (by first | (simp; done) | (simp; omega) | omega)) | (with_reducible refine bl_drewN ?_) | (with_reducible refine Below.drew ?_) | (with_reducible refine bl_grow ?_ (by first | (simp; done) | (simp; omega) | omega)))⟩ ?_
  rintro W1 ⟨kaW1, kbW1, krW1, hqW1⟩
  have hzW1 := hqW1.size
  obtain ⟨zaW1, ca0W1, ca1W1, ca2W1, fa0W1, fa1W1, fa2W1⟩ := kaW1.three
  obtain ⟨zbW1, cb0W1, cb1W1, cb2W1, fb0W1, fb1W1, fb2W1⟩ := kbW1.three
  obtain ⟨zrW1, cr0W1, cr1W1, cr2W1, fr0W1, fr1W1, fr2W1⟩ := krW1.three
  refine wp_region_quiet_below (by kernel_rfl) (by kernel_rfl) ?_
  repeat (go_big_quiet_step (first | (go_at_call 80; with_reducible exact Calls.regrown_of (below_of_same (sub_any _ _ _))) | (go_at_call 67; with_reducible exact Calls.regrown_of (below_of_same (mul_any _ _ _))) | (go_at_call 81; with_reducible exact Calls.regrown_of (below_of_same (add_eq K.out _)))))
  refine wpQuiet_nil ?_
  intro W2 hw1
  have hrW2 := regrown_below hw1
  clear hw1
  have kaW2 := kaW1.below hrW2
  have kbW2 := kbW1.below hrW2
  have krW2 := krW1.below hrW2
  have hqW2 := bl_call hqW1 hrW2 (by omega)
  have hzW2 := hqW2.size
  clear hrW2 kaW1 ca0W1 fa0W1 ca1W1 fa1W1 ca2W1 fa2W1 kbW1 cb0W1 fb0W1 cb1W1 fb1W1 cb2W1 fb2W1 krW1 cr0W1 fr0W1 cr1W1 fr1W1 cr2W1 fr2W1 hqW1
  obtain ⟨zaW2, ca0W2, ca1W2, ca2W2, fa0W2, fa1W2, fa2W2⟩ := kaW2.three
  obtain ⟨zbW2, cb0W2, cb1W2, cb2W2, fb0W2, fb1W2, fb2W2⟩ := kbW2.three
  obtain ⟨zrW2, cr0W2, cr1W2, cr2W2, fr0W2, fr1W2, fr2W2⟩ := krW2.three
  go_wp2_with fail
  exact bodyPost_ret (v := .agg #[.int .i64 ((lineN s x1 y1 x2).1 : Int), .int .i64 (tyN s x1 y1 x2 : Int), .bool false]) (by simp [results, Try.results59, go_sem, *]) rfl ⟨rfl, by repeat (first | (with_reducible exact Below.refl _ _) | (with_reducible assumption) | (with_reducible refine Below.setCell ?_ (by first | (simp; done) | (simp; omega) | omega) _) | (with_reducible refine Below.alloc ?_ (by first | (simp; done) | (simp; omega) | omega) _) | (refine bl_call ?_ (by assumption) (by first | (simp; done) | (simp; omega) | omega)) | (with_reducible refine bl_drewN ?_) | (with_reducible refine Below.drew ?_) | (with_reducible refine bl_grow ?_ (by first | (simp; done) | (simp; omega) | omega)))⟩
end Go.Proofs.Ytmijjjdedadklag
