/- What each function of package curve answers, for all spots, in whatever memory; nothing that was there is turned. -/
import Derived.Test.YtbnccfmegndpgacDoorPrime
import Derived.Test.YtbnccfmegndpgacDoorCurveMath
import Derived.Test.YtbnccfmegndpgacDoorMem
namespace Go.Proofs.YtbnccfmegndpgacDoor
open Go.RowKit Go.Sort
set_option linter.unusedVariables false
set_option linter.unusedSimpArgs false

theorem sub_eq {a b r : Int} (h : fm (a - b) = r) (w : World) : Calls Tryd.prog 47 #[.int .i64 a, .int .i64 b] w fun e w' => e = .returned (.int .i64 r) ∧ w' = w := h ▸ sub_any a b w
theorem add_eq {a b r : Int} (h : fm (a + b) = r) (w : World) : Calls Tryd.prog 35 #[.int .i64 a, .int .i64 b] w fun e w' => e = .returned (.int .i64 r) ∧ w' = w := h ▸ add_any a b w
theorem infield_any (n : Int) (w : World) :
    Calls Tryd.prog 25 #[.int .i64 n] w fun e w' => e = .returned (.bool (decide (0 ≤ n) && decide (n < 4051))) ∧ w' = w := by
  by_cases h : 0 ≤ n
  · by_cases h1 : n < 4051
    · go_enter Tryd.func25, Tryd.ntmps25
      go_wp2
      go_ret
      simp [h, h1]
    · go_enter Tryd.func25, Tryd.ntmps25
      go_wp2
      go_ret
      simp [h, h1]
  · go_enter Tryd.func25, Tryd.ntmps25
    go_wp2
    go_ret
    simp; omega
theorem infield_yes (n : Int) (w : World) (h : 0 ≤ n) (h1 : n < 4051) :
    Calls Tryd.prog 25 #[.int .i64 n] w fun e w' => e = .returned (.bool true) ∧ w' = w := by
  have := infield_any n w; simpa [h, h1] using this
theorem infield_no (n : Int) (w : World) (h : ¬ (0 ≤ n ∧ n < 4051)) :
    Calls Tryd.prog 25 #[.int .i64 n] w fun e w' => e = .returned (.bool false) ∧ w' = w := by
  have h2 : (decide (0 ≤ n) && decide (n < 4051)) = false := by rw [Bool.eq_false_iff]; simp only [ne_eq, Bool.and_eq_true, decide_eq_true_eq]; omega
  have := infield_any n w; rwa [h2] at this
theorem squareAt_any (x : Int) (w : World) :
    Calls Tryd.prog 27 #[.int .i64 x] w fun e w' => e = .returned (.int .i64 (sqI x)) ∧ w' = w := by
  go_enter Tryd.func27, Tryd.ntmps27
  go_wp2_with (first | (go_at_call 26; refine (mul_any _ _ _).mono ?_; rintro e w' ⟨rfl, rfl⟩) | (go_at_call 35; refine (add_any _ _ _).mono ?_; rintro e w' ⟨rfl, rfl⟩))
  go_ret
  exact ⟨rfl, rfl⟩
theorem check_far (w : World) :
    Calls Tryd.prog 13 #[.agg #[.int .i64 0, .int .i64 0, .bool true]] w fun e w' => e = .returned .nilIface ∧ Below w.heap.size w w' := by
  go_enter Tryd.func13, Tryd.ntmps13
  go_wp2_with fail
  go_ret
  exact ⟨rfl, by repeat (first | (with_reducible exact Below.refl _ _) | (with_reducible assumption) | (with_reducible refine Below.setCell ?_ (by first | (simp; done) | (simp; omega) | omega) _) | (with_reducible refine Below.alloc ?_ (by first | (simp; done) | (simp; omega) | omega) _) | (refine bl_call ?_ (by assumption) (by first | (simp; done) | (simp; omega) | omega)) | (with_reducible refine bl_drewN ?_) | (with_reducible refine Below.drew ?_) | (with_reducible refine bl_grow ?_ (by first | (simp; done) | (simp; omega) | omega)))⟩
theorem check_far1 (x y : Int) (w : World) (h : (x == 0) = false) :
    Calls Tryd.prog 13 #[.agg #[.int .i64 x, .int .i64 y, .bool true]] w fun e w' => e = .returned (errOf 1) ∧ Below w.heap.size w w' := by
  go_enter Tryd.func13, Tryd.ntmps13
  go_wp2_with fail
  go_ret
  exact ⟨rfl, by repeat (first | (with_reducible exact Below.refl _ _) | (with_reducible assumption) | (with_reducible refine Below.setCell ?_ (by first | (simp; done) | (simp; omega) | omega) _) | (with_reducible refine Below.alloc ?_ (by first | (simp; done) | (simp; omega) | omega) _) | (refine bl_call ?_ (by assumption) (by first | (simp; done) | (simp; omega) | omega)) | (with_reducible refine bl_drewN ?_) | (with_reducible refine Below.drew ?_) | (with_reducible refine bl_grow ?_ (by first | (simp; done) | (simp; omega) | omega)))⟩
theorem check_far2 (y : Int) (w : World) (h : (y == 0) = false) :
    Calls Tryd.prog 13 #[.agg #[.int .i64 0, .int .i64 y, .bool true]] w fun e w' => e = .returned (errOf 1) ∧ Below w.heap.size w w' := by
  go_enter Tryd.func13, Tryd.ntmps13
  go_wp2_with fail
  go_ret
  exact ⟨rfl, by repeat (first | (with_reducible exact Below.refl _ _) | (with_reducible assumption) | (with_reducible refine Below.setCell ?_ (by first | (simp; done) | (simp; omega) | omega) _) | (with_reducible refine Below.alloc ?_ (by first | (simp; done) | (simp; omega) | omega) _) | (refine bl_call ?_ (by assumption) (by first | (simp; done) | (simp; omega) | omega)) | (with_reducible refine bl_drewN ?_) | (with_reducible refine Below.drew ?_) | (with_reducible refine bl_grow ?_ (by first | (simp; done) | (simp; omega) | omega)))⟩
theorem check_out1 (x y : Int) (w : World) (h : ¬ (0 ≤ x ∧ x < 4051)) :
    Calls Tryd.prog 13 #[.agg #[.int .i64 x, .int .i64 y, .bool false]] w fun e w' => e = .returned (errOf 1) ∧ Below w.heap.size w w' := by
  have H : Hid (¬ (0 ≤ x ∧ x < 4051)) := h
  clear h
  go_enter Tryd.func13, Tryd.ntmps13
  go_wp2_with (go_at_call 25; refine (infield_no _ _ H.out).mono ?_; rintro e w' ⟨rfl, rfl⟩)
  go_ret
  exact ⟨rfl, by repeat (first | (with_reducible exact Below.refl _ _) | (with_reducible assumption) | (with_reducible refine Below.setCell ?_ (by first | (simp; done) | (simp; omega) | omega) _) | (with_reducible refine Below.alloc ?_ (by first | (simp; done) | (simp; omega) | omega) _) | (refine bl_call ?_ (by assumption) (by first | (simp; done) | (simp; omega) | omega)) | (with_reducible refine bl_drewN ?_) | (with_reducible refine Below.drew ?_) | (with_reducible refine bl_grow ?_ (by first | (simp; done) | (simp; omega) | omega)))⟩
theorem check_out2 (x y : Int) (w : World) (h0 : 0 ≤ x) (h1 : x < 4051) (h : ¬ (0 ≤ y ∧ y < 4051)) :
    Calls Tryd.prog 13 #[.agg #[.int .i64 x, .int .i64 y, .bool false]] w fun e w' => e = .returned (errOf 1) ∧ Below w.heap.size w w' := by
  have H : Hid (¬ (0 ≤ y ∧ y < 4051)) := h
  clear h
  have m1 : True := trivial
  go_enter Tryd.func13, Tryd.ntmps13
  go_wp2_with (first | (go_at_call 25; clear m1; refine (infield_yes _ _ h0 h1).mono ?_; rintro e w' ⟨rfl, rfl⟩) | (go_at_call 25; refine (infield_no _ _ H.out).mono ?_; rintro e w' ⟨rfl, rfl⟩))
  go_ret
  exact ⟨rfl, by repeat (first | (with_reducible exact Below.refl _ _) | (with_reducible assumption) | (with_reducible refine Below.setCell ?_ (by first | (simp; done) | (simp; omega) | omega) _) | (with_reducible refine Below.alloc ?_ (by first | (simp; done) | (simp; omega) | omega) _) | (refine bl_call ?_ (by assumption) (by first | (simp; done) | (simp; omega) | omega)) | (with_reducible refine bl_drewN ?_) | (with_reducible refine Below.drew ?_) | (with_reducible refine bl_grow ?_ (by first | (simp; done) | (simp; omega) | omega)))⟩
theorem check_on (x y : Int) (w : World) (h0 : 0 ≤ x) (h1 : x < 4051) (h2 : 0 ≤ y) (h3 : y < 4051) (h : (fm (y * y) == sqI x) = true) :
    Calls Tryd.prog 13 #[.agg #[.int .i64 x, .int .i64 y, .bool false]] w fun e w' => e = .returned .nilIface ∧ Below w.heap.size w w' := by
  have m1 : True := trivial
  go_enter Tryd.func13, Tryd.ntmps13
  go_wp2_with (first | (go_at_call 25; clear m1; refine (infield_yes _ _ h0 h1).mono ?_; rintro e w' ⟨rfl, rfl⟩) | (go_at_call 25; refine (infield_yes _ _ h2 h3).mono ?_; rintro e w' ⟨rfl, rfl⟩))
  refine wp_region_quiet_below (by kernel_rfl) (by kernel_rfl) ?_
  repeat (go_big_quiet_step (first | (go_at_call 26; exact Calls.regrown_of (below_of_same (mul_any _ _ _))) | (go_at_call 27; exact Calls.regrown_of (below_of_same (squareAt_any _ _)))))
  refine wpQuiet_nil ?_
  intro _ hw1
  obtain ⟨⟨dq, osq⟩, hw2⟩ := hw1
  subst hw2
  go_wp2_with fail
  go_ret
  exact ⟨rfl, by repeat (first | (with_reducible exact Below.refl _ _) | (with_reducible assumption) | (with_reducible refine Below.setCell ?_ (by first | (simp; done) | (simp; omega) | omega) _) | (with_reducible refine Below.alloc ?_ (by first | (simp; done) | (simp; omega) | omega) _) | (refine bl_call ?_ (by assumption) (by first | (simp; done) | (simp; omega) | omega)) | (with_reducible refine bl_drewN ?_) | (with_reducible refine Below.drew ?_) | (with_reducible refine bl_grow ?_ (by first | (simp; done) | (simp; omega) | omega)))⟩
theorem check_off (x y : Int) (w : World) (h0 : 0 ≤ x) (h1 : x < 4051) (h2 : 0 ≤ y) (h3 : y < 4051) (h : (fm (y * y) == sqI x) = false) :
    Calls Tryd.prog 13 #[.agg #[.int .i64 x, .int .i64 y, .bool false]] w fun e w' => e = .returned (errOf 3) ∧ Below w.heap.size w w' := by
  have m1 : True := trivial
  go_enter Tryd.func13, Tryd.ntmps13
  go_wp2_with (first | (go_at_call 25; clear m1; refine (infield_yes _ _ h0 h1).mono ?_; rintro e w' ⟨rfl, rfl⟩) | (go_at_call 25; refine (infield_yes _ _ h2 h3).mono ?_; rintro e w' ⟨rfl, rfl⟩))
  refine wp_region_quiet_below (by kernel_rfl) (by kernel_rfl) ?_
  repeat (go_big_quiet_step (first | (go_at_call 26; exact Calls.regrown_of (below_of_same (mul_any _ _ _))) | (go_at_call 27; exact Calls.regrown_of (below_of_same (squareAt_any _ _)))))
  refine wpQuiet_nil ?_
  intro _ hw1
  obtain ⟨⟨dq, osq⟩, hw2⟩ := hw1
  subst hw2
  go_wp2_with fail
  go_ret
  exact ⟨rfl, by repeat (first | (with_reducible exact Below.refl _ _) | (with_reducible assumption) | (with_reducible refine Below.setCell ?_ (by first | (simp; done) | (simp; omega) | omega) _) | (with_reducible refine Below.alloc ?_ (by first | (simp; done) | (simp; omega) | omega) _) | (refine bl_call ?_ (by assumption) (by first | (simp; done) | (simp; omega) | omega)) | (with_reducible refine bl_drewN ?_) | (with_reducible refine Below.drew ?_) | (with_reducible refine bl_grow ?_ (by first | (simp; done) | (simp; omega) | omega)))⟩
/-- What is wrong with a spot is told. -/
theorem check_no (x y : Int) (f : Bool) (w : World) (h : (ckI x y f == 0) = false) :
    Calls Tryd.prog 13 #[.agg #[.int .i64 x, .int .i64 y, .bool f]] w fun e w' => e = .returned (errOf (ckI x y f)) ∧ Below w.heap.size w w' := by
  cases f with
  | true =>
    cases h1 : x == 0
    · rw [ckI_far (by rw [h1]; rfl)]; exact check_far1 x y w h1
    · obtain rfl : x = 0 := by simpa using h1
      cases h2 : y == 0
      · rw [ckI_far (by rw [h2]; rfl)]; exact check_far2 y w h2
      · obtain rfl : y = 0 := by simpa using h2
        cases h
  | false =>
    by_cases h1 : 0 ≤ x ∧ x < 4051
    · by_cases h2 : 0 ≤ y ∧ y < 4051
      · rw [ckI_in h1.1 h1.2 h2.1 h2.2] at h ⊢
        cases h3 : fm (y * y) == sqI x
        · exact check_off x y w h1.1 h1.2 h2.1 h2.2 h3
        · rw [h3] at h; cases h
      · rw [ckI_out (by omega)]; exact check_out2 x y w h1.1 h1.2 h2
    · rw [ckI_out (by omega)]; exact check_out1 x y w h1
theorem check_yes (x y : Int) (f : Bool) (w : World) (h : ckI x y f = 0) :
    Calls Tryd.prog 13 #[.agg #[.int .i64 x, .int .i64 y, .bool f]] w fun e w' => e = .returned .nilIface ∧ Below w.heap.size w w' := by
  cases f with
  | true =>
    cases h1 : x == 0
    · rw [ckI_far (by rw [h1]; rfl)] at h; cases h
    · obtain rfl : x = 0 := by simpa using h1
      cases h2 : y == 0
      · rw [ckI_far (by rw [h2]; rfl)] at h; cases h
      · obtain rfl : y = 0 := by simpa using h2
        exact check_far w
  | false =>
    by_cases h1 : 0 ≤ x ∧ x < 4051 ∧ 0 ≤ y ∧ y < 4051
    · obtain ⟨a, b, c, d⟩ := h1
      rw [ckI_in a b c d] at h
      cases h3 : fm (y * y) == sqI x
      · rw [h3] at h; cases h
      · exact check_on x y w a b c d h3
    · rw [ckI_out h1] at h; cases h
theorem turned_any (x y : Nat) (f : Bool) (w : World) (h : y < 4051) :
    Calls Tryd.prog 41 #[.agg #[.int .i64 (x : Int), .int .i64 (y : Int), .bool f]] w fun e w' => e = .returned (.agg #[.int .i64 (x : Int), .int .i64 (ny y : Int), .bool f]) ∧ Below w.heap.size w w' := by
  have H : Hid (fm (0 - (y : Int)) = (ny y : Int)) := nyI h
  go_enter Tryd.func41, Tryd.ntmps41
  go_wp2_with (go_at_call 47; refine (sub_any _ _ _).mono ?_; rintro e w' ⟨rfl, rfl⟩; rw [H.out])
  exact bodyPost_ret (v := .agg #[.int .i64 (x : Int), .int .i64 (ny y : Int), .bool f]) (by simp [results, Tryd.results41, go_sem]) rfl ⟨rfl, by repeat (first | (with_reducible exact Below.refl _ _) | (with_reducible assumption) | (with_reducible refine Below.setCell ?_ (by first | (simp; done) | (simp; omega) | omega) _) | (with_reducible refine Below.alloc ?_ (by first | (simp; done) | (simp; omega) | omega) _) | (refine bl_call ?_ (by assumption) (by first | (simp; done) | (simp; omega) | omega)) | (with_reducible refine bl_drewN ?_) | (with_reducible refine Below.drew ?_) | (with_reducible refine bl_grow ?_ (by first | (simp; done) | (simp; omega) | omega)))⟩
end Go.Proofs.YtbnccfmegndpgacDoor
