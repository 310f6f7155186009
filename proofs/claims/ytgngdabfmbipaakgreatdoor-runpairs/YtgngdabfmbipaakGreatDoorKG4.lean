/- What each function of package curve answers, for all spots, in whatever memory; nothing that was there is turned. -/
import Derived.Test.YtgngdabfmbipaakGreatDoorKG3
import Derived.Test.YtgngdabfmbipaakGreatDoorKG1
import Derived.Test.YtgngdabfmbipaakGreatDoorKG2
import Derived.Test.YtgngdabfmbipaakGreatDoorKG0
namespace Go.Proofs.YtgngdabfmbipaakGreatDoor
open Go.RowKit Go.Sort
set_option linter.unusedVariables false
set_option linter.unusedSimpArgs false

theorem sub_eq {a b r : Int} (h : fm (a - b) = r) (w : World) : Calls Tryz.prog 110 #[.int .i64 a, .int .i64 b] w fun e w' => e = .returned (.int .i64 r) ∧ w' = w := h ▸ sub_any a b w
theorem add_eq {a b r : Int} (h : fm (a + b) = r) (w : World) : Calls Tryz.prog 102 #[.int .i64 a, .int .i64 b] w fun e w' => e = .returned (.int .i64 r) ∧ w' = w := h ▸ add_any a b w
theorem infield_any (n : Int) (w : World) :
    Calls Tryz.prog 63 #[.int .i64 n] w fun e w' => e = .returned (.bool (decide (0 ≤ n) && decide (n < 4051))) ∧ w' = w := by
  by_cases h : 0 ≤ n
  · by_cases h1 : n < 4051
    · go_enter Tryz.func63, Tryz.ntmps63
      go_wp2
      go_ret
      simp [h, h1]
    · go_enter Tryz.func63, Tryz.ntmps63
      go_wp2
      go_ret
      simp [h, h1]
  · go_enter Tryz.func63, Tryz.ntmps63
    go_wp2
    go_ret
    simp; omega
theorem infield_yes (n : Int) (w : World) (h : 0 ≤ n) (h1 : n < 4051) :
    Calls Tryz.prog 63 #[.int .i64 n] w fun e w' => e = .returned (.bool true) ∧ w' = w := by
  have := infield_any n w; simpa [h, h1] using this
theorem infield_no (n : Int) (w : World) (h : ¬ (0 ≤ n ∧ n < 4051)) :
    Calls Tryz.prog 63 #[.int .i64 n] w fun e w' => e = .returned (.bool false) ∧ w' = w := by
  have h2 : (decide (0 ≤ n) && decide (n < 4051)) = false := by rw [Bool.eq_false_iff]; simp only [ne_eq, Bool.and_eq_true, decide_eq_true_eq]; omega
  have := infield_any n w; rwa [h2] at this
theorem squareAt_any (x : Int) (w : World) :
    Calls Tryz.prog 65 #[.int .i64 x] w fun e w' => e = .returned (.int .i64 (sqI x)) ∧ w' = w := by
  go_enter Tryz.func65, Tryz.ntmps65
  go_wp2_with (first | (go_at_call 64; refine (mul_any _ _ _).mono ?_; rintro e w' ⟨rfl, rfl⟩) | (go_at_call 102; refine (add_any _ _ _).mono ?_; rintro e w' ⟨rfl, rfl⟩))
  go_ret
  exact ⟨rfl, rfl⟩
theorem check_far (w : World) :
    Calls Tryz.prog 20 #[.agg #[.int .i64 0, .int .i64 0, .bool true]] w fun e w' => e = .returned .nilIface ∧ Below w.heap.size w w' := by
  go_enter Tryz.func20, Tryz.ntmps20
  go_wp2_with fail
  go_ret
  exact ⟨rfl, below_by⟩
theorem check_far1 (x y : Int) (w : World) (h : (x == 0) = false) :
    Calls Tryz.prog 20 #[.agg #[.int .i64 x, .int .i64 y, .bool true]] w fun e w' => e = .returned (errOf 1) ∧ Below w.heap.size w w' := by
  go_enter Tryz.func20, Tryz.ntmps20
  go_wp2_with fail
  go_ret
  exact ⟨rfl, below_by⟩
theorem check_far2 (y : Int) (w : World) (h : (y == 0) = false) :
    Calls Tryz.prog 20 #[.agg #[.int .i64 0, .int .i64 y, .bool true]] w fun e w' => e = .returned (errOf 1) ∧ Below w.heap.size w w' := by
  go_enter Tryz.func20, Tryz.ntmps20
  go_wp2_with fail
  go_ret
  exact ⟨rfl, below_by⟩
theorem check_out1 (x y : Int) (w : World) (h : ¬ (0 ≤ x ∧ x < 4051)) :
    Calls Tryz.prog 20 #[.agg #[.int .i64 x, .int .i64 y, .bool false]] w fun e w' => e = .returned (errOf 1) ∧ Below w.heap.size w w' := by
  have H : Hid (¬ (0 ≤ x ∧ x < 4051)) := h
  clear h
  go_enter Tryz.func20, Tryz.ntmps20
  go_wp2_with (go_at_call 63; refine (infield_no _ _ H.out).mono ?_; rintro e w' ⟨rfl, rfl⟩)
  go_ret
  exact ⟨rfl, below_by⟩
theorem check_out2 (x y : Int) (w : World) (h0 : 0 ≤ x) (h1 : x < 4051) (h : ¬ (0 ≤ y ∧ y < 4051)) :
    Calls Tryz.prog 20 #[.agg #[.int .i64 x, .int .i64 y, .bool false]] w fun e w' => e = .returned (errOf 1) ∧ Below w.heap.size w w' := by
  have H : Hid (¬ (0 ≤ y ∧ y < 4051)) := h
  clear h
  have m1 : True := trivial
  go_enter Tryz.func20, Tryz.ntmps20
  go_wp2_with (first | (go_at_call 63; clear m1; refine (infield_yes _ _ h0 h1).mono ?_; rintro e w' ⟨rfl, rfl⟩) | (go_at_call 63; refine (infield_no _ _ H.out).mono ?_; rintro e w' ⟨rfl, rfl⟩))
  go_ret
  exact ⟨rfl, below_by⟩
theorem check_on (x y : Int) (w : World) (h0 : 0 ≤ x) (h1 : x < 4051) (h2 : 0 ≤ y) (h3 : y < 4051) (h : (fm (y * y) == sqI x) = true) :
    Calls Tryz.prog 20 #[.agg #[.int .i64 x, .int .i64 y, .bool false]] w fun e w' => e = .returned .nilIface ∧ Below w.heap.size w w' := by
  have m1 : True := trivial
  go_enter Tryz.func20, Tryz.ntmps20
  go_wp2_with (first | (go_at_call 63; clear m1; refine (infield_yes _ _ h0 h1).mono ?_; rintro e w' ⟨rfl, rfl⟩) | (go_at_call 63; refine (infield_yes _ _ h2 h3).mono ?_; rintro e w' ⟨rfl, rfl⟩))
  refine wp_region_quiet_below (by kernel_rfl) (by kernel_rfl) ?_
  repeat (go_big_quiet_step (first | (go_at_call 64; exact Calls.regrown_of (below_of_same (mul_any _ _ _))) | (go_at_call 65; exact Calls.regrown_of (below_of_same (squareAt_any _ _)))))
  refine wpQuiet_nil ?_
  intro _ hw1
  obtain ⟨⟨dq, osq⟩, hw2⟩ := hw1
  subst hw2
  go_wp2_with fail
  go_ret
  exact ⟨rfl, below_by⟩
theorem check_off (x y : Int) (w : World) (h0 : 0 ≤ x) (h1 : x < 4051) (h2 : 0 ≤ y) (h3 : y < 4051) (h : (fm (y * y) == sqI x) = false) :
    Calls Tryz.prog 20 #[.agg #[.int .i64 x, .int .i64 y, .bool false]] w fun e w' => e = .returned (errOf 3) ∧ Below w.heap.size w w' := by
  have m1 : True := trivial
  go_enter Tryz.func20, Tryz.ntmps20
  go_wp2_with (first | (go_at_call 63; clear m1; refine (infield_yes _ _ h0 h1).mono ?_; rintro e w' ⟨rfl, rfl⟩) | (go_at_call 63; refine (infield_yes _ _ h2 h3).mono ?_; rintro e w' ⟨rfl, rfl⟩))
  refine wp_region_quiet_below (by kernel_rfl) (by kernel_rfl) ?_
  repeat (go_big_quiet_step (first | (go_at_call 64; exact Calls.regrown_of (below_of_same (mul_any _ _ _))) | (go_at_call 65; exact Calls.regrown_of (below_of_same (squareAt_any _ _)))))
  refine wpQuiet_nil ?_
  intro _ hw1
  obtain ⟨⟨dq, osq⟩, hw2⟩ := hw1
  subst hw2
  go_wp2_with fail
  go_ret
  exact ⟨rfl, below_by⟩
/-- What is wrong with a spot is told. -/
theorem check_no (x y : Int) (f : Bool) (w : World) (h : (ckI x y f == 0) = false) :
    Calls Tryz.prog 20 #[.agg #[.int .i64 x, .int .i64 y, .bool f]] w fun e w' => e = .returned (errOf (ckI x y f)) ∧ Below w.heap.size w w' := by
  cases f with
  | true =>
    cases h1 : x == 0
    · rw [ckI_far (by rw [h1]; rfl)]; exact check_far1 x y w h1
    · obtain rfl : x = 0 := by simpa using h1
      cases h2 : y == 0
      · rw [ckI_far (by rw [h2]; rfl)]; exact check_far2 y w h2
      · obtain rfl : y = 0 := by simpa using h2
        cases h
  | false =>
    by_cases h1 : 0 ≤ x ∧ x < 4051
    · by_cases h2 : 0 ≤ y ∧ y < 4051
      · rw [ckI_in h1.1 h1.2 h2.1 h2.2] at h ⊢
        cases h3 : fm (y * y) == sqI x
        · exact check_off x y w h1.1 h1.2 h2.1 h2.2 h3
        · rw [h3] at h; cases h
      · rw [ckI_out (by omega)]; exact check_out2 x y w h1.1 h1.2 h2
    · rw [ckI_out (by omega)]; exact check_out1 x y w h1
theorem check_yes (x y : Int) (f : Bool) (w : World) (h : ckI x y f = 0) :
    Calls Tryz.prog 20 #[.agg #[.int .i64 x, .int .i64 y, .bool f]] w fun e w' => e = .returned .nilIface ∧ Below w.heap.size w w' := by
  cases f with
  | true =>
    cases h1 : x == 0
    · rw [ckI_far (by rw [h1]; rfl)] at h; cases h
    · obtain rfl : x = 0 := by simpa using h1
      cases h2 : y == 0
      · rw [ckI_far (by rw [h2]; rfl)] at h; cases h
      · obtain rfl : y = 0 := by simpa using h2
        exact check_far w
  | false =>
    by_cases h1 : 0 ≤ x ∧ x < 4051 ∧ 0 ≤ y ∧ y < 4051
    · obtain ⟨a, b, c, d⟩ := h1
      rw [ckI_in a b c d] at h
      cases h3 : fm (y * y) == sqI x
      · rw [h3] at h; cases h
      · exact check_on x y w a b c d h3
    · rw [ckI_out h1] at h; cases h
theorem turned_any (x y : Nat) (f : Bool) (w : World) (h : y < 4051) :
    Calls Tryz.prog 106 #[.agg #[.int .i64 (x : Int), .int .i64 (y : Int), .bool f]] w fun e w' => e = .returned (.agg #[.int .i64 (x : Int), .int .i64 (ny y : Int), .bool f]) ∧ Below w.heap.size w w' := by
  have H : Hid (fm (0 - (y : Int)) = (ny y : Int)) := nyI h
  go_enter Tryz.func106, Tryz.ntmps106
  go_wp2_with (go_at_call 110; refine (sub_any _ _ _).mono ?_; rintro e w' ⟨rfl, rfl⟩; rw [H.out])
  exact bodyPost_ret (v := .agg #[.int .i64 (x : Int), .int .i64 (ny y : Int), .bool f]) (by simp [results, Tryz.results106, go_sem]) rfl ⟨rfl, below_by⟩
theorem slope_two (x1 y1 x2 y2 : Nat) (w : World) (h1 : x1 < 4051) (h2 : x2 < 4051) (k1 : y1 < 4051) (k2 : y2 < 4051) (h : x1 ≠ x2) :
    Calls Tryz.prog 107 #[.agg #[.int .i64 (x1 : Int), .int .i64 (y1 : Int), .bool false], .agg #[.int .i64 (x2 : Int), .int .i64 (y2 : Int), .bool false]] w fun e w' => e = .returned (.tuple #[.int .i64 (cslN x1 y1 x2 y2 : Int), .nilIface]) ∧ Below w.heap.size w w' := by
  have H : Hid (fm (fm ((y2 : Int) - y1) * fpow (fm ((x2 : Int) - x1)) 4049) = (cslN x1 y1 x2 y2 : Int)) := cslI h1 h2 k1 k2
  have E : ((x1 : Int) == (x2 : Int)) = false := by rw [beq_eq_false_iff_ne]; omega
  have R : (fm (fm ((x2 : Int) - x1)) == 0) = false := by rw [beq_eq_false_iff_ne, fm_fm]; unfold fm; omega
  clear h1 h2 k1 k2 h
  go_enter Tryz.func107, Tryz.ntmps107
  go_wp2_with fail
  refine wp_region_quiet_below (by kernel_rfl) (by kernel_rfl) ?_
  repeat (go_big_quiet_step ((go_at_call 110; exact Calls.regrown_of (below_of_same (sub_any _ _ _)))))
  refine wpQuiet_nil ?_
  intro _ hw1
  obtain ⟨⟨dq, osq⟩, hw2⟩ := hw1
  subst hw2
  go_wp2_with (first | (go_at_call 132; refine (inv_yes _ _ R).mono ?_; rintro e w' ⟨rfl, rfl⟩) | (go_at_call 64; refine (mul_any _ _ _).mono ?_; rintro e w' ⟨rfl, rfl⟩; rw [H.out]))
  go_ret2
  exact ⟨rfl, below_by⟩
theorem slope_one (x y : Nat) (w : World) (k : y < 4051) (h : y ≠ 0) :
    Calls Tryz.prog 107 #[.agg #[.int .i64 (x : Int), .int .i64 (y : Int), .bool false], .agg #[.int .i64 (x : Int), .int .i64 (y : Int), .bool false]] w fun e w' => e = .returned (.tuple #[.int .i64 (dslN x y : Int), .nilIface]) ∧ Below w.heap.size w w' := by
  have H : Hid (fm (fm (fm (3 * fm ((x : Int) * x)) + 1) * fpow (fm (2 * (y : Int))) 4049) = (dslN x y : Int)) := dslI x y
  have R : (fm (fm (2 * (y : Int))) == 0) = false := by rw [beq_eq_false_iff_ne, fm_fm]; unfold fm; omega
  clear k h
  have m1 : True := trivial
  go_enter Tryz.func107, Tryz.ntmps107
  go_wp2_with fail
  refine wp_region_quiet_below (by kernel_rfl) (by kernel_rfl) ?_
  repeat (go_big_quiet_step ((go_at_call 110; exact Calls.regrown_of (below_of_same (sub_any _ _ _)))))
  refine wpQuiet_nil ?_
  intro _ hw1
  obtain ⟨⟨dq, osq⟩, hw2⟩ := hw1
  subst hw2
  go_wp2_with (first | (go_at_call 132; clear m1; refine (inv_yes _ _ R).mono ?_; rintro e w' ⟨rfl, rfl⟩) | (go_at_call 64; clear m1; have m1 : True := trivial; refine (mul_any _ _ _).mono ?_; rintro e w' ⟨rfl, rfl⟩) | (go_at_call 64; refine (mul_any _ _ _).mono ?_; rintro e w' ⟨rfl, rfl⟩; rw [H.out]) | (go_at_call 102; refine (add_any _ _ _).mono ?_; rintro e w' ⟨rfl, rfl⟩))
  go_ret2
  exact ⟨rfl, below_by⟩
theorem third_any (x1 y1 x2 y2 s : Nat) (f g : Bool) (w : World) (h1 : x1 < 4051) (h2 : x2 < 4051) :
    Calls Tryz.prog 108 #[.agg #[.int .i64 (x1 : Int), .int .i64 (y1 : Int), .bool f], .agg #[.int .i64 (x2 : Int), .int .i64 (y2 : Int), .bool g], .int .i64 (s : Int)] w fun e w' => e = .returned (.agg #[.int .i64 ((lineN s x1 y1 x2).1 : Int), .int .i64 (tyN s x1 y1 x2 : Int), .bool false]) ∧ Below w.heap.size w w' := by
  have H : Hid (fm (fm ((s : Int) * s) - fm ((x1 : Int) + x2)) = ((lineN s x1 y1 x2).1 : Int)) := lineI_x h1 h2
  have K : Hid (fm ((y1 : Int) + fm (s * fm (((lineN s x1 y1 x2).1 : Int) - x1))) = (tyN s x1 y1 x2 : Int)) := tyI s x1 y1 x2
  clear h1 h2
  go_enter Tryz.func108, Tryz.ntmps108
  go_wp2_with fail
  refine wp_region_quiet_below (by kernel_rfl) (by kernel_rfl) ?_
  repeat (go_big_quiet_step (first | (go_at_call 110; exact Calls.regrown_of (below_of_same (sub_eq H.out _))) | (go_at_call 64; exact Calls.regrown_of (below_of_same (mul_any _ _ _))) | (go_at_call 102; exact Calls.regrown_of (below_of_same (add_any _ _ _)))))
  refine wpQuiet_nil ?_
  intro _ hw1
  obtain ⟨⟨dq, osq⟩, hw2⟩ := hw1
  subst hw2
  go_wp2_with fail
  refine wp_gen (fun W1 => At W1 (w.heap.size) [.int .i64 (x1 : Int), .int .i64 (y1 : Int), .bool f] ∧ At W1 (w.heap.size + 1) [.int .i64 (x2 : Int), .int .i64 (y2 : Int), .bool g] ∧ At W1 (w.heap.size + 2) [.int .i64 0, .int .i64 0, .bool false] ∧ Below w.heap.size w W1) ⟨at_by, at_by, at_by, below_by⟩ ?_
  rintro W1 ⟨kaW1, kbW1, krW1, hqW1⟩
  have hzW1 := hqW1.size
  obtain ⟨zaW1, ca0W1, ca1W1, ca2W1, fa0W1, fa1W1, fa2W1⟩ := kaW1.three
  obtain ⟨zbW1, cb0W1, cb1W1, cb2W1, fb0W1, fb1W1, fb2W1⟩ := kbW1.three
  obtain ⟨zrW1, cr0W1, cr1W1, cr2W1, fr0W1, fr1W1, fr2W1⟩ := krW1.three
  refine wp_region_quiet_below (by kernel_rfl) (by kernel_rfl) ?_
  repeat (go_big_quiet_step (first | (go_at_call 110; with_reducible exact Calls.regrown_of (below_of_same (sub_any _ _ _))) | (go_at_call 64; with_reducible exact Calls.regrown_of (below_of_same (mul_any _ _ _))) | (go_at_call 102; with_reducible exact Calls.regrown_of (below_of_same (add_eq K.out _)))))
  refine wpQuiet_nil ?_
  intro W2 hw1
  have hrW2 := regrown_below hw1
  clear hw1
  have kaW2 := kaW1.below hrW2
  have kbW2 := kbW1.below hrW2
  have krW2 := krW1.below hrW2
  have hqW2 := bl_call hqW1 hrW2 (by omega)
  have hzW2 := hqW2.size
  clear hrW2 kaW1 ca0W1 fa0W1 ca1W1 fa1W1 ca2W1 fa2W1 kbW1 cb0W1 fb0W1 cb1W1 fb1W1 cb2W1 fb2W1 krW1 cr0W1 fr0W1 cr1W1 fr1W1 cr2W1 fr2W1 hqW1
  obtain ⟨zaW2, ca0W2, ca1W2, ca2W2, fa0W2, fa1W2, fa2W2⟩ := kaW2.three
  obtain ⟨zbW2, cb0W2, cb1W2, cb2W2, fb0W2, fb1W2, fb2W2⟩ := kbW2.three
  obtain ⟨zrW2, cr0W2, cr1W2, cr2W2, fr0W2, fr1W2, fr2W2⟩ := krW2.three
  go_wp2_with fail
  exact bodyPost_ret (v := .agg #[.int .i64 ((lineN s x1 y1 x2).1 : Int), .int .i64 (tyN s x1 y1 x2 : Int), .bool false]) (by simp [results, Tryz.results108, go_sem, *]) rfl ⟨rfl, below_by⟩
end Go.Proofs.YtgngdabfmbipaakGreatDoor

/- What each function of package twin answers, for all numbers, in whatever memory; nothing that was there is turned. -/
namespace Go.Proofs.YtgngdabfmbipaakGreatDoor
open Go.RowKit Go.Sort

theorem ret_tw {k : IntKind} {a b c d : Int} (h : a = c) (h2 : b = d) : Ending.returned (.agg #[.int k a, .int k b]) = .returned (.agg #[.int k c, .int k d]) := by rw [h, h2]
theorem tof_any (x : Int × Int) (w : World) :
    Calls Tryz.prog 138 #[.agg #[.int .i64 x.1, .int .i64 x.2]] w fun e w' => e = .returned (.agg #[.int .i64 (cf x).1, .int .i64 (cf x).2]) ∧ Below w.heap.size w w' := by
  go_enter Tryz.func138, Tryz.ntmps138
  go_wp2_with fail
  refine quiet_last (by kernel_rfl) (by kernel_rfl) ?_
  dsimp only [List.dropLast, List.length, List.drop]
  repeat (go_big_quiet_step ((go_at_call 101; exact Calls.quiet_of_same (of_any _ _))))
  refine wpQuiet_nil ?_
  intro _ hw1
  obtain ⟨nq, hw2⟩ := hw1
  subst hw2
  go_wp2_with fail
  exact bodyPost_ret (v := .agg #[.int .i64 (fm x.1), .int .i64 (fm x.2)]) (by simp [results, Tryz.results138, go_sem]) rfl ⟨rfl, by repeat (first | (with_reducible first | exact Below.refl _ _ | assumption | refine Below.setCell ?_ (by first | simp <;> omega | omega) _ | refine Below.alloc ?_ (by first | simp <;> omega | omega) _) | refine bl_call ?_ (by assumption) (by first | simp <;> omega | omega) | (with_reducible first | refine bl_drewN ?_ | refine Below.drew ?_ | refine bl_grow ?_ (by first | simp <;> omega | omega)))⟩
theorem tmul_any (x y : Int × Int) (w : World) :
    Calls Tryz.prog 137 #[.agg #[.int .i64 x.1, .int .i64 x.2], .agg #[.int .i64 y.1, .int .i64 y.2]] w fun e w' => e = .returned (.agg #[.int .i64 (tm x y).1, .int .i64 (tm x y).2]) ∧ Below w.heap.size w w' := by
  go_enter Tryz.func137, Tryz.ntmps137
  go_wp2_with fail
  refine quiet_last (by kernel_rfl) (by kernel_rfl) ?_
  dsimp only [List.dropLast, List.length, List.drop]
  repeat (go_big_quiet_step (first | (go_at_call 64; exact Calls.quiet_of_same (mul_any _ _ _)) | (go_at_call 110; exact Calls.quiet_of_same (sub_any _ _ _)) | (go_at_call 102; exact Calls.quiet_of_same (add_any _ _ _))))
  refine wpQuiet_nil ?_
  intro _ hw1
  obtain ⟨nq, hw2⟩ := hw1
  subst hw2
  go_wp2_with fail
  refine bodyPost_ret (v := .agg #[.int .i64 (fm (fm (x.1 * y.1) - fm (x.2 * y.2))), .int .i64 (fm (fm (x.1 * y.2) + fm (x.2 * y.1)))]) (by simp [results, Tryz.results137, go_sem]) rfl ⟨ret_tw (fm_sub _ _) (fm_add _ _), by repeat (first | (with_reducible first | exact Below.refl _ _ | assumption | refine Below.setCell ?_ (by first | simp <;> omega | omega) _ | refine Below.alloc ?_ (by first | simp <;> omega | omega) _) | refine bl_call ?_ (by assumption) (by first | simp <;> omega | omega) | (with_reducible first | refine bl_drewN ?_ | refine Below.drew ?_ | refine bl_grow ?_ (by first | simp <;> omega | omega)))⟩
set_option maxHeartbeats 1000000 in
theorem tpow_yes (x : Int × Int) (n : Int) (w : World) (hn : 0 ≤ n) (hm : n ≤ 9223372036854775807) :
    Calls Tryz.prog 117 #[.agg #[.int .i64 x.1, .int .i64 x.2], .int .i64 n] w fun e w' => e = .returned (.tuple #[.agg #[.int .i64 (tp x n.toNat).1, .int .i64 (tp x n.toNat).2], .nilIface]) ∧ Below w.heap.size w w' := by
  go_enter Tryz.func117, Tryz.ntmps117
  go_wp2_with (go_at_call 138; refine (tof_any x _).mono ?_; rintro e w1 ⟨rfl, hb1⟩; obtain ⟨hc1, hf1⟩ := bcell hb1; have hz1 : w.heap.size < w1.heap.size := (by have := hb1.size; simp at this; omega); have hy1 : w.heap.size + 1 < w1.heap.size := (by have := hb1.size; simp at this; omega))
  go_loopw [1] (fun tn wl => ∃ (k : Int) (p s : Int × Int), 0 ≤ k ∧ k ≤ 9223372036854775807 ∧ tn = .int .i64 k ∧ wl.cell? ⟨w1.heap.size, 0, none⟩ = some (.int .i64 p.1) ∧ wl.cell? ⟨w1.heap.size, 1, none⟩ = some (.int .i64 p.2) ∧ wl.cell? ⟨w1.heap.size + 1, 0, none⟩ = some (.int .i64 s.1) ∧ wl.cell? ⟨w1.heap.size + 1, 1, none⟩ = some (.int .i64 s.2) ∧
      wl.frozen? ⟨w1.heap.size, 0, none⟩ = false ∧ wl.frozen? ⟨w1.heap.size, 1, none⟩ = false ∧ wl.frozen? ⟨w1.heap.size + 1, 0, none⟩ = false ∧ wl.frozen? ⟨w1.heap.size + 1, 1, none⟩ = false ∧
      wl.cell? ⟨w.heap.size + 1, 0, none⟩ = some (.int .i64 0) ∧ wl.cell? ⟨w.heap.size + 1, 1, none⟩ = some (.int .i64 0) ∧ wl.frozen? ⟨w.heap.size + 1, 0, none⟩ = false ∧ wl.frozen? ⟨w.heap.size + 1, 1, none⟩ = false ∧
      w1.heap.size + 1 < wl.heap.size ∧ Below w.heap.size w wl ∧ cf p = p ∧ tm p (tp s k.toNat) = tp x n.toNat) (fun tn _ => (intOf tn).toNat)
  case atStart =>
    refine ⟨n, (1, 0), cf x, hn, hm, rfl, ?_, ?_, ?_, ?_, ?_, ?_, ?_, ?_, ?_, ?_, ?_, ?_, by simp, by repeat (first | (with_reducible first | exact Below.refl _ _ | assumption | refine Below.setCell ?_ (by first | simp <;> omega | omega) _ | refine Below.alloc ?_ (by first | simp <;> omega | omega) _) | refine bl_call ?_ (by assumption) (by first | simp <;> omega | omega) | (with_reducible first | refine bl_drewN ?_ | refine Below.drew ?_ | refine bl_grow ?_ (by first | simp <;> omega | omega))), rfl, ?_⟩
    all_goals first | (simp [hc1, hf1, hz1, hy1, go_sem]; done) | skip
    rw [tp_cf, tm, one_cm, cf_tp]
  case round =>
    obtain ⟨k, p, s, hk0, hk1, rfl, hp0, hp1, hs0, hs1, fp0, fp1, fs0, fs1, hr0, hr1, fr0, fr1, hwl, hbl, hcp, hinv⟩ := hrel
    have HI : Hid (tm p (tp s k.toNat) = tp x n.toNat) := hinv
    have HC : Hid (cf p = p) := hcp
    clear hinv hcp hc1 hf1
    have hwl' : w1.heap.size < wr.heap.size := by omega
    have hwl2 : w.heap.size + 1 < wr.heap.size := by omega
    have hwl3 : w.heap.size < wr.heap.size := by omega
    by_cases hlt : 0 < k
    · by_cases hodd : k % 2 = 1
      · go_wp2_with (go_at_call 137; refine (tmul_any _ _ _).mono ?_; rintro e w2 ⟨rfl, hb2⟩; obtain ⟨hc2, hf2⟩ := bcell hb2; have hz2 : w1.heap.size < w2.heap.size := (by have := hb2.size; first | omega | (simp at this; omega)); have hy2 : w1.heap.size + 1 < w2.heap.size := (by have := hb2.size; first | omega | (simp at this; omega)); have hx2 : w.heap.size + 1 < w2.heap.size := (by have := hb2.size; first | omega | (simp at this; omega)); have hw2 : w.heap.size < w2.heap.size := (by omega))
        go_roundw
        case rel =>
          refine ⟨k / 2, tm p s, tm s s, by omega, by omega, rfl, ?_, ?_, ?_, ?_, ?_, ?_, ?_, ?_, ?_, ?_, ?_, ?_, ?_, by repeat (first | (with_reducible first | exact Below.refl _ _ | assumption | refine Below.setCell ?_ (by first | simp <;> omega | omega) _ | refine Below.alloc ?_ (by first | simp <;> omega | omega) _) | refine bl_call ?_ (by assumption) (by first | simp <;> omega | omega) | (with_reducible first | refine bl_drewN ?_ | refine Below.drew ?_ | refine bl_grow ?_ (by first | simp <;> omega | omega))), cf_tm _ _, tstep_odd hlt hodd HI.out⟩
          all_goals first | (simp [go_sem, *]; done) | (simp [go_sem, *]; omega)
        case measure => simp [intOf]; omega
      · have hev : k % 2 = 0 := by omega
        go_wp2_with (go_at_call 137; refine (tmul_any _ _ _).mono ?_; rintro e w2 ⟨rfl, hb2⟩; obtain ⟨hc2, hf2⟩ := bcell hb2; have hz2 : w1.heap.size < w2.heap.size := (by have := hb2.size; first | omega | (simp at this; omega)); have hy2 : w1.heap.size + 1 < w2.heap.size := (by have := hb2.size; first | omega | (simp at this; omega)); have hx2 : w.heap.size + 1 < w2.heap.size := (by have := hb2.size; first | omega | (simp at this; omega)); have hw2 : w.heap.size < w2.heap.size := (by omega))
        go_roundw
        case rel =>
          refine ⟨k / 2, p, tm s s, by omega, by omega, rfl, ?_, ?_, ?_, ?_, ?_, ?_, ?_, ?_, ?_, ?_, ?_, ?_, ?_, by repeat (first | (with_reducible first | exact Below.refl _ _ | assumption | refine Below.setCell ?_ (by first | simp <;> omega | omega) _ | refine Below.alloc ?_ (by first | simp <;> omega | omega) _) | refine bl_call ?_ (by assumption) (by first | simp <;> omega | omega) | (with_reducible first | refine bl_drewN ?_ | refine Below.drew ?_ | refine bl_grow ?_ (by first | simp <;> omega | omega))), HC.out, tstep_even hlt hev HI.out⟩
          all_goals first | (simp [go_sem, *]; done) | (simp [go_sem, *]; omega)
        case measure => simp [intOf]; omega
    · have hk : k = 0 := by omega
      subst hk
      have hi := HI.out
      rw [show (0 : Int).toNat = 0 from rfl, tp_zero, tm, cm_one, HC.out] at hi
      have HE : Hid (p = tp x n.toNat) := hi
      clear hi HI HC
      go_wp2_with fail
      refine bodyPost_ret (v := .tuple #[.agg #[.int .i64 p.1, .int .i64 p.2], .nilIface]) (by simp [results, Tryz.results117, go_sem, *]) rfl ⟨?_, by repeat (first | (with_reducible first | exact Below.refl _ _ | assumption | refine Below.setCell ?_ (by first | simp <;> omega | omega) _ | refine Below.alloc ?_ (by first | simp <;> omega | omega) _) | refine bl_call ?_ (by assumption) (by first | simp <;> omega | omega) | (with_reducible first | refine bl_drewN ?_ | refine Below.drew ?_ | refine bl_grow ?_ (by first | simp <;> omega | omega)))⟩
      rw [HE.out]
end Go.Proofs.YtgngdabfmbipaakGreatDoor

/- What the plain reckoning (stoneref2: Secret, Rest) says of a number. -/
namespace Go.Proofs.YtgngdabfmbipaakGreatDoor
open Go.RowKit Go.Sort
set_option linter.unusedVariables false
set_option linter.unusedSimpArgs false
/-- May a number be a secret? -/
def secB (n : Int) : Bool := decide (1 ≤ n ∧ n < 1013)
def resB (n : Int) : Bool := decide (0 ≤ n ∧ n < 1013)
theorem rsecret (n : Int) (w : World) : Calls Tryz.prog 49 #[.int .i64 n] w fun e w' => e = .returned (.bool (secB n)) ∧ Below w.heap.size w w' := by
  by_cases h : n ≥ 1
  · by_cases h2 : n < 1013
    · rw [show secB n = true from decide_eq_true ⟨h, h2⟩]
      go_enter Tryz.func49, Tryz.ntmps49
      go_wp2_with fail
      go_ret
      exact ⟨rfl, below_by⟩
    · rw [show secB n = false from decide_eq_false fun k => h2 k.2]
      go_enter Tryz.func49, Tryz.ntmps49
      go_wp2_with fail
      go_ret
      exact ⟨rfl, below_by⟩
  · rw [show secB n = false from decide_eq_false fun k => h k.1]
    go_enter Tryz.func49, Tryz.ntmps49
    go_wp2_with fail
    go_ret
    exact ⟨rfl, below_by⟩
theorem rrest (n : Int) (w : World) : Calls Tryz.prog 50 #[.int .i64 n] w fun e w' => e = .returned (.bool (resB n)) ∧ Below w.heap.size w w' := by
  by_cases h : n ≥ 0
  · by_cases h2 : n < 1013
    · rw [show resB n = true from decide_eq_true ⟨h, h2⟩]
      go_enter Tryz.func50, Tryz.ntmps50
      go_wp2_with fail
      go_ret
      exact ⟨rfl, below_by⟩
    · rw [show resB n = false from decide_eq_false fun k => h2 k.2]
      go_enter Tryz.func50, Tryz.ntmps50
      go_wp2_with fail
      go_ret
      exact ⟨rfl, below_by⟩
  · rw [show resB n = false from decide_eq_false fun k => h k.1]
    go_enter Tryz.func50, Tryz.ntmps50
    go_wp2_with fail
    go_ret
    exact ⟨rfl, below_by⟩
end Go.Proofs.YtgngdabfmbipaakGreatDoor

/- What the plain reckoning of the statements (stoneref1: Spot, Neg, Slope, Add, Lift) answers. -/
namespace Go.Proofs.YtgngdabfmbipaakGreatDoor
open Go.RowKit Go.Sort
set_option linter.unusedVariables false
set_option linter.unusedSimpArgs false

theorem mul_box {x y A B : Int} (h1 : 0 ≤ x) (h2 : x ≤ A) (h3 : 0 ≤ y) (h4 : y ≤ B) : 0 ≤ x * y ∧ x * y ≤ A * B :=
  ⟨Int.mul_nonneg h1 h3, Int.mul_le_mul h2 h4 h3 (by omega)⟩
theorem mul_box2 {s d : Int} (h1 : 0 ≤ s) (h2 : s ≤ 4050) (h3 : -4050 ≤ d) (h4 : d ≤ 4050) : -16402500 ≤ s * d ∧ s * d ≤ 16402500 := by
  have a := Int.mul_le_mul_of_nonneg_left h4 h1
  have b := Int.mul_le_mul_of_nonneg_left h3 h1
  constructor <;> omega
theorem sqR (x : Int) : (x * x % 4051 * x + x) % 4051 = sqI x := by
  rw [sqI_eq]
  show fm (fm (x * x) * x + x) = _
  rw [← fm_add_l, fm_mul_l, fm_add_l]
theorem turn_n (n : Int) (w : World) (h0 : 1 ≤ n) (h1 : n ≤ 4050) :
    Calls Tryz.prog 129 #[.int .i64 n, .int .i64 4051] w fun x w' => x = .returned (.int .i64 (fpow n 4049)) ∧ w' = w :=
  turn_any 4051 n (fpow n 4049) w (by omega) (by omega) (by omega) (by omega) 40 (turn_start h0 h1) (fpow_lo _ _)
theorem dslR (x y : Nat) : (3 * (x : Int) * x + 1) % 4051 * fpow (2 * (y : Int) % 4051) 4049 % 4051 = (dslN x y : Int) := by
  rw [← dslI]
  show fm (fm (3 * (x : Int) * x + 1) * fpow (fm (2 * (y : Int))) 4049) = _
  rw [fm_mul_l, ← fm_mul_l (fm (fm (3 * fm ((x : Int) * x)) + 1))]
  rw [← fm_mul_l]
  congr 2
  simp only [fm_add_l, fm_add_r, fm_sub_l, fm_sub_r, fm_mul_l, fm_mul_r, fm_fm]
  congr 1; grind
theorem rslope_no1 (x1 y1 y2 : Nat) (w : World) (h : ((y1 : Int) == (y2 : Int)) = false) :
    Calls Tryz.prog 94 #[.agg #[.int .i64 (x1 : Int), .int .i64 (y1 : Int), .bool false], .agg #[.int .i64 (x1 : Int), .int .i64 (y2 : Int), .bool false]] w fun e w' => e = .returned (.tuple #[.int .i64 0, .bool false]) ∧ Below w.heap.size w w' := by
  go_enter Tryz.func94, Tryz.ntmps94
  go_wp2_with fail
  go_ret2
  exact ⟨rfl, below_by⟩
theorem rslope_no2 (x1 : Nat) (w : World) :
    Calls Tryz.prog 94 #[.agg #[.int .i64 (x1 : Int), .int .i64 0, .bool false], .agg #[.int .i64 (x1 : Int), .int .i64 0, .bool false]] w fun e w' => e = .returned (.tuple #[.int .i64 0, .bool false]) ∧ Below w.heap.size w w' := by
  go_enter Tryz.func94, Tryz.ntmps94
  go_wp2_with fail
  go_ret2
  exact ⟨rfl, below_by⟩
set_option maxHeartbeats 1000000 in
theorem rslope_one (x1 y1 : Nat) (w : World) (k1 : x1 < 4051) (k : y1 < 4051) (h : y1 ≠ 0) :
    Calls Tryz.prog 94 #[.agg #[.int .i64 (x1 : Int), .int .i64 (y1 : Int), .bool false], .agg #[.int .i64 (x1 : Int), .int .i64 (y1 : Int), .bool false]] w fun e w' => e = .returned (.tuple #[.int .i64 (dslN x1 y1 : Int), .bool true]) ∧ Below w.heap.size w w' := by
  have H : Hid ((3 * (x1 : Int) * x1 + 1) % 4051 * fpow (2 * (y1 : Int) % 4051) 4049 % 4051 = (dslN x1 y1 : Int)) := dslR x1 y1
  have k1' : (x1 : Int) ≤ 4050 := by omega
  have k' : (y1 : Int) ≤ 4050 := by omega
  have k0 : 0 ≤ (x1 : Int) := by omega
  have j0 : 0 ≤ (y1 : Int) := by omega
  have hy : ((y1 : Int) == 0) = false := by rw [beq_eq_false_iff_ne]; omega
  obtain ⟨b1, b2⟩ := mul_box (x := 3 * (x1 : Int)) (y := (x1 : Int)) (A := 12150) (B := 4050) (by omega) (by omega) k0 k1'
  have t1 : 1 ≤ 2 * (y1 : Int) % 4051 := by omega
  have t2 : 2 * (y1 : Int) % 4051 ≤ 4050 := by omega
  obtain ⟨b3, b4⟩ := mul_bd (x := (3 * (x1 : Int) * x1 + 1) % 4051) (y := fpow (2 * (y1 : Int) % 4051) 4049) (by omega) (by omega) (fpow_lo _ _) (fpow_hi _ _)
  clear k1 k h
  go_enter Tryz.func94, Tryz.ntmps94
  go_wp2_with fail
  refine wp_region_quiet_below (by kernel_rfl) (by kernel_rfl) ?_
  repeat (go_big_quiet_step ((go_at_call 129; exact Calls.regrown_of (below_of_same (turn_n _ _ t1 t2)))))
  refine wpQuiet_nil ?_
  intro _ hw1
  obtain ⟨⟨dq, osq⟩, hw2⟩ := hw1
  subst hw2
  go_wp2_with fail
  go_ret2
  exact ⟨ret2_int H.out, below_by⟩
set_option maxHeartbeats 1000000 in
theorem rslope_two (x1 y1 x2 y2 : Nat) (w : World) (h1 : x1 < 4051) (h2 : x2 < 4051) (k1 : y1 < 4051) (k2 : y2 < 4051) (h : x1 ≠ x2) :
    Calls Tryz.prog 94 #[.agg #[.int .i64 (x1 : Int), .int .i64 (y1 : Int), .bool false], .agg #[.int .i64 (x2 : Int), .int .i64 (y2 : Int), .bool false]] w fun e w' => e = .returned (.tuple #[.int .i64 (cslN x1 y1 x2 y2 : Int), .bool true]) ∧ Below w.heap.size w w' := by
  have H : Hid (fm ((y1 : Int) - y2) * fpow (fm ((x1 : Int) - x2)) 4049 % 4051 = (cslN x1 y1 x2 y2 : Int)) := cslR h2 k2
  have E : ((x1 : Int) == (x2 : Int)) = false := by rw [beq_eq_false_iff_ne]; omega
  have h1' : (x1 : Int) ≤ 4050 := by omega
  have h2' : (x2 : Int) ≤ 4050 := by omega
  have k1' : (y1 : Int) ≤ 4050 := by omega
  have k2' : (y2 : Int) ≤ 4050 := by omega
  have h10 : 0 ≤ (x1 : Int) := by omega
  have h20 : 0 ≤ (x2 : Int) := by omega
  have k10 : 0 ≤ (y1 : Int) := by omega
  have k20 : 0 ≤ (y2 : Int) := by omega
  have t1 : 1 ≤ fm ((x1 : Int) - x2) := by unfold fm; omega
  have t2 := fm_hi ((x1 : Int) - x2)
  obtain ⟨b3, b4⟩ := mul_bd (x := fm ((y1 : Int) - y2)) (y := fpow (fm ((x1 : Int) - x2)) 4049) (fm_lo _) (fm_hi _) (fpow_lo _ _) (fpow_hi _ _)
  clear h1 h2 k1 k2 h
  go_enter Tryz.func94, Tryz.ntmps94
  go_wp2_with fail
  refine wp_region_quiet_below (by kernel_rfl) (by kernel_rfl) ?_
  repeat (go_big_quiet_step (first | (go_at_call 129; exact Calls.regrown_of (below_of_same (turn_n _ _ t1 t2))) | (go_at_call 96; exact Calls.regrown_of (below_of_same (rmod_fm _ _)))))
  refine wpQuiet_nil ?_
  intro _ hw1
  obtain ⟨⟨dq, osq⟩, hw2⟩ := hw1
  subst hw2
  go_wp2_with fail
  go_ret2
  exact ⟨ret2_int H.out, below_by⟩
theorem radd_far1 (x2 y2 : Int) (f2 : Bool) (w : World) :
    Calls Tryz.prog 92 #[.agg #[.int .i64 0, .int .i64 0, .bool true], .agg #[.int .i64 x2, .int .i64 y2, .bool f2]] w fun e w' => e = .returned (.agg #[.int .i64 x2, .int .i64 y2, .bool f2]) ∧ Below w.heap.size w w' := by
  go_enter Tryz.func92, Tryz.ntmps92
  go_wp2_with fail
  exact bodyPost_ret (v := .agg #[.int .i64 x2, .int .i64 y2, .bool f2]) (by simp [results, Tryz.results92, go_sem, *]) rfl ⟨rfl, below_by⟩
theorem radd_far2 (x1 y1 : Int) (w : World) :
    Calls Tryz.prog 92 #[.agg #[.int .i64 x1, .int .i64 y1, .bool false], .agg #[.int .i64 0, .int .i64 0, .bool true]] w fun e w' => e = .returned (.agg #[.int .i64 x1, .int .i64 y1, .bool false]) ∧ Below w.heap.size w w' := by
  go_enter Tryz.func92, Tryz.ntmps92
  go_wp2_with fail
  exact bodyPost_ret (v := .agg #[.int .i64 x1, .int .i64 y1, .bool false]) (by simp [results, Tryz.results92, go_sem, *]) rfl ⟨rfl, below_by⟩
theorem radd_no1 (x1 y1 y2 : Nat) (w : World) (h : ((y1 : Int) == (y2 : Int)) = false) :
    Calls Tryz.prog 92 #[.agg #[.int .i64 (x1 : Int), .int .i64 (y1 : Int), .bool false], .agg #[.int .i64 (x1 : Int), .int .i64 (y2 : Int), .bool false]] w fun e w' => e = .returned (.agg #[.int .i64 0, .int .i64 0, .bool true]) ∧ Below w.heap.size w w' := by
  have m1 : True := trivial
  go_enter Tryz.func92, Tryz.ntmps92
  go_wp2_with (go_at_call 94; clear m1; refine (rslope_no1 _ _ _ _ h).mono ?_; rintro e w1 ⟨rfl, hbw1⟩; have kaw1 : At w1 (w.heap.size) [.int .i64 (x1 : Int), .int .i64 (y1 : Int), .bool false] := (at_by); have kbw1 : At w1 (w.heap.size + 1) [.int .i64 (x1 : Int), .int .i64 (y2 : Int), .bool false] := (at_by); have krw1 : At w1 (w.heap.size + 2) [.int .i64 0, .int .i64 0, .bool false] := (at_by); have hqw1 : Below w.heap.size w w1 := (below_by); have hzw1 := hqw1.size; obtain ⟨zaw1, ca0w1, ca1w1, ca2w1, fa0w1, fa1w1, fa2w1⟩ := kaw1.three; obtain ⟨zbw1, cb0w1, cb1w1, cb2w1, fb0w1, fb1w1, fb2w1⟩ := kbw1.three; obtain ⟨zrw1, cr0w1, cr1w1, cr2w1, fr0w1, fr1w1, fr2w1⟩ := krw1.three; clear hbw1)
  exact bodyPost_ret (v := .agg #[.int .i64 0, .int .i64 0, .bool true]) (by simp [results, Tryz.results92, go_sem, *]) rfl ⟨rfl, below_by⟩
theorem radd_no2 (x1 : Nat) (w : World) :
    Calls Tryz.prog 92 #[.agg #[.int .i64 (x1 : Int), .int .i64 0, .bool false], .agg #[.int .i64 (x1 : Int), .int .i64 0, .bool false]] w fun e w' => e = .returned (.agg #[.int .i64 0, .int .i64 0, .bool true]) ∧ Below w.heap.size w w' := by
  have m1 : True := trivial
  go_enter Tryz.func92, Tryz.ntmps92
  go_wp2_with (go_at_call 94; clear m1; refine (rslope_no2 _ _).mono ?_; rintro e w1 ⟨rfl, hbw1⟩; have kaw1 : At w1 (w.heap.size) [.int .i64 (x1 : Int), .int .i64 0, .bool false] := (at_by); have kbw1 : At w1 (w.heap.size + 1) [.int .i64 (x1 : Int), .int .i64 0, .bool false] := (at_by); have krw1 : At w1 (w.heap.size + 2) [.int .i64 0, .int .i64 0, .bool false] := (at_by); have hqw1 : Below w.heap.size w w1 := (below_by); have hzw1 := hqw1.size; obtain ⟨zaw1, ca0w1, ca1w1, ca2w1, fa0w1, fa1w1, fa2w1⟩ := kaw1.three; obtain ⟨zbw1, cb0w1, cb1w1, cb2w1, fb0w1, fb1w1, fb2w1⟩ := kbw1.three; obtain ⟨zrw1, cr0w1, cr1w1, cr2w1, fr0w1, fr1w1, fr2w1⟩ := krw1.three; clear hbw1)
  exact bodyPost_ret (v := .agg #[.int .i64 0, .int .i64 0, .bool true]) (by simp [results, Tryz.results92, go_sem, *]) rfl ⟨rfl, below_by⟩
set_option maxHeartbeats 1000000 in
theorem radd_two (x1 y1 x2 y2 : Nat) (w : World) (h1 : x1 < 4051) (h2 : x2 < 4051) (k1 : y1 < 4051) (k2 : y2 < 4051) (h : x1 ≠ x2) :
    Calls Tryz.prog 92 #[.agg #[.int .i64 (x1 : Int), .int .i64 (y1 : Int), .bool false], .agg #[.int .i64 (x2 : Int), .int .i64 (y2 : Int), .bool false]] w fun e w' => e = .returned (.agg #[.int .i64 ((lineN (cslN x1 y1 x2 y2) x1 y1 x2).1 : Int), .int .i64 ((lineN (cslN x1 y1 x2 y2) x1 y1 x2).2.1 : Int), .bool false]) ∧ Below w.heap.size w w' := by
  have h1' : (x1 : Int) ≤ 4050 := by omega
  have k1' : (y1 : Int) ≤ 4050 := by omega
  have h10 : 0 ≤ (x1 : Int) := by omega
  have k10 : 0 ≤ (y1 : Int) := by omega
  have h2' : (x2 : Int) ≤ 4050 := by omega
  have h20 : 0 ≤ (x2 : Int) := by omega
  have H1 : Hid (fm (((cslN x1 y1 x2 y2 : Nat) : Int) * (cslN x1 y1 x2 y2 : Nat) - x1 - x2) = ((lineN (cslN x1 y1 x2 y2) x1 y1 x2).1 : Int)) := lineR_x (by omega) (by omega)
  have H2 : Hid (fm (((cslN x1 y1 x2 y2 : Nat) : Int) * (x1 - ((lineN (cslN x1 y1 x2 y2) x1 y1 x2).1 : Int)) - y1) = ((lineN (cslN x1 y1 x2 y2) x1 y1 x2).2.1 : Int)) := lineR_y (by omega) (by omega) (by omega)
  have hs : (((cslN x1 y1 x2 y2 : Nat) : Int)) ≤ 4050 := by have : cslN x1 y1 x2 y2 < 4051 := (by unfold cslN; omega); omega
  have hs0 : 0 ≤ (((cslN x1 y1 x2 y2 : Nat) : Int)) := by omega
  have hX : ((lineN (cslN x1 y1 x2 y2) x1 y1 x2).1 : Int) ≤ 4050 := by have := (line_lt (cslN x1 y1 x2 y2) x1 y1 x2).1; omega
  have hX0 : 0 ≤ ((lineN (cslN x1 y1 x2 y2) x1 y1 x2).1 : Int) := by omega
  obtain ⟨q1, q2⟩ := mul_bd hs0 hs hs0 hs
  obtain ⟨q3, q4⟩ := mul_box2 (d := (x1 : Int) - ((lineN (cslN x1 y1 x2 y2) x1 y1 x2).1 : Int)) hs0 hs (by omega) (by omega)
  have m2 : True := trivial
  have m1 : True := trivial
  go_enter Tryz.func92, Tryz.ntmps92
  go_wp2_with (first | (go_at_call 94; clear m1; refine (rslope_two _ _ _ _ _ h1 h2 k1 k2 h).mono ?_; rintro e w1 ⟨rfl, hbw1⟩; have kaw1 : At w1 (w.heap.size) [.int .i64 (x1 : Int), .int .i64 (y1 : Int), .bool false] := (at_by); have kbw1 : At w1 (w.heap.size + 1) [.int .i64 (x2 : Int), .int .i64 (y2 : Int), .bool false] := (at_by); have krw1 : At w1 (w.heap.size + 2) [.int .i64 0, .int .i64 0, .bool false] := (at_by); have hqw1 : Below w.heap.size w w1 := (below_by); have hzw1 := hqw1.size; obtain ⟨zaw1, ca0w1, ca1w1, ca2w1, fa0w1, fa1w1, fa2w1⟩ := kaw1.three; obtain ⟨zbw1, cb0w1, cb1w1, cb2w1, fb0w1, fb1w1, fb2w1⟩ := kbw1.three; obtain ⟨zrw1, cr0w1, cr1w1, cr2w1, fr0w1, fr1w1, fr2w1⟩ := krw1.three; clear hbw1) | (go_at_call 96; clear m2; refine (rmod_fm _ _).mono ?_; rintro e w' ⟨rfl, rfl⟩; rw [H1.out]) | (go_at_call 96; refine (rmod_fm _ _).mono ?_; rintro e w' ⟨rfl, rfl⟩; rw [H2.out]))
  exact bodyPost_ret (v := .agg #[.int .i64 ((lineN (cslN x1 y1 x2 y2) x1 y1 x2).1 : Int), .int .i64 ((lineN (cslN x1 y1 x2 y2) x1 y1 x2).2.1 : Int), .bool false]) (by simp [results, Tryz.results92, go_sem, *]) rfl ⟨rfl, below_by⟩
set_option maxHeartbeats 1000000 in
theorem radd_one (x1 y1 : Nat) (w : World) (h1 : x1 < 4051) (k1 : y1 < 4051) (h : y1 ≠ 0) :
    Calls Tryz.prog 92 #[.agg #[.int .i64 (x1 : Int), .int .i64 (y1 : Int), .bool false], .agg #[.int .i64 (x1 : Int), .int .i64 (y1 : Int), .bool false]] w fun e w' => e = .returned (.agg #[.int .i64 ((lineN (dslN x1 y1) x1 y1 x1).1 : Int), .int .i64 ((lineN (dslN x1 y1) x1 y1 x1).2.1 : Int), .bool false]) ∧ Below w.heap.size w w' := by
  have h1' : (x1 : Int) ≤ 4050 := by omega
  have k1' : (y1 : Int) ≤ 4050 := by omega
  have h10 : 0 ≤ (x1 : Int) := by omega
  have k10 : 0 ≤ (y1 : Int) := by omega
  have H1 : Hid (fm (((dslN x1 y1 : Nat) : Int) * (dslN x1 y1 : Nat) - x1 - x1) = ((lineN (dslN x1 y1) x1 y1 x1).1 : Int)) := lineR_x (by omega) (by omega)
  have H2 : Hid (fm (((dslN x1 y1 : Nat) : Int) * (x1 - ((lineN (dslN x1 y1) x1 y1 x1).1 : Int)) - y1) = ((lineN (dslN x1 y1) x1 y1 x1).2.1 : Int)) := lineR_y (by omega) (by omega) (by omega)
  have hs : (((dslN x1 y1 : Nat) : Int)) ≤ 4050 := by have : dslN x1 y1 < 4051 := (by unfold dslN; omega); omega
  have hs0 : 0 ≤ (((dslN x1 y1 : Nat) : Int)) := by omega
  have hX : ((lineN (dslN x1 y1) x1 y1 x1).1 : Int) ≤ 4050 := by have := (line_lt (dslN x1 y1) x1 y1 x1).1; omega
  have hX0 : 0 ≤ ((lineN (dslN x1 y1) x1 y1 x1).1 : Int) := by omega
  obtain ⟨q1, q2⟩ := mul_bd hs0 hs hs0 hs
  obtain ⟨q3, q4⟩ := mul_box2 (d := (x1 : Int) - ((lineN (dslN x1 y1) x1 y1 x1).1 : Int)) hs0 hs (by omega) (by omega)
  have m2 : True := trivial
  have m1 : True := trivial
  go_enter Tryz.func92, Tryz.ntmps92
  go_wp2_with (first | (go_at_call 94; clear m1; refine (rslope_one _ _ _ h1 k1 h).mono ?_; rintro e w1 ⟨rfl, hbw1⟩; have kaw1 : At w1 (w.heap.size) [.int .i64 (x1 : Int), .int .i64 (y1 : Int), .bool false] := (at_by); have kbw1 : At w1 (w.heap.size + 1) [.int .i64 (x1 : Int), .int .i64 (y1 : Int), .bool false] := (at_by); have krw1 : At w1 (w.heap.size + 2) [.int .i64 0, .int .i64 0, .bool false] := (at_by); have hqw1 : Below w.heap.size w w1 := (below_by); have hzw1 := hqw1.size; obtain ⟨zaw1, ca0w1, ca1w1, ca2w1, fa0w1, fa1w1, fa2w1⟩ := kaw1.three; obtain ⟨zbw1, cb0w1, cb1w1, cb2w1, fb0w1, fb1w1, fb2w1⟩ := kbw1.three; obtain ⟨zrw1, cr0w1, cr1w1, cr2w1, fr0w1, fr1w1, fr2w1⟩ := krw1.three; clear hbw1) | (go_at_call 96; clear m2; refine (rmod_fm _ _).mono ?_; rintro e w' ⟨rfl, rfl⟩; rw [H1.out]) | (go_at_call 96; refine (rmod_fm _ _).mono ?_; rintro e w' ⟨rfl, rfl⟩; rw [H2.out]))
  exact bodyPost_ret (v := .agg #[.int .i64 ((lineN (dslN x1 y1) x1 y1 x1).1 : Int), .int .i64 ((lineN (dslN x1 y1) x1 y1 x1).2.1 : Int), .bool false]) (by simp [results, Tryz.results92, go_sem, *]) rfl ⟨rfl, below_by⟩
theorem raddN_aff (x1 y1 x2 y2 : Nat) : addN (x1, y1, false) (x2, y2, false) = cond (Nat.beq x1 x2) (cond (Nat.beq y1 y2 && !(Nat.beq y1 0)) (lineN (dslN x1 y1) x1 y1 x1) farN) (lineN (cslN x1 y1 x2 y2) x1 y1 x2) := rfl
theorem radd_ok (a b : Sn) (w : World) (ha : okS a = true) (hb : okS b = true) :
    Calls Tryz.prog 92 #[.agg #[.int .i64 ((a).1 : Int), .int .i64 ((a).2.1 : Int), .bool (a).2.2], .agg #[.int .i64 ((b).1 : Int), .int .i64 ((b).2.1 : Int), .bool (b).2.2]] w fun e w' => e = .returned (.agg #[.int .i64 ((addN a b).1 : Int), .int .i64 ((addN a b).2.1 : Int), .bool (addN a b).2.2]) ∧ Below w.heap.size w w' := by
  obtain ⟨x1, y1, f1⟩ := a
  obtain ⟨x2, y2, f2⟩ := b
  have l1 := okS_lt ha
  have l2 := okS_lt hb
  simp only at l1 l2
  cases f1 with
  | true =>
    obtain ⟨rfl, rfl⟩ : x1 = 0 ∧ y1 = 0 := by
      unfold okS at ha; simp only [cond_true, Bool.and_eq_true] at ha
      exact ⟨Nat.eq_of_beq_eq_true ha.1, Nat.eq_of_beq_eq_true ha.2⟩
    exact radd_far1 x2 y2 f2 w
  | false =>
    cases f2 with
    | true =>
      obtain ⟨rfl, rfl⟩ : x2 = 0 ∧ y2 = 0 := by
        unfold okS at hb; simp only [cond_true, Bool.and_eq_true] at hb
        exact ⟨Nat.eq_of_beq_eq_true hb.1, Nat.eq_of_beq_eq_true hb.2⟩
      exact radd_far2 x1 y1 w
    | false =>
      rw [raddN_aff]
      by_cases hx : x1 = x2
      · subst hx
        rw [show Nat.beq x1 x1 = true from Nat.beq_refl x1]
        by_cases hy : y1 = y2
        · subst hy
          by_cases hy0 : y1 = 0
          · subst hy0
            exact radd_no2 x1 w
          · rw [show (Nat.beq y1 y1 && !(Nat.beq y1 0)) = true by
              simp only [Bool.and_eq_true, Bool.not_eq_true']
              exact ⟨Nat.beq_refl y1, by rw [← Bool.not_eq_true]; intro h; exact hy0 (Nat.eq_of_beq_eq_true h)⟩]
            exact radd_one x1 y1 w l1.1 l1.2 hy0
        · rw [show (Nat.beq y1 y2 && !(Nat.beq y1 0)) = false by
            rw [show Nat.beq y1 y2 = false by rw [← Bool.not_eq_true]; intro h; exact hy (Nat.eq_of_beq_eq_true h)]; rfl]
          exact radd_no1 x1 y1 y2 w (by rw [beq_eq_false_iff_ne]; omega)
      · rw [show Nat.beq x1 x2 = false by rw [← Bool.not_eq_true]; intro h; exact hx (Nat.eq_of_beq_eq_true h)]
        exact radd_two x1 y1 x2 y2 w l1.1 l2.1 l1.2 l2.2 hx
theorem radd_tM (j k : Nat) (w : World) :
    Calls Tryz.prog 92 #[.agg #[.int .i64 ((tM j).1 : Int), .int .i64 ((tM j).2.1 : Int), .bool (tM j).2.2], .agg #[.int .i64 ((tM k).1 : Int), .int .i64 ((tM k).2.1 : Int), .bool (tM k).2.2]] w fun e w' => e = .returned (.agg #[.int .i64 ((tM (j + k)).1 : Int), .int .i64 ((tM (j + k)).2.1 : Int), .bool (tM (j + k)).2.2]) ∧ Below w.heap.size w w' := by
  have := radd_ok (tM j) (tM k) w (tM_ok j) (tM_ok k)
  rwa [tM_add] at this
theorem rootI_sq (x : Int) : rootI (x * x % 4051 * x + x) = rootI (sqI x) := by
  have e : fm (x * x % 4051 * x + x) = sqI x := sqR x
  have e1 : rt (x * x % 4051 * x + x) = rt (sqI x) := by unfold rt; rw [← fpow_fm, e]
  unfold rootI rtOk rtMin; rw [e1, e, sqI_fm]
theorem rlift_yes (x : Int) (w : World) (h0 : 0 ≤ x) (h1 : x ≤ 4050) (h : rtOk (sqI x) = true) :
    Calls Tryz.prog 54 #[.int .i64 x] w fun e w' => e = .returned (.tuple #[.agg #[.int .i64 x, .int .i64 (rtMin (sqI x)), .bool false], .bool true]) ∧ Below w.heap.size w w' := by
  have H : Hid (rootI (x * x % 4051 * x + x) = rtMin (sqI x)) := by show rootI _ = _; rw [rootI_sq, rootI, h]; rfl
  have hr := (least_le (sqI x)).1
  obtain ⟨b3, b4⟩ := mul_bd h0 h1 h0 h1
  obtain ⟨b5, b6⟩ := mul_bd (x := x * x % 4051) (y := x) (by omega) (by omega) h0 h1
  go_enter Tryz.func54, Tryz.ntmps54
  go_wp2_with (go_at_call 91; refine (rroot_any _ _).mono ?_; rintro e w' ⟨rfl, rfl⟩; rw [H.out])
  exact bodyPost_ret (v := .tuple #[.agg #[.int .i64 x, .int .i64 (rtMin (sqI x)), .bool false], .bool true]) (by simp [results, Tryz.results54, go_sem, *]) rfl ⟨rfl, below_by⟩
theorem rlift_no (x : Int) (w : World) (h0 : 0 ≤ x) (h1 : x ≤ 4050) (h : rtOk (sqI x) = false) :
    Calls Tryz.prog 54 #[.int .i64 x] w fun e w' => e = .returned (.tuple #[.agg #[.int .i64 0, .int .i64 0, .bool false], .bool false]) ∧ Below w.heap.size w w' := by
  have H : Hid (rootI (x * x % 4051 * x + x) = -1) := by show rootI _ = _; rw [rootI_sq, rootI, h]; rfl
  obtain ⟨b3, b4⟩ := mul_bd h0 h1 h0 h1
  obtain ⟨b5, b6⟩ := mul_bd (x := x * x % 4051) (y := x) (by omega) (by omega) h0 h1
  go_enter Tryz.func54, Tryz.ntmps54
  go_wp2_with (go_at_call 91; refine (rroot_any _ _).mono ?_; rintro e w' ⟨rfl, rfl⟩; rw [H.out])
  exact bodyPost_ret (v := .tuple #[.agg #[.int .i64 0, .int .i64 0, .bool false], .bool false]) (by simp [results, Tryz.results54, go_sem, *]) rfl ⟨rfl, below_by⟩
end Go.Proofs.YtgngdabfmbipaakGreatDoor

/- What curve.CheckAll answers of so many spots that lie in a row. -/
namespace Go.Proofs.YtgngdabfmbipaakGreatDoor
open Go.RowKit Go.Sort
set_option linter.unusedVariables false
set_option linter.unusedSimpArgs false

/-- In block b lie so many spots in a row. -/
def RowS (w : World) (b n : Nat) (X Y : Nat → Int) (F : Nat → Bool) : Prop :=
  b < w.heap.size ∧ ∀ i, i < n → w.cell? ⟨b, i * 3, none⟩ = some (.int .i64 (X i)) ∧ w.cell? ⟨b, i * 3 + 1, none⟩ = some (.int .i64 (Y i)) ∧ w.cell? ⟨b, i * 3 + 2, none⟩ = some (.bool (F i))
theorem RowS.below {w w' : World} {b n : Nat} {X Y : Nat → Int} {F : Nat → Bool} (h : RowS w b n X Y F) (k : Below w.heap.size w w') : RowS w' b n X Y F :=
  ⟨Nat.lt_of_lt_of_le h.1 k.size, fun i hi => by
    obtain ⟨h1, h2, h3⟩ := h.2 i hi
    exact ⟨(k.cell (p := ⟨b, i * 3, none⟩) h.1).trans h1, (k.cell (p := ⟨b, i * 3 + 1, none⟩) h.1).trans h2, (k.cell (p := ⟨b, i * 3 + 2, none⟩) h.1).trans h3⟩⟩
theorem checkAll_any (b n c m : Nat) (X Y : Nat → Int) (F : Nat → Bool) (w : World) (hn : n ≤ 1000000) (hr : RowS w b n X Y F) (hm : m ≤ n) (hok : ∀ j, j < m → ckI (X j) (Y j) (F j) = 0) (v : Value)
    (hv : (m = n ∧ v = .nilIface) ∨ (m < n ∧ (ckI (X m) (Y m) (F m) == 0) = false ∧ v = errOf (ckI (X m) (Y m) (F m)))) :
    Calls Tryz.prog 105 #[.slice (some ⟨b, 0, none⟩) n c] w fun e w' => e = .returned v ∧ Below w.heap.size w w' := by
  have HR : Hid (RowS w b n X Y F) := hr
  have HO : Hid (∀ j, j < m → ckI (X j) (Y j) (F j) = 0) := hok
  have HV : Hid ((m = n ∧ v = .nilIface) ∨ (m < n ∧ (ckI (X m) (Y m) (F m) == 0) = false ∧ v = errOf (ckI (X m) (Y m) (F m)))) := hv
  have hb := hr.1
  clear hr hok hv
  go_enter Tryz.func105, Tryz.ntmps105
  go_wp2_with fail
  go_loopw [8] (fun ti wl => ∃ k : Nat, k ≤ m ∧ ti = .int .i64 k ∧ Below w.heap.size w wl) (fun ti _ => n - (intOf ti).toNat)
  case atStart => exact ⟨0, by omega, rfl, Below.refl _ _⟩
  case round =>
    obtain ⟨k, hk, rfl, hbl⟩ := hrel
    have hz := hbl.size
    by_cases hlt : k < n
    · have hlt' : (k : Int) < n := by omega
      obtain ⟨c0, c1, c2⟩ := (HR.out.below hbl).2 k hlt
      by_cases hkm : k < m
      · go_wp2_with (go_at_call 20; refine (check_yes _ _ _ _ (HO.out k hkm)).mono ?_; rintro e w1 ⟨rfl, hb1⟩)
        go_roundw
        case rel => exact ⟨k + 1, by omega, by simp, below_by⟩
        case measure => simp [intOf]; omega
      · obtain rfl : k = m := by omega
        obtain ⟨h1, h2, rfl⟩ : k < n ∧ (ckI (X k) (Y k) (F k) == 0) = false ∧ v = errOf (ckI (X k) (Y k) (F k)) := by
          rcases HV.out with h | h
          · omega
          · exact h
        go_wp2_with (go_at_call 20; refine (check_no _ _ _ _ h2).mono ?_; rintro e w1 ⟨rfl, hb1⟩)
        go_ret
        exact ⟨rfl, below_by⟩
    · have hlt' : ¬ (k : Int) < n := by omega
      obtain ⟨h1, rfl⟩ : m = n ∧ v = .nilIface := by
        rcases HV.out with h | h
        · exact h
        · omega
      go_wp2_with fail
      go_ret
      exact ⟨rfl, below_by⟩
end Go.Proofs.YtgngdabfmbipaakGreatDoor

/- The contracts of package twin with what they answer said otherwise, and of prime in the form of the others. -/
namespace Go.Proofs.YtgngdabfmbipaakGreatDoor
open Go.RowKit Go.Sort

theorem tpow_eq {x z : Int × Int} {n : Int} (h : tp x n.toNat = z) (w : World) (hn : 0 ≤ n) (hm : n ≤ 9223372036854775807) :
    Calls Tryz.prog 117 #[.agg #[.int .i64 x.1, .int .i64 x.2], .int .i64 n] w fun e w' => e = .returned (.tuple #[.agg #[.int .i64 z.1, .int .i64 z.2], .nilIface]) ∧ Below w.heap.size w w' := by
  rw [← h]; exact tpow_yes x n w hn hm
/-! The laws of the greater field. -/
end Go.Proofs.YtgngdabfmbipaakGreatDoor
