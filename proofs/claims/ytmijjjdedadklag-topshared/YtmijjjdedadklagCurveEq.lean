/- Sums of spots in the words of the group: so many times one and so many times one; and what curve.Lift answers. -/
import Derived.Test.YtmijjjdedadklagCurveAdd
namespace Go.Proofs.Ytmijjjdedadklag
open Go.RowKit Go.Sort
set_option linter.unusedVariables false
set_option linter.unusedSimpArgs false

theorem okS_neg {x y : Nat} (h : okS (x, y, false) = true) : okS (x, ny y, false) = true := by
  obtain ⟨k, hk, e⟩ := is_tN h
  have := neg_tN hk
  rw [e, negN_eq] at this
  rw [this]; exact tM_ok _
theorem addN_aff (x1 y1 x2 y2 : Nat) : addN (x1, y1, false) (x2, y2, false) = cond (Nat.beq x1 x2) (cond (Nat.beq y1 y2 && !(Nat.beq y1 0)) (lineN (dslN x1 y1) x1 y1 x1) farN) (lineN (cslN x1 y1 x2 y2) x1 y1 x2) := rfl
theorem line_form (s x1 y1 x2 : Nat) (h0 : y1 < 4051) (h1 : x1 < 4051) (h2 : x2 < 4051) : lineN s x1 y1 x2 = ((lineN s x1 y1 x2).1, ny (tyN s x1 y1 x2), false) := by rw [ty_neg h0 h1 h2]; rfl
theorem cadd_ok (a b : Sn) (w : World) (ha : okS a = true) (hb : okS b = true) :
    Calls Try.prog 23 #[.agg #[.int .i64 ((a).1 : Int), .int .i64 ((a).2.1 : Int), .bool (a).2.2], .agg #[.int .i64 ((b).1 : Int), .int .i64 ((b).2.1 : Int), .bool (b).2.2]] w fun e w' => e = .returned (.tuple #[.agg #[.int .i64 ((addN a b).1 : Int), .int .i64 ((addN a b).2.1 : Int), .bool (addN a b).2.2], .nilIface]) ∧ Below w.heap.size w w' := by
  obtain ⟨x1, y1, f1⟩ := a
  obtain ⟨x2, y2, f2⟩ := b
  have h1 := ckI_of_ok ha
  have h2 := ckI_of_ok hb
  have l1 := okS_lt ha
  have l2 := okS_lt hb
  simp only at h1 h2 l1 l2
  cases f1 with
  | true =>
    obtain ⟨rfl, rfl⟩ : x1 = 0 ∧ y1 = 0 := by
      unfold okS at ha; simp only [cond_true, Bool.and_eq_true] at ha
      exact ⟨Nat.eq_of_beq_eq_true ha.1, Nat.eq_of_beq_eq_true ha.2⟩
    exact cadd_far1 x2 y2 f2 rfl h2 w
  | false =>
    cases f2 with
    | true =>
      obtain ⟨rfl, rfl⟩ : x2 = 0 ∧ y2 = 0 := by
        unfold okS at hb; simp only [cond_true, Bool.and_eq_true] at hb
        exact ⟨Nat.eq_of_beq_eq_true hb.1, Nat.eq_of_beq_eq_true hb.2⟩
      exact cadd_far2 x1 y1 h1 rfl w
    | false =>
      rw [addN_aff]
      by_cases hx : x1 = x2
      · subst hx
        rw [show Nat.beq x1 x1 = true from Nat.beq_refl x1]
        by_cases hy : y2 = ny y1
        · subst hy
          rw [show (Nat.beq y1 (ny y1) && !(Nat.beq y1 0)) = false by
            rw [Bool.eq_false_iff]; intro h; simp only [Bool.and_eq_true, Bool.not_eq_true'] at h
            have e1 := Nat.eq_of_beq_eq_true h.1
            have e2 := Nat.ne_of_beq_eq_false h.2
            unfold ny at e1; omega]
          exact cadd_neg x1 y1 l1.2 h1 h2 w
        · rcases same_place ha hb with rfl | h
          · have y0 : y2 ≠ 0 := by rintro rfl; exact hy rfl
            rw [show (Nat.beq y2 y2 && !(Nat.beq y2 0)) = true by
              simp only [Bool.and_eq_true, Bool.not_eq_true']
              exact ⟨Nat.beq_refl y2, by rw [← Bool.not_eq_true]; intro h; exact y0 (Nat.eq_of_beq_eq_true h)⟩]
            simp only [cond_true]
            rw [line_form _ _ _ _ l1.2 l1.1 l1.1]
            exact cadd_one x1 y2 l1.1 l1.2 y0 h1 w
          · exact absurd h hy
      · rw [show Nat.beq x1 x2 = false by rw [← Bool.not_eq_true]; intro h; exact hx (Nat.eq_of_beq_eq_true h)]
        simp only [cond_false]
        rw [line_form _ _ _ _ l1.2 l1.1 l2.1]
        exact cadd_two x1 y1 x2 y2 l1.1 l2.1 l1.2 l2.2 hx h1 h2 w
theorem cadd_eq {j k : Nat} {r : Sn} (h : tM (j + k) = r) (w : World) :
    Calls Try.prog 23 #[.agg #[.int .i64 ((tM j).1 : Int), .int .i64 ((tM j).2.1 : Int), .bool (tM j).2.2], .agg #[.int .i64 ((tM k).1 : Int), .int .i64 ((tM k).2.1 : Int), .bool (tM k).2.2]] w fun e w' => e = .returned (.tuple #[.agg #[.int .i64 ((r).1 : Int), .int .i64 ((r).2.1 : Int), .bool (r).2.2], .nilIface]) ∧ Below w.heap.size w w' := by
  have := cadd_ok (tM j) (tM k) w (tM_ok j) (tM_ok k)
  rwa [tM_add, h] at this
theorem cadd_tM (j k : Nat) (w : World) :
    Calls Try.prog 23 #[.agg #[.int .i64 ((tM j).1 : Int), .int .i64 ((tM j).2.1 : Int), .bool (tM j).2.2], .agg #[.int .i64 ((tM k).1 : Int), .int .i64 ((tM k).2.1 : Int), .bool (tM k).2.2]] w fun e w' => e = .returned (.tuple #[.agg #[.int .i64 ((tM (j + k)).1 : Int), .int .i64 ((tM (j + k)).2.1 : Int), .bool (tM (j + k)).2.2], .nilIface]) ∧ Below w.heap.size w w' := cadd_eq rfl w
theorem cadd_null {j k : Nat} (h : tM (j + k) = farN) (w : World) :
    Calls Try.prog 23 #[.agg #[.int .i64 ((tM j).1 : Int), .int .i64 ((tM j).2.1 : Int), .bool (tM j).2.2], .agg #[.int .i64 ((tM k).1 : Int), .int .i64 ((tM k).2.1 : Int), .bool (tM k).2.2]] w fun e w' => e = .returned (.tuple #[.agg #[.int .i64 0, .int .i64 0, .bool true], .nilIface]) ∧ Below w.heap.size w w' := cadd_eq h w
theorem cadd_zz (w : World) :
    Calls Try.prog 23 #[.agg #[.int .i64 0, .int .i64 0, .bool false], .agg #[.int .i64 0, .int .i64 0, .bool false]] w fun e w' => e = .returned (.tuple #[.agg #[.int .i64 0, .int .i64 0, .bool true], .nilIface]) ∧ Below w.heap.size w w' :=
  cadd_ok (0, 0, false) (0, 0, false) w (by decide) (by decide)
theorem cadd_far (k : Nat) (w : World) :
    Calls Try.prog 23 #[.agg #[.int .i64 ((tM k).1 : Int), .int .i64 ((tM k).2.1 : Int), .bool (tM k).2.2], .agg #[.int .i64 0, .int .i64 0, .bool true]] w fun e w' => e = .returned (.tuple #[.agg #[.int .i64 ((tM k).1 : Int), .int .i64 ((tM k).2.1 : Int), .bool (tM k).2.2], .nilIface]) ∧ Below w.heap.size w w' := by
  have := cadd_eq (j := k) (k := 0) (r := tM k) rfl w
  exact this
theorem cadd_z (k : Nat) (w : World) :
    Calls Try.prog 23 #[.agg #[.int .i64 ((tM k).1 : Int), .int .i64 ((tM k).2.1 : Int), .bool (tM k).2.2], .agg #[.int .i64 0, .int .i64 0, .bool false]] w fun e w' => e = .returned (.tuple #[.agg #[.int .i64 ((tM (k + 2026)).1 : Int), .int .i64 ((tM (k + 2026)).2.1 : Int), .bool (tM (k + 2026)).2.2], .nilIface]) ∧ Below w.heap.size w w' := by
  have := cadd_tM k 2026 w
  rw [tM_nul] at this
  exact this
theorem check_tM (k : Nat) (w : World) :
    Calls Try.prog 31 #[.agg #[.int .i64 ((tM k).1 : Int), .int .i64 ((tM k).2.1 : Int), .bool (tM k).2.2]] w fun e w' => e = .returned .nilIface ∧ Below w.heap.size w w' := check_yes _ _ _ w (ck_tM k)
theorem lift_out (x : Int) (w : World) (h : ¬ (0 ≤ x ∧ x < 4051)) :
    Calls Try.prog 69 #[.int .i64 x] w fun e w' => e = .returned (.tuple #[.agg #[.int .i64 0, .int .i64 0, .bool false], errOf 1]) ∧ Below w.heap.size w w' := by
  have H : Hid (¬ (0 ≤ x ∧ x < 4051)) := h
  clear h
  go_enter Try.func69, Try.ntmps69
  go_wp2_with (go_at_call 66; refine (infield_no _ _ H.out).mono ?_; rintro e w' ⟨rfl, rfl⟩)
  exact bodyPost_ret (v := .tuple #[.agg #[.int .i64 0, .int .i64 0, .bool false], errOf 1]) (by simp [results, Try.results69, go_sem, *]) rfl ⟨rfl, by repeat (first | (with_reducible exact Below.refl _ _) | (with_reducible assumption) | (with_reducible refine Below.setCell ?_ (by first | (simp; done) | (simp; omega) | omega) _) | (with_reducible refine Below.alloc ?_ (by first | (simp; done) | (simp; omega) | omega) _) | (refine bl_call ?_ (by assumption) (by first | (simp; done) | (simp; omega) | omega)) | (with_reducible refine bl_drewN ?_) | (with_reducible refine Below.drew ?_) | (with_reducible refine bl_grow ?_ (by first | (simp; done) | (simp; omega) | omega)))⟩
theorem lift_none (x : Int) (w : World) (h0 : 0 ≤ x) (h1 : x < 4051) (h : rtOk (sqI x) = false) :
    Calls Try.prog 69 #[.int .i64 x] w fun e w' => e = .returned (.tuple #[.agg #[.int .i64 0, .int .i64 0, .bool false], errOf 5]) ∧ Below w.heap.size w w' := by
  go_enter Try.func69, Try.ntmps69
  go_wp2_with (first | (go_at_call 66; refine (infield_yes _ _ h0 h1).mono ?_; rintro e w' ⟨rfl, rfl⟩) | (go_at_call 68; refine (squareAt_any _ _).mono ?_; rintro e w' ⟨rfl, rfl⟩) | (go_at_call 84; refine (sqrt_no _ _ h).mono ?_; rintro e w' ⟨rfl, rfl⟩))
  exact bodyPost_ret (v := .tuple #[.agg #[.int .i64 0, .int .i64 0, .bool false], errOf 5]) (by simp [results, Try.results69, go_sem, *]) rfl ⟨rfl, by repeat (first | (with_reducible exact Below.refl _ _) | (with_reducible assumption) | (with_reducible refine Below.setCell ?_ (by first | (simp; done) | (simp; omega) | omega) _) | (with_reducible refine Below.alloc ?_ (by first | (simp; done) | (simp; omega) | omega) _) | (refine bl_call ?_ (by assumption) (by first | (simp; done) | (simp; omega) | omega)) | (with_reducible refine bl_drewN ?_) | (with_reducible refine Below.drew ?_) | (with_reducible refine bl_grow ?_ (by first | (simp; done) | (simp; omega) | omega)))⟩
theorem lift_yes (x : Int) (w : World) (h0 : 0 ≤ x) (h1 : x < 4051) (h : rtOk (sqI x) = true) :
    Calls Try.prog 69 #[.int .i64 x] w fun e w' => e = .returned (.tuple #[.agg #[.int .i64 x, .int .i64 (rtMin (sqI x)), .bool false], .nilIface]) ∧ Below w.heap.size w w' := by
  go_enter Try.func69, Try.ntmps69
  go_wp2_with (first | (go_at_call 66; refine (infield_yes _ _ h0 h1).mono ?_; rintro e w' ⟨rfl, rfl⟩) | (go_at_call 68; refine (squareAt_any _ _).mono ?_; rintro e w' ⟨rfl, rfl⟩) | (go_at_call 84; refine (sqrt_yes _ _ h).mono ?_; rintro e w' ⟨rfl, rfl⟩))
  exact bodyPost_ret (v := .tuple #[.agg #[.int .i64 x, .int .i64 (rtMin (sqI x)), .bool false], .nilIface]) (by simp [results, Try.results69, go_sem, *]) rfl ⟨rfl, by repeat (first | (with_reducible exact Below.refl _ _) | (with_reducible assumption) | (with_reducible refine Below.setCell ?_ (by first | (simp; done) | (simp; omega) | omega) _) | (with_reducible refine Below.alloc ?_ (by first | (simp; done) | (simp; omega) | omega) _) | (refine bl_call ?_ (by assumption) (by first | (simp; done) | (simp; omega) | omega)) | (with_reducible refine bl_drewN ?_) | (with_reducible refine Below.drew ?_) | (with_reducible refine bl_grow ?_ (by first | (simp; done) | (simp; omega) | omega)))⟩
end Go.Proofs.Ytmijjjdedadklag
