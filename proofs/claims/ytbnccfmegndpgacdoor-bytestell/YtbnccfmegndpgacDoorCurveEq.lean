/- Sums of spots in the words of the group: so many times one and so many times one; and what curve.Lift answers. -/
import Derived.Test.YtbnccfmegndpgacDoorCurveAdd
namespace Go.Proofs.YtbnccfmegndpgacDoor
open Go.RowKit Go.Sort
set_option linter.unusedVariables false
set_option linter.unusedSimpArgs false

theorem okS_neg {x y : Nat} (h : okS (x, y, false) = true) : okS (x, ny y, false) = true := by
  obtain ⟨k, hk, e⟩ := is_tN h
  have := neg_tN hk
  rw [e, negN_eq] at this
  rw [this]; exact tM_ok _
theorem addN_aff (x1 y1 x2 y2 : Nat) : addN (x1, y1, false) (x2, y2, false) = cond (Nat.beq x1 x2) (cond (Nat.beq y1 y2 && !(Nat.beq y1 0)) (lineN (dslN x1 y1) x1 y1 x1) farN) (lineN (cslN x1 y1 x2 y2) x1 y1 x2) := rfl
theorem line_form (s x1 y1 x2 : Nat) (h0 : y1 < 4051) (h1 : x1 < 4051) (h2 : x2 < 4051) : lineN s x1 y1 x2 = ((lineN s x1 y1 x2).1, ny (tyN s x1 y1 x2), false) := by rw [ty_neg h0 h1 h2]; rfl
theorem check_tM (k : Nat) (w : World) :
    Calls Tryd.prog 13 #[.agg #[.int .i64 ((tM k).1 : Int), .int .i64 ((tM k).2.1 : Int), .bool (tM k).2.2]] w fun e w' => e = .returned .nilIface ∧ Below w.heap.size w w' := check_yes _ _ _ w (ck_tM k)
theorem lift_out (x : Int) (w : World) (h : ¬ (0 ≤ x ∧ x < 4051)) :
    Calls Tryd.prog 31 #[.int .i64 x] w fun e w' => e = .returned (.tuple #[.agg #[.int .i64 0, .int .i64 0, .bool false], errOf 1]) ∧ Below w.heap.size w w' := by
  have H : Hid (¬ (0 ≤ x ∧ x < 4051)) := h
  clear h
  go_enter Tryd.func31, Tryd.ntmps31
  go_wp2_with (go_at_call 25; refine (infield_no _ _ H.out).mono ?_; rintro e w' ⟨rfl, rfl⟩)
  exact bodyPost_ret (v := .tuple #[.agg #[.int .i64 0, .int .i64 0, .bool false], errOf 1]) (by simp [results, Tryd.results31, go_sem, *]) rfl ⟨rfl, by repeat (first | (with_reducible exact Below.refl _ _) | (with_reducible assumption) | (with_reducible refine Below.setCell ?_ (by first | (simp; done) | (simp; omega) | omega) _) | (with_reducible refine Below.alloc ?_ (by first | (simp; done) | (simp; omega) | omega) _) | (refine bl_call ?_ (by assumption) (by first | (simp; done) | (simp; omega) | omega)) | (with_reducible refine bl_drewN ?_) | (with_reducible refine Below.drew ?_) | (with_reducible refine bl_grow ?_ (by first | (simp; done) | (simp; omega) | omega)))⟩
theorem lift_none (x : Int) (w : World) (h0 : 0 ≤ x) (h1 : x < 4051) (h : rtOk (sqI x) = false) :
    Calls Tryd.prog 31 #[.int .i64 x] w fun e w' => e = .returned (.tuple #[.agg #[.int .i64 0, .int .i64 0, .bool false], errOf 5]) ∧ Below w.heap.size w w' := by
  go_enter Tryd.func31, Tryd.ntmps31
  go_wp2_with (first | (go_at_call 25; refine (infield_yes _ _ h0 h1).mono ?_; rintro e w' ⟨rfl, rfl⟩) | (go_at_call 27; refine (squareAt_any _ _).mono ?_; rintro e w' ⟨rfl, rfl⟩) | (go_at_call 40; refine (sqrt_no _ _ h).mono ?_; rintro e w' ⟨rfl, rfl⟩))
  exact bodyPost_ret (v := .tuple #[.agg #[.int .i64 0, .int .i64 0, .bool false], errOf 5]) (by simp [results, Tryd.results31, go_sem, *]) rfl ⟨rfl, by repeat (first | (with_reducible exact Below.refl _ _) | (with_reducible assumption) | (with_reducible refine Below.setCell ?_ (by first | (simp; done) | (simp; omega) | omega) _) | (with_reducible refine Below.alloc ?_ (by first | (simp; done) | (simp; omega) | omega) _) | (refine bl_call ?_ (by assumption) (by first | (simp; done) | (simp; omega) | omega)) | (with_reducible refine bl_drewN ?_) | (with_reducible refine Below.drew ?_) | (with_reducible refine bl_grow ?_ (by first | (simp; done) | (simp; omega) | omega)))⟩
theorem lift_yes (x : Int) (w : World) (h0 : 0 ≤ x) (h1 : x < 4051) (h : rtOk (sqI x) = true) :
    Calls Tryd.prog 31 #[.int .i64 x] w fun e w' => e = .returned (.tuple #[.agg #[.int .i64 x, .int .i64 (rtMin (sqI x)), .bool false], .nilIface]) ∧ Below w.heap.size w w' := by
  go_enter Tryd.func31, Tryd.ntmps31
  go_wp2_with (first | (go_at_call 25; refine (infield_yes _ _ h0 h1).mono ?_; rintro e w' ⟨rfl, rfl⟩) | (go_at_call 27; refine (squareAt_any _ _).mono ?_; rintro e w' ⟨rfl, rfl⟩) | (go_at_call 40; refine (sqrt_yes _ _ h).mono ?_; rintro e w' ⟨rfl, rfl⟩))
  exact bodyPost_ret (v := .tuple #[.agg #[.int .i64 x, .int .i64 (rtMin (sqI x)), .bool false], .nilIface]) (by simp [results, Tryd.results31, go_sem, *]) rfl ⟨rfl, by repeat (first | (with_reducible exact Below.refl _ _) | (with_reducible assumption) | (with_reducible refine Below.setCell ?_ (by first | (simp; done) | (simp; omega) | omega) _) | (with_reducible refine Below.alloc ?_ (by first | (simp; done) | (simp; omega) | omega) _) | (refine bl_call ?_ (by assumption) (by first | (simp; done) | (simp; omega) | omega)) | (with_reducible refine bl_drewN ?_) | (with_reducible refine Below.drew ?_) | (with_reducible refine bl_grow ?_ (by first | (simp; done) | (simp; omega) | omega)))⟩
end Go.Proofs.YtbnccfmegndpgacDoor
