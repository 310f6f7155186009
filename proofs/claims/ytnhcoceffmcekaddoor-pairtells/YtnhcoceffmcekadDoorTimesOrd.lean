/- What times.Times answers of a wrong spot; times.Order, times.In, times.Base. -/
import Derived.Test.YtnhcoceffmcekadDoorTimes
namespace Go.Proofs.YtnhcoceffmcekadDoor
open Go.RowKit Go.Sort
set_option linter.unusedVariables false
set_option linter.unusedSimpArgs false
theorem times_eq {i : Nat} {n : Int} {r : Sn} (h : tM (i * em n) = r) (w : World) :
    Calls Tryd.prog 26 #[.agg #[.int .i64 ((tM i).1 : Int), .int .i64 ((tM i).2.1 : Int), .bool (tM i).2.2], .int .i64 n] w fun e w' => e = .returned (.tuple #[.agg #[.int .i64 ((r).1 : Int), .int .i64 ((r).2.1 : Int), .bool (r).2.2], .nilIface]) ∧ Below w.heap.size w w' := by
  have := times_tM i n w
  rwa [h] at this
set_option maxRecDepth 100000 in
set_option maxHeartbeats 4000000 in
theorem times_no (x y : Int) (f : Bool) (n : Int) (w : World) (h : (ckI x y f == 0) = false) :
    Calls Tryd.prog 26 #[.agg #[.int .i64 x, .int .i64 y, .bool f], .int .i64 n] w fun e w' => e = .returned (.tuple #[.agg #[.int .i64 0, .int .i64 0, .bool false], errOf (ckI x y f)]) ∧ Below w.heap.size w w' := by
  have m1 : True := trivial
  go_enter Tryd.func26, Tryd.ntmps26
  go_wp2_with (go_at_call 37; clear m1; refine (check_no _ _ _ _ h).mono ?_; rintro e w1 ⟨rfl, hbw1⟩; have krw1 : At w1 (w.heap.size + 1) [.int .i64 0, .int .i64 0, .bool false] := (by repeat (first | assumption | ((with_reducible refine at_new' _ _ _ _ ?_); (first | rfl | (simp; done))) | (with_reducible refine At.alloc ?_ _) | (with_reducible refine At.drewN ?_) | (with_reducible refine At.grow ?_) | (with_reducible refine At.store3 (by assumption)) | (with_reducible refine At.store2 (by assumption)) | (with_reducible refine At.set ?_ (by omega)) | (with_reducible apply At.store3) | (refine At.below ?_ (by assumption)))); have hqw1 : Below w.heap.size w w1 := (by repeat (first | (with_reducible exact Below.refl _ _) | (with_reducible assumption) | (with_reducible refine Below.setCell ?_ (by first | (simp; done) | (simp; omega) | omega) _) | (with_reducible refine Below.alloc ?_ (by first | (simp; done) | (simp; omega) | omega) _) | (refine bl_call ?_ (by assumption) (by first | (simp; done) | (simp; omega) | omega)) | (with_reducible refine bl_drewN ?_) | (with_reducible refine Below.drew ?_) | (with_reducible refine bl_grow ?_ (by first | (simp; done) | (simp; omega) | omega)))); have hzw1 := hqw1.size; obtain ⟨zrw1, cr0w1, cr1w1, cr2w1, fr0w1, fr1w1, fr2w1⟩ := krw1.three; clear hbw1)
  exact bodyPost_ret (v := .tuple #[.agg #[.int .i64 0, .int .i64 0, .bool false], errOf (ckI x y f)]) (by simp [results, Tryd.results26, go_sem, *]) rfl ⟨rfl, by repeat (first | (with_reducible exact Below.refl _ _) | (with_reducible assumption) | (with_reducible refine Below.setCell ?_ (by first | (simp; done) | (simp; omega) | omega) _) | (with_reducible refine Below.alloc ?_ (by first | (simp; done) | (simp; omega) | omega) _) | (refine bl_call ?_ (by assumption) (by first | (simp; done) | (simp; omega) | omega)) | (with_reducible refine bl_drewN ?_) | (with_reducible refine Below.drew ?_) | (with_reducible refine bl_grow ?_ (by first | (simp; done) | (simp; omega) | omega)))⟩
set_option maxRecDepth 100000 in
set_option maxHeartbeats 4000000 in
theorem in_no (x y : Int) (f : Bool) (w : World) (h : (ckI x y f == 0) = false) :
    Calls Tryd.prog 12 #[.agg #[.int .i64 x, .int .i64 y, .bool f]] w fun e w' => e = .returned (.tuple #[.bool false, errOf (ckI x y f)]) ∧ Below w.heap.size w w' := by
  have m1 : True := trivial
  go_enter Tryd.func12, Tryd.ntmps12
  go_wp2_with (go_at_call 26; clear m1; refine (times_no _ _ _ _ _ h).mono ?_; rintro e w1 ⟨rfl, hbw1⟩; have hqw1 : Below w.heap.size w w1 := (by repeat (first | (with_reducible exact Below.refl _ _) | (with_reducible assumption) | (with_reducible refine Below.setCell ?_ (by first | (simp; done) | (simp; omega) | omega) _) | (with_reducible refine Below.alloc ?_ (by first | (simp; done) | (simp; omega) | omega) _) | (refine bl_call ?_ (by assumption) (by first | (simp; done) | (simp; omega) | omega)) | (with_reducible refine bl_drewN ?_) | (with_reducible refine Below.drew ?_) | (with_reducible refine bl_grow ?_ (by first | (simp; done) | (simp; omega) | omega)))); have hzw1 := hqw1.size; clear hbw1)
  exact bodyPost_ret (v := .tuple #[.bool false, errOf (ckI x y f)]) (by simp [results, Tryd.results12, go_sem, *]) rfl ⟨rfl, by repeat (first | (with_reducible exact Below.refl _ _) | (with_reducible assumption) | (with_reducible refine Below.setCell ?_ (by first | (simp; done) | (simp; omega) | omega) _) | (with_reducible refine Below.alloc ?_ (by first | (simp; done) | (simp; omega) | omega) _) | (refine bl_call ?_ (by assumption) (by first | (simp; done) | (simp; omega) | omega)) | (with_reducible refine bl_drewN ?_) | (with_reducible refine Below.drew ?_) | (with_reducible refine bl_grow ?_ (by first | (simp; done) | (simp; omega) | omega)))⟩
theorem in_f (i : Nat) : (tM (i * em 1013)).2.2 = farI (i * 1013) := by rw [tM_f]; rfl
set_option maxRecDepth 100000 in
set_option maxHeartbeats 4000000 in
theorem in_tM (i : Nat) (w : World) :
    Calls Tryd.prog 12 #[.agg #[.int .i64 ((tM i).1 : Int), .int .i64 ((tM i).2.1 : Int), .bool (tM i).2.2]] w fun e w' => e = .returned (.tuple #[.bool (farI (i * 1013)), .nilIface]) ∧ Below w.heap.size w w' := by
  have hf := in_f i
  have m1 : True := trivial
  go_enter Tryd.func12, Tryd.ntmps12
  go_wp2_with (go_at_call 26; clear m1; refine (times_tM _ _ _).mono ?_; rintro e w1 ⟨rfl, hbw1⟩; have hqw1 : Below w.heap.size w w1 := (by repeat (first | (with_reducible exact Below.refl _ _) | (with_reducible assumption) | (with_reducible refine Below.setCell ?_ (by first | (simp; done) | (simp; omega) | omega) _) | (with_reducible refine Below.alloc ?_ (by first | (simp; done) | (simp; omega) | omega) _) | (refine bl_call ?_ (by assumption) (by first | (simp; done) | (simp; omega) | omega)) | (with_reducible refine bl_drewN ?_) | (with_reducible refine Below.drew ?_) | (with_reducible refine bl_grow ?_ (by first | (simp; done) | (simp; omega) | omega)))); have hzw1 := hqw1.size; clear hbw1)
  exact bodyPost_ret (v := .tuple #[.bool (farI (i * 1013)), .nilIface]) (by simp [results, Tryd.results12, go_sem, *]) rfl ⟨rfl, by repeat (first | (with_reducible exact Below.refl _ _) | (with_reducible assumption) | (with_reducible refine Below.setCell ?_ (by first | (simp; done) | (simp; omega) | omega) _) | (with_reducible refine Below.alloc ?_ (by first | (simp; done) | (simp; omega) | omega) _) | (refine bl_call ?_ (by assumption) (by first | (simp; done) | (simp; omega) | omega)) | (with_reducible refine bl_drewN ?_) | (with_reducible refine Below.drew ?_) | (with_reducible refine bl_grow ?_ (by first | (simp; done) | (simp; omega) | omega)))⟩
theorem in_eq {i : Nat} {b : Bool} (h : farI (i * 1013) = b) (w : World) :
    Calls Tryd.prog 12 #[.agg #[.int .i64 ((tM i).1 : Int), .int .i64 ((tM i).2.1 : Int), .bool (tM i).2.2]] w fun e w' => e = .returned (.tuple #[.bool b, .nilIface]) ∧ Below w.heap.size w w' := by
  have := in_tM i w
  rwa [h] at this
end Go.Proofs.YtnhcoceffmcekadDoor
