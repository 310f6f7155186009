/- Proved: stonelaw1.TwinHolds answers true for every three numbers of the greater field: products in any order, over sums; norms; Frobenius; inverses. No condition stands behind it. -/
import Derived.Test.YthdgdonhgbppeaaTwinEq
import Derived.Test.YthdgdonhgbppeaaShell
namespace Go.Proofs.Ythdgdonhgbppeaa
open Go.RowKit Go.Sort
set_option linter.unusedVariables false

theorem tmul_ii (w : World) : Calls Try.prog 15 #[.agg #[.int .i64 0, .int .i64 1], .agg #[.int .i64 0, .int .i64 1]] w fun e w' => e = .returned (.agg #[.int .i64 4050, .int .i64 0]) ∧ Below w.heap.size w w' :=
  tmul_any (0, 1) (0, 1) w
set_option maxRecDepth 100000 in
set_option maxHeartbeats 4000000 in
theorem twinHoldsA (x y v : Int × Int) (w : World) (h : cf x = (0, 0)) :
    Calls Try.prog 6 #[.agg #[.int .i64 x.1, .int .i64 x.2], .agg #[.int .i64 y.1, .int .i64 y.2], .agg #[.int .i64 v.1, .int .i64 v.2]] w fun e w' => e = .returned (.bool true) ∧ Kp w w' := by
  have E1 : Hid (tm y x = tm x y) := tm_comm y x
  have E2 : Hid (tm (tm x y) v = tm x (tm y v)) := tm_assoc x y v
  have E3 : Hid (tm x (ta y v) = ta (tm x y) (tm x v)) := t_distr x y v
  have E4 : Hid (tn (tm x y) = fm (tn x * tn y)) := t_norm x y
  have E5 : Hid (tm x (tc x) = (tn x, 0)) := t_conj x
  have E6 : Hid (tp x (4051 : Int).toNat = tc x) := t_frob x
  have HC : Hid (cf x = (0, 0)) := h
  have HN : tn x = 0 := tn_of_cf h
  have HI : (fm (tn x) == 0) = true := by rw [HN]; rfl
  clear h
  have m1 : True := trivial; have m2 : True := trivial; have m3 : True := trivial; have m4 : True := trivial; have m5 : True := trivial; have m6 : True := trivial
  go_enter Try.func6, Try.ntmps6
  go_wp2_with (first | (go_at_call 15; clear m1; refine (tmul_ii _).mono ?_; rintro e w1 ⟨rfl, hbw1⟩; obtain ⟨hcw1, hfw1⟩ := bcell hbw1; have hsw1 := hbw1.size; (try simp at hsw1); have hzw1 : w.heap.size < w1.heap.size := (by omega)) | (go_at_call 15; clear m2; refine (tmul_any x y _).mono ?_; rintro e w2 ⟨rfl, hbw2⟩; obtain ⟨hcw2, hfw2⟩ := bcell hbw2; have hsw2 := hbw2.size; (try simp at hsw2); have hzw2 : w.heap.size < w2.heap.size := (by omega)))
  refine wp_gen (fun W4 => At W4 (w.heap.size) [.int .i64 (x).1, .int .i64 (x).2] ∧ At W4 (w.heap.size + 1) [.int .i64 (y).1, .int .i64 (y).2] ∧ At W4 (w.heap.size + 2) [.int .i64 (v).1, .int .i64 (v).2] ∧ At W4 (w2.heap.size) [.int .i64 (tm x y).1, .int .i64 (tm x y).2] ∧ Below w.heap.size w W4 ∧ w.heap.size < W4.heap.size) ⟨by repeat (first | assumption | (with_reducible refine at_new' _ _ _ _ (by first | rfl | (simp; done))) | (with_reducible refine At.alloc ?_ _) | (with_reducible refine At.drewN ?_) | (with_reducible refine At.grow ?_) | (refine At.below ?_ (by assumption))), by repeat (first | assumption | (with_reducible refine at_new' _ _ _ _ (by first | rfl | (simp; done))) | (with_reducible refine At.alloc ?_ _) | (with_reducible refine At.drewN ?_) | (with_reducible refine At.grow ?_) | (refine At.below ?_ (by assumption))), by repeat (first | assumption | (with_reducible refine at_new' _ _ _ _ (by first | rfl | (simp; done))) | (with_reducible refine At.alloc ?_ _) | (with_reducible refine At.drewN ?_) | (with_reducible refine At.grow ?_) | (refine At.below ?_ (by assumption))), by repeat (first | assumption | (with_reducible refine at_new' _ _ _ _ (by first | rfl | (simp; done))) | (with_reducible refine At.alloc ?_ _) | (with_reducible refine At.drewN ?_) | (with_reducible refine At.grow ?_) | (refine At.below ?_ (by assumption))), by repeat (first | exact Below.refl _ _ | (with_reducible refine Below.setCell ?_ (by first | (simp; done) | (simp; omega) | omega) _) | (with_reducible refine Below.alloc ?_ (by first | (simp; done) | (simp; omega) | omega) _) | (refine bl_call ?_ (by assumption) (by first | (simp; done) | (simp; omega) | omega)) | (with_reducible refine bl_drewN ?_) | (with_reducible refine Below.drew ?_) | (with_reducible refine bl_grow ?_ (by first | (simp; done) | (simp; omega) | omega))), by first | omega | (simp; omega)⟩ ?_
  rintro W4 ⟨kx, ky, kv, kp, hbW4, hzW4⟩
  clear hcw1 hfw1 hbw1 hcw2 hfw2 hbw2
  obtain ⟨zx, cx0, cx1, fx0, fx1⟩ := kx.two
  obtain ⟨zy, cy0, cy1, fy0, fy1⟩ := ky.two
  obtain ⟨zv, cv0, cv1, fv0, fv1⟩ := kv.two
  obtain ⟨zp, cp0, cp1, fp0, fp1⟩ := kp.two
  refine wp_region_quiet_below (by kernel_rfl) (by kernel_rfl) ?_
  repeat (go_big_quiet_step (first | (go_at_call 15; with_reducible exact Calls.regrown_of (tmul_eq E1.out _)) | (go_at_call 15; with_reducible exact Calls.regrown_of (tmul_eq E2.out _)) | (go_at_call 15; with_reducible exact Calls.regrown_of (tmul_any _ _ _))))
  refine wpQuiet_nil ?_
  intro W5 hw1
  have hrW5 := regrown_below hw1
  clear hw1
  clear zx cx0 cx1 fx0 fx1 zy cy0 cy1 fy0 fy1 zv cv0 cv1 fv0 fv1 zp cp0 cp1 fp0 fp1
  replace kx := kx.below hrW5
  replace ky := ky.below hrW5
  replace kv := kv.below hrW5
  replace kp := kp.below hrW5
  have hbW5 := bl_call hbW4 hrW5 (by omega)
  have hzW5 : w.heap.size < W5.heap.size := (by have := hrW5.size; omega)
  clear hrW5 hbW4 hzW4
  obtain ⟨zx, cx0, cx1, fx0, fx1⟩ := kx.two
  obtain ⟨zy, cy0, cy1, fy0, fy1⟩ := ky.two
  obtain ⟨zv, cv0, cv1, fv0, fv1⟩ := kv.two
  obtain ⟨zp, cp0, cp1, fp0, fp1⟩ := kp.two
  go_wp2_with fail
  refine wp_region_quiet_below (by kernel_rfl) (by kernel_rfl) ?_
  repeat (go_big_quiet_step (first | (go_at_call 15; with_reducible exact Calls.regrown_of (tmul_eq E3.out _)) | (go_at_call 15; with_reducible exact Calls.regrown_of (tmul_any _ _ _)) | (go_at_call 16; with_reducible exact Calls.regrown_of (tadd_any _ _ _))))
  refine wpQuiet_nil ?_
  intro W6 hw1
  have hrW6 := regrown_below hw1
  clear hw1
  clear zx cx0 cx1 fx0 fx1 zy cy0 cy1 fy0 fy1 zv cv0 cv1 fv0 fv1 zp cp0 cp1 fp0 fp1
  replace kx := kx.below hrW6
  replace ky := ky.below hrW6
  replace kv := kv.below hrW6
  replace kp := kp.below hrW6
  have hbW6 := bl_call hbW5 hrW6 (by omega)
  have hzW6 : w.heap.size < W6.heap.size := (by have := hrW6.size; omega)
  clear hrW6 hbW5 hzW5
  obtain ⟨zx, cx0, cx1, fx0, fx1⟩ := kx.two
  obtain ⟨zy, cy0, cy1, fy0, fy1⟩ := ky.two
  obtain ⟨zv, cv0, cv1, fv0, fv1⟩ := kv.two
  obtain ⟨zp, cp0, cp1, fp0, fp1⟩ := kp.two
  go_wp2_with fail
  refine wp_region_quiet_below (by kernel_rfl) (by kernel_rfl) ?_
  repeat (go_big_quiet_step (first | (go_at_call 15; with_reducible exact Calls.regrown_of (tmul_eq E5.out _)) | (go_at_call 17; with_reducible exact Calls.regrown_of (tnorm_eq E4.out _)) | (go_at_call 17; with_reducible exact Calls.regrown_of (tnorm_any _ _)) | (go_at_call 8; with_reducible exact Calls.regrown_of (below_of_same (mul_any _ _ _))) | (go_at_call 18; with_reducible exact Calls.regrown_of (tconj_any _ _))))
  refine wpQuiet_nil ?_
  intro W7 hw1
  have hrW7 := regrown_below hw1
  clear hw1
  clear zx cx0 cx1 fx0 fx1 zy cy0 cy1 fy0 fy1 zv cv0 cv1 fv0 fv1 zp cp0 cp1 fp0 fp1
  replace kx := kx.below hrW7
  replace ky := ky.below hrW7
  replace kv := kv.below hrW7
  replace kp := kp.below hrW7
  have hbW7 := bl_call hbW6 hrW7 (by omega)
  have hzW7 : w.heap.size < W7.heap.size := (by have := hrW7.size; omega)
  clear hrW7 hbW6 hzW6
  obtain ⟨zx, cx0, cx1, fx0, fx1⟩ := kx.two
  obtain ⟨zy, cy0, cy1, fy0, fy1⟩ := ky.two
  obtain ⟨zv, cv0, cv1, fv0, fv1⟩ := kv.two
  obtain ⟨zp, cp0, cp1, fp0, fp1⟩ := kp.two
  go_wp2_with (go_at_call 19; clear m3; refine (tpow_eq E6.out _ (by omega) (by omega)).mono ?_; rintro e w3 ⟨rfl, hbw3⟩; obtain ⟨hcw3, hfw3⟩ := bcell hbw3; have hsw3 := hbw3.size; (try simp at hsw3); have hzw3 : w.heap.size < w3.heap.size := (by omega))
  clear zx cx0 cx1 fx0 fx1 zy cy0 cy1 fy0 fy1 zv cv0 cv1 fv0 fv1 zp cp0 cp1 fp0 fp1
  refine wp_gen (fun W8 => At W8 (w.heap.size) [.int .i64 (x).1, .int .i64 (x).2] ∧ At W8 (w.heap.size + 1) [.int .i64 (y).1, .int .i64 (y).2] ∧ At W8 (w.heap.size + 2) [.int .i64 (v).1, .int .i64 (v).2] ∧ At W8 (w2.heap.size) [.int .i64 (tm x y).1, .int .i64 (tm x y).2] ∧ At W8 (w3.heap.size) [.int .i64 (tc x).1, .int .i64 (tc x).2] ∧ Below w.heap.size w W8 ∧ w.heap.size < W8.heap.size) ⟨by repeat (first | assumption | (with_reducible refine at_new' _ _ _ _ (by first | rfl | (simp; done))) | (with_reducible refine At.alloc ?_ _) | (with_reducible refine At.drewN ?_) | (with_reducible refine At.grow ?_) | (refine At.below ?_ (by assumption))), by repeat (first | assumption | (with_reducible refine at_new' _ _ _ _ (by first | rfl | (simp; done))) | (with_reducible refine At.alloc ?_ _) | (with_reducible refine At.drewN ?_) | (with_reducible refine At.grow ?_) | (refine At.below ?_ (by assumption))), by repeat (first | assumption | (with_reducible refine at_new' _ _ _ _ (by first | rfl | (simp; done))) | (with_reducible refine At.alloc ?_ _) | (with_reducible refine At.drewN ?_) | (with_reducible refine At.grow ?_) | (refine At.below ?_ (by assumption))), by repeat (first | assumption | (with_reducible refine at_new' _ _ _ _ (by first | rfl | (simp; done))) | (with_reducible refine At.alloc ?_ _) | (with_reducible refine At.drewN ?_) | (with_reducible refine At.grow ?_) | (refine At.below ?_ (by assumption))), by repeat (first | assumption | (with_reducible refine at_new' _ _ _ _ (by first | rfl | (simp; done))) | (with_reducible refine At.alloc ?_ _) | (with_reducible refine At.drewN ?_) | (with_reducible refine At.grow ?_) | (refine At.below ?_ (by assumption))), by repeat (first | exact Below.refl _ _ | (with_reducible refine Below.setCell ?_ (by first | (simp; done) | (simp; omega) | omega) _) | (with_reducible refine Below.alloc ?_ (by first | (simp; done) | (simp; omega) | omega) _) | (refine bl_call ?_ (by assumption) (by first | (simp; done) | (simp; omega) | omega)) | (with_reducible refine bl_drewN ?_) | (with_reducible refine Below.drew ?_) | (with_reducible refine bl_grow ?_ (by first | (simp; done) | (simp; omega) | omega))), by first | omega | (simp; omega)⟩ ?_
  rintro W8 ⟨kx, ky, kv, kp, kf, hbW8, hzW8⟩
  clear hcw3 hfw3 hbw3
  obtain ⟨zx, cx0, cx1, fx0, fx1⟩ := kx.two
  obtain ⟨zy, cy0, cy1, fy0, fy1⟩ := ky.two
  obtain ⟨zv, cv0, cv1, fv0, fv1⟩ := kv.two
  obtain ⟨zp, cp0, cp1, fp0, fp1⟩ := kp.two
  obtain ⟨zf, cf0, cf1, ff0, ff1⟩ := kf.two
  refine wp_region_quiet_below (by kernel_rfl) (by kernel_rfl) ?_
  repeat (go_big_quiet_step (first | (go_at_call 18; with_reducible exact Calls.regrown_of (tconj_any _ _)) | (go_at_call 17; with_reducible exact Calls.regrown_of (tnorm_any _ _)) | (go_at_call 20; with_reducible exact Calls.regrown_of (tof_eq HC.out _))))
  refine wpQuiet_nil ?_
  intro W9 hw1
  have hrW9 := regrown_below hw1
  clear hw1
  clear zx cx0 cx1 fx0 fx1 zy cy0 cy1 fy0 fy1 zv cv0 cv1 fv0 fv1 zp cp0 cp1 fp0 fp1 zf cf0 cf1 ff0 ff1
  replace kx := kx.below hrW9
  replace ky := ky.below hrW9
  replace kv := kv.below hrW9
  replace kp := kp.below hrW9
  replace kf := kf.below hrW9
  have hbW9 := bl_call hbW8 hrW9 (by omega)
  have hzW9 : w.heap.size < W9.heap.size := (by have := hrW9.size; omega)
  clear hrW9 hbW8 hzW8
  obtain ⟨zx, cx0, cx1, fx0, fx1⟩ := kx.two
  obtain ⟨zy, cy0, cy1, fy0, fy1⟩ := ky.two
  obtain ⟨zv, cv0, cv1, fv0, fv1⟩ := kv.two
  obtain ⟨zp, cp0, cp1, fp0, fp1⟩ := kp.two
  obtain ⟨zf, cf0, cf1, ff0, ff1⟩ := kf.two
  go_wp2_with (first | (go_at_call 21; clear m4; refine (tinv_no x _ HI).mono ?_; rintro e w4 ⟨rfl, hbw4⟩; obtain ⟨hcw4, hfw4⟩ := bcell hbw4; have hsw4 := hbw4.size; (try simp at hsw4); have hzw4 : w.heap.size < w4.heap.size := (by omega)) | (go_at_call 20; clear m5; refine (tof_eq HC.out _).mono ?_; rintro e w5 ⟨rfl, hbw5⟩; obtain ⟨hcw5, hfw5⟩ := bcell hbw5; have hsw5 := hbw5.size; (try simp at hsw5); have hzw5 : w.heap.size < w5.heap.size := (by omega)))
  go_ret
  exact ⟨rfl, Kp.of_below (by repeat (first | exact Below.refl _ _ | (with_reducible refine Below.setCell ?_ (by first | (simp; done) | (simp; omega) | omega) _) | (with_reducible refine Below.alloc ?_ (by first | (simp; done) | (simp; omega) | omega) _) | (refine bl_call ?_ (by assumption) (by first | (simp; done) | (simp; omega) | omega)) | (with_reducible refine bl_drewN ?_) | (with_reducible refine Below.drew ?_) | (with_reducible refine bl_grow ?_ (by first | (simp; done) | (simp; omega) | omega))))⟩
set_option maxRecDepth 100000 in
set_option maxHeartbeats 4000000 in
theorem twinHoldsB (x y v : Int × Int) (w : World) (hn : tn x ≠ 0) (h1 : ((cf x).1 == 0) = false) :
    Calls Try.prog 6 #[.agg #[.int .i64 x.1, .int .i64 x.2], .agg #[.int .i64 y.1, .int .i64 y.2], .agg #[.int .i64 v.1, .int .i64 v.2]] w fun e w' => e = .returned (.bool true) ∧ Kp w w' := by
  have E1 : Hid (tm y x = tm x y) := tm_comm y x
  have E2 : Hid (tm (tm x y) v = tm x (tm y v)) := tm_assoc x y v
  have E3 : Hid (tm x (ta y v) = ta (tm x y) (tm x v)) := t_distr x y v
  have E4 : Hid (tn (tm x y) = fm (tn x * tn y)) := t_norm x y
  have E5 : Hid (tm x (tc x) = (tn x, 0)) := t_conj x
  have E6 : Hid (tp x (4051 : Int).toNat = tc x) := t_frob x
  have HN : (tn x == 0) = false := beq_eq_false_iff_ne.mpr hn
  have HI : (fm (tn x) == 0) = false := by rw [tn_fm]; exact HN
  have E7 : Hid (tm x (ti x) = (1, 0)) := t_inv hn
  clear hn
  have m1 : True := trivial; have m2 : True := trivial; have m3 : True := trivial; have m4 : True := trivial; have m5 : True := trivial; have m6 : True := trivial
  go_enter Try.func6, Try.ntmps6
  go_wp2_with (first | (go_at_call 15; clear m1; refine (tmul_ii _).mono ?_; rintro e w1 ⟨rfl, hbw1⟩; obtain ⟨hcw1, hfw1⟩ := bcell hbw1; have hsw1 := hbw1.size; (try simp at hsw1); have hzw1 : w.heap.size < w1.heap.size := (by omega)) | (go_at_call 15; clear m2; refine (tmul_any x y _).mono ?_; rintro e w2 ⟨rfl, hbw2⟩; obtain ⟨hcw2, hfw2⟩ := bcell hbw2; have hsw2 := hbw2.size; (try simp at hsw2); have hzw2 : w.heap.size < w2.heap.size := (by omega)))
  refine wp_gen (fun W4 => At W4 (w.heap.size) [.int .i64 (x).1, .int .i64 (x).2] ∧ At W4 (w.heap.size + 1) [.int .i64 (y).1, .int .i64 (y).2] ∧ At W4 (w.heap.size + 2) [.int .i64 (v).1, .int .i64 (v).2] ∧ At W4 (w2.heap.size) [.int .i64 (tm x y).1, .int .i64 (tm x y).2] ∧ Below w.heap.size w W4 ∧ w.heap.size < W4.heap.size) ⟨by repeat (first | assumption | (with_reducible refine at_new' _ _ _ _ (by first | rfl | (simp; done))) | (with_reducible refine At.alloc ?_ _) | (with_reducible refine At.drewN ?_) | (with_reducible refine At.grow ?_) | (refine At.below ?_ (by assumption))), by repeat (first | assumption | (with_reducible refine at_new' _ _ _ _ (by first | rfl | (simp; done))) | (with_reducible refine At.alloc ?_ _) | (with_reducible refine At.drewN ?_) | (with_reducible refine At.grow ?_) | (refine At.below ?_ (by assumption))), by repeat (first | assumption | (with_reducible refine at_new' _ _ _ _ (by first | rfl | (simp; done))) | (with_reducible refine At.alloc ?_ _) | (with_reducible refine At.drewN ?_) | (with_reducible refine At.grow ?_) | (refine At.below ?_ (by assumption))), by repeat (first | assumption | (with_reducible refine at_new' _ _ _ _ (by first | rfl | (simp; done))) | (with_reducible refine At.alloc ?_ _) | (with_reducible refine At.drewN ?_) | (with_reducible refine At.grow ?_) | (refine At.below ?_ (by assumption))), by repeat (first | exact Below.refl _ _ | (with_reducible refine Below.setCell ?_ (by first | (simp; done) | (simp; omega) | omega) _) | (with_reducible refine Below.alloc ?_ (by first | (simp; done) | (simp; omega) | omega) _) | (refine bl_call ?_ (by assumption) (by first | (simp; done) | (simp; omega) | omega)) | (with_reducible refine bl_drewN ?_) | (with_reducible refine Below.drew ?_) | (with_reducible refine bl_grow ?_ (by first | (simp; done) | (simp; omega) | omega))), by first | omega | (simp; omega)⟩ ?_
  rintro W4 ⟨kx, ky, kv, kp, hbW4, hzW4⟩
  clear hcw1 hfw1 hbw1 hcw2 hfw2 hbw2
  obtain ⟨zx, cx0, cx1, fx0, fx1⟩ := kx.two
  obtain ⟨zy, cy0, cy1, fy0, fy1⟩ := ky.two
  obtain ⟨zv, cv0, cv1, fv0, fv1⟩ := kv.two
  obtain ⟨zp, cp0, cp1, fp0, fp1⟩ := kp.two
  refine wp_region_quiet_below (by kernel_rfl) (by kernel_rfl) ?_
  repeat (go_big_quiet_step (first | (go_at_call 15; with_reducible exact Calls.regrown_of (tmul_eq E1.out _)) | (go_at_call 15; with_reducible exact Calls.regrown_of (tmul_eq E2.out _)) | (go_at_call 15; with_reducible exact Calls.regrown_of (tmul_any _ _ _))))
  refine wpQuiet_nil ?_
  intro W5 hw1
  have hrW5 := regrown_below hw1
  clear hw1
  clear zx cx0 cx1 fx0 fx1 zy cy0 cy1 fy0 fy1 zv cv0 cv1 fv0 fv1 zp cp0 cp1 fp0 fp1
  replace kx := kx.below hrW5
  replace ky := ky.below hrW5
  replace kv := kv.below hrW5
  replace kp := kp.below hrW5
  have hbW5 := bl_call hbW4 hrW5 (by omega)
  have hzW5 : w.heap.size < W5.heap.size := (by have := hrW5.size; omega)
  clear hrW5 hbW4 hzW4
  obtain ⟨zx, cx0, cx1, fx0, fx1⟩ := kx.two
  obtain ⟨zy, cy0, cy1, fy0, fy1⟩ := ky.two
  obtain ⟨zv, cv0, cv1, fv0, fv1⟩ := kv.two
  obtain ⟨zp, cp0, cp1, fp0, fp1⟩ := kp.two
  go_wp2_with fail
  refine wp_region_quiet_below (by kernel_rfl) (by kernel_rfl) ?_
  repeat (go_big_quiet_step (first | (go_at_call 15; with_reducible exact Calls.regrown_of (tmul_eq E3.out _)) | (go_at_call 15; with_reducible exact Calls.regrown_of (tmul_any _ _ _)) | (go_at_call 16; with_reducible exact Calls.regrown_of (tadd_any _ _ _))))
  refine wpQuiet_nil ?_
  intro W6 hw1
  have hrW6 := regrown_below hw1
  clear hw1
  clear zx cx0 cx1 fx0 fx1 zy cy0 cy1 fy0 fy1 zv cv0 cv1 fv0 fv1 zp cp0 cp1 fp0 fp1
  replace kx := kx.below hrW6
  replace ky := ky.below hrW6
  replace kv := kv.below hrW6
  replace kp := kp.below hrW6
  have hbW6 := bl_call hbW5 hrW6 (by omega)
  have hzW6 : w.heap.size < W6.heap.size := (by have := hrW6.size; omega)
  clear hrW6 hbW5 hzW5
  obtain ⟨zx, cx0, cx1, fx0, fx1⟩ := kx.two
  obtain ⟨zy, cy0, cy1, fy0, fy1⟩ := ky.two
  obtain ⟨zv, cv0, cv1, fv0, fv1⟩ := kv.two
  obtain ⟨zp, cp0, cp1, fp0, fp1⟩ := kp.two
  go_wp2_with fail
  refine wp_region_quiet_below (by kernel_rfl) (by kernel_rfl) ?_
  repeat (go_big_quiet_step (first | (go_at_call 15; with_reducible exact Calls.regrown_of (tmul_eq E5.out _)) | (go_at_call 17; with_reducible exact Calls.regrown_of (tnorm_eq E4.out _)) | (go_at_call 17; with_reducible exact Calls.regrown_of (tnorm_any _ _)) | (go_at_call 8; with_reducible exact Calls.regrown_of (below_of_same (mul_any _ _ _))) | (go_at_call 18; with_reducible exact Calls.regrown_of (tconj_any _ _))))
  refine wpQuiet_nil ?_
  intro W7 hw1
  have hrW7 := regrown_below hw1
  clear hw1
  clear zx cx0 cx1 fx0 fx1 zy cy0 cy1 fy0 fy1 zv cv0 cv1 fv0 fv1 zp cp0 cp1 fp0 fp1
  replace kx := kx.below hrW7
  replace ky := ky.below hrW7
  replace kv := kv.below hrW7
  replace kp := kp.below hrW7
  have hbW7 := bl_call hbW6 hrW7 (by omega)
  have hzW7 : w.heap.size < W7.heap.size := (by have := hrW7.size; omega)
  clear hrW7 hbW6 hzW6
  obtain ⟨zx, cx0, cx1, fx0, fx1⟩ := kx.two
  obtain ⟨zy, cy0, cy1, fy0, fy1⟩ := ky.two
  obtain ⟨zv, cv0, cv1, fv0, fv1⟩ := kv.two
  obtain ⟨zp, cp0, cp1, fp0, fp1⟩ := kp.two
  go_wp2_with (go_at_call 19; clear m3; refine (tpow_eq E6.out _ (by omega) (by omega)).mono ?_; rintro e w3 ⟨rfl, hbw3⟩; obtain ⟨hcw3, hfw3⟩ := bcell hbw3; have hsw3 := hbw3.size; (try simp at hsw3); have hzw3 : w.heap.size < w3.heap.size := (by omega))
  clear zx cx0 cx1 fx0 fx1 zy cy0 cy1 fy0 fy1 zv cv0 cv1 fv0 fv1 zp cp0 cp1 fp0 fp1
  refine wp_gen (fun W8 => At W8 (w.heap.size) [.int .i64 (x).1, .int .i64 (x).2] ∧ At W8 (w.heap.size + 1) [.int .i64 (y).1, .int .i64 (y).2] ∧ At W8 (w.heap.size + 2) [.int .i64 (v).1, .int .i64 (v).2] ∧ At W8 (w2.heap.size) [.int .i64 (tm x y).1, .int .i64 (tm x y).2] ∧ At W8 (w3.heap.size) [.int .i64 (tc x).1, .int .i64 (tc x).2] ∧ Below w.heap.size w W8 ∧ w.heap.size < W8.heap.size) ⟨by repeat (first | assumption | (with_reducible refine at_new' _ _ _ _ (by first | rfl | (simp; done))) | (with_reducible refine At.alloc ?_ _) | (with_reducible refine At.drewN ?_) | (with_reducible refine At.grow ?_) | (refine At.below ?_ (by assumption))), by repeat (first | assumption | (with_reducible refine at_new' _ _ _ _ (by first | rfl | (simp; done))) | (with_reducible refine At.alloc ?_ _) | (with_reducible refine At.drewN ?_) | (with_reducible refine At.grow ?_) | (refine At.below ?_ (by assumption))), by repeat (first | assumption | (with_reducible refine at_new' _ _ _ _ (by first | rfl | (simp; done))) | (with_reducible refine At.alloc ?_ _) | (with_reducible refine At.drewN ?_) | (with_reducible refine At.grow ?_) | (refine At.below ?_ (by assumption))), by repeat (first | assumption | (with_reducible refine at_new' _ _ _ _ (by first | rfl | (simp; done))) | (with_reducible refine At.alloc ?_ _) | (with_reducible refine At.drewN ?_) | (with_reducible refine At.grow ?_) | (refine At.below ?_ (by assumption))), by repeat (first | assumption | (with_reducible refine at_new' _ _ _ _ (by first | rfl | (simp; done))) | (with_reducible refine At.alloc ?_ _) | (with_reducible refine At.drewN ?_) | (with_reducible refine At.grow ?_) | (refine At.below ?_ (by assumption))), by repeat (first | exact Below.refl _ _ | (with_reducible refine Below.setCell ?_ (by first | (simp; done) | (simp; omega) | omega) _) | (with_reducible refine Below.alloc ?_ (by first | (simp; done) | (simp; omega) | omega) _) | (refine bl_call ?_ (by assumption) (by first | (simp; done) | (simp; omega) | omega)) | (with_reducible refine bl_drewN ?_) | (with_reducible refine Below.drew ?_) | (with_reducible refine bl_grow ?_ (by first | (simp; done) | (simp; omega) | omega))), by first | omega | (simp; omega)⟩ ?_
  rintro W8 ⟨kx, ky, kv, kp, kf, hbW8, hzW8⟩
  clear hcw3 hfw3 hbw3
  obtain ⟨zx, cx0, cx1, fx0, fx1⟩ := kx.two
  obtain ⟨zy, cy0, cy1, fy0, fy1⟩ := ky.two
  obtain ⟨zv, cv0, cv1, fv0, fv1⟩ := kv.two
  obtain ⟨zp, cp0, cp1, fp0, fp1⟩ := kp.two
  obtain ⟨zf, cf0, cf1, ff0, ff1⟩ := kf.two
  refine wp_region_quiet_below (by kernel_rfl) (by kernel_rfl) ?_
  repeat (go_big_quiet_step (first | (go_at_call 18; with_reducible exact Calls.regrown_of (tconj_any _ _)) | (go_at_call 17; with_reducible exact Calls.regrown_of (tnorm_any _ _)) | (go_at_call 20; with_reducible exact Calls.regrown_of (tof_any _ _))))
  refine wpQuiet_nil ?_
  intro W9 hw1
  have hrW9 := regrown_below hw1
  clear hw1
  clear zx cx0 cx1 fx0 fx1 zy cy0 cy1 fy0 fy1 zv cv0 cv1 fv0 fv1 zp cp0 cp1 fp0 fp1 zf cf0 cf1 ff0 ff1
  replace kx := kx.below hrW9
  replace ky := ky.below hrW9
  replace kv := kv.below hrW9
  replace kp := kp.below hrW9
  replace kf := kf.below hrW9
  have hbW9 := bl_call hbW8 hrW9 (by omega)
  have hzW9 : w.heap.size < W9.heap.size := (by have := hrW9.size; omega)
  clear hrW9 hbW8 hzW8
  obtain ⟨zx, cx0, cx1, fx0, fx1⟩ := kx.two
  obtain ⟨zy, cy0, cy1, fy0, fy1⟩ := ky.two
  obtain ⟨zv, cv0, cv1, fv0, fv1⟩ := kv.two
  obtain ⟨zp, cp0, cp1, fp0, fp1⟩ := kp.two
  obtain ⟨zf, cf0, cf1, ff0, ff1⟩ := kf.two
  go_wp2_with (first | (go_at_call 21; clear m4; refine (tinv_yes x _ HI).mono ?_; rintro e w4 ⟨rfl, hbw4⟩; obtain ⟨hcw4, hfw4⟩ := bcell hbw4; have hsw4 := hbw4.size; (try simp at hsw4); have hzw4 : w.heap.size < w4.heap.size := (by omega)) | (go_at_call 15; clear m5; refine (tmul_eq E7.out _).mono ?_; rintro e w5 ⟨rfl, hbw5⟩; obtain ⟨hcw5, hfw5⟩ := bcell hbw5; have hsw5 := hbw5.size; (try simp at hsw5); have hzw5 : w.heap.size < w5.heap.size := (by omega)))
  go_ret
  exact ⟨rfl, Kp.of_below (by repeat (first | exact Below.refl _ _ | (with_reducible refine Below.setCell ?_ (by first | (simp; done) | (simp; omega) | omega) _) | (with_reducible refine Below.alloc ?_ (by first | (simp; done) | (simp; omega) | omega) _) | (refine bl_call ?_ (by assumption) (by first | (simp; done) | (simp; omega) | omega)) | (with_reducible refine bl_drewN ?_) | (with_reducible refine Below.drew ?_) | (with_reducible refine bl_grow ?_ (by first | (simp; done) | (simp; omega) | omega))))⟩
set_option maxRecDepth 100000 in
set_option maxHeartbeats 4000000 in
theorem twinHoldsC (x y v : Int × Int) (w : World) (hn : tn x ≠ 0) (h1 : (cf x).1 = 0) (h2 : ((cf x).2 == 0) = false) :
    Calls Try.prog 6 #[.agg #[.int .i64 x.1, .int .i64 x.2], .agg #[.int .i64 y.1, .int .i64 y.2], .agg #[.int .i64 v.1, .int .i64 v.2]] w fun e w' => e = .returned (.bool true) ∧ Kp w w' := by
  have E1 : Hid (tm y x = tm x y) := tm_comm y x
  have E2 : Hid (tm (tm x y) v = tm x (tm y v)) := tm_assoc x y v
  have E3 : Hid (tm x (ta y v) = ta (tm x y) (tm x v)) := t_distr x y v
  have E4 : Hid (tn (tm x y) = fm (tn x * tn y)) := t_norm x y
  have E5 : Hid (tm x (tc x) = (tn x, 0)) := t_conj x
  have E6 : Hid (tp x (4051 : Int).toNat = tc x) := t_frob x
  have HN : (tn x == 0) = false := beq_eq_false_iff_ne.mpr hn
  have HI : (fm (tn x) == 0) = false := by rw [tn_fm]; exact HN
  have E7 : Hid (tm x (ti x) = (1, 0)) := t_inv hn
  clear hn
  have m1 : True := trivial; have m2 : True := trivial; have m3 : True := trivial; have m4 : True := trivial; have m5 : True := trivial; have m6 : True := trivial
  go_enter Try.func6, Try.ntmps6
  go_wp2_with (first | (go_at_call 15; clear m1; refine (tmul_ii _).mono ?_; rintro e w1 ⟨rfl, hbw1⟩; obtain ⟨hcw1, hfw1⟩ := bcell hbw1; have hsw1 := hbw1.size; (try simp at hsw1); have hzw1 : w.heap.size < w1.heap.size := (by omega)) | (go_at_call 15; clear m2; refine (tmul_any x y _).mono ?_; rintro e w2 ⟨rfl, hbw2⟩; obtain ⟨hcw2, hfw2⟩ := bcell hbw2; have hsw2 := hbw2.size; (try simp at hsw2); have hzw2 : w.heap.size < w2.heap.size := (by omega)))
  refine wp_gen (fun W4 => At W4 (w.heap.size) [.int .i64 (x).1, .int .i64 (x).2] ∧ At W4 (w.heap.size + 1) [.int .i64 (y).1, .int .i64 (y).2] ∧ At W4 (w.heap.size + 2) [.int .i64 (v).1, .int .i64 (v).2] ∧ At W4 (w2.heap.size) [.int .i64 (tm x y).1, .int .i64 (tm x y).2] ∧ Below w.heap.size w W4 ∧ w.heap.size < W4.heap.size) ⟨by repeat (first | assumption | (with_reducible refine at_new' _ _ _ _ (by first | rfl | (simp; done))) | (with_reducible refine At.alloc ?_ _) | (with_reducible refine At.drewN ?_) | (with_reducible refine At.grow ?_) | (refine At.below ?_ (by assumption))), by repeat (first | assumption | (with_reducible refine at_new' _ _ _ _ (by first | rfl | (simp; done))) | (with_reducible refine At.alloc ?_ _) | (with_reducible refine At.drewN ?_) | (with_reducible refine At.grow ?_) | (refine At.below ?_ (by assumption))), by repeat (first | assumption | (with_reducible refine at_new' _ _ _ _ (by first | rfl | (simp; done))) | (with_reducible refine At.alloc ?_ _) | (with_reducible refine At.drewN ?_) | (with_reducible refine At.grow ?_) | (refine At.below ?_ (by assumption))), by repeat (first | assumption | (with_reducible refine at_new' _ _ _ _ (by first | rfl | (simp; done))) | (with_reducible refine At.alloc ?_ _) | (with_reducible refine At.drewN ?_) | (with_reducible refine At.grow ?_) | (refine At.below ?_ (by assumption))), by repeat (first | exact Below.refl _ _ | (with_reducible refine Below.setCell ?_ (by first | (simp; done) | (simp; omega) | omega) _) | (with_reducible refine Below.alloc ?_ (by first | (simp; done) | (simp; omega) | omega) _) | (refine bl_call ?_ (by assumption) (by first | (simp; done) | (simp; omega) | omega)) | (with_reducible refine bl_drewN ?_) | (with_reducible refine Below.drew ?_) | (with_reducible refine bl_grow ?_ (by first | (simp; done) | (simp; omega) | omega))), by first | omega | (simp; omega)⟩ ?_
  rintro W4 ⟨kx, ky, kv, kp, hbW4, hzW4⟩
  clear hcw1 hfw1 hbw1 hcw2 hfw2 hbw2
  obtain ⟨zx, cx0, cx1, fx0, fx1⟩ := kx.two
  obtain ⟨zy, cy0, cy1, fy0, fy1⟩ := ky.two
  obtain ⟨zv, cv0, cv1, fv0, fv1⟩ := kv.two
  obtain ⟨zp, cp0, cp1, fp0, fp1⟩ := kp.two
  refine wp_region_quiet_below (by kernel_rfl) (by kernel_rfl) ?_
  repeat (go_big_quiet_step (first | (go_at_call 15; with_reducible exact Calls.regrown_of (tmul_eq E1.out _)) | (go_at_call 15; with_reducible exact Calls.regrown_of (tmul_eq E2.out _)) | (go_at_call 15; with_reducible exact Calls.regrown_of (tmul_any _ _ _))))
  refine wpQuiet_nil ?_
  intro W5 hw1
  have hrW5 := regrown_below hw1
  clear hw1
  clear zx cx0 cx1 fx0 fx1 zy cy0 cy1 fy0 fy1 zv cv0 cv1 fv0 fv1 zp cp0 cp1 fp0 fp1
  replace kx := kx.below hrW5
  replace ky := ky.below hrW5
  replace kv := kv.below hrW5
  replace kp := kp.below hrW5
  have hbW5 := bl_call hbW4 hrW5 (by omega)
  have hzW5 : w.heap.size < W5.heap.size := (by have := hrW5.size; omega)
  clear hrW5 hbW4 hzW4
  obtain ⟨zx, cx0, cx1, fx0, fx1⟩ := kx.two
  obtain ⟨zy, cy0, cy1, fy0, fy1⟩ := ky.two
  obtain ⟨zv, cv0, cv1, fv0, fv1⟩ := kv.two
  obtain ⟨zp, cp0, cp1, fp0, fp1⟩ := kp.two
  go_wp2_with fail
  refine wp_region_quiet_below (by kernel_rfl) (by kernel_rfl) ?_
  repeat (go_big_quiet_step (first | (go_at_call 15; with_reducible exact Calls.regrown_of (tmul_eq E3.out _)) | (go_at_call 15; with_reducible exact Calls.regrown_of (tmul_any _ _ _)) | (go_at_call 16; with_reducible exact Calls.regrown_of (tadd_any _ _ _))))
  refine wpQuiet_nil ?_
  intro W6 hw1
  have hrW6 := regrown_below hw1
  clear hw1
  clear zx cx0 cx1 fx0 fx1 zy cy0 cy1 fy0 fy1 zv cv0 cv1 fv0 fv1 zp cp0 cp1 fp0 fp1
  replace kx := kx.below hrW6
  replace ky := ky.below hrW6
  replace kv := kv.below hrW6
  replace kp := kp.below hrW6
  have hbW6 := bl_call hbW5 hrW6 (by omega)
  have hzW6 : w.heap.size < W6.heap.size := (by have := hrW6.size; omega)
  clear hrW6 hbW5 hzW5
  obtain ⟨zx, cx0, cx1, fx0, fx1⟩ := kx.two
  obtain ⟨zy, cy0, cy1, fy0, fy1⟩ := ky.two
  obtain ⟨zv, cv0, cv1, fv0, fv1⟩ := kv.two
  obtain ⟨zp, cp0, cp1, fp0, fp1⟩ := kp.two
  go_wp2_with fail
  refine wp_region_quiet_below (by kernel_rfl) (by kernel_rfl) ?_
  repeat (go_big_quiet_step (first | (go_at_call 15; with_reducible exact Calls.regrown_of (tmul_eq E5.out _)) | (go_at_call 17; with_reducible exact Calls.regrown_of (tnorm_eq E4.out _)) | (go_at_call 17; with_reducible exact Calls.regrown_of (tnorm_any _ _)) | (go_at_call 8; with_reducible exact Calls.regrown_of (below_of_same (mul_any _ _ _))) | (go_at_call 18; with_reducible exact Calls.regrown_of (tconj_any _ _))))
  refine wpQuiet_nil ?_
  intro W7 hw1
  have hrW7 := regrown_below hw1
  clear hw1
  clear zx cx0 cx1 fx0 fx1 zy cy0 cy1 fy0 fy1 zv cv0 cv1 fv0 fv1 zp cp0 cp1 fp0 fp1
  replace kx := kx.below hrW7
  replace ky := ky.below hrW7
  replace kv := kv.below hrW7
  replace kp := kp.below hrW7
  have hbW7 := bl_call hbW6 hrW7 (by omega)
  have hzW7 : w.heap.size < W7.heap.size := (by have := hrW7.size; omega)
  clear hrW7 hbW6 hzW6
  obtain ⟨zx, cx0, cx1, fx0, fx1⟩ := kx.two
  obtain ⟨zy, cy0, cy1, fy0, fy1⟩ := ky.two
  obtain ⟨zv, cv0, cv1, fv0, fv1⟩ := kv.two
  obtain ⟨zp, cp0, cp1, fp0, fp1⟩ := kp.two
  go_wp2_with (go_at_call 19; clear m3; refine (tpow_eq E6.out _ (by omega) (by omega)).mono ?_; rintro e w3 ⟨rfl, hbw3⟩; obtain ⟨hcw3, hfw3⟩ := bcell hbw3; have hsw3 := hbw3.size; (try simp at hsw3); have hzw3 : w.heap.size < w3.heap.size := (by omega))
  clear zx cx0 cx1 fx0 fx1 zy cy0 cy1 fy0 fy1 zv cv0 cv1 fv0 fv1 zp cp0 cp1 fp0 fp1
  refine wp_gen (fun W8 => At W8 (w.heap.size) [.int .i64 (x).1, .int .i64 (x).2] ∧ At W8 (w.heap.size + 1) [.int .i64 (y).1, .int .i64 (y).2] ∧ At W8 (w.heap.size + 2) [.int .i64 (v).1, .int .i64 (v).2] ∧ At W8 (w2.heap.size) [.int .i64 (tm x y).1, .int .i64 (tm x y).2] ∧ At W8 (w3.heap.size) [.int .i64 (tc x).1, .int .i64 (tc x).2] ∧ Below w.heap.size w W8 ∧ w.heap.size < W8.heap.size) ⟨by repeat (first | assumption | (with_reducible refine at_new' _ _ _ _ (by first | rfl | (simp; done))) | (with_reducible refine At.alloc ?_ _) | (with_reducible refine At.drewN ?_) | (with_reducible refine At.grow ?_) | (refine At.below ?_ (by assumption))), by repeat (first | assumption | (with_reducible refine at_new' _ _ _ _ (by first | rfl | (simp; done))) | (with_reducible refine At.alloc ?_ _) | (with_reducible refine At.drewN ?_) | (with_reducible refine At.grow ?_) | (refine At.below ?_ (by assumption))), by repeat (first | assumption | (with_reducible refine at_new' _ _ _ _ (by first | rfl | (simp; done))) | (with_reducible refine At.alloc ?_ _) | (with_reducible refine At.drewN ?_) | (with_reducible refine At.grow ?_) | (refine At.below ?_ (by assumption))), by repeat (first | assumption | (with_reducible refine at_new' _ _ _ _ (by first | rfl | (simp; done))) | (with_reducible refine At.alloc ?_ _) | (with_reducible refine At.drewN ?_) | (with_reducible refine At.grow ?_) | (refine At.below ?_ (by assumption))), by repeat (first | assumption | (with_reducible refine at_new' _ _ _ _ (by first | rfl | (simp; done))) | (with_reducible refine At.alloc ?_ _) | (with_reducible refine At.drewN ?_) | (with_reducible refine At.grow ?_) | (refine At.below ?_ (by assumption))), by repeat (first | exact Below.refl _ _ | (with_reducible refine Below.setCell ?_ (by first | (simp; done) | (simp; omega) | omega) _) | (with_reducible refine Below.alloc ?_ (by first | (simp; done) | (simp; omega) | omega) _) | (refine bl_call ?_ (by assumption) (by first | (simp; done) | (simp; omega) | omega)) | (with_reducible refine bl_drewN ?_) | (with_reducible refine Below.drew ?_) | (with_reducible refine bl_grow ?_ (by first | (simp; done) | (simp; omega) | omega))), by first | omega | (simp; omega)⟩ ?_
  rintro W8 ⟨kx, ky, kv, kp, kf, hbW8, hzW8⟩
  clear hcw3 hfw3 hbw3
  obtain ⟨zx, cx0, cx1, fx0, fx1⟩ := kx.two
  obtain ⟨zy, cy0, cy1, fy0, fy1⟩ := ky.two
  obtain ⟨zv, cv0, cv1, fv0, fv1⟩ := kv.two
  obtain ⟨zp, cp0, cp1, fp0, fp1⟩ := kp.two
  obtain ⟨zf, cf0, cf1, ff0, ff1⟩ := kf.two
  refine wp_region_quiet_below (by kernel_rfl) (by kernel_rfl) ?_
  repeat (go_big_quiet_step (first | (go_at_call 18; with_reducible exact Calls.regrown_of (tconj_any _ _)) | (go_at_call 17; with_reducible exact Calls.regrown_of (tnorm_any _ _)) | (go_at_call 20; with_reducible exact Calls.regrown_of (tof_any _ _))))
  refine wpQuiet_nil ?_
  intro W9 hw1
  have hrW9 := regrown_below hw1
  clear hw1
  clear zx cx0 cx1 fx0 fx1 zy cy0 cy1 fy0 fy1 zv cv0 cv1 fv0 fv1 zp cp0 cp1 fp0 fp1 zf cf0 cf1 ff0 ff1
  replace kx := kx.below hrW9
  replace ky := ky.below hrW9
  replace kv := kv.below hrW9
  replace kp := kp.below hrW9
  replace kf := kf.below hrW9
  have hbW9 := bl_call hbW8 hrW9 (by omega)
  have hzW9 : w.heap.size < W9.heap.size := (by have := hrW9.size; omega)
  clear hrW9 hbW8 hzW8
  obtain ⟨zx, cx0, cx1, fx0, fx1⟩ := kx.two
  obtain ⟨zy, cy0, cy1, fy0, fy1⟩ := ky.two
  obtain ⟨zv, cv0, cv1, fv0, fv1⟩ := kv.two
  obtain ⟨zp, cp0, cp1, fp0, fp1⟩ := kp.two
  obtain ⟨zf, cf0, cf1, ff0, ff1⟩ := kf.two
  go_wp2_with (first | (go_at_call 21; clear m4; refine (tinv_yes x _ HI).mono ?_; rintro e w4 ⟨rfl, hbw4⟩; obtain ⟨hcw4, hfw4⟩ := bcell hbw4; have hsw4 := hbw4.size; (try simp at hsw4); have hzw4 : w.heap.size < w4.heap.size := (by omega)) | (go_at_call 15; clear m5; refine (tmul_eq E7.out _).mono ?_; rintro e w5 ⟨rfl, hbw5⟩; obtain ⟨hcw5, hfw5⟩ := bcell hbw5; have hsw5 := hbw5.size; (try simp at hsw5); have hzw5 : w.heap.size < w5.heap.size := (by omega)))
  go_ret
  exact ⟨rfl, Kp.of_below (by repeat (first | exact Below.refl _ _ | (with_reducible refine Below.setCell ?_ (by first | (simp; done) | (simp; omega) | omega) _) | (with_reducible refine Below.alloc ?_ (by first | (simp; done) | (simp; omega) | omega) _) | (refine bl_call ?_ (by assumption) (by first | (simp; done) | (simp; omega) | omega)) | (with_reducible refine bl_drewN ?_) | (with_reducible refine Below.drew ?_) | (with_reducible refine bl_grow ?_ (by first | (simp; done) | (simp; omega) | omega))))⟩
theorem walkTwinHolds (x y v : Int × Int) (w0 : (Lit.int .i64 x.1).wf = true) (u0 : (Lit.int .i64 x.2).wf = true) (w1 : (Lit.int .i64 y.1).wf = true) (u1 : (Lit.int .i64 y.2).wf = true) (w2 : (Lit.int .i64 v.1).wf = true) (u2 : (Lit.int .i64 v.2).wf = true) (w : World) :
    Calls Try.prog 6 #[.agg #[.int .i64 x.1, .int .i64 x.2], .agg #[.int .i64 y.1, .int .i64 y.2], .agg #[.int .i64 v.1, .int .i64 v.2]] w fun e w' => e = .returned (.bool true) ∧ Kp w w' := by
  by_cases hn : tn x = 0
  · exact twinHoldsA x y v w (tn_zero hn)
  · cases h1 : (cf x).1 == 0
    · exact twinHoldsB x y v w hn h1
    · have h1' : (cf x).1 = 0 := by simpa using h1
      cases h2 : (cf x).2 == 0
      · exact twinHoldsC x y v w hn h1' h2
      · exact absurd (tn_of_cf (Prod.ext h1' (by simpa using h2))) hn
end Go.Proofs.Ythdgdonhgbppeaa
