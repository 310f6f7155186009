/- Proved: stonelaw4.TwinPowers answers true for every number of the greater field and every two ints: its powers add. No condition stands behind it. -/
import Derived.Test.YthdgdonhgbppeabTwin
import Derived.Test.YthdgdonhgbppeabShell
import Derived.Test.YthdgdonhgbppeabMem
namespace Go.Proofs.Ythdgdonhgbppeab
open Go.RowKit Go.Sort
set_option linter.unusedVariables false

theorem tpow_i2 (w : World) : Calls Try.prog 4 #[.agg #[.int .i64 0, .int .i64 1], .int .i64 2] w fun e w' => e = .returned (.tuple #[.agg #[.int .i64 4050, .int .i64 0], .nilIface]) ∧ Below w.heap.size w w' :=
  tpow_yes (0, 1) 2 w (by omega) (by omega)
theorem teq (x : Int × Int) (n m : Int) (h0 : 0 ≤ n) (h1 : 0 ≤ m) : tm (tp x n.toNat) (tp x m.toNat) = tp x (n + m).toNat := by
  rw [tp_add, Int.toNat_add h0 h1]

set_option maxHeartbeats 1000000 in
theorem walkTwinPowersYes (x : Int × Int) (n m : Int) (h0 : 0 ≤ n) (h1 : 0 ≤ m) (h2 : n ≤ 1000000) (h3 : m ≤ 1000000) (w : World) :
    Calls Try.prog 3 #[.agg #[.int .i64 x.1, .int .i64 x.2], .int .i64 n, .int .i64 m] w fun e w' => e = .returned (.bool true) ∧ Kp w w' := by
  have HE : Hid (tm (tp x n.toNat) (tp x m.toNat) = tp x (n + m).toNat) := teq x n m h0 h1
  have m1 : True := trivial; have m2 : True := trivial; have m3 : True := trivial; have m4 : True := trivial
  go_enter Try.func3, Try.ntmps3
  go_wp2_with (first | (go_at_call 4; clear m1; refine (tpow_i2 _).mono ?_; rintro e w1 ⟨rfl, hbw1⟩; obtain ⟨hcw1, hfw1⟩ := bcell hbw1; have hsw1 := hbw1.size; simp at hsw1; have hzw1 : w.heap.size < w1.heap.size := (by omega)) | (go_at_call 4; clear m2; refine (tpow_yes x n _ (by omega) (by omega)).mono ?_; rintro e w2 ⟨rfl, hbw2⟩; obtain ⟨hcw2, hfw2⟩ := bcell hbw2; have hsw2 := hbw2.size; simp at hsw2; have hzw2 : w.heap.size < w2.heap.size := (by omega)) | (go_at_call 4; clear m3; refine (tpow_yes x m _ (by omega) (by omega)).mono ?_; rintro e w3 ⟨rfl, hbw3⟩; obtain ⟨hcw3, hfw3⟩ := bcell hbw3; have hsw3 := hbw3.size; simp at hsw3; have hzw3 : w.heap.size < w3.heap.size := (by omega)) | (go_at_call 4; clear m4; refine (tpow_yes x (n + m) _ (by omega) (by omega)).mono ?_; rintro e w4 ⟨rfl, hbw4⟩; obtain ⟨hcw4, hfw4⟩ := bcell hbw4; have hsw4 := hbw4.size; simp at hsw4; have hzw4 : w.heap.size < w4.heap.size := (by omega)))
  refine wp_gen (fun W => At W w2.heap.size [.int .i64 (tp x n.toNat).1, .int .i64 (tp x n.toNat).2] ∧ At W w3.heap.size [.int .i64 (tp x m.toNat).1, .int .i64 (tp x m.toNat).2] ∧ At W w4.heap.size [.int .i64 (tp x (n + m).toNat).1, .int .i64 (tp x (n + m).toNat).2] ∧ Below w.heap.size w W ∧ w.heap.size < W.heap.size) ⟨by repeat (first | assumption | exact at_new _ _ _ | (with_reducible refine At.alloc ?_ _) | (with_reducible refine At.drewN ?_) | (with_reducible refine At.grow ?_) | (refine At.below ?_ (by assumption))), by repeat (first | assumption | exact at_new _ _ _ | (with_reducible refine At.alloc ?_ _) | (with_reducible refine At.drewN ?_) | (with_reducible refine At.grow ?_) | (refine At.below ?_ (by assumption))), by repeat (first | assumption | exact at_new _ _ _ | (with_reducible refine At.alloc ?_ _) | (with_reducible refine At.drewN ?_) | (with_reducible refine At.grow ?_) | (refine At.below ?_ (by assumption))), by repeat (first | exact Below.refl _ _ | (with_reducible refine Below.setCell ?_ (by first | (simp; done) | (simp; omega) | omega) _) | (with_reducible refine Below.alloc ?_ (by first | (simp; done) | (simp; omega) | omega) _) | (refine bl_call ?_ (by assumption) (by first | (simp; done) | (simp; omega) | omega)) | (with_reducible refine bl_drewN ?_) | (with_reducible refine Below.drew ?_) | (with_reducible refine bl_grow ?_ (by first | (simp; done) | (simp; omega) | omega))), by simp; omega⟩ ?_
  rintro W ⟨t2, t3, t4, hbW, hsW⟩
  clear hcw1 hfw1 hcw2 hfw2 hcw3 hfw3 hcw4 hfw4 hbw1 hbw2 hbw3 hbw4
  obtain ⟨z2, c20, c21, f20, f21⟩ := t2.two
  obtain ⟨z3, c30, c31, f30, f31⟩ := t3.two
  obtain ⟨z4, c40, c41, f40, f41⟩ := t4.two
  clear t2 t3 t4
  rw [← HE.out] at c40 c41
  refine wp_region_quiet_below (by kernel_rfl) (by kernel_rfl) ?_
  repeat (go_big_quiet_step ((go_at_call 5; exact Calls.regrown_of (tmul_any _ _ _))))
  refine wpQuiet_nil ?_
  intro _ hw1
  obtain ⟨⟨dq, osq⟩, hw2⟩ := hw1
  subst hw2
  go_wp2_with fail
  go_ret
  exact ⟨rfl, Kp.of_below (by repeat (first | exact Below.refl _ _ | (with_reducible refine Below.setCell ?_ (by first | (simp; done) | (simp; omega) | omega) _) | (with_reducible refine Below.alloc ?_ (by first | (simp; done) | (simp; omega) | omega) _) | (refine bl_call ?_ (by assumption) (by first | (simp; done) | (simp; omega) | omega)) | (with_reducible refine bl_drewN ?_) | (with_reducible refine Below.drew ?_) | (with_reducible refine bl_grow ?_ (by first | (simp; done) | (simp; omega) | omega))))⟩
theorem walkTwinPowersNo (x : Int × Int) (n m : Int) (h : n < 0 ∨ m < 0 ∨ 1000000 < n ∨ 1000000 < m) (w : World) :
    Calls Try.prog 3 #[.agg #[.int .i64 x.1, .int .i64 x.2], .int .i64 n, .int .i64 m] w fun e w' => e = .returned (.bool true) ∧ Kp w w' := by
  by_cases h0 : n < 0
  · have m1 : True := trivial
    go_enter Try.func3, Try.ntmps3
    go_wp2_with (go_at_call 4; clear m1; refine (tpow_i2 _).mono ?_; rintro e w1 ⟨rfl, hbw1⟩; obtain ⟨hcw1, hfw1⟩ := bcell hbw1; have hsw1 := hbw1.size; simp at hsw1; have hzw1 : w.heap.size < w1.heap.size := (by omega))
    go_ret
    exact ⟨rfl, Kp.of_below (by repeat (first | exact Below.refl _ _ | (with_reducible refine Below.setCell ?_ (by first | (simp; done) | (simp; omega) | omega) _) | (with_reducible refine Below.alloc ?_ (by first | (simp; done) | (simp; omega) | omega) _) | (refine bl_call ?_ (by assumption) (by first | (simp; done) | (simp; omega) | omega)) | (with_reducible refine bl_drewN ?_) | (with_reducible refine Below.drew ?_) | (with_reducible refine bl_grow ?_ (by first | (simp; done) | (simp; omega) | omega))))⟩
  by_cases h1 : m < 0
  · have m1 : True := trivial
    go_enter Try.func3, Try.ntmps3
    go_wp2_with (go_at_call 4; clear m1; refine (tpow_i2 _).mono ?_; rintro e w1 ⟨rfl, hbw1⟩; obtain ⟨hcw1, hfw1⟩ := bcell hbw1; have hsw1 := hbw1.size; simp at hsw1; have hzw1 : w.heap.size < w1.heap.size := (by omega))
    go_ret
    exact ⟨rfl, Kp.of_below (by repeat (first | exact Below.refl _ _ | (with_reducible refine Below.setCell ?_ (by first | (simp; done) | (simp; omega) | omega) _) | (with_reducible refine Below.alloc ?_ (by first | (simp; done) | (simp; omega) | omega) _) | (refine bl_call ?_ (by assumption) (by first | (simp; done) | (simp; omega) | omega)) | (with_reducible refine bl_drewN ?_) | (with_reducible refine Below.drew ?_) | (with_reducible refine bl_grow ?_ (by first | (simp; done) | (simp; omega) | omega))))⟩
  by_cases h2 : 1000000 < n
  · have m1 : True := trivial
    go_enter Try.func3, Try.ntmps3
    go_wp2_with (go_at_call 4; clear m1; refine (tpow_i2 _).mono ?_; rintro e w1 ⟨rfl, hbw1⟩; obtain ⟨hcw1, hfw1⟩ := bcell hbw1; have hsw1 := hbw1.size; simp at hsw1; have hzw1 : w.heap.size < w1.heap.size := (by omega))
    go_ret
    exact ⟨rfl, Kp.of_below (by repeat (first | exact Below.refl _ _ | (with_reducible refine Below.setCell ?_ (by first | (simp; done) | (simp; omega) | omega) _) | (with_reducible refine Below.alloc ?_ (by first | (simp; done) | (simp; omega) | omega) _) | (refine bl_call ?_ (by assumption) (by first | (simp; done) | (simp; omega) | omega)) | (with_reducible refine bl_drewN ?_) | (with_reducible refine Below.drew ?_) | (with_reducible refine bl_grow ?_ (by first | (simp; done) | (simp; omega) | omega))))⟩
  by_cases h3 : 1000000 < m
  · have m1 : True := trivial
    go_enter Try.func3, Try.ntmps3
    go_wp2_with (go_at_call 4; clear m1; refine (tpow_i2 _).mono ?_; rintro e w1 ⟨rfl, hbw1⟩; obtain ⟨hcw1, hfw1⟩ := bcell hbw1; have hsw1 := hbw1.size; simp at hsw1; have hzw1 : w.heap.size < w1.heap.size := (by omega))
    go_ret
    exact ⟨rfl, Kp.of_below (by repeat (first | exact Below.refl _ _ | (with_reducible refine Below.setCell ?_ (by first | (simp; done) | (simp; omega) | omega) _) | (with_reducible refine Below.alloc ?_ (by first | (simp; done) | (simp; omega) | omega) _) | (refine bl_call ?_ (by assumption) (by first | (simp; done) | (simp; omega) | omega)) | (with_reducible refine bl_drewN ?_) | (with_reducible refine Below.drew ?_) | (with_reducible refine bl_grow ?_ (by first | (simp; done) | (simp; omega) | omega))))⟩
  · omega
theorem walkTwinPowers (x : Int × Int) (n m : Int) (w0 : (Lit.int .i64 x.1).wf = true) (w1 : (Lit.int .i64 x.2).wf = true) (w2 : (Lit.int .i64 n).wf = true) (w3 : (Lit.int .i64 m).wf = true) (w : World) :
    Calls Try.prog 3 #[.agg #[.int .i64 x.1, .int .i64 x.2], .int .i64 n, .int .i64 m] w fun e w' => e = .returned (.bool true) ∧ Kp w w' := by
  by_cases h : n < 0 ∨ m < 0 ∨ 1000000 < n ∨ 1000000 < m
  · exact walkTwinPowersNo x n m h w
  · exact walkTwinPowersYes x n m (by omega) (by omega) (by omega) (by omega) w
end Go.Proofs.Ythdgdonhgbppeab
