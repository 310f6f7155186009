/- The spot of any text, as package hash answers it; nothing that was there is turned. -/
import Derived.Test.YtpkkclcjiobgoajGreatDoorKC
import Derived.Test.YtpkkclcjiobgoajGreatDoorKD
import Derived.Test.YtpkkclcjiobgoajGreatDoorKTimesOrd
namespace Go.Proofs.YtpkkclcjiobgoajGreatDoor
open Go.RowKit Go.Sort
set_option linter.unusedVariables false
set_option linter.unusedSimpArgs false
theorem em_four : em 4 = 4 := rfl
theorem hlift_at (x : Nat) (w : World) (h1 : x < 4051) (h : rtOk (sqI (x : Int)) = true) :
    Calls Tryz.prog 117 #[.int .i64 (x : Int)] w fun e w' => e = .returned (.tuple #[.agg #[.int .i64 (x : Int), .int .i64 (ltN x : Int), .bool false], .nilIface]) ∧ Below w.heap.size w w' := by
  have := lift_yes (x : Int) w (by omega) (by omega) h
  rwa [ltI] at this
theorem four_near (x : Nat) (w : World) (h1 : x < 4051) (h : rtOk (sqI (x : Int)) = true) (hf : farI (kxN x * 4) = false) :
    Calls Tryz.prog 48 #[.agg #[.int .i64 (x : Int), .int .i64 (ltN x : Int), .bool false], .int .i64 4] w fun e w' => e = .returned (.tuple #[.agg #[.int .i64 ((tM (kxN x * 4)).1 : Int), .int .i64 ((tM (kxN x * 4)).2.1 : Int), .bool false], .nilIface]) ∧ Below w.heap.size w w' := by
  have := times_tM (kxN x) 4 w
  rw [kx_is h1 h, em_four, tM_f (kxN x * 4), hf] at this
  exact this
theorem four_far (x : Nat) (w : World) (h1 : x < 4051) (h : rtOk (sqI (x : Int)) = true) (hf : farI (kxN x * 4) = true) :
    Calls Tryz.prog 48 #[.agg #[.int .i64 (x : Int), .int .i64 (ltN x : Int), .bool false], .int .i64 4] w fun e w' => e = .returned (.tuple #[.agg #[.int .i64 0, .int .i64 0, .bool true], .nilIface]) ∧ Below w.heap.size w w' := by
  have := times_tM (kxN x) 4 w
  rw [kx_is h1 h, em_four, tM_isfar hf] at this
  exact this
set_option maxRecDepth 100000 in
set_option maxHeartbeats 1000000 in
theorem counted_none (x : Nat) (w : World) (h1 : x < 4051) (h : rtOk (sqI (x : Int)) = false) :
    Calls Tryz.prog 101 #[.int .i64 (x : Int)] w fun e w' => e = .returned (.tuple #[.agg #[.int .i64 0, .int .i64 0, .bool false], .bool false]) ∧ Below w.heap.size w w' := by
  have HR : Hid (rtOk (sqI (x : Int)) = false) := h
  clear h
  have m1 : True := trivial
  go_enter Tryz.func101, Tryz.ntmps101
  go_wp2_with (go_at_call 117; clear m1; refine (lift_none _ _ (by omega) (by omega) HR.out).mono ?_; rintro e w1 ⟨rfl, hbw1⟩; have krw1 : At w1 (w.heap.size) [.int .i64 0, .int .i64 0, .bool false] := (by repeat (first | assumption | (with_reducible first | (refine at_new' _ _ _ _ ?_; first | rfl | (simp; done)) | refine At.alloc ?_ _ | refine At.drewN ?_ | refine At.grow ?_ | refine At.store4 (by assumption) | refine At.store3 (by assumption) | refine At.store2 (by assumption) | refine At.set ?_ (by omega) | apply At.store4 | apply At.store3 | apply At.put43) | refine At.below ?_ (by assumption))); have hqw1 : Below w.heap.size w w1 := (by repeat (first | (with_reducible first | exact Below.refl _ _ | assumption | refine Below.setCell ?_ (by first | simp <;> omega | omega) _ | refine Below.alloc ?_ (by first | simp <;> omega | omega) _) | refine bl_call ?_ (by assumption) (by first | simp <;> omega | omega) | (with_reducible first | refine bl_drewN ?_ | refine Below.drew ?_ | refine bl_grow ?_ (by first | simp <;> omega | omega)))); have hzw1 := hqw1.size; obtain ⟨zrw1, cr0w1, cr1w1, cr2w1, fr0w1, fr1w1, fr2w1⟩ := krw1.three; clear hbw1)
  exact bodyPost_ret (v := .tuple #[.agg #[.int .i64 0, .int .i64 0, .bool false], .bool false]) (by simp [results, Tryz.results101, go_sem, *]) rfl ⟨rfl, by repeat (first | (with_reducible first | exact Below.refl _ _ | assumption | refine Below.setCell ?_ (by first | simp <;> omega | omega) _ | refine Below.alloc ?_ (by first | simp <;> omega | omega) _) | refine bl_call ?_ (by assumption) (by first | simp <;> omega | omega) | (with_reducible first | refine bl_drewN ?_ | refine Below.drew ?_ | refine bl_grow ?_ (by first | simp <;> omega | omega)))⟩
set_option maxRecDepth 100000 in
set_option maxHeartbeats 1000000 in
theorem counted_yes (x : Nat) (w : World) (h1 : x < 4051) (h : rtOk (sqI (x : Int)) = true) (hf : farI (kxN x * 4) = false) :
    Calls Tryz.prog 101 #[.int .i64 (x : Int)] w fun e w' => e = .returned (.tuple #[.agg #[.int .i64 ((tM (kxN x * 4)).1 : Int), .int .i64 ((tM (kxN x * 4)).2.1 : Int), .bool false], .bool true]) ∧ Below w.heap.size w w' := by
  have HR : Hid (rtOk (sqI (x : Int)) = true) := h
  have HF : Hid (farI (kxN x * 4) = false) := hf
  clear h hf
  have m1 : True := trivial; have m2 : True := trivial
  go_enter Tryz.func101, Tryz.ntmps101
  go_wp2_with (first | (go_at_call 117; clear m1; refine (hlift_at _ _ h1 HR.out).mono ?_; rintro e w1 ⟨rfl, hbw1⟩; have krw1 : At w1 (w.heap.size) [.int .i64 0, .int .i64 0, .bool false] := (by repeat (first | assumption | (with_reducible first | (refine at_new' _ _ _ _ ?_; first | rfl | (simp; done)) | refine At.alloc ?_ _ | refine At.drewN ?_ | refine At.grow ?_ | refine At.store4 (by assumption) | refine At.store3 (by assumption) | refine At.store2 (by assumption) | refine At.set ?_ (by omega) | apply At.store4 | apply At.store3 | apply At.put43) | refine At.below ?_ (by assumption))); have hqw1 : Below w.heap.size w w1 := (by repeat (first | (with_reducible first | exact Below.refl _ _ | assumption | refine Below.setCell ?_ (by first | simp <;> omega | omega) _ | refine Below.alloc ?_ (by first | simp <;> omega | omega) _) | refine bl_call ?_ (by assumption) (by first | simp <;> omega | omega) | (with_reducible first | refine bl_drewN ?_ | refine Below.drew ?_ | refine bl_grow ?_ (by first | simp <;> omega | omega)))); have hzw1 := hqw1.size; obtain ⟨zrw1, cr0w1, cr1w1, cr2w1, fr0w1, fr1w1, fr2w1⟩ := krw1.three; clear hbw1) | (go_at_call 48; clear m2; refine (four_near _ _ h1 HR.out HF.out).mono ?_; rintro e w2 ⟨rfl, hbw2⟩; have krw2 : At w2 (w.heap.size) [.int .i64 0, .int .i64 0, .bool false] := (by repeat (first | assumption | (with_reducible first | (refine at_new' _ _ _ _ ?_; first | rfl | (simp; done)) | refine At.alloc ?_ _ | refine At.drewN ?_ | refine At.grow ?_ | refine At.store4 (by assumption) | refine At.store3 (by assumption) | refine At.store2 (by assumption) | refine At.set ?_ (by omega) | apply At.store4 | apply At.store3 | apply At.put43) | refine At.below ?_ (by assumption))); have ksw2 : At w2 (w1.heap.size) [.int .i64 (x : Int), .int .i64 (ltN x : Int), .bool false] := (by repeat (first | assumption | (with_reducible first | (refine at_new' _ _ _ _ ?_; first | rfl | (simp; done)) | refine At.alloc ?_ _ | refine At.drewN ?_ | refine At.grow ?_ | refine At.store4 (by assumption) | refine At.store3 (by assumption) | refine At.store2 (by assumption) | refine At.set ?_ (by omega) | apply At.store4 | apply At.store3 | apply At.put43) | refine At.below ?_ (by assumption))); have hqw2 : Below w.heap.size w w2 := (by repeat (first | (with_reducible first | exact Below.refl _ _ | assumption | refine Below.setCell ?_ (by first | simp <;> omega | omega) _ | refine Below.alloc ?_ (by first | simp <;> omega | omega) _) | refine bl_call ?_ (by assumption) (by first | simp <;> omega | omega) | (with_reducible first | refine bl_drewN ?_ | refine Below.drew ?_ | refine bl_grow ?_ (by first | simp <;> omega | omega)))); have hzw2 := hqw2.size; obtain ⟨zrw2, cr0w2, cr1w2, cr2w2, fr0w2, fr1w2, fr2w2⟩ := krw2.three; obtain ⟨zsw2, cs0w2, cs1w2, cs2w2, fs0w2, fs1w2, fs2w2⟩ := ksw2.three; clear krw1 cr0w1 fr0w1 cr1w1 fr1w1 cr2w1 fr2w1 hqw1; clear hbw2))
  go_region_with fail
  all_goals (try go_wp2_with fail)
  all_goals exact bodyPost_ret (v := .tuple #[.agg #[.int .i64 ((tM (kxN x * 4)).1 : Int), .int .i64 ((tM (kxN x * 4)).2.1 : Int), .bool false], .bool true]) (by simp [results, Tryz.results101, go_sem, *]) rfl ⟨rfl, by repeat (first | (with_reducible first | exact Below.refl _ _ | assumption | refine Below.setCell ?_ (by first | simp <;> omega | omega) _ | refine Below.alloc ?_ (by first | simp <;> omega | omega) _) | refine bl_call ?_ (by assumption) (by first | simp <;> omega | omega) | (with_reducible first | refine bl_drewN ?_ | refine Below.drew ?_ | refine bl_grow ?_ (by first | simp <;> omega | omega)))⟩
set_option maxRecDepth 100000 in
set_option maxHeartbeats 1000000 in
theorem counted_far (x : Nat) (w : World) (h1 : x < 4051) (h : rtOk (sqI (x : Int)) = true) (hf : farI (kxN x * 4) = true) :
    Calls Tryz.prog 101 #[.int .i64 (x : Int)] w fun e w' => e = .returned (.tuple #[.agg #[.int .i64 0, .int .i64 0, .bool true], .bool false]) ∧ Below w.heap.size w w' := by
  have HR : Hid (rtOk (sqI (x : Int)) = true) := h
  have HF : Hid (farI (kxN x * 4) = true) := hf
  clear h hf
  have m1 : True := trivial; have m2 : True := trivial
  go_enter Tryz.func101, Tryz.ntmps101
  go_wp2_with (first | (go_at_call 117; clear m1; refine (hlift_at _ _ h1 HR.out).mono ?_; rintro e w1 ⟨rfl, hbw1⟩; have krw1 : At w1 (w.heap.size) [.int .i64 0, .int .i64 0, .bool false] := (by repeat (first | assumption | (with_reducible first | (refine at_new' _ _ _ _ ?_; first | rfl | (simp; done)) | refine At.alloc ?_ _ | refine At.drewN ?_ | refine At.grow ?_ | refine At.store4 (by assumption) | refine At.store3 (by assumption) | refine At.store2 (by assumption) | refine At.set ?_ (by omega) | apply At.store4 | apply At.store3 | apply At.put43) | refine At.below ?_ (by assumption))); have hqw1 : Below w.heap.size w w1 := (by repeat (first | (with_reducible first | exact Below.refl _ _ | assumption | refine Below.setCell ?_ (by first | simp <;> omega | omega) _ | refine Below.alloc ?_ (by first | simp <;> omega | omega) _) | refine bl_call ?_ (by assumption) (by first | simp <;> omega | omega) | (with_reducible first | refine bl_drewN ?_ | refine Below.drew ?_ | refine bl_grow ?_ (by first | simp <;> omega | omega)))); have hzw1 := hqw1.size; obtain ⟨zrw1, cr0w1, cr1w1, cr2w1, fr0w1, fr1w1, fr2w1⟩ := krw1.three; clear hbw1) | (go_at_call 48; clear m2; refine (four_far _ _ h1 HR.out HF.out).mono ?_; rintro e w2 ⟨rfl, hbw2⟩; have krw2 : At w2 (w.heap.size) [.int .i64 0, .int .i64 0, .bool false] := (by repeat (first | assumption | (with_reducible first | (refine at_new' _ _ _ _ ?_; first | rfl | (simp; done)) | refine At.alloc ?_ _ | refine At.drewN ?_ | refine At.grow ?_ | refine At.store4 (by assumption) | refine At.store3 (by assumption) | refine At.store2 (by assumption) | refine At.set ?_ (by omega) | apply At.store4 | apply At.store3 | apply At.put43) | refine At.below ?_ (by assumption))); have ksw2 : At w2 (w1.heap.size) [.int .i64 (x : Int), .int .i64 (ltN x : Int), .bool false] := (by repeat (first | assumption | (with_reducible first | (refine at_new' _ _ _ _ ?_; first | rfl | (simp; done)) | refine At.alloc ?_ _ | refine At.drewN ?_ | refine At.grow ?_ | refine At.store4 (by assumption) | refine At.store3 (by assumption) | refine At.store2 (by assumption) | refine At.set ?_ (by omega) | apply At.store4 | apply At.store3 | apply At.put43) | refine At.below ?_ (by assumption))); have hqw2 : Below w.heap.size w w2 := (by repeat (first | (with_reducible first | exact Below.refl _ _ | assumption | refine Below.setCell ?_ (by first | simp <;> omega | omega) _ | refine Below.alloc ?_ (by first | simp <;> omega | omega) _) | refine bl_call ?_ (by assumption) (by first | simp <;> omega | omega) | (with_reducible first | refine bl_drewN ?_ | refine Below.drew ?_ | refine bl_grow ?_ (by first | simp <;> omega | omega)))); have hzw2 := hqw2.size; obtain ⟨zrw2, cr0w2, cr1w2, cr2w2, fr0w2, fr1w2, fr2w2⟩ := krw2.three; obtain ⟨zsw2, cs0w2, cs1w2, cs2w2, fs0w2, fs1w2, fs2w2⟩ := ksw2.three; clear krw1 cr0w1 fr0w1 cr1w1 fr1w1 cr2w1 fr2w1 hqw1; clear hbw2))
  go_region_with fail
  all_goals (try go_wp2_with fail)
  all_goals exact bodyPost_ret (v := .tuple #[.agg #[.int .i64 0, .int .i64 0, .bool true], .bool false]) (by simp [results, Tryz.results101, go_sem, *]) rfl ⟨rfl, by repeat (first | (with_reducible first | exact Below.refl _ _ | assumption | refine Below.setCell ?_ (by first | simp <;> omega | omega) _ | refine Below.alloc ?_ (by first | simp <;> omega | omega) _) | refine bl_call ?_ (by assumption) (by first | simp <;> omega | omega) | (with_reducible first | refine bl_drewN ?_ | refine Below.drew ?_ | refine bl_grow ?_ (by first | simp <;> omega | omega)))⟩
theorem counted_no (x : Nat) (w : World) (h1 : x < 4051) (h : fdN x = false) :
    Calls Tryz.prog 101 #[.int .i64 (x : Int)] w fun e w' => ∃ f : Bool, e = .returned (.tuple #[.agg #[.int .i64 0, .int .i64 0, .bool f], .bool false]) ∧ Below w.heap.size w w' := by
  unfold fdN at h
  cases hr : rtOk (sqI (x : Int)) with
  | false => exact (counted_none x w h1 hr).mono fun e w' hh => ⟨false, hh⟩
  | true =>
    rw [hr] at h
    exact (counted_far x w h1 hr (by simpa using h)).mono fun e w' hh => ⟨true, hh⟩
theorem counted_is (x : Nat) (w : World) (h1 : x < 4051) (h : fdN x = true) :
    Calls Tryz.prog 101 #[.int .i64 (x : Int)] w fun e w' => e = .returned (.tuple #[.agg #[.int .i64 ((tM (kxN x * 4)).1 : Int), .int .i64 ((tM (kxN x * 4)).2.1 : Int), .bool false], .bool true]) ∧ Below w.heap.size w w' := by
  unfold fdN at h
  simp only [Bool.and_eq_true, Bool.not_eq_true'] at h
  exact counted_yes x w h1 h.1 h.2
theorem of_bh (n k : Nat) (w : World) :
    Calls Tryz.prog 102 #[.int .i64 (bhN n k : Int)] w fun e w' => e = .returned (.int .i64 ((bhN n k % 4051 : Nat) : Int)) ∧ w' = w := by
  have := of_any (bhN n k : Int) w
  rwa [show fm (bhN n k : Int) = ((bhN n k % 4051 : Nat) : Int) by unfold fm; omega] at this
set_option maxRecDepth 100000 in
set_option maxHeartbeats 1000000 in
theorem spot_any (t : ByteArray) (w : World) (ht : t.size ≤ 9223372036854775807) :
    Calls Tryz.prog 80 #[.string t] w fun e w' => e = .returned (.agg #[.int .i64 ((tM (spN (longN t))).1 : Int), .int .i64 ((tM (spN (longN t))).2.1 : Int), .bool false]) ∧ Below w.heap.size w w' := by
  have hn := longN_lt t
  have HS : Hid (spN (longN t) = spF (longN t) 256 0) := rfl
  have m1 : True := trivial
  go_enter Tryz.func80, Tryz.ntmps80
  go_wp2_with (go_at_call 72; clear m1; refine (long_any _ _ ht).mono ?_; rintro e w1 ⟨rfl, rfl⟩)
  go_loopw [9] (fun ti wl => ∃ k : Nat, k ≤ 256 ∧ ti = .int .i64 k ∧ Hid (spN (longN t) = spF (longN t) (256 - k) k) ∧ At wl w.heap.size [.int .i64 0, .int .i64 0, .bool false] ∧ Below w.heap.size w wl) (fun ti _ => 256 - (intOf ti).toNat)
  case atStart => exact ⟨0, by omega, rfl, HS, by repeat (first | assumption | (with_reducible first | (refine at_new' _ _ _ _ ?_; first | rfl | (simp; done)) | refine At.alloc ?_ _ | refine At.drewN ?_ | refine At.grow ?_ | refine At.store4 (by assumption) | refine At.store3 (by assumption) | refine At.store2 (by assumption) | refine At.set ?_ (by omega) | apply At.store4 | apply At.store3 | apply At.put43) | refine At.below ?_ (by assumption)), by repeat (first | (with_reducible first | exact Below.refl _ _ | assumption | refine Below.setCell ?_ (by first | simp <;> omega | omega) _ | refine Below.alloc ?_ (by first | simp <;> omega | omega) _) | refine bl_call ?_ (by assumption) (by first | simp <;> omega | omega) | (with_reducible first | refine bl_drewN ?_ | refine Below.drew ?_ | refine bl_grow ?_ (by first | simp <;> omega | omega)))⟩
  case round =>
    obtain ⟨k, hk, rfl, HK, krW, hqW⟩ := hrel
    have hzW := hqW.size
    obtain ⟨zrW, cr0W, cr1W, cr2W, fr0W, fr1W, fr2W⟩ := krW.three
    have hx : bhN (longN t) k % 4051 < 4051 := Nat.mod_lt _ (by omega)
    by_cases hlt : k < 256
    · have hlt' : (k : Int) < 256 := by omega
      cases hf : fdN (bhN (longN t) k % 4051) with
      | true =>
        have HF : Hid (fdN (bhN (longN t) k % 4051) = true) := hf
        clear hf
        have m1 : True := trivial; have m2 : True := trivial; have m3 : True := trivial
        go_wp2_with (first | (go_at_call 90; clear m1; refine (behind_at (b := k) (by omega) _ _ hn hlt).mono ?_; rintro e w1 ⟨rfl, rfl⟩) | (go_at_call 102; clear m2; refine (of_bh _ _ _).mono ?_; rintro e w1 ⟨rfl, rfl⟩) | (go_at_call 101; clear m3; refine (counted_is _ _ hx HF.out).mono ?_; rintro e W1 ⟨rfl, hbW1⟩; have krW1 : At W1 (w.heap.size) [.int .i64 0, .int .i64 0, .bool false] := (by repeat (first | assumption | (with_reducible first | (refine at_new' _ _ _ _ ?_; first | rfl | (simp; done)) | refine At.alloc ?_ _ | refine At.drewN ?_ | refine At.grow ?_ | refine At.store4 (by assumption) | refine At.store3 (by assumption) | refine At.store2 (by assumption) | refine At.set ?_ (by omega) | apply At.store4 | apply At.store3 | apply At.put43) | refine At.below ?_ (by assumption))); have hqW1 : Below w.heap.size w W1 := (by repeat (first | (with_reducible first | exact Below.refl _ _ | assumption | refine Below.setCell ?_ (by first | simp <;> omega | omega) _ | refine Below.alloc ?_ (by first | simp <;> omega | omega) _) | refine bl_call ?_ (by assumption) (by first | simp <;> omega | omega) | (with_reducible first | refine bl_drewN ?_ | refine Below.drew ?_ | refine bl_grow ?_ (by first | simp <;> omega | omega)))); have hzW1 := hqW1.size; obtain ⟨zrW1, cr0W1, cr1W1, cr2W1, fr0W1, fr1W1, fr2W1⟩ := krW1.three; clear krW cr0W fr0W cr1W fr1W cr2W fr2W hqW; clear hbW1))
        have e1 : spN (longN t) = kxN (bhN (longN t) k % 4051) * 4 := by rw [HK.out, show 256 - k = (255 - k) + 1 by omega, spF_yes HF.out]
        rw [e1]
        exact bodyPost_ret (v := .agg #[.int .i64 ((tM (kxN (bhN (longN t) k % 4051) * 4)).1 : Int), .int .i64 ((tM (kxN (bhN (longN t) k % 4051) * 4)).2.1 : Int), .bool false]) (by simp [results, Tryz.results80, go_sem, *]) rfl ⟨rfl, by repeat (first | (with_reducible first | exact Below.refl _ _ | assumption | refine Below.setCell ?_ (by first | simp <;> omega | omega) _ | refine Below.alloc ?_ (by first | simp <;> omega | omega) _) | refine bl_call ?_ (by assumption) (by first | simp <;> omega | omega) | (with_reducible first | refine bl_drewN ?_ | refine Below.drew ?_ | refine bl_grow ?_ (by first | simp <;> omega | omega)))⟩
      | false =>
        have HF : Hid (fdN (bhN (longN t) k % 4051) = false) := hf
        clear hf
        have m1 : True := trivial; have m2 : True := trivial; have m3 : True := trivial
        go_wp2_with (first | (go_at_call 90; clear m1; refine (behind_at (b := k) (by omega) _ _ hn hlt).mono ?_; rintro e w1 ⟨rfl, rfl⟩) | (go_at_call 102; clear m2; refine (of_bh _ _ _).mono ?_; rintro e w1 ⟨rfl, rfl⟩) | (go_at_call 101; clear m3; refine (counted_no _ _ hx HF.out).mono ?_; rintro e W1 ⟨ff, rfl, hbW1⟩; have krW1 : At W1 (w.heap.size) [.int .i64 0, .int .i64 0, .bool false] := (by repeat (first | assumption | (with_reducible first | (refine at_new' _ _ _ _ ?_; first | rfl | (simp; done)) | refine At.alloc ?_ _ | refine At.drewN ?_ | refine At.grow ?_ | refine At.store4 (by assumption) | refine At.store3 (by assumption) | refine At.store2 (by assumption) | refine At.set ?_ (by omega) | apply At.store4 | apply At.store3 | apply At.put43) | refine At.below ?_ (by assumption))); have hqW1 : Below w.heap.size w W1 := (by repeat (first | (with_reducible first | exact Below.refl _ _ | assumption | refine Below.setCell ?_ (by first | simp <;> omega | omega) _ | refine Below.alloc ?_ (by first | simp <;> omega | omega) _) | refine bl_call ?_ (by assumption) (by first | simp <;> omega | omega) | (with_reducible first | refine bl_drewN ?_ | refine Below.drew ?_ | refine bl_grow ?_ (by first | simp <;> omega | omega)))); have hzW1 := hqW1.size; obtain ⟨zrW1, cr0W1, cr1W1, cr2W1, fr0W1, fr1W1, fr2W1⟩ := krW1.three; clear krW cr0W fr0W cr1W fr1W cr2W fr2W hqW; clear hbW1))
        go_roundw
        case rel => exact ⟨k + 1, by omega, by simp, (show spN (longN t) = spF (longN t) (256 - (k + 1)) (k + 1) by rw [HK.out, show 256 - k = (256 - (k + 1)) + 1 by omega, spF_no HF.out]), by repeat (first | assumption | (with_reducible first | (refine at_new' _ _ _ _ ?_; first | rfl | (simp; done)) | refine At.alloc ?_ _ | refine At.drewN ?_ | refine At.grow ?_ | refine At.store4 (by assumption) | refine At.store3 (by assumption) | refine At.store2 (by assumption) | refine At.set ?_ (by omega) | apply At.store4 | apply At.store3 | apply At.put43) | refine At.below ?_ (by assumption)), by repeat (first | (with_reducible first | exact Below.refl _ _ | assumption | refine Below.setCell ?_ (by first | simp <;> omega | omega) _ | refine Below.alloc ?_ (by first | simp <;> omega | omega) _) | refine bl_call ?_ (by assumption) (by first | simp <;> omega | omega) | (with_reducible first | refine bl_drewN ?_ | refine Below.drew ?_ | refine bl_grow ?_ (by first | simp <;> omega | omega)))⟩
        case measure => simp [intOf]; omega
    · have hlt' : ¬ (k : Int) < 256 := by omega
      obtain rfl : k = 256 := by omega
      have m1 : True := trivial
      go_wp2_with (go_at_call 103; clear m1; refine (base_f _).mono ?_; rintro e W1 ⟨rfl, hbW1⟩; have krW1 : At W1 (w.heap.size) [.int .i64 0, .int .i64 0, .bool false] := (by repeat (first | assumption | (with_reducible first | (refine at_new' _ _ _ _ ?_; first | rfl | (simp; done)) | refine At.alloc ?_ _ | refine At.drewN ?_ | refine At.grow ?_ | refine At.store4 (by assumption) | refine At.store3 (by assumption) | refine At.store2 (by assumption) | refine At.set ?_ (by omega) | apply At.store4 | apply At.store3 | apply At.put43) | refine At.below ?_ (by assumption))); have hqW1 : Below w.heap.size w W1 := (by repeat (first | (with_reducible first | exact Below.refl _ _ | assumption | refine Below.setCell ?_ (by first | simp <;> omega | omega) _ | refine Below.alloc ?_ (by first | simp <;> omega | omega) _) | refine bl_call ?_ (by assumption) (by first | simp <;> omega | omega) | (with_reducible first | refine bl_drewN ?_ | refine Below.drew ?_ | refine bl_grow ?_ (by first | simp <;> omega | omega)))); have hzW1 := hqW1.size; obtain ⟨zrW1, cr0W1, cr1W1, cr2W1, fr0W1, fr1W1, fr2W1⟩ := krW1.three; clear krW cr0W fr0W cr1W fr1W cr2W fr2W hqW; clear hbW1)
      have e1 : spN (longN t) = 4 := HK.out
      rw [e1]
      exact bodyPost_ret (v := .agg #[.int .i64 ((tM 4).1 : Int), .int .i64 ((tM 4).2.1 : Int), .bool false]) (by simp [results, Tryz.results80, go_sem, *]) rfl ⟨rfl, by repeat (first | (with_reducible first | exact Below.refl _ _ | assumption | refine Below.setCell ?_ (by first | simp <;> omega | omega) _ | refine Below.alloc ?_ (by first | simp <;> omega | omega) _) | refine bl_call ?_ (by assumption) (by first | simp <;> omega | omega) | (with_reducible first | refine bl_drewN ?_ | refine Below.drew ?_ | refine bl_grow ?_ (by first | simp <;> omega | omega)))⟩
end Go.Proofs.YtpkkclcjiobgoajGreatDoor
