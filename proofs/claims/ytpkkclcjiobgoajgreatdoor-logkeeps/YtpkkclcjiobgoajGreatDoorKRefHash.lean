/- Any text as a long number, a number and a spot, as the plain reckoning (stoneref1) has them. -/
import Derived.Test.YtpkkclcjiobgoajGreatDoorKRefTimes
import Derived.Test.YtpkkclcjiobgoajGreatDoorKHash
namespace Go.Proofs.YtpkkclcjiobgoajGreatDoor
open Go.RowKit Go.Sort
set_option linter.unusedVariables false
set_option linter.unusedSimpArgs false
set_option maxRecDepth 100000 in
set_option maxHeartbeats 4000000 in
theorem rlong_any (t : ByteArray) (w : World) (ht : t.size ≤ 9223372036854775807) :
    Calls Tryz.prog 65 #[.string t] w fun e w' => e = .returned (.int .i64 (longN t : Int)) ∧ w' = w := by
  go_enter Tryz.func65, Tryz.ntmps65
  go_wp2_with fail
  go_loopw [3, 4] (fun tn ti wl => ∃ k : Nat, k ≤ t.size ∧ ti = .int .i64 k ∧ tn = .int .i64 (lgN t k : Int) ∧ wl = w) (fun _ ti _ => t.size - (intOf ti).toNat)
  case atStart => exact ⟨0, by omega, rfl, rfl, rfl⟩
  case round =>
    obtain ⟨k, hk, rfl, rfl, rfl⟩ := hrel
    by_cases hlt : k < t.size
    · have hlt' : (k : Int) < t.size := by omega
      have hb := byN_lt t k
      have hl := lgN_lt t k
      have he := byN_at hlt
      have hb' : t[k].toNat < 256 := by omega
      have e1 : wrap64 (t[k].toNat : Int) = (t[k].toNat : Int) := by unfold wrap64; omega
      have hi := bh_int (lgN t k) t[k].toNat
      go_wp2_with fail
      go_roundw
      case rel => exact ⟨k + 1, by omega, by simp, by show _ = Value.int .i64 ((bhN (lgN t k) (byN t k) : Nat) : Int); rw [he, hi], by first | trivial | rfl⟩
      case measure => simp [intOf]; omega
    · have hlt' : ¬ (k : Int) < t.size := by omega
      obtain rfl : k = t.size := by omega
      go_wp2_with fail
      go_ret
      exact ⟨rfl, rfl⟩
theorem rnumber_any (t : ByteArray) (w : World) (ht : t.size ≤ 9223372036854775807) :
    Calls Tryz.prog 39 #[.string t] w fun e w' => e = .returned (.int .i64 ((longN t : Int) % 1013)) ∧ w' = w := by
  have hl := longN_lt t
  go_enter Tryz.func39, Tryz.ntmps39
  go_wp2_with (go_at_call 65; refine (rlong_any _ _ ht).mono ?_; rintro e w1 ⟨rfl, rfl⟩)
  go_ret
  exact ⟨rfl, rfl⟩
theorem hrlift_at (x : Nat) (w : World) (h1 : x < 4051) (h : rtOk (sqI (x : Int)) = true) :
    Calls Tryz.prog 75 #[.int .i64 (x : Int)] w fun e w' => e = .returned (.tuple #[.agg #[.int .i64 (x : Int), .int .i64 (ltN x : Int), .bool false], .bool true]) ∧ Below w.heap.size w w' := by
  have := rlift_yes (x : Int) w (by omega) (by omega) h
  rwa [ltI] at this
theorem rfour_near (x : Nat) (w : World) (h1 : x < 4051) (h : rtOk (sqI (x : Int)) = true) (hf : farI (kxN x * 4) = false) :
    Calls Tryz.prog 12 #[.agg #[.int .i64 (x : Int), .int .i64 (ltN x : Int), .bool false], .int .i64 4] w fun e w' => e = .returned (.agg #[.int .i64 ((tM (kxN x * 4)).1 : Int), .int .i64 ((tM (kxN x * 4)).2.1 : Int), .bool false]) ∧ Below w.heap.size w w' := by
  have := rtimes_tM (kxN x) 4 w
  rw [kx_is h1 h, em_four, tM_f (kxN x * 4), hf] at this
  exact this
theorem rfour_far (x : Nat) (w : World) (h1 : x < 4051) (h : rtOk (sqI (x : Int)) = true) (hf : farI (kxN x * 4) = true) :
    Calls Tryz.prog 12 #[.agg #[.int .i64 (x : Int), .int .i64 (ltN x : Int), .bool false], .int .i64 4] w fun e w' => e = .returned (.agg #[.int .i64 0, .int .i64 0, .bool true]) ∧ Below w.heap.size w w' := by
  have := rtimes_tM (kxN x) 4 w
  rw [kx_is h1 h, em_four, tM_isfar hf] at this
  exact this
theorem rlift_is {n : Int} {x : Nat} (e : n = (x : Int)) (w : World) (h1 : x < 4051) (h : rtOk (sqI (x : Int)) = true) :
    Calls Tryz.prog 75 #[.int .i64 n] w fun e w' => e = .returned (.tuple #[.agg #[.int .i64 (x : Int), .int .i64 (ltN x : Int), .bool false], .bool true]) ∧ Below w.heap.size w w' := by subst e; exact hrlift_at x w h1 h
theorem rlift_not {n : Int} {x : Nat} (e : n = (x : Int)) (w : World) (h1 : x < 4051) (h : rtOk (sqI (x : Int)) = false) :
    Calls Tryz.prog 75 #[.int .i64 n] w fun e w' => e = .returned (.tuple #[.agg #[.int .i64 0, .int .i64 0, .bool false], .bool false]) ∧ Below w.heap.size w w' := by subst e; exact rlift_no (x : Int) w (by omega) (by omega) h
theorem rlong_more {t : ByteArray} {c : UInt8} {k : Nat} (hc : c.toNat = k) (w : World) (ht : t.size ≤ 140737488351232) :
    Calls Tryz.prog 65 #[.string (t ++ ⟨#[c]⟩)] w fun e w' => e = .returned (.int .i64 (bhN (longN t) k : Int)) ∧ w' = w := by
  have := rlong_any (t ++ ⟨#[c]⟩) w (by rw [ByteArray.size_append]; show t.size + 1 ≤ _; omega)
  rwa [long_more, hc] at this
set_option maxRecDepth 100000 in
set_option maxHeartbeats 4000000 in
theorem rof_any (t : ByteArray) (w : World) (ht : t.size ≤ 140737488351232) :
    Calls Tryz.prog 46 #[.string t] w fun e w' => e = .returned (.agg #[.int .i64 ((tM (spN (longN t))).1 : Int), .int .i64 ((tM (spN (longN t))).2.1 : Int), .bool false]) ∧ Below w.heap.size w w' := by
  have HS : Hid (spN (longN t) = spF (longN t) 256 0) := rfl
  go_enter Tryz.func46, Tryz.ntmps46
  go_wp2_with fail
  go_loopw [3] (fun ti wl => ∃ k : Nat, k ≤ 256 ∧ ti = .int .i64 k ∧ Hid (spN (longN t) = spF (longN t) (256 - k) k) ∧ At wl w.heap.size [.int .i64 0, .int .i64 0, .bool false] ∧ Below w.heap.size w wl) (fun ti _ => 256 - (intOf ti).toNat)
  case atStart => exact ⟨0, by omega, rfl, HS, by repeat (first | assumption | (with_reducible first | (refine at_new' _ _ _ _ ?_; first | rfl | (simp; done)) | refine At.alloc ?_ _ | refine At.drewN ?_ | refine At.grow ?_ | refine At.store4 (by assumption) | refine At.store3 (by assumption) | refine At.store2 (by assumption) | refine At.set ?_ (by omega) | apply At.store4 | apply At.store3 | apply At.put43) | refine At.below ?_ (by assumption)), by repeat (first | (with_reducible first | exact Below.refl _ _ | assumption | refine Below.setCell ?_ (by first | simp <;> omega | omega) _ | refine Below.alloc ?_ (by first | simp <;> omega | omega) _) | refine bl_call ?_ (by assumption) (by first | simp <;> omega | omega) | (with_reducible first | refine bl_drewN ?_ | refine Below.drew ?_ | refine bl_grow ?_ (by first | simp <;> omega | omega)))⟩
  case round =>
    obtain ⟨k, hk, rfl, HK, krW, hqW⟩ := hrel
    have hzW := hqW.size
    obtain ⟨zrW, cr0W, cr1W, cr2W, fr0W, fr1W, fr2W⟩ := krW.three
    by_cases hlt : k < 256
    · have hlt' : (k : Int) < 256 := by omega
      obtain ⟨c, hc⟩ : ∃ c : UInt8, c.toNat = k := ⟨UInt8.ofNat k, by rw [UInt8.toNat_ofNat']; omega⟩
      obtain ⟨x, hx⟩ : ∃ x, bhN (longN t) k % 4051 = x := ⟨_, rfl⟩
      have hx1 : x < 4051 := by rw [← hx]; exact Nat.mod_lt _ (by omega)
      have HX : Hid ((bhN (longN t) k : Int) % 4051 = (x : Int)) := by unfold Hid; omega
      have HY : Hid (bhN (longN t) k % 4051 = x) := hx
      clear hx
      have q1 : (((c.toNat) : Nat) : Int) = (k : Int) := by rw [hc]
      have hcv : (convert 100 9 (.slice (some ⟨wr.heap.size, 0, none⟩) 1 1)).run Tryz.prog (wr.alloc (.cells #[.int .u8 (k : Int)] 5)) = .ok (.string ⟨#[c]⟩) (wr.alloc (.cells #[.int .u8 (k : Int)] 5)) :=
        run_convert_bytes_back (P := Tryz.prog) _ _ _ 5 _ 1 [c] Tryz.underlying100 Tryz.underlying5 Tryz.underlying9 (fun j hj => by
          match j, hj with
          | 0, _ => simp [go_sem, *])
      clear q1
      have hsz : (t ++ (⟨#[c]⟩ : ByteArray)).size = t.size + 1 := by rw [ByteArray.size_append]; rfl
      have hs1 : ¬ 9223372036854775807 < t.size + 1 := by omega
      cases hr : rtOk (sqI (x : Int)) with
      | false =>
        have HR : Hid (rtOk (sqI (x : Int)) = false) := hr
        have HF : fdN (bhN (longN t) k % 4051) = false := by rw [HY.out]; unfold fdN; rw [hr]; rfl
        have HF : Hid (fdN (bhN (longN t) k % 4051) = false) := HF
        clear hr
        have m1 : True := trivial; have m2 : True := trivial
        go_wp2_with (first | (go_at_call 65; clear m1; refine (rlong_more hc _ ht).mono ?_; rintro e v1 ⟨rfl, hv1⟩; subst v1) | (go_at_call 75; clear m2; refine (rlift_not HX.out _ hx1 HR.out).mono ?_; rintro e W1 ⟨rfl, hbW1⟩; have krW1 : At W1 (w.heap.size) [.int .i64 0, .int .i64 0, .bool false] := (by repeat (first | assumption | (with_reducible first | (refine at_new' _ _ _ _ ?_; first | rfl | (simp; done)) | refine At.alloc ?_ _ | refine At.drewN ?_ | refine At.grow ?_ | refine At.store4 (by assumption) | refine At.store3 (by assumption) | refine At.store2 (by assumption) | refine At.set ?_ (by omega) | apply At.store4 | apply At.store3 | apply At.put43) | refine At.below ?_ (by assumption))); have hqW1 : Below w.heap.size w W1 := (by repeat (first | (with_reducible first | exact Below.refl _ _ | assumption | refine Below.setCell ?_ (by first | simp <;> omega | omega) _ | refine Below.alloc ?_ (by first | simp <;> omega | omega) _) | refine bl_call ?_ (by assumption) (by first | simp <;> omega | omega) | (with_reducible first | refine bl_drewN ?_ | refine Below.drew ?_ | refine bl_grow ?_ (by first | simp <;> omega | omega)))); have hzW1 := hqW1.size; obtain ⟨zrW1, cr0W1, cr1W1, cr2W1, fr0W1, fr1W1, fr2W1⟩ := krW1.three; clear krW cr0W fr0W cr1W fr1W cr2W fr2W hqW; clear hbW1))
        go_roundw
        case rel => exact ⟨k + 1, by omega, by simp, (show spN (longN t) = spF (longN t) (256 - (k + 1)) (k + 1) by rw [HK.out, show 256 - k = (256 - (k + 1)) + 1 by omega, spF_no HF.out]), by repeat (first | assumption | (with_reducible first | (refine at_new' _ _ _ _ ?_; first | rfl | (simp; done)) | refine At.alloc ?_ _ | refine At.drewN ?_ | refine At.grow ?_ | refine At.store4 (by assumption) | refine At.store3 (by assumption) | refine At.store2 (by assumption) | refine At.set ?_ (by omega) | apply At.store4 | apply At.store3 | apply At.put43) | refine At.below ?_ (by assumption)), by repeat (first | (with_reducible first | exact Below.refl _ _ | assumption | refine Below.setCell ?_ (by first | simp <;> omega | omega) _ | refine Below.alloc ?_ (by first | simp <;> omega | omega) _) | refine bl_call ?_ (by assumption) (by first | simp <;> omega | omega) | (with_reducible first | refine bl_drewN ?_ | refine Below.drew ?_ | refine bl_grow ?_ (by first | simp <;> omega | omega)))⟩
        case measure => simp [intOf]; omega
      | true =>
       have HR : Hid (rtOk (sqI (x : Int)) = true) := hr
       cases hf : farI (kxN x * 4) with
       | true =>
        have HF : fdN (bhN (longN t) k % 4051) = false := by rw [HY.out]; unfold fdN; rw [hr, hf]; rfl
        have HF : Hid (fdN (bhN (longN t) k % 4051) = false) := HF
        have HQ : Hid (farI (kxN x * 4) = true) := hf
        clear hr hf
        have m1 : True := trivial; have m2 : True := trivial; have m3 : True := trivial
        go_wp2_with (first | (go_at_call 65; clear m1; refine (rlong_more hc _ ht).mono ?_; rintro e v1 ⟨rfl, hv1⟩; subst v1) | (go_at_call 75; clear m2; refine (rlift_is HX.out _ hx1 HR.out).mono ?_; rintro e W1 ⟨rfl, hbW1⟩; have krW1 : At W1 (w.heap.size) [.int .i64 0, .int .i64 0, .bool false] := (by repeat (first | assumption | (with_reducible first | (refine at_new' _ _ _ _ ?_; first | rfl | (simp; done)) | refine At.alloc ?_ _ | refine At.drewN ?_ | refine At.grow ?_ | refine At.store4 (by assumption) | refine At.store3 (by assumption) | refine At.store2 (by assumption) | refine At.set ?_ (by omega) | apply At.store4 | apply At.store3 | apply At.put43) | refine At.below ?_ (by assumption))); have hqW1 : Below w.heap.size w W1 := (by repeat (first | (with_reducible first | exact Below.refl _ _ | assumption | refine Below.setCell ?_ (by first | simp <;> omega | omega) _ | refine Below.alloc ?_ (by first | simp <;> omega | omega) _) | refine bl_call ?_ (by assumption) (by first | simp <;> omega | omega) | (with_reducible first | refine bl_drewN ?_ | refine Below.drew ?_ | refine bl_grow ?_ (by first | simp <;> omega | omega)))); have hzW1 := hqW1.size; obtain ⟨zrW1, cr0W1, cr1W1, cr2W1, fr0W1, fr1W1, fr2W1⟩ := krW1.three; clear krW cr0W fr0W cr1W fr1W cr2W fr2W hqW; clear hbW1) | (go_at_call 12; clear m3; refine (rfour_far _ _ hx1 HR.out HQ.out).mono ?_; rintro e W2 ⟨rfl, hbW2⟩; have krW2 : At W2 (w.heap.size) [.int .i64 0, .int .i64 0, .bool false] := (by repeat (first | assumption | (with_reducible first | (refine at_new' _ _ _ _ ?_; first | rfl | (simp; done)) | refine At.alloc ?_ _ | refine At.drewN ?_ | refine At.grow ?_ | refine At.store4 (by assumption) | refine At.store3 (by assumption) | refine At.store2 (by assumption) | refine At.set ?_ (by omega) | apply At.store4 | apply At.store3 | apply At.put43) | refine At.below ?_ (by assumption))); have hqW2 : Below w.heap.size w W2 := (by repeat (first | (with_reducible first | exact Below.refl _ _ | assumption | refine Below.setCell ?_ (by first | simp <;> omega | omega) _ | refine Below.alloc ?_ (by first | simp <;> omega | omega) _) | refine bl_call ?_ (by assumption) (by first | simp <;> omega | omega) | (with_reducible first | refine bl_drewN ?_ | refine Below.drew ?_ | refine bl_grow ?_ (by first | simp <;> omega | omega)))); have hzW2 := hqW2.size; obtain ⟨zrW2, cr0W2, cr1W2, cr2W2, fr0W2, fr1W2, fr2W2⟩ := krW2.three; clear krW1 cr0W1 fr0W1 cr1W1 fr1W1 cr2W1 fr2W1 hqW1; clear hbW2))
        go_roundw
        case rel => exact ⟨k + 1, by omega, by simp, (show spN (longN t) = spF (longN t) (256 - (k + 1)) (k + 1) by rw [HK.out, show 256 - k = (256 - (k + 1)) + 1 by omega, spF_no HF.out]), by repeat (first | assumption | (with_reducible first | (refine at_new' _ _ _ _ ?_; first | rfl | (simp; done)) | refine At.alloc ?_ _ | refine At.drewN ?_ | refine At.grow ?_ | refine At.store4 (by assumption) | refine At.store3 (by assumption) | refine At.store2 (by assumption) | refine At.set ?_ (by omega) | apply At.store4 | apply At.store3 | apply At.put43) | refine At.below ?_ (by assumption)), by repeat (first | (with_reducible first | exact Below.refl _ _ | assumption | refine Below.setCell ?_ (by first | simp <;> omega | omega) _ | refine Below.alloc ?_ (by first | simp <;> omega | omega) _) | refine bl_call ?_ (by assumption) (by first | simp <;> omega | omega) | (with_reducible first | refine bl_drewN ?_ | refine Below.drew ?_ | refine bl_grow ?_ (by first | simp <;> omega | omega)))⟩
        case measure => simp [intOf]; omega
       | false =>
        have HF : fdN (bhN (longN t) k % 4051) = true := by rw [HY.out]; unfold fdN; rw [hr, hf]; rfl
        have HF : Hid (fdN (bhN (longN t) k % 4051) = true) := HF
        have HQ : Hid (farI (kxN x * 4) = false) := hf
        clear hr hf
        have m1 : True := trivial; have m2 : True := trivial; have m3 : True := trivial
        go_wp2_with (first | (go_at_call 65; clear m1; refine (rlong_more hc _ ht).mono ?_; rintro e v1 ⟨rfl, hv1⟩; subst v1) | (go_at_call 75; clear m2; refine (rlift_is HX.out _ hx1 HR.out).mono ?_; rintro e W1 ⟨rfl, hbW1⟩; have krW1 : At W1 (w.heap.size) [.int .i64 0, .int .i64 0, .bool false] := (by repeat (first | assumption | (with_reducible first | (refine at_new' _ _ _ _ ?_; first | rfl | (simp; done)) | refine At.alloc ?_ _ | refine At.drewN ?_ | refine At.grow ?_ | refine At.store4 (by assumption) | refine At.store3 (by assumption) | refine At.store2 (by assumption) | refine At.set ?_ (by omega) | apply At.store4 | apply At.store3 | apply At.put43) | refine At.below ?_ (by assumption))); have hqW1 : Below w.heap.size w W1 := (by repeat (first | (with_reducible first | exact Below.refl _ _ | assumption | refine Below.setCell ?_ (by first | simp <;> omega | omega) _ | refine Below.alloc ?_ (by first | simp <;> omega | omega) _) | refine bl_call ?_ (by assumption) (by first | simp <;> omega | omega) | (with_reducible first | refine bl_drewN ?_ | refine Below.drew ?_ | refine bl_grow ?_ (by first | simp <;> omega | omega)))); have hzW1 := hqW1.size; obtain ⟨zrW1, cr0W1, cr1W1, cr2W1, fr0W1, fr1W1, fr2W1⟩ := krW1.three; clear krW cr0W fr0W cr1W fr1W cr2W fr2W hqW; clear hbW1) | (go_at_call 12; clear m3; refine (rfour_near _ _ hx1 HR.out HQ.out).mono ?_; rintro e W2 ⟨rfl, hbW2⟩; have krW2 : At W2 (w.heap.size) [.int .i64 0, .int .i64 0, .bool false] := (by repeat (first | assumption | (with_reducible first | (refine at_new' _ _ _ _ ?_; first | rfl | (simp; done)) | refine At.alloc ?_ _ | refine At.drewN ?_ | refine At.grow ?_ | refine At.store4 (by assumption) | refine At.store3 (by assumption) | refine At.store2 (by assumption) | refine At.set ?_ (by omega) | apply At.store4 | apply At.store3 | apply At.put43) | refine At.below ?_ (by assumption))); have hqW2 : Below w.heap.size w W2 := (by repeat (first | (with_reducible first | exact Below.refl _ _ | assumption | refine Below.setCell ?_ (by first | simp <;> omega | omega) _ | refine Below.alloc ?_ (by first | simp <;> omega | omega) _) | refine bl_call ?_ (by assumption) (by first | simp <;> omega | omega) | (with_reducible first | refine bl_drewN ?_ | refine Below.drew ?_ | refine bl_grow ?_ (by first | simp <;> omega | omega)))); have hzW2 := hqW2.size; obtain ⟨zrW2, cr0W2, cr1W2, cr2W2, fr0W2, fr1W2, fr2W2⟩ := krW2.three; clear krW1 cr0W1 fr0W1 cr1W1 fr1W1 cr2W1 fr2W1 hqW1; clear hbW2))
        have e1 : spN (longN t) = kxN x * 4 := by rw [HK.out, show 256 - k = (255 - k) + 1 by omega, spF_yes HF.out, HY.out]
        rw [e1]
        exact bodyPost_ret (v := .agg #[.int .i64 ((tM (kxN x * 4)).1 : Int), .int .i64 ((tM (kxN x * 4)).2.1 : Int), .bool false]) (by simp [results, Tryz.results46, go_sem, *]) rfl ⟨rfl, by repeat (first | (with_reducible first | exact Below.refl _ _ | assumption | refine Below.setCell ?_ (by first | simp <;> omega | omega) _ | refine Below.alloc ?_ (by first | simp <;> omega | omega) _) | refine bl_call ?_ (by assumption) (by first | simp <;> omega | omega) | (with_reducible first | refine bl_drewN ?_ | refine Below.drew ?_ | refine bl_grow ?_ (by first | simp <;> omega | omega)))⟩
    · have hlt' : ¬ (k : Int) < 256 := by omega
      obtain rfl : k = 256 := by omega
      have m1 : True := trivial
      go_wp2_with (go_at_call 76; clear m1; refine (rbase_f _).mono ?_; rintro e W1 ⟨rfl, hbW1⟩; have krW1 : At W1 (w.heap.size) [.int .i64 0, .int .i64 0, .bool false] := (by repeat (first | assumption | (with_reducible first | (refine at_new' _ _ _ _ ?_; first | rfl | (simp; done)) | refine At.alloc ?_ _ | refine At.drewN ?_ | refine At.grow ?_ | refine At.store4 (by assumption) | refine At.store3 (by assumption) | refine At.store2 (by assumption) | refine At.set ?_ (by omega) | apply At.store4 | apply At.store3 | apply At.put43) | refine At.below ?_ (by assumption))); have hqW1 : Below w.heap.size w W1 := (by repeat (first | (with_reducible first | exact Below.refl _ _ | assumption | refine Below.setCell ?_ (by first | simp <;> omega | omega) _ | refine Below.alloc ?_ (by first | simp <;> omega | omega) _) | refine bl_call ?_ (by assumption) (by first | simp <;> omega | omega) | (with_reducible first | refine bl_drewN ?_ | refine Below.drew ?_ | refine bl_grow ?_ (by first | simp <;> omega | omega)))); have hzW1 := hqW1.size; obtain ⟨zrW1, cr0W1, cr1W1, cr2W1, fr0W1, fr1W1, fr2W1⟩ := krW1.three; clear krW cr0W fr0W cr1W fr1W cr2W fr2W hqW; clear hbW1)
      have e1 : spN (longN t) = 4 := HK.out
      rw [e1]
      exact bodyPost_ret (v := .agg #[.int .i64 ((tM 4).1 : Int), .int .i64 ((tM 4).2.1 : Int), .bool false]) (by simp [results, Tryz.results46, go_sem, *]) rfl ⟨rfl, by repeat (first | (with_reducible first | exact Below.refl _ _ | assumption | refine Below.setCell ?_ (by first | simp <;> omega | omega) _ | refine Below.alloc ?_ (by first | simp <;> omega | omega) _) | refine bl_call ?_ (by assumption) (by first | simp <;> omega | omega) | (with_reducible first | refine bl_drewN ?_ | refine Below.drew ?_ | refine bl_grow ?_ (by first | simp <;> omega | omega)))⟩
end Go.Proofs.YtpkkclcjiobgoajGreatDoor
