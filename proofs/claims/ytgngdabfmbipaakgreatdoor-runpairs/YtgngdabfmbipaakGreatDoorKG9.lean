/- The spot of any text, as package hash answers it; nothing that was there is turned. -/
import Derived.Test.YtgngdabfmbipaakGreatDoorKG1
import Derived.Test.YtgngdabfmbipaakGreatDoorKG8
import Derived.Test.YtgngdabfmbipaakGreatDoorKG6
import Derived.Test.YtgngdabfmbipaakGreatDoorKG7
import Derived.Test.YtgngdabfmbipaakGreatDoorKG0
import Derived.Test.YtgngdabfmbipaakGreatDoorKG4
import Derived.Test.YtgngdabfmbipaakGreatDoorKG5
namespace Go.Proofs.YtgngdabfmbipaakGreatDoor
open Go.RowKit Go.Sort
set_option linter.unusedVariables false
set_option linter.unusedSimpArgs false
theorem em_four : em 4 = 4 := rfl
theorem hlift_at (x : Nat) (w : World) (h1 : x < 4051) (h : rtOk (sqI (x : Int)) = true) :
    Calls Tryz.prog 23 #[.int .i64 (x : Int)] w fun e w' => e = .returned (.tuple #[.agg #[.int .i64 (x : Int), .int .i64 (ltN x : Int), .bool false], .nilIface]) ∧ Below w.heap.size w w' := by
  have := lift_yes (x : Int) w (by omega) (by omega) h
  rwa [ltI] at this
theorem four_near (x : Nat) (w : World) (h1 : x < 4051) (h : rtOk (sqI (x : Int)) = true) (hf : farI (kxN x * 4) = false) :
    Calls Tryz.prog 9 #[.agg #[.int .i64 (x : Int), .int .i64 (ltN x : Int), .bool false], .int .i64 4] w fun e w' => e = .returned (.tuple #[.agg #[.int .i64 ((tM (kxN x * 4)).1 : Int), .int .i64 ((tM (kxN x * 4)).2.1 : Int), .bool false], .nilIface]) ∧ Below w.heap.size w w' := by
  have := times_tM (kxN x) 4 w
  rw [kx_is h1 h, em_four, tM_f (kxN x * 4), hf] at this
  exact this
theorem four_far (x : Nat) (w : World) (h1 : x < 4051) (h : rtOk (sqI (x : Int)) = true) (hf : farI (kxN x * 4) = true) :
    Calls Tryz.prog 9 #[.agg #[.int .i64 (x : Int), .int .i64 (ltN x : Int), .bool false], .int .i64 4] w fun e w' => e = .returned (.tuple #[.agg #[.int .i64 0, .int .i64 0, .bool true], .nilIface]) ∧ Below w.heap.size w w' := by
  have := times_tM (kxN x) 4 w
  rw [kx_is h1 h, em_four, tM_isfar hf] at this
  exact this
set_option maxRecDepth 100000 in
set_option maxHeartbeats 1000000 in
theorem counted_none (x : Nat) (w : World) (h1 : x < 4051) (h : rtOk (sqI (x : Int)) = false) :
    Calls Tryz.prog 119 #[.int .i64 (x : Int)] w fun e w' => e = .returned (.tuple #[.agg #[.int .i64 0, .int .i64 0, .bool false], .bool false]) ∧ Below w.heap.size w w' := by
  have HR : Hid (rtOk (sqI (x : Int)) = false) := h
  clear h
  have m1 : True := trivial
  go_enter Tryz.func119, Tryz.ntmps119
  go_wp2_with (go_at_call 23; clear m1; refine (lift_none _ _ (by omega) (by omega) HR.out).mono ?_; rintro e w1 ⟨rfl, hbw1⟩; have krw1 : At w1 (w.heap.size) [.int .i64 0, .int .i64 0, .bool false] := (at_by); have hqw1 : Below w.heap.size w w1 := (below_by); have hzw1 := hqw1.size; obtain ⟨zrw1, cr0w1, cr1w1, cr2w1, fr0w1, fr1w1, fr2w1⟩ := krw1.three; clear hbw1)
  exact bodyPost_ret (v := .tuple #[.agg #[.int .i64 0, .int .i64 0, .bool false], .bool false]) (by simp [results, Tryz.results119, go_sem, *]) rfl ⟨rfl, below_by⟩
set_option maxRecDepth 100000 in
set_option maxHeartbeats 1000000 in
theorem counted_yes (x : Nat) (w : World) (h1 : x < 4051) (h : rtOk (sqI (x : Int)) = true) (hf : farI (kxN x * 4) = false) :
    Calls Tryz.prog 119 #[.int .i64 (x : Int)] w fun e w' => e = .returned (.tuple #[.agg #[.int .i64 ((tM (kxN x * 4)).1 : Int), .int .i64 ((tM (kxN x * 4)).2.1 : Int), .bool false], .bool true]) ∧ Below w.heap.size w w' := by
  have HR : Hid (rtOk (sqI (x : Int)) = true) := h
  have HF : Hid (farI (kxN x * 4) = false) := hf
  clear h hf
  have m1 : True := trivial; have m2 : True := trivial
  go_enter Tryz.func119, Tryz.ntmps119
  go_wp2_with (first | (go_at_call 23; clear m1; refine (hlift_at _ _ h1 HR.out).mono ?_; rintro e w1 ⟨rfl, hbw1⟩; have krw1 : At w1 (w.heap.size) [.int .i64 0, .int .i64 0, .bool false] := (at_by); have hqw1 : Below w.heap.size w w1 := (below_by); have hzw1 := hqw1.size; obtain ⟨zrw1, cr0w1, cr1w1, cr2w1, fr0w1, fr1w1, fr2w1⟩ := krw1.three; clear hbw1) | (go_at_call 9; clear m2; refine (four_near _ _ h1 HR.out HF.out).mono ?_; rintro e w2 ⟨rfl, hbw2⟩; have krw2 : At w2 (w.heap.size) [.int .i64 0, .int .i64 0, .bool false] := (at_by); have ksw2 : At w2 (w1.heap.size) [.int .i64 (x : Int), .int .i64 (ltN x : Int), .bool false] := (at_by); have hqw2 : Below w.heap.size w w2 := (below_by); have hzw2 := hqw2.size; obtain ⟨zrw2, cr0w2, cr1w2, cr2w2, fr0w2, fr1w2, fr2w2⟩ := krw2.three; obtain ⟨zsw2, cs0w2, cs1w2, cs2w2, fs0w2, fs1w2, fs2w2⟩ := ksw2.three; clear krw1 cr0w1 fr0w1 cr1w1 fr1w1 cr2w1 fr2w1 hqw1; clear hbw2))
  go_region_with fail
  all_goals (try go_wp2_with fail)
  all_goals exact bodyPost_ret (v := .tuple #[.agg #[.int .i64 ((tM (kxN x * 4)).1 : Int), .int .i64 ((tM (kxN x * 4)).2.1 : Int), .bool false], .bool true]) (by simp [results, Tryz.results119, go_sem, *]) rfl ⟨rfl, below_by⟩
set_option maxRecDepth 100000 in
set_option maxHeartbeats 1000000 in
theorem counted_far (x : Nat) (w : World) (h1 : x < 4051) (h : rtOk (sqI (x : Int)) = true) (hf : farI (kxN x * 4) = true) :
    Calls Tryz.prog 119 #[.int .i64 (x : Int)] w fun e w' => e = .returned (.tuple #[.agg #[.int .i64 0, .int .i64 0, .bool true], .bool false]) ∧ Below w.heap.size w w' := by
  have HR : Hid (rtOk (sqI (x : Int)) = true) := h
  have HF : Hid (farI (kxN x * 4) = true) := hf
  clear h hf
  have m1 : True := trivial; have m2 : True := trivial
  go_enter Tryz.func119, Tryz.ntmps119
  go_wp2_with (first | (go_at_call 23; clear m1; refine (hlift_at _ _ h1 HR.out).mono ?_; rintro e w1 ⟨rfl, hbw1⟩; have krw1 : At w1 (w.heap.size) [.int .i64 0, .int .i64 0, .bool false] := (at_by); have hqw1 : Below w.heap.size w w1 := (below_by); have hzw1 := hqw1.size; obtain ⟨zrw1, cr0w1, cr1w1, cr2w1, fr0w1, fr1w1, fr2w1⟩ := krw1.three; clear hbw1) | (go_at_call 9; clear m2; refine (four_far _ _ h1 HR.out HF.out).mono ?_; rintro e w2 ⟨rfl, hbw2⟩; have krw2 : At w2 (w.heap.size) [.int .i64 0, .int .i64 0, .bool false] := (at_by); have ksw2 : At w2 (w1.heap.size) [.int .i64 (x : Int), .int .i64 (ltN x : Int), .bool false] := (at_by); have hqw2 : Below w.heap.size w w2 := (below_by); have hzw2 := hqw2.size; obtain ⟨zrw2, cr0w2, cr1w2, cr2w2, fr0w2, fr1w2, fr2w2⟩ := krw2.three; obtain ⟨zsw2, cs0w2, cs1w2, cs2w2, fs0w2, fs1w2, fs2w2⟩ := ksw2.three; clear krw1 cr0w1 fr0w1 cr1w1 fr1w1 cr2w1 fr2w1 hqw1; clear hbw2))
  go_region_with fail
  all_goals (try go_wp2_with fail)
  all_goals exact bodyPost_ret (v := .tuple #[.agg #[.int .i64 0, .int .i64 0, .bool true], .bool false]) (by simp [results, Tryz.results119, go_sem, *]) rfl ⟨rfl, below_by⟩
theorem counted_no (x : Nat) (w : World) (h1 : x < 4051) (h : fdN x = false) :
    Calls Tryz.prog 119 #[.int .i64 (x : Int)] w fun e w' => ∃ f : Bool, e = .returned (.tuple #[.agg #[.int .i64 0, .int .i64 0, .bool f], .bool false]) ∧ Below w.heap.size w w' := by
  unfold fdN at h
  cases hr : rtOk (sqI (x : Int)) with
  | false => exact (counted_none x w h1 hr).mono fun e w' hh => ⟨false, hh⟩
  | true =>
    rw [hr] at h
    exact (counted_far x w h1 hr (by simpa using h)).mono fun e w' hh => ⟨true, hh⟩
theorem counted_is (x : Nat) (w : World) (h1 : x < 4051) (h : fdN x = true) :
    Calls Tryz.prog 119 #[.int .i64 (x : Int)] w fun e w' => e = .returned (.tuple #[.agg #[.int .i64 ((tM (kxN x * 4)).1 : Int), .int .i64 ((tM (kxN x * 4)).2.1 : Int), .bool false], .bool true]) ∧ Below w.heap.size w w' := by
  unfold fdN at h
  simp only [Bool.and_eq_true, Bool.not_eq_true'] at h
  exact counted_yes x w h1 h.1 h.2
theorem of_bh (n k : Nat) (w : World) :
    Calls Tryz.prog 101 #[.int .i64 (bhN n k : Int)] w fun e w' => e = .returned (.int .i64 ((bhN n k % 4051 : Nat) : Int)) ∧ w' = w := by
  have := of_any (bhN n k : Int) w
  rwa [show fm (bhN n k : Int) = ((bhN n k % 4051 : Nat) : Int) by unfold fm; omega] at this
set_option maxRecDepth 100000 in
set_option maxHeartbeats 1000000 in
theorem spot_any (t : ByteArray) (w : World) (ht : t.size ≤ 9223372036854775807) :
    Calls Tryz.prog 78 #[.string t] w fun e w' => e = .returned (.agg #[.int .i64 ((tM (spN (longN t))).1 : Int), .int .i64 ((tM (spN (longN t))).2.1 : Int), .bool false]) ∧ Below w.heap.size w w' := by
  have hn := longN_lt t
  have HS : Hid (spN (longN t) = spF (longN t) 256 0) := rfl
  have m1 : True := trivial
  go_enter Tryz.func78, Tryz.ntmps78
  go_wp2_with (go_at_call 73; clear m1; refine (long_any _ _ ht).mono ?_; rintro e w1 ⟨rfl, rfl⟩)
  go_loopw [9] (fun ti wl => ∃ k : Nat, k ≤ 256 ∧ ti = .int .i64 k ∧ Hid (spN (longN t) = spF (longN t) (256 - k) k) ∧ At wl w.heap.size [.int .i64 0, .int .i64 0, .bool false] ∧ Below w.heap.size w wl) (fun ti _ => 256 - (intOf ti).toNat)
  case atStart => exact ⟨0, by omega, rfl, HS, at_by, below_by⟩
  case round =>
    obtain ⟨k, hk, rfl, HK, krW, hqW⟩ := hrel
    have hzW := hqW.size
    obtain ⟨zrW, cr0W, cr1W, cr2W, fr0W, fr1W, fr2W⟩ := krW.three
    have hx : bhN (longN t) k % 4051 < 4051 := Nat.mod_lt _ (by omega)
    by_cases hlt : k < 256
    · have hlt' : (k : Int) < 256 := by omega
      cases hf : fdN (bhN (longN t) k % 4051) with
      | true =>
        have HF : Hid (fdN (bhN (longN t) k % 4051) = true) := hf
        clear hf
        have m1 : True := trivial; have m2 : True := trivial; have m3 : True := trivial
        go_wp2_with (first | (go_at_call 113; clear m1; refine (behind_at (b := k) (by omega) _ _ hn hlt).mono ?_; rintro e w1 ⟨rfl, rfl⟩) | (go_at_call 101; clear m2; refine (of_bh _ _ _).mono ?_; rintro e w1 ⟨rfl, rfl⟩) | (go_at_call 119; clear m3; refine (counted_is _ _ hx HF.out).mono ?_; rintro e W1 ⟨rfl, hbW1⟩; have krW1 : At W1 (w.heap.size) [.int .i64 0, .int .i64 0, .bool false] := (at_by); have hqW1 : Below w.heap.size w W1 := (below_by); have hzW1 := hqW1.size; obtain ⟨zrW1, cr0W1, cr1W1, cr2W1, fr0W1, fr1W1, fr2W1⟩ := krW1.three; clear krW cr0W fr0W cr1W fr1W cr2W fr2W hqW; clear hbW1))
        have e1 : spN (longN t) = kxN (bhN (longN t) k % 4051) * 4 := by rw [HK.out, show 256 - k = (255 - k) + 1 by omega, spF_yes HF.out]
        rw [e1]
        exact bodyPost_ret (v := .agg #[.int .i64 ((tM (kxN (bhN (longN t) k % 4051) * 4)).1 : Int), .int .i64 ((tM (kxN (bhN (longN t) k % 4051) * 4)).2.1 : Int), .bool false]) (by simp [results, Tryz.results78, go_sem, *]) rfl ⟨rfl, below_by⟩
      | false =>
        have HF : Hid (fdN (bhN (longN t) k % 4051) = false) := hf
        clear hf
        have m1 : True := trivial; have m2 : True := trivial; have m3 : True := trivial
        go_wp2_with (first | (go_at_call 113; clear m1; refine (behind_at (b := k) (by omega) _ _ hn hlt).mono ?_; rintro e w1 ⟨rfl, rfl⟩) | (go_at_call 101; clear m2; refine (of_bh _ _ _).mono ?_; rintro e w1 ⟨rfl, rfl⟩) | (go_at_call 119; clear m3; refine (counted_no _ _ hx HF.out).mono ?_; rintro e W1 ⟨ff, rfl, hbW1⟩; have krW1 : At W1 (w.heap.size) [.int .i64 0, .int .i64 0, .bool false] := (at_by); have hqW1 : Below w.heap.size w W1 := (below_by); have hzW1 := hqW1.size; obtain ⟨zrW1, cr0W1, cr1W1, cr2W1, fr0W1, fr1W1, fr2W1⟩ := krW1.three; clear krW cr0W fr0W cr1W fr1W cr2W fr2W hqW; clear hbW1))
        go_roundw
        case rel => exact ⟨k + 1, by omega, by simp, (show spN (longN t) = spF (longN t) (256 - (k + 1)) (k + 1) by rw [HK.out, show 256 - k = (256 - (k + 1)) + 1 by omega, spF_no HF.out]), at_by, below_by⟩
        case measure => simp [intOf]; omega
    · have hlt' : ¬ (k : Int) < 256 := by omega
      obtain rfl : k = 256 := by omega
      have m1 : True := trivial
      go_wp2_with (go_at_call 10; clear m1; refine (base_f _).mono ?_; rintro e W1 ⟨rfl, hbW1⟩; have krW1 : At W1 (w.heap.size) [.int .i64 0, .int .i64 0, .bool false] := (at_by); have hqW1 : Below w.heap.size w W1 := (below_by); have hzW1 := hqW1.size; obtain ⟨zrW1, cr0W1, cr1W1, cr2W1, fr0W1, fr1W1, fr2W1⟩ := krW1.three; clear krW cr0W fr0W cr1W fr1W cr2W fr2W hqW; clear hbW1)
      have e1 : spN (longN t) = 4 := HK.out
      rw [e1]
      exact bodyPost_ret (v := .agg #[.int .i64 ((tM 4).1 : Int), .int .i64 ((tM 4).2.1 : Int), .bool false]) (by simp [results, Tryz.results78, go_sem, *]) rfl ⟨rfl, below_by⟩
end Go.Proofs.YtgngdabfmbipaakGreatDoor

/- A text's spot is so many times the base. -/
namespace Go.Proofs.YtgngdabfmbipaakGreatDoor
open Go.RowKit Go.Sort
set_option linter.unusedVariables false
set_option linter.unusedSimpArgs false
/-- A text's spot is so many times the base. -/
def uN (t : ByteArray) : Nat := spN (longN t) / 4
theorem uN_is (t : ByteArray) : spN (longN t) = 4 * uN t := by
  have := (farI_iff _).1 (sp_in (longN t))
  unfold uN; omega
theorem uN_f (t : ByteArray) : (tM (4 * uN t)).2.2 = false := by rw [← uN_is]; exact sp_f _
theorem spot_u (t : ByteArray) (w : World) (ht : t.size ≤ 9223372036854775807) : Calls Tryz.prog 78 #[.string t] w fun e w' => e = .returned (.agg #[.int .i64 ((tM (4 * uN t)).1 : Int), .int .i64 ((tM (4 * uN t)).2.1 : Int), .bool false]) ∧ Below w.heap.size w w' := by
  have := spot_any t w ht
  rwa [uN_is] at this
theorem spot_w (t : ByteArray) (w : World) (ht : t.size ≤ 9223372036854775807) : Calls Tryz.prog 78 #[.string t] w fun e w' => e = .returned (.agg #[.int .i64 ((tM (4 * uN t)).1 : Int), .int .i64 ((tM (4 * uN t)).2.1 : Int), .bool (tM (4 * uN t)).2.2]) ∧ Below w.heap.size w w' := by
  rw [uN_f]; exact spot_u t w ht
end Go.Proofs.YtgngdabfmbipaakGreatDoor

/- Any text as a long number, a number and a spot, as the plain reckoning (stoneref1) has them. -/
namespace Go.Proofs.YtgngdabfmbipaakGreatDoor
open Go.RowKit Go.Sort
set_option linter.unusedVariables false
set_option linter.unusedSimpArgs false
set_option maxRecDepth 100000 in
set_option maxHeartbeats 4000000 in
theorem rlong_any (t : ByteArray) (w : World) (ht : t.size ≤ 9223372036854775807) :
    Calls Tryz.prog 93 #[.string t] w fun e w' => e = .returned (.int .i64 (longN t : Int)) ∧ w' = w := by
  go_enter Tryz.func93, Tryz.ntmps93
  go_wp2_with fail
  go_loopw [3, 4] (fun tn ti wl => ∃ k : Nat, k ≤ t.size ∧ ti = .int .i64 k ∧ tn = .int .i64 (lgN t k : Int) ∧ wl = w) (fun _ ti _ => t.size - (intOf ti).toNat)
  case atStart => exact ⟨0, by omega, rfl, rfl, rfl⟩
  case round =>
    obtain ⟨k, hk, rfl, rfl, rfl⟩ := hrel
    by_cases hlt : k < t.size
    · have hlt' : (k : Int) < t.size := by omega
      have hb := byN_lt t k
      have hl := lgN_lt t k
      have he := byN_at hlt
      have hb' : t[k].toNat < 256 := by omega
      have e1 : wrap64 (t[k].toNat : Int) = (t[k].toNat : Int) := by unfold wrap64; omega
      have hi := bh_int (lgN t k) t[k].toNat
      go_wp2_with fail
      go_roundw
      case rel => exact ⟨k + 1, by omega, by simp, by show _ = Value.int .i64 ((bhN (lgN t k) (byN t k) : Nat) : Int); rw [he, hi], by first | trivial | rfl⟩
      case measure => simp [intOf]; omega
    · have hlt' : ¬ (k : Int) < t.size := by omega
      obtain rfl : k = t.size := by omega
      go_wp2_with fail
      go_ret
      exact ⟨rfl, rfl⟩
theorem rnumber_any (t : ByteArray) (w : World) (ht : t.size ≤ 9223372036854775807) :
    Calls Tryz.prog 56 #[.string t] w fun e w' => e = .returned (.int .i64 ((longN t : Int) % 1013)) ∧ w' = w := by
  have hl := longN_lt t
  go_enter Tryz.func56, Tryz.ntmps56
  go_wp2_with (go_at_call 93; refine (rlong_any _ _ ht).mono ?_; rintro e w1 ⟨rfl, rfl⟩)
  go_ret
  exact ⟨rfl, rfl⟩
theorem hrlift_at (x : Nat) (w : World) (h1 : x < 4051) (h : rtOk (sqI (x : Int)) = true) :
    Calls Tryz.prog 54 #[.int .i64 (x : Int)] w fun e w' => e = .returned (.tuple #[.agg #[.int .i64 (x : Int), .int .i64 (ltN x : Int), .bool false], .bool true]) ∧ Below w.heap.size w w' := by
  have := rlift_yes (x : Int) w (by omega) (by omega) h
  rwa [ltI] at this
theorem rfour_near (x : Nat) (w : World) (h1 : x < 4051) (h : rtOk (sqI (x : Int)) = true) (hf : farI (kxN x * 4) = false) :
    Calls Tryz.prog 59 #[.agg #[.int .i64 (x : Int), .int .i64 (ltN x : Int), .bool false], .int .i64 4] w fun e w' => e = .returned (.agg #[.int .i64 ((tM (kxN x * 4)).1 : Int), .int .i64 ((tM (kxN x * 4)).2.1 : Int), .bool false]) ∧ Below w.heap.size w w' := by
  have := rtimes_tM (kxN x) 4 w
  rw [kx_is h1 h, em_four, tM_f (kxN x * 4), hf] at this
  exact this
theorem rfour_far (x : Nat) (w : World) (h1 : x < 4051) (h : rtOk (sqI (x : Int)) = true) (hf : farI (kxN x * 4) = true) :
    Calls Tryz.prog 59 #[.agg #[.int .i64 (x : Int), .int .i64 (ltN x : Int), .bool false], .int .i64 4] w fun e w' => e = .returned (.agg #[.int .i64 0, .int .i64 0, .bool true]) ∧ Below w.heap.size w w' := by
  have := rtimes_tM (kxN x) 4 w
  rw [kx_is h1 h, em_four, tM_isfar hf] at this
  exact this
theorem rlift_is {n : Int} {x : Nat} (e : n = (x : Int)) (w : World) (h1 : x < 4051) (h : rtOk (sqI (x : Int)) = true) :
    Calls Tryz.prog 54 #[.int .i64 n] w fun e w' => e = .returned (.tuple #[.agg #[.int .i64 (x : Int), .int .i64 (ltN x : Int), .bool false], .bool true]) ∧ Below w.heap.size w w' := by subst e; exact hrlift_at x w h1 h
theorem rlift_not {n : Int} {x : Nat} (e : n = (x : Int)) (w : World) (h1 : x < 4051) (h : rtOk (sqI (x : Int)) = false) :
    Calls Tryz.prog 54 #[.int .i64 n] w fun e w' => e = .returned (.tuple #[.agg #[.int .i64 0, .int .i64 0, .bool false], .bool false]) ∧ Below w.heap.size w w' := by subst e; exact rlift_no (x : Int) w (by omega) (by omega) h
theorem rlong_more {t : ByteArray} {c : UInt8} {k : Nat} (hc : c.toNat = k) (w : World) (ht : t.size ≤ 140737488351232) :
    Calls Tryz.prog 93 #[.string (t ++ ⟨#[c]⟩)] w fun e w' => e = .returned (.int .i64 (bhN (longN t) k : Int)) ∧ w' = w := by
  have := rlong_any (t ++ ⟨#[c]⟩) w (by rw [ByteArray.size_append]; show t.size + 1 ≤ _; omega)
  rwa [long_more, hc] at this
set_option maxRecDepth 100000 in
set_option maxHeartbeats 4000000 in
theorem rof_any (t : ByteArray) (w : World) (ht : t.size ≤ 140737488351232) :
    Calls Tryz.prog 60 #[.string t] w fun e w' => e = .returned (.agg #[.int .i64 ((tM (spN (longN t))).1 : Int), .int .i64 ((tM (spN (longN t))).2.1 : Int), .bool false]) ∧ Below w.heap.size w w' := by
  have HS : Hid (spN (longN t) = spF (longN t) 256 0) := rfl
  go_enter Tryz.func60, Tryz.ntmps60
  go_wp2_with fail
  go_loopw [3] (fun ti wl => ∃ k : Nat, k ≤ 256 ∧ ti = .int .i64 k ∧ Hid (spN (longN t) = spF (longN t) (256 - k) k) ∧ At wl w.heap.size [.int .i64 0, .int .i64 0, .bool false] ∧ Below w.heap.size w wl) (fun ti _ => 256 - (intOf ti).toNat)
  case atStart => exact ⟨0, by omega, rfl, HS, at_by, below_by⟩
  case round =>
    obtain ⟨k, hk, rfl, HK, krW, hqW⟩ := hrel
    have hzW := hqW.size
    obtain ⟨zrW, cr0W, cr1W, cr2W, fr0W, fr1W, fr2W⟩ := krW.three
    by_cases hlt : k < 256
    · have hlt' : (k : Int) < 256 := by omega
      obtain ⟨c, hc⟩ : ∃ c : UInt8, c.toNat = k := ⟨UInt8.ofNat k, by rw [UInt8.toNat_ofNat']; omega⟩
      obtain ⟨x, hx⟩ : ∃ x, bhN (longN t) k % 4051 = x := ⟨_, rfl⟩
      have hx1 : x < 4051 := by rw [← hx]; exact Nat.mod_lt _ (by omega)
      have HX : Hid ((bhN (longN t) k : Int) % 4051 = (x : Int)) := by unfold Hid; omega
      have HY : Hid (bhN (longN t) k % 4051 = x) := hx
      clear hx
      have q1 : (((c.toNat) : Nat) : Int) = (k : Int) := by rw [hc]
      have hcv : (convert 37 9 (.slice (some ⟨wr.heap.size, 0, none⟩) 1 1)).run Tryz.prog (wr.alloc (.cells #[.int .u8 (k : Int)] 5)) = .ok (.string ⟨#[c]⟩) (wr.alloc (.cells #[.int .u8 (k : Int)] 5)) :=
        run_convert_bytes_back (P := Tryz.prog) _ _ _ 5 _ 1 [c] Tryz.underlying37 Tryz.underlying5 Tryz.underlying9 (fun j hj => by
          match j, hj with
          | 0, _ => simp [go_sem, *])
      clear q1
      have hsz : (t ++ (⟨#[c]⟩ : ByteArray)).size = t.size + 1 := by rw [ByteArray.size_append]; rfl
      have hs1 : ¬ 9223372036854775807 < t.size + 1 := by omega
      cases hr : rtOk (sqI (x : Int)) with
      | false =>
        have HR : Hid (rtOk (sqI (x : Int)) = false) := hr
        have HF : fdN (bhN (longN t) k % 4051) = false := by rw [HY.out]; unfold fdN; rw [hr]; rfl
        have HF : Hid (fdN (bhN (longN t) k % 4051) = false) := HF
        clear hr
        have m1 : True := trivial; have m2 : True := trivial
        go_wp2_with (first | (go_at_call 93; clear m1; refine (rlong_more hc _ ht).mono ?_; rintro e v1 ⟨rfl, hv1⟩; subst v1) | (go_at_call 54; clear m2; refine (rlift_not HX.out _ hx1 HR.out).mono ?_; rintro e W1 ⟨rfl, hbW1⟩; have krW1 : At W1 (w.heap.size) [.int .i64 0, .int .i64 0, .bool false] := (at_by); have hqW1 : Below w.heap.size w W1 := (below_by); have hzW1 := hqW1.size; obtain ⟨zrW1, cr0W1, cr1W1, cr2W1, fr0W1, fr1W1, fr2W1⟩ := krW1.three; clear krW cr0W fr0W cr1W fr1W cr2W fr2W hqW; clear hbW1))
        go_roundw
        case rel => exact ⟨k + 1, by omega, by simp, (show spN (longN t) = spF (longN t) (256 - (k + 1)) (k + 1) by rw [HK.out, show 256 - k = (256 - (k + 1)) + 1 by omega, spF_no HF.out]), at_by, below_by⟩
        case measure => simp [intOf]; omega
      | true =>
       have HR : Hid (rtOk (sqI (x : Int)) = true) := hr
       cases hf : farI (kxN x * 4) with
       | true =>
        have HF : fdN (bhN (longN t) k % 4051) = false := by rw [HY.out]; unfold fdN; rw [hr, hf]; rfl
        have HF : Hid (fdN (bhN (longN t) k % 4051) = false) := HF
        have HQ : Hid (farI (kxN x * 4) = true) := hf
        clear hr hf
        have m1 : True := trivial; have m2 : True := trivial; have m3 : True := trivial
        go_wp2_with (first | (go_at_call 93; clear m1; refine (rlong_more hc _ ht).mono ?_; rintro e v1 ⟨rfl, hv1⟩; subst v1) | (go_at_call 54; clear m2; refine (rlift_is HX.out _ hx1 HR.out).mono ?_; rintro e W1 ⟨rfl, hbW1⟩; have krW1 : At W1 (w.heap.size) [.int .i64 0, .int .i64 0, .bool false] := (at_by); have hqW1 : Below w.heap.size w W1 := (below_by); have hzW1 := hqW1.size; obtain ⟨zrW1, cr0W1, cr1W1, cr2W1, fr0W1, fr1W1, fr2W1⟩ := krW1.three; clear krW cr0W fr0W cr1W fr1W cr2W fr2W hqW; clear hbW1) | (go_at_call 59; clear m3; refine (rfour_far _ _ hx1 HR.out HQ.out).mono ?_; rintro e W2 ⟨rfl, hbW2⟩; have krW2 : At W2 (w.heap.size) [.int .i64 0, .int .i64 0, .bool false] := (at_by); have hqW2 : Below w.heap.size w W2 := (below_by); have hzW2 := hqW2.size; obtain ⟨zrW2, cr0W2, cr1W2, cr2W2, fr0W2, fr1W2, fr2W2⟩ := krW2.three; clear krW1 cr0W1 fr0W1 cr1W1 fr1W1 cr2W1 fr2W1 hqW1; clear hbW2))
        go_roundw
        case rel => exact ⟨k + 1, by omega, by simp, (show spN (longN t) = spF (longN t) (256 - (k + 1)) (k + 1) by rw [HK.out, show 256 - k = (256 - (k + 1)) + 1 by omega, spF_no HF.out]), at_by, below_by⟩
        case measure => simp [intOf]; omega
       | false =>
        have HF : fdN (bhN (longN t) k % 4051) = true := by rw [HY.out]; unfold fdN; rw [hr, hf]; rfl
        have HF : Hid (fdN (bhN (longN t) k % 4051) = true) := HF
        have HQ : Hid (farI (kxN x * 4) = false) := hf
        clear hr hf
        have m1 : True := trivial; have m2 : True := trivial; have m3 : True := trivial
        go_wp2_with (first | (go_at_call 93; clear m1; refine (rlong_more hc _ ht).mono ?_; rintro e v1 ⟨rfl, hv1⟩; subst v1) | (go_at_call 54; clear m2; refine (rlift_is HX.out _ hx1 HR.out).mono ?_; rintro e W1 ⟨rfl, hbW1⟩; have krW1 : At W1 (w.heap.size) [.int .i64 0, .int .i64 0, .bool false] := (at_by); have hqW1 : Below w.heap.size w W1 := (below_by); have hzW1 := hqW1.size; obtain ⟨zrW1, cr0W1, cr1W1, cr2W1, fr0W1, fr1W1, fr2W1⟩ := krW1.three; clear krW cr0W fr0W cr1W fr1W cr2W fr2W hqW; clear hbW1) | (go_at_call 59; clear m3; refine (rfour_near _ _ hx1 HR.out HQ.out).mono ?_; rintro e W2 ⟨rfl, hbW2⟩; have krW2 : At W2 (w.heap.size) [.int .i64 0, .int .i64 0, .bool false] := (at_by); have hqW2 : Below w.heap.size w W2 := (below_by); have hzW2 := hqW2.size; obtain ⟨zrW2, cr0W2, cr1W2, cr2W2, fr0W2, fr1W2, fr2W2⟩ := krW2.three; clear krW1 cr0W1 fr0W1 cr1W1 fr1W1 cr2W1 fr2W1 hqW1; clear hbW2))
        have e1 : spN (longN t) = kxN x * 4 := by rw [HK.out, show 256 - k = (255 - k) + 1 by omega, spF_yes HF.out, HY.out]
        rw [e1]
        exact bodyPost_ret (v := .agg #[.int .i64 ((tM (kxN x * 4)).1 : Int), .int .i64 ((tM (kxN x * 4)).2.1 : Int), .bool false]) (by simp [results, Tryz.results60, go_sem, *]) rfl ⟨rfl, below_by⟩
    · have hlt' : ¬ (k : Int) < 256 := by omega
      obtain rfl : k = 256 := by omega
      have m1 : True := trivial
      go_wp2_with (go_at_call 90; clear m1; refine (rbase_f _).mono ?_; rintro e W1 ⟨rfl, hbW1⟩; have krW1 : At W1 (w.heap.size) [.int .i64 0, .int .i64 0, .bool false] := (at_by); have hqW1 : Below w.heap.size w W1 := (below_by); have hzW1 := hqW1.size; obtain ⟨zrW1, cr0W1, cr1W1, cr2W1, fr0W1, fr1W1, fr2W1⟩ := krW1.three; clear krW cr0W fr0W cr1W fr1W cr2W fr2W hqW; clear hbW1)
      have e1 : spN (longN t) = 4 := HK.out
      rw [e1]
      exact bodyPost_ret (v := .agg #[.int .i64 ((tM 4).1 : Int), .int .i64 ((tM 4).2.1 : Int), .bool false]) (by simp [results, Tryz.results60, go_sem, *]) rfl ⟨rfl, below_by⟩
end Go.Proofs.YtgngdabfmbipaakGreatDoor

/- What is hidden, as numbers modulo 1013. -/
namespace Go.Proofs.YtgngdabfmbipaakGreatDoor
set_option linter.unusedSimpArgs false
set_option linter.unusedVariables false

section
variable {h : Nat} (hh : h % 1013 ≠ 0)
include hh
end
theorem hf_em (h v r : Nat) : (4 * em (v : Int) + 4 * h * em (r : Int)) % 4052 = (4 * (v + h * r)) % 4052 := by
  have h1 : (4 * h * em (r : Int)) % 4052 = (4 * h * r) % 4052 := by
    rw [Nat.mul_mod, show em (r : Int) % 4052 = r % 4052 by unfold em; omega, ← Nat.mul_mod]
  have h2 : 4 * em (v : Int) % 4052 = 4 * v % 4052 := by unfold em; omega
  have h3 : 4 * (v + h * r) = 4 * v + 4 * h * r := by rw [Nat.mul_add, Nat.mul_assoc]
  omega
/-- The word of the second base. -/
def secT : ByteArray := ⟨#[115, 101, 99, 111, 110, 100]⟩
/-- The second base is so many times the base. -/
def h2N : Nat := uN secT
theorem h2_is : h2N = uN secT := by unfold h2N; rfl
theorem h2_f : (tM (4 * h2N)).2.2 = false := by rw [h2_is]; exact uN_f secT
/-- A value, and a number by which it is hidden: so many times the base. -/
def hdN (v r : Nat) : Nat := v + h2N * r
theorem hd_is (v r : Nat) : hdN v r = v + h2N * r := by unfold hdN; rfl
theorem hd_em (v r : Nat) : tM (4 * em (v : Int) + 4 * h2N * em (r : Int)) = tM (4 * hdN v r) := by
  rw [hd_is]
  exact tM_congr (hf_em h2N v r)
end Go.Proofs.YtgngdabfmbipaakGreatDoor

/- The answer to one line, as bytes, apart from the program. -/
namespace Go.Proofs.YtgngdabfmbipaakGreatDoor
set_option linter.unusedVariables false
set_option linter.unusedSimpArgs false

def badB : ByteArray := ⟨#[98, 97, 100]⟩
def farB : ByteArray := ⟨#[102, 97, 114]⟩
def rangeB : ByteArray := ⟨#[69, 114, 114, 82, 97, 110, 103, 101]⟩
def fullB : ByteArray := ⟨#[69, 114, 114, 70, 117, 108, 108]⟩
def noneB : ByteArray := ⟨#[69, 114, 114, 78, 111, 110, 101]⟩
/-- Two numbers, a blank between. -/
def pairB (a b : ByteArray) : ByteArray := a ++ ⟨#[32]⟩ ++ b
/-- A spot. -/
def toldB (p : Sn) : ByteArray := bif p.2.2 then farB else pairB (digB p.1) (digB p.2.1)
/-- The words that there are: which one (0: none). -/
def kindB (w : ByteArray) : Nat :=
  bif w.toList == [98, 97, 115, 101] then 1 else bif w.toList == [108, 105, 102, 116] then 2 else bif w.toList == [111, 114, 100, 101, 114] then 3 else
  bif w.toList == [112, 97, 105, 114] then 4 else bif w.toList == [104, 105, 100, 101] then 5 else bif w.toList == [115, 104, 97, 114, 101, 115] then 6 else
  bif w.toList == [104, 97, 115, 104] then 7 else bif w.toList == [115, 104, 111, 114, 116] then 8 else bif w.toList == [115, 105, 103, 110] then 9 else 0
/-- How many numbers stand behind it, and whether a text does. -/
def manyB (k : Nat) : Nat := bif Nat.ble k 3 then 1 else bif Nat.ble k 5 then 2 else bif Nat.ble k 6 then 3 else bif Nat.ble k 7 then 0 else bif Nat.ble k 8 then 1 else 2
def textB (k : Nat) : Bool := Nat.ble 7 k
/-- Shares of two coefficients, from the i-th on, so many. -/
def sharesB (a b : Nat) : Nat → ByteArray
  | 0 => ⟨#[]⟩
  | n + 1 => bif Nat.beq n 0 then digB ((a + b * 1) % 1013) else sharesB a b n ++ ⟨#[32]⟩ ++ digB ((a + b * (n + 1)) % 1013)
/-- The answer to what has its words. -/
def ansB (k a b c : Nat) (t : ByteArray) : ByteArray :=
  bif Nat.beq k 1 then toldB (tM (4 * a)) else
  bif Nat.beq k 2 then (bif decide (4051 ≤ a) then rangeB else bif rtOk (sqI (a : Int)) then pairB (digB a) (digB (rtMin (sqI (a : Int))).toNat) else noneB) else
  bif Nat.beq k 3 then digB (gM (4 * a)) else
  bif Nat.beq k 4 then pairB (digB (tp gI (a * b)).1.toNat) (digB (tp gI (a * b)).2.toNat) else
  bif Nat.beq k 5 then (bif decide (1013 ≤ a) || decide (1013 ≤ b) then rangeB else toldB (tM (4 * hdN a b))) else
  bif Nat.beq k 6 then (bif decide (1013 ≤ a) || decide (1013 ≤ b) || Nat.beq c 0 || decide (12 < c) then rangeB else sharesB a b c) else
  bif Nat.beq k 7 then digB (longN t % 1013) else
  bif Nat.beq k 8 then (bif Nat.beq a 0 || decide (1013 ≤ a) then rangeB else bif decide (60 < t.size) then fullB else toldB (tM (4 * uN t * a))) else
  (bif Nat.beq a 0 || decide (1013 ≤ a) || Nat.beq b 0 || decide (1013 ≤ b) then rangeB else bif decide (60 < t.size) then fullB else pairB (pairB (digB (tM (4 * b)).1) (digB (tM (4 * b)).2.1)) (digB (sgN a b t)))
/-- The answer to one line. -/
def lineB (s : ByteArray) : ByteArray :=
  bif Nat.beq (kindB (wordA s)) 0 then badB else
  match argsB (manyB (kindB (wordA s))) (wordR s) (wordM s) with
  | none => badB
  | some q => bif q.2.2 == textB (kindB (wordA s)) then ansB (kindB (wordA s)) (q.1.getD 0 0) (q.1.getD 1 0) (q.1.getD 2 0) q.2.1 else badB
end Go.Proofs.YtgngdabfmbipaakGreatDoor

/- What package hide is to answer: Second, Hide, Open, Find. -/
namespace Go.Proofs.YtgngdabfmbipaakGreatDoor
open Go.RowKit Go.Sort
set_option linter.unusedVariables false
set_option linter.unusedSimpArgs false
def SecondIs : Prop := ∀ w : World, Calls Tryz.prog 80 #[] w fun ex w' => ex = .returned (.agg #[.int .i64 ((tM (4 * h2N)).1 : Int), .int .i64 ((tM (4 * h2N)).2.1 : Int), .bool false]) ∧ Below w.heap.size w w'
def HideIs : Prop :=
  (∀ (v r : Int) (w : World), (Lit.int .i64 v).wf = true → (Lit.int .i64 r).wf = true → (resB v && resB r) = false → Calls Tryz.prog 40 #[.int .i64 v, .int .i64 r] w fun ex w' => ex = .returned (.tuple #[.agg #[.int .i64 0, .int .i64 0, .bool false], errOf 1]) ∧ Below w.heap.size w w') ∧
  (∀ (v r : Nat) (w : World), v < 1013 → r < 1013 → Calls Tryz.prog 40 #[.int .i64 (v : Int), .int .i64 (r : Int)] w fun ex w' => ex = .returned (.tuple #[.agg #[.int .i64 ((tM (4 * hdN v r)).1 : Int), .int .i64 ((tM (4 * hdN v r)).2.1 : Int), .bool (tM (4 * hdN v r)).2.2], .nilIface]) ∧ Below w.heap.size w w')
end Go.Proofs.YtgngdabfmbipaakGreatDoor

/- What the plain reckoning of what is hidden (stoneref2: Second, Hide) answers. -/
namespace Go.Proofs.YtgngdabfmbipaakGreatDoor
open Go.RowKit Go.Sort
set_option linter.unusedVariables false
set_option linter.unusedSimpArgs false
theorem rof_second (w : World) : Calls Tryz.prog 60 #[.string ⟨#[115, 101, 99, 111, 110, 100]⟩] w fun e w' => e = .returned (.agg #[.int .i64 ((tM (4 * h2N)).1 : Int), .int .i64 ((tM (4 * h2N)).2.1 : Int), .bool false]) ∧ Below w.heap.size w w' := by
  have := rof_any secT w (by decide)
  rw [uN_is, ← h2_is] at this
  exact this
set_option maxRecDepth 100000 in
set_option maxHeartbeats 4000000 in
theorem rsecond (w : World) : Calls Tryz.prog 99 #[] w fun e w' => e = .returned (.agg #[.int .i64 ((tM (4 * h2N)).1 : Int), .int .i64 ((tM (4 * h2N)).2.1 : Int), .bool false]) ∧ Below w.heap.size w w' := by
  have HO : Hid (∀ w, Calls Tryz.prog 60 #[.string ⟨#[115, 101, 99, 111, 110, 100]⟩] w fun e w' => e = .returned (.agg #[.int .i64 ((tM (4 * h2N)).1 : Int), .int .i64 ((tM (4 * h2N)).2.1 : Int), .bool false]) ∧ Below w.heap.size w w') := rof_second
  have m1 : True := trivial
  go_enter Tryz.func99, Tryz.ntmps99
  go_wp2_with (go_at_call 60; clear m1; refine (HO.out _).mono ?_; rintro e w1 ⟨rfl, hbw1⟩; have krw1 : At w1 (w.heap.size) [.int .i64 0, .int .i64 0, .bool false] := (at_red); have hqw1 : Below w.heap.size w w1 := (below_by); have hzw1 := hqw1.size; obtain ⟨zrw1, cr0w1, cr1w1, cr2w1, fr0w1, fr1w1, fr2w1⟩ := krw1.three; clear hbw1)
  exact bodyPost_ret (v := .agg #[.int .i64 ((tM (4 * h2N)).1 : Int), .int .i64 ((tM (4 * h2N)).2.1 : Int), .bool false]) (by simp [results, Tryz.results99, go_sem, *]) rfl ⟨rfl, below_by⟩
theorem rsecond_w (w : World) : Calls Tryz.prog 99 #[] w fun e w' => e = .returned (.agg #[.int .i64 ((tM (4 * h2N)).1 : Int), .int .i64 ((tM (4 * h2N)).2.1 : Int), .bool (tM (4 * h2N)).2.2]) ∧ Below w.heap.size w w' := by
  rw [h2_f]; exact rsecond w
set_option maxRecDepth 100000 in
set_option maxHeartbeats 4000000 in
theorem rhide (v r : Nat) (w : World) : Calls Tryz.prog 58 #[.int .i64 (v : Int), .int .i64 (r : Int)] w fun e w' => e = .returned (.agg #[.int .i64 ((tM (4 * hdN v r)).1 : Int), .int .i64 ((tM (4 * hdN v r)).2.1 : Int), .bool (tM (4 * hdN v r)).2.2]) ∧ Below w.heap.size w w' := by
  have E : Hid (tM (4 * em (v : Int) + 4 * h2N * em (r : Int)) = tM (4 * hdN v r)) := hd_em v r
  have m1 : True := trivial; have m2 : True := trivial
  go_enter Tryz.func58, Tryz.ntmps58
  go_wp2_with (first | (go_at_call 99; clear m1; refine (rsecond_w _).mono ?_; rintro e w1 ⟨rfl, hbw1⟩; have krw1 : At w1 (w.heap.size) [.int .i64 0, .int .i64 0, .bool false] := (at_red); have hqw1 : Below w.heap.size w w1 := (below_by); have hzw1 := hqw1.size; obtain ⟨zrw1, cr0w1, cr1w1, cr2w1, fr0w1, fr1w1, fr2w1⟩ := krw1.three; clear hbw1) | (go_at_call 98; clear m2; refine (rsum_eq E.out _).mono ?_; rintro e w2 ⟨rfl, hbw2⟩; have krw2 : At w2 (w.heap.size) [.int .i64 0, .int .i64 0, .bool false] := (at_red); have hqw2 : Below w.heap.size w w2 := (below_by); have hzw2 := hqw2.size; obtain ⟨zrw2, cr0w2, cr1w2, cr2w2, fr0w2, fr1w2, fr2w2⟩ := krw2.three; clear krw1 cr0w1 fr0w1 cr1w1 fr1w1 cr2w1 fr2w1 hqw1; clear hbw2))
  exact bodyPost_ret (v := .agg #[.int .i64 ((tM (4 * hdN v r)).1 : Int), .int .i64 ((tM (4 * hdN v r)).2.1 : Int), .bool (tM (4 * hdN v r)).2.2]) (by simp [results, Tryz.results58, go_sem, *]) rfl ⟨rfl, below_by⟩
end Go.Proofs.YtgngdabfmbipaakGreatDoor
