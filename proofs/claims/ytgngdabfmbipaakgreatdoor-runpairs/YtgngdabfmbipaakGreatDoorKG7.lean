/- What the plain reckoning's Times, Order, In and Base (stoneref1) answer of right spots, in the words of the group. -/
import Derived.Test.YtgngdabfmbipaakGreatDoorKG4
import Derived.Test.YtgngdabfmbipaakGreatDoorKG6
namespace Go.Proofs.YtgngdabfmbipaakGreatDoor
open Go.RowKit Go.Sort
set_option linter.unusedVariables false
set_option linter.unusedSimpArgs false
theorem rmod_eq {n m K : Int} (h : n % m = K) (w : World) (hm : 0 < m) (hm' : m ≤ 1000000000) :
    Calls Tryz.prog 96 #[.int .i64 n, .int .i64 m] w fun e w' => e = .returned (.int .i64 K) ∧ w' = w := by
  subst h; exact rmod_any n m w hm hm'
set_option maxRecDepth 100000 in
set_option maxHeartbeats 4000000 in
theorem rtimes_any (f : Nat) : ∀ (i : Nat) (n : Int) (w : World), em n < 2 ^ f →
    Calls Tryz.prog 59 #[.agg #[.int .i64 ((tM i).1 : Int), .int .i64 ((tM i).2.1 : Int), .bool (tM i).2.2], .int .i64 n] w fun e w' => e = .returned (.agg #[.int .i64 ((tM (i * em n)).1 : Int), .int .i64 ((tM (i * em n)).2.1 : Int), .bool (tM (i * em n)).2.2]) ∧ Below w.heap.size w w' := by
  induction f with
  | zero =>
    intro i n w h
    have h0 : em n = 0 := by omega
    have hK : n % 4052 = 0 := by have := em_cast n; omega
    rw [h0, Nat.mul_zero, tM_zero]
    have HK : Hid (n % 4052 = 0) := hK
    clear hK h h0
    have m1 : True := trivial
    go_enter Tryz.func59, Tryz.ntmps59
    go_wp2_with (go_at_call 96; clear m1; refine (rmod_eq HK.out _ (by omega) (by omega)).mono ?_; rintro e w1 ⟨rfl, rfl⟩)
    exact bodyPost_ret (v := .agg #[.int .i64 0, .int .i64 0, .bool true]) (by simp [results, Tryz.results59, go_sem, *]) rfl ⟨rfl, below_by⟩
  | succ f ih =>
    intro i n w h
    obtain ⟨q, hq⟩ : ∃ q, em n = q := ⟨_, rfl⟩
    obtain ⟨K, hK⟩ : ∃ K, n % 4052 = K := ⟨_, rfl⟩
    have hKq : K = (q : Int) := by have := em_cast n; omega
    have hql := em_lt n
    rw [hq] at h hql ⊢
    have HK : Hid (n % 4052 = K) := hK
    clear hK hq
    by_cases h0 : q = 0
    · subst h0
      have hK0 : K = 0 := by omega
      subst hK0
      rw [Nat.mul_zero, tM_zero]
      clear h hKq hql ih
      have m1 : True := trivial
      go_enter Tryz.func59, Tryz.ntmps59
      go_wp2_with (go_at_call 96; clear m1; refine (rmod_eq HK.out _ (by omega) (by omega)).mono ?_; rintro e w1 ⟨rfl, rfl⟩)
      exact bodyPost_ret (v := .agg #[.int .i64 0, .int .i64 0, .bool true]) (by simp [results, Tryz.results59, go_sem, *]) rfl ⟨rfl, below_by⟩
    · have hz : (K == 0) = false := by rw [beq_eq_false_iff_ne]; omega
      have k0 : 0 ≤ K := by omega
      have k1 : K < 4052 := by omega
      have e2 : em (K / 2) = q / 2 := by rw [em_small (by omega) (by omega)]; omega
      have IH : Hid (∀ w, Calls Tryz.prog 59 #[.agg #[.int .i64 ((tM i).1 : Int), .int .i64 ((tM i).2.1 : Int), .bool (tM i).2.2], .int .i64 (K / 2)] w fun e w' => e = .returned (.agg #[.int .i64 ((tM (i * (q / 2))).1 : Int), .int .i64 ((tM (i * (q / 2))).2.1 : Int), .bool (tM (i * (q / 2))).2.2]) ∧ Below w.heap.size w w') := fun w => by
        have := ih i (K / 2) w (by rw [e2]; rw [Nat.pow_succ] at h; omega)
        rwa [e2] at this
      clear ih h e2 hz
      have hz : (K == 0) = false := by rw [beq_eq_false_iff_ne]; omega
      by_cases hodd : q % 2 = 1
      · have hod : (K % 2 == 1) = true := by rw [beq_iff_eq]; omega
        have HO : Hid (i * (q / 2) + i * (q / 2) + i = i * q) := half_odd i q hodd
        clear hodd hKq hql h0
        rw [← HO.out]
        have m1 : True := trivial; have m2 : True := trivial; have m3 : True := trivial; have m4 : True := trivial
        go_enter Tryz.func59, Tryz.ntmps59
        go_wp2_with (first | (go_at_call 96; clear m1; refine (rmod_eq HK.out _ (by omega) (by omega)).mono ?_; rintro e w1 ⟨rfl, rfl⟩) | (go_at_call 59; clear m2; refine (IH.out _).mono ?_; rintro e w2 ⟨rfl, hbw2⟩; have kaw2 : At w2 (w.heap.size) [.int .i64 ((tM i).1 : Int), .int .i64 ((tM i).2.1 : Int), .bool (tM i).2.2] := (at_by); have krw2 : At w2 (w.heap.size + 1) [.int .i64 0, .int .i64 0, .bool false] := (at_by); have hqw2 : Below w.heap.size w w2 := (below_by); have hzw2 := hqw2.size; obtain ⟨zaw2, ca0w2, ca1w2, ca2w2, fa0w2, fa1w2, fa2w2⟩ := kaw2.three; obtain ⟨zrw2, cr0w2, cr1w2, cr2w2, fr0w2, fr1w2, fr2w2⟩ := krw2.three; clear hbw2) | (go_at_call 92; clear m3; refine (radd_tM _ _ _).mono ?_; rintro e w3 ⟨rfl, hbw3⟩; have kaw3 : At w3 (w.heap.size) [.int .i64 ((tM i).1 : Int), .int .i64 ((tM i).2.1 : Int), .bool (tM i).2.2] := (at_by); have krw3 : At w3 (w.heap.size + 1) [.int .i64 0, .int .i64 0, .bool false] := (at_by); have khw3 : At w3 (w2.heap.size) [.int .i64 ((tM (i * (q / 2))).1 : Int), .int .i64 ((tM (i * (q / 2))).2.1 : Int), .bool (tM (i * (q / 2))).2.2] := (at_by); have hqw3 : Below w.heap.size w w3 := (below_by); have hzw3 := hqw3.size; obtain ⟨zaw3, ca0w3, ca1w3, ca2w3, fa0w3, fa1w3, fa2w3⟩ := kaw3.three; obtain ⟨zrw3, cr0w3, cr1w3, cr2w3, fr0w3, fr1w3, fr2w3⟩ := krw3.three; obtain ⟨zhw3, ch0w3, ch1w3, ch2w3, fh0w3, fh1w3, fh2w3⟩ := khw3.three; clear kaw2 ca0w2 fa0w2 ca1w2 fa1w2 ca2w2 fa2w2 krw2 cr0w2 fr0w2 cr1w2 fr1w2 cr2w2 fr2w2 hqw2; clear hbw3) | (go_at_call 92; clear m4; refine (radd_tM _ _ _).mono ?_; rintro e w4 ⟨rfl, hbw4⟩; have kaw4 : At w4 (w.heap.size) [.int .i64 ((tM i).1 : Int), .int .i64 ((tM i).2.1 : Int), .bool (tM i).2.2] := (at_by); have krw4 : At w4 (w.heap.size + 1) [.int .i64 0, .int .i64 0, .bool false] := (at_by); have khw4 : At w4 (w2.heap.size) [.int .i64 ((tM (i * (q / 2) + i * (q / 2))).1 : Int), .int .i64 ((tM (i * (q / 2) + i * (q / 2))).2.1 : Int), .bool (tM (i * (q / 2) + i * (q / 2))).2.2] := (at_by); have hqw4 : Below w.heap.size w w4 := (below_by); have hzw4 := hqw4.size; obtain ⟨zaw4, ca0w4, ca1w4, ca2w4, fa0w4, fa1w4, fa2w4⟩ := kaw4.three; obtain ⟨zrw4, cr0w4, cr1w4, cr2w4, fr0w4, fr1w4, fr2w4⟩ := krw4.three; obtain ⟨zhw4, ch0w4, ch1w4, ch2w4, fh0w4, fh1w4, fh2w4⟩ := khw4.three; clear kaw3 ca0w3 fa0w3 ca1w3 fa1w3 ca2w3 fa2w3 krw3 cr0w3 fr0w3 cr1w3 fr1w3 cr2w3 fr2w3 khw3 ch0w3 fh0w3 ch1w3 fh1w3 ch2w3 fh2w3 hqw3; clear hbw4))
        clear IH HK HO hz hod
        exact bodyPost_ret (v := .agg #[.int .i64 ((tM (i * (q / 2) + i * (q / 2) + i)).1 : Int), .int .i64 ((tM (i * (q / 2) + i * (q / 2) + i)).2.1 : Int), .bool (tM (i * (q / 2) + i * (q / 2) + i)).2.2]) (by simp [results, Tryz.results59, go_sem, *]) rfl ⟨rfl, below_by⟩
      · have hod : (K % 2 == 1) = false := by rw [beq_eq_false_iff_ne]; omega
        have HO : Hid (i * (q / 2) + i * (q / 2) = i * q) := half_even i q (by omega)
        clear hodd hKq hql h0
        rw [← HO.out]
        have m1 : True := trivial; have m2 : True := trivial; have m3 : True := trivial
        go_enter Tryz.func59, Tryz.ntmps59
        go_wp2_with (first | (go_at_call 96; clear m1; refine (rmod_eq HK.out _ (by omega) (by omega)).mono ?_; rintro e w1 ⟨rfl, rfl⟩) | (go_at_call 59; clear m2; refine (IH.out _).mono ?_; rintro e w2 ⟨rfl, hbw2⟩; have kaw2 : At w2 (w.heap.size) [.int .i64 ((tM i).1 : Int), .int .i64 ((tM i).2.1 : Int), .bool (tM i).2.2] := (at_by); have krw2 : At w2 (w.heap.size + 1) [.int .i64 0, .int .i64 0, .bool false] := (at_by); have hqw2 : Below w.heap.size w w2 := (below_by); have hzw2 := hqw2.size; obtain ⟨zaw2, ca0w2, ca1w2, ca2w2, fa0w2, fa1w2, fa2w2⟩ := kaw2.three; obtain ⟨zrw2, cr0w2, cr1w2, cr2w2, fr0w2, fr1w2, fr2w2⟩ := krw2.three; clear hbw2) | (go_at_call 92; clear m3; refine (radd_tM _ _ _).mono ?_; rintro e w3 ⟨rfl, hbw3⟩; have kaw3 : At w3 (w.heap.size) [.int .i64 ((tM i).1 : Int), .int .i64 ((tM i).2.1 : Int), .bool (tM i).2.2] := (at_by); have krw3 : At w3 (w.heap.size + 1) [.int .i64 0, .int .i64 0, .bool false] := (at_by); have khw3 : At w3 (w2.heap.size) [.int .i64 ((tM (i * (q / 2))).1 : Int), .int .i64 ((tM (i * (q / 2))).2.1 : Int), .bool (tM (i * (q / 2))).2.2] := (at_by); have hqw3 : Below w.heap.size w w3 := (below_by); have hzw3 := hqw3.size; obtain ⟨zaw3, ca0w3, ca1w3, ca2w3, fa0w3, fa1w3, fa2w3⟩ := kaw3.three; obtain ⟨zrw3, cr0w3, cr1w3, cr2w3, fr0w3, fr1w3, fr2w3⟩ := krw3.three; obtain ⟨zhw3, ch0w3, ch1w3, ch2w3, fh0w3, fh1w3, fh2w3⟩ := khw3.three; clear kaw2 ca0w2 fa0w2 ca1w2 fa1w2 ca2w2 fa2w2 krw2 cr0w2 fr0w2 cr1w2 fr1w2 cr2w2 fr2w2 hqw2; clear hbw3))
        clear IH HK HO hz hod
        exact bodyPost_ret (v := .agg #[.int .i64 ((tM (i * (q / 2) + i * (q / 2))).1 : Int), .int .i64 ((tM (i * (q / 2) + i * (q / 2))).2.1 : Int), .bool (tM (i * (q / 2) + i * (q / 2))).2.2]) (by simp [results, Tryz.results59, go_sem, *]) rfl ⟨rfl, below_by⟩
theorem rtimes_tM (i : Nat) (n : Int) (w : World) :
    Calls Tryz.prog 59 #[.agg #[.int .i64 ((tM i).1 : Int), .int .i64 ((tM i).2.1 : Int), .bool (tM i).2.2], .int .i64 n] w fun e w' => e = .returned (.agg #[.int .i64 ((tM (i * em n)).1 : Int), .int .i64 ((tM (i * em n)).2.1 : Int), .bool (tM (i * em n)).2.2]) ∧ Below w.heap.size w w' :=
  rtimes_any 12 i n w (Nat.lt_of_lt_of_le (em_lt n) (by decide))
theorem rtimes_eq {i : Nat} {n : Int} {r : Sn} (h : tM (i * em n) = r) (w : World) :
    Calls Tryz.prog 59 #[.agg #[.int .i64 ((tM i).1 : Int), .int .i64 ((tM i).2.1 : Int), .bool (tM i).2.2], .int .i64 n] w fun e w' => e = .returned (.agg #[.int .i64 ((r).1 : Int), .int .i64 ((r).2.1 : Int), .bool (r).2.2]) ∧ Below w.heap.size w w' := by
  have := rtimes_tM i n w
  rwa [h] at this
theorem radd_al {J i : Nat} (h : (tM J).2.2 = false) (w : World) :
    Calls Tryz.prog 92 #[.agg #[.int .i64 ((tM (J)).1 : Int), .int .i64 ((tM (J)).2.1 : Int), .bool false], .agg #[.int .i64 ((tM i).1 : Int), .int .i64 ((tM i).2.1 : Int), .bool (tM i).2.2]] w fun e w' => e = .returned (.agg #[.int .i64 ((tM (J + i)).1 : Int), .int .i64 ((tM (J + i)).2.1 : Int), .bool (tM (J + i)).2.2]) ∧ Below w.heap.size w w' := by
  have := radd_tM J i w
  rwa [h] at this
set_option maxRecDepth 100000 in
set_option maxHeartbeats 4000000 in
theorem rorder_tM (i : Nat) (w : World) : Calls Tryz.prog 55 #[.agg #[.int .i64 ((tM i).1 : Int), .int .i64 ((tM i).2.1 : Int), .bool (tM i).2.2]] w fun e w' => e = .returned (.int .i64 (gM i : Int)) ∧ Below w.heap.size w w' := by
  have hg1 := gM_pos i
  have hg2 := gM_le i
  go_enter Tryz.func55, Tryz.ntmps55
  go_wp2_with fail
  go_loopw [4] (fun ti wl => ∃ k : Nat, 1 ≤ k ∧ k ≤ gM i ∧ ti = .int .i64 k ∧ At wl w.heap.size [.int .i64 ((tM i).1 : Int), .int .i64 ((tM i).2.1 : Int), .bool (tM i).2.2] ∧ At wl (w.heap.size + 1) [.int .i64 ((tM (i * k)).1 : Int), .int .i64 ((tM (i * k)).2.1 : Int), .bool (tM (i * k)).2.2] ∧ Below w.heap.size w wl) (fun ti _ => gM i - (intOf ti).toNat)
  case atStart =>
    refine ⟨1, by omega, by omega, rfl, at_by, ?_, below_by⟩
    rw [Nat.mul_one]
    exact (at_by)
  case round =>
    obtain ⟨k, hk0, hk, rfl, kaV, ksV, hqV⟩ := hrel
    have hz := hqV.size
    obtain ⟨J, hJ⟩ : ∃ J, i * k = J := ⟨_, rfl⟩
    rw [hJ] at ksV
    by_cases hk2 : k = gM i
    · have hf : (tM J).2.2 = true := by rw [tM_f, ← hJ, hk2]; exact gM_hit i
      rw [hf] at ksV
      obtain ⟨zaV, ca0V, ca1V, ca2V, fa0V, fa1V, fa2V⟩ := kaV.three
      obtain ⟨zsV, cs0V, cs1V, cs2V, fs0V, fs1V, fs2V⟩ := ksV.three
      have HR : Hid ((k : Int) = (gM i : Int)) := by show _ = _; rw [hk2]
      clear hf hJ
      go_wp2_with fail
      go_ret
      exact ⟨ret_int HR.out, below_by⟩
    · have hf : (tM J).2.2 = false := by rw [tM_f, ← hJ]; exact gM_low (by omega) (by omega)
      rw [hf] at ksV
      have HF : Hid ((tM J).2.2 = false) := hf
      have HJ : Hid (i * (k + 1) = J + i) := by show _ = _; rw [← hJ, Nat.mul_succ]
      obtain ⟨zaV, ca0V, ca1V, ca2V, fa0V, fa1V, fa2V⟩ := kaV.three
      obtain ⟨zsV, cs0V, cs1V, cs2V, fs0V, fs1V, fs2V⟩ := ksV.three
      clear hf hJ
      have m1 : True := trivial
      go_wp2_with (go_at_call 92; clear m1; refine (radd_al HF.out _).mono ?_; rintro e w1 ⟨rfl, hbw1⟩; have kaw1 : At w1 (w.heap.size) [.int .i64 ((tM i).1 : Int), .int .i64 ((tM i).2.1 : Int), .bool (tM i).2.2] := (at_by); have ksw1 : At w1 (w.heap.size + 1) [.int .i64 ((tM (J)).1 : Int), .int .i64 ((tM (J)).2.1 : Int), .bool false] := (at_by); have hqw1 : Below w.heap.size w w1 := (below_by); have hzw1 := hqw1.size; obtain ⟨zaw1, ca0w1, ca1w1, ca2w1, fa0w1, fa1w1, fa2w1⟩ := kaw1.three; obtain ⟨zsw1, cs0w1, cs1w1, cs2w1, fs0w1, fs1w1, fs2w1⟩ := ksw1.three; clear kaV ca0V fa0V ca1V fa1V ca2V fa2V ksV cs0V fs0V cs1V fs1V cs2V fs2V hqV; clear hbw1)
      go_roundw
      case rel => exact ⟨k + 1, by omega, by omega, by simp, at_by, by rw [HJ.out]; exact (at_by), below_by⟩
      case measure => simp [intOf]; omega
theorem rtimes_z (w : World) : Calls Tryz.prog 59 #[.agg #[.int .i64 0, .int .i64 0, .bool false], .int .i64 4] w fun e w' => e = .returned (.agg #[.int .i64 0, .int .i64 0, .bool true]) ∧ Below w.heap.size w w' := by
  have := rtimes_eq (i := 2026) (n := 4) (r := farN) (tM_isfar rfl) w
  rwa [tM_nul] at this
theorem rtimes_g (w : World) : Calls Tryz.prog 59 #[.agg #[.int .i64 3, .int .i64 156, .bool false], .int .i64 4] w fun e w' => e = .returned (.agg #[.int .i64 ((tM 4).1 : Int), .int .i64 ((tM 4).2.1 : Int), .bool false]) ∧ Below w.heap.size w w' := by
  have := rtimes_eq (i := 1) (n := 4) (r := tM 4) rfl w
  rwa [tM_one, show (tM 4).2.2 = false by rw [tM_f]; rfl] at this
theorem rlift_0 (w : World) : Calls Tryz.prog 54 #[.int .i64 0] w fun e w' => e = .returned (.tuple #[.agg #[.int .i64 0, .int .i64 0, .bool false], .bool true]) ∧ Below w.heap.size w w' := by
  have := rlift_yes 0 w (by omega) (by omega) (by decide +kernel)
  rwa [show rtMin (sqI 0) = 0 by decide +kernel] at this
theorem rlift_3 (w : World) : Calls Tryz.prog 54 #[.int .i64 3] w fun e w' => e = .returned (.tuple #[.agg #[.int .i64 3, .int .i64 156, .bool false], .bool true]) ∧ Below w.heap.size w w' := by
  have := rlift_yes 3 w (by omega) (by omega) (by decide +kernel)
  rwa [show rtMin (sqI 3) = 156 by decide +kernel] at this
set_option maxRecDepth 100000 in
set_option maxHeartbeats 4000000 in
theorem rbase_f (w : World) : Calls Tryz.prog 90 #[] w fun e w' => e = .returned (.agg #[.int .i64 ((tM 4).1 : Int), .int .i64 ((tM 4).2.1 : Int), .bool false]) ∧ Below w.heap.size w w' := by
  go_enter Tryz.func90, Tryz.ntmps90
  go_wp2_with fail
  go_loopw [1] (fun ti wl => ∃ k : Nat, k < 4 ∧ ti = .int .i64 k ∧ At wl w.heap.size [.int .i64 0, .int .i64 0, .bool false] ∧ Below w.heap.size w wl) (fun ti _ => 4 - (intOf ti).toNat)
  case atStart => exact ⟨0, by omega, rfl, at_by, below_by⟩
  case round =>
    obtain ⟨k, hk, rfl, krV, hqV⟩ := hrel
    have hz := hqV.size
    obtain ⟨zrV, cr0V, cr1V, cr2V, fr0V, fr1V, fr2V⟩ := krV.three
    have m1 : True := trivial; have m2 : True := trivial
    obtain rfl | rfl | rfl | rfl : k = 0 ∨ k = 1 ∨ k = 2 ∨ k = 3 := by omega
    · go_wp2_with (first | (go_at_call 54; clear m1; refine (rlift_0 _).mono ?_; rintro e w1 ⟨rfl, hbw1⟩; have krw1 : At w1 (w.heap.size) [.int .i64 0, .int .i64 0, .bool false] := (at_by); have hqw1 : Below w.heap.size w w1 := (below_by); have hzw1 := hqw1.size; obtain ⟨zrw1, cr0w1, cr1w1, cr2w1, fr0w1, fr1w1, fr2w1⟩ := krw1.three; clear krV cr0V fr0V cr1V fr1V cr2V fr2V hqV; clear hbw1) | (go_at_call 59; clear m2; refine (rtimes_z _).mono ?_; rintro e w2 ⟨rfl, hbw2⟩; have krw2 : At w2 (w.heap.size) [.int .i64 0, .int .i64 0, .bool false] := (at_by); have hqw2 : Below w.heap.size w w2 := (below_by); have hzw2 := hqw2.size; obtain ⟨zrw2, cr0w2, cr1w2, cr2w2, fr0w2, fr1w2, fr2w2⟩ := krw2.three; clear krw1 cr0w1 fr0w1 cr1w1 fr1w1 cr2w1 fr2w1 hqw1; clear hbw2))
      go_roundw
      case rel => exact ⟨1, by omega, by simp, at_by, below_by⟩
      case measure => simp [intOf]
    · go_wp2_with (first | (go_at_call 54; clear m1; refine (rlift_no 1 _ (by omega) (by omega) (by decide +kernel)).mono ?_; rintro e w1 ⟨rfl, hbw1⟩; have krw1 : At w1 (w.heap.size) [.int .i64 0, .int .i64 0, .bool false] := (at_by); have hqw1 : Below w.heap.size w w1 := (below_by); have hzw1 := hqw1.size; obtain ⟨zrw1, cr0w1, cr1w1, cr2w1, fr0w1, fr1w1, fr2w1⟩ := krw1.three; clear krV cr0V fr0V cr1V fr1V cr2V fr2V hqV; clear hbw1))
      go_roundw
      case rel => exact ⟨2, by omega, by simp, at_by, below_by⟩
      case measure => simp [intOf]
    · go_wp2_with (first | (go_at_call 54; clear m1; refine (rlift_no 2 _ (by omega) (by omega) (by decide +kernel)).mono ?_; rintro e w1 ⟨rfl, hbw1⟩; have krw1 : At w1 (w.heap.size) [.int .i64 0, .int .i64 0, .bool false] := (at_by); have hqw1 : Below w.heap.size w w1 := (below_by); have hzw1 := hqw1.size; obtain ⟨zrw1, cr0w1, cr1w1, cr2w1, fr0w1, fr1w1, fr2w1⟩ := krw1.three; clear krV cr0V fr0V cr1V fr1V cr2V fr2V hqV; clear hbw1))
      go_roundw
      case rel => exact ⟨3, by omega, by simp, at_by, below_by⟩
      case measure => simp [intOf]
    · go_wp2_with (first | (go_at_call 54; clear m1; refine (rlift_3 _).mono ?_; rintro e w1 ⟨rfl, hbw1⟩; have krw1 : At w1 (w.heap.size) [.int .i64 0, .int .i64 0, .bool false] := (at_by); have hqw1 : Below w.heap.size w w1 := (below_by); have hzw1 := hqw1.size; obtain ⟨zrw1, cr0w1, cr1w1, cr2w1, fr0w1, fr1w1, fr2w1⟩ := krw1.three; clear krV cr0V fr0V cr1V fr1V cr2V fr2V hqV; clear hbw1) | (go_at_call 59; clear m2; refine (rtimes_g _).mono ?_; rintro e w2 ⟨rfl, hbw2⟩; have krw2 : At w2 (w.heap.size) [.int .i64 0, .int .i64 0, .bool false] := (at_by); have hqw2 : Below w.heap.size w w2 := (below_by); have hzw2 := hqw2.size; obtain ⟨zrw2, cr0w2, cr1w2, cr2w2, fr0w2, fr1w2, fr2w2⟩ := krw2.three; clear krw1 cr0w1 fr0w1 cr1w1 fr1w1 cr2w1 fr2w1 hqw1; clear hbw2))
      exact bodyPost_ret (v := .agg #[.int .i64 ((tM 4).1 : Int), .int .i64 ((tM 4).2.1 : Int), .bool false]) (by simp [results, Tryz.results90, go_sem, *]) rfl ⟨rfl, below_by⟩
end Go.Proofs.YtgngdabfmbipaakGreatDoor

/- What the plain reckoning of so many times the base (stoneref2.By) and of a share (stoneref2.Share) answers. -/
namespace Go.Proofs.YtgngdabfmbipaakGreatDoor
open Go.RowKit Go.Sort
set_option linter.unusedVariables false
set_option linter.unusedSimpArgs false
theorem rbase_is (w : World) : Calls Tryz.prog 90 #[] w fun e w' => e = .returned (.agg #[.int .i64 ((tM 4).1 : Int), .int .i64 ((tM 4).2.1 : Int), .bool (tM 4).2.2]) ∧ Below w.heap.size w w' := by
  rw [show (tM 4).2.2 = false by rw [tM_f]; rfl]
  exact rbase_f w
set_option maxRecDepth 100000 in
set_option maxHeartbeats 4000000 in
theorem rby_eq {n : Int} {r : Sn} (h : tM (4 * em n) = r) (w : World) : Calls Tryz.prog 52 #[.int .i64 n] w fun e w' => e = .returned (.agg #[.int .i64 ((r).1 : Int), .int .i64 ((r).2.1 : Int), .bool (r).2.2]) ∧ Below w.heap.size w w' := by
  have E : Hid (tM (4 * em n) = r) := h
  clear h
  have m1 : True := trivial; have m2 : True := trivial
  go_enter Tryz.func52, Tryz.ntmps52
  go_wp2_with (first | (go_at_call 90; clear m1; refine (rbase_is _).mono ?_; rintro e w1 ⟨rfl, hbw1⟩; have krw1 : At w1 (w.heap.size) [.int .i64 0, .int .i64 0, .bool false] := (at_red); have hqw1 : Below w.heap.size w w1 := (below_by); have hzw1 := hqw1.size; obtain ⟨zrw1, cr0w1, cr1w1, cr2w1, fr0w1, fr1w1, fr2w1⟩ := krw1.three; clear hbw1) | (go_at_call 59; clear m2; refine (rtimes_eq E.out _).mono ?_; rintro e w2 ⟨rfl, hbw2⟩; have krw2 : At w2 (w.heap.size) [.int .i64 0, .int .i64 0, .bool false] := (at_red); have hqw2 : Below w.heap.size w w2 := (below_by); have hzw2 := hqw2.size; obtain ⟨zrw2, cr0w2, cr1w2, cr2w2, fr0w2, fr1w2, fr2w2⟩ := krw2.three; clear krw1 cr0w1 fr0w1 cr1w1 fr1w1 cr2w1 fr2w1 hqw1; clear hbw2))
  exact bodyPost_ret (v := .agg #[.int .i64 ((r).1 : Int), .int .i64 ((r).2.1 : Int), .bool (r).2.2]) (by simp [results, Tryz.results52, go_sem, *]) rfl ⟨rfl, below_by⟩
end Go.Proofs.YtgngdabfmbipaakGreatDoor

/- What the plain reckoning of so many times the base and so many times another spot (stoneref1.Sum) answers. -/
namespace Go.Proofs.YtgngdabfmbipaakGreatDoor
open Go.RowKit Go.Sort
set_option linter.unusedVariables false
set_option linter.unusedSimpArgs false
set_option maxRecDepth 100000 in
set_option maxHeartbeats 4000000 in
theorem rsum_eq {n m : Int} {i : Nat} {r : Sn} (h : tM (4 * em n + i * em m) = r) (w : World) : Calls Tryz.prog 98 #[.int .i64 n, .int .i64 m, .agg #[.int .i64 ((tM i).1 : Int), .int .i64 ((tM i).2.1 : Int), .bool (tM i).2.2]] w fun e w' => e = .returned (.agg #[.int .i64 ((r).1 : Int), .int .i64 ((r).2.1 : Int), .bool (r).2.2]) ∧ Below w.heap.size w w' := by
  have E3 : Hid (∀ w, Calls Tryz.prog 92 #[.agg #[.int .i64 ((tM (4 * em n)).1 : Int), .int .i64 ((tM (4 * em n)).2.1 : Int), .bool (tM (4 * em n)).2.2], .agg #[.int .i64 ((tM (i * em m)).1 : Int), .int .i64 ((tM (i * em m)).2.1 : Int), .bool (tM (i * em m)).2.2]] w fun e w' => e = .returned (.agg #[.int .i64 ((r).1 : Int), .int .i64 ((r).2.1 : Int), .bool (r).2.2]) ∧ Below w.heap.size w w') := fun w => by
    have := radd_tM (4 * em n) (i * em m) w
    rwa [h] at this
  clear h
  have m1 : True := trivial; have m2 : True := trivial; have m3 : True := trivial; have m4 : True := trivial
  go_enter Tryz.func98, Tryz.ntmps98
  go_wp2_with (first | (go_at_call 90; clear m1; refine (rbase_is _).mono ?_; rintro e w1 ⟨rfl, hbw1⟩; have ksw1 : At w1 (w.heap.size) [.int .i64 ((tM i).1 : Int), .int .i64 ((tM i).2.1 : Int), .bool (tM i).2.2] := (at_red); have kzw1 : At w1 (w.heap.size + 1) [.int .i64 0, .int .i64 0, .bool false] := (at_red); have hqw1 : Below w.heap.size w w1 := (below_by); have hzw1 := hqw1.size; obtain ⟨zsw1, cs0w1, cs1w1, cs2w1, fs0w1, fs1w1, fs2w1⟩ := ksw1.three; obtain ⟨zzw1, cz0w1, cz1w1, cz2w1, fz0w1, fz1w1, fz2w1⟩ := kzw1.three; clear hbw1) | (go_at_call 59; clear m2; refine (rtimes_tM 4 n _).mono ?_; rintro e w2 ⟨rfl, hbw2⟩; have ksw2 : At w2 (w.heap.size) [.int .i64 ((tM i).1 : Int), .int .i64 ((tM i).2.1 : Int), .bool (tM i).2.2] := (at_red); have kzw2 : At w2 (w.heap.size + 1) [.int .i64 0, .int .i64 0, .bool false] := (at_red); have hqw2 : Below w.heap.size w w2 := (below_by); have hzw2 := hqw2.size; obtain ⟨zsw2, cs0w2, cs1w2, cs2w2, fs0w2, fs1w2, fs2w2⟩ := ksw2.three; obtain ⟨zzw2, cz0w2, cz1w2, cz2w2, fz0w2, fz1w2, fz2w2⟩ := kzw2.three; clear ksw1 cs0w1 fs0w1 cs1w1 fs1w1 cs2w1 fs2w1 kzw1 cz0w1 fz0w1 cz1w1 fz1w1 cz2w1 fz2w1 hqw1; clear hbw2) | (go_at_call 59; clear m3; refine (rtimes_tM i m _).mono ?_; rintro e w3 ⟨rfl, hbw3⟩; have ksw3 : At w3 (w.heap.size) [.int .i64 ((tM i).1 : Int), .int .i64 ((tM i).2.1 : Int), .bool (tM i).2.2] := (at_red); have kzw3 : At w3 (w.heap.size + 1) [.int .i64 0, .int .i64 0, .bool false] := (at_red); have kaw3 : At w3 (w2.heap.size) [.int .i64 ((tM (4 * em n)).1 : Int), .int .i64 ((tM (4 * em n)).2.1 : Int), .bool (tM (4 * em n)).2.2] := (at_red); have hqw3 : Below w.heap.size w w3 := (below_by); have hzw3 := hqw3.size; obtain ⟨zsw3, cs0w3, cs1w3, cs2w3, fs0w3, fs1w3, fs2w3⟩ := ksw3.three; obtain ⟨zzw3, cz0w3, cz1w3, cz2w3, fz0w3, fz1w3, fz2w3⟩ := kzw3.three; obtain ⟨zaw3, ca0w3, ca1w3, ca2w3, fa0w3, fa1w3, fa2w3⟩ := kaw3.three; clear ksw2 cs0w2 fs0w2 cs1w2 fs1w2 cs2w2 fs2w2 kzw2 cz0w2 fz0w2 cz1w2 fz1w2 cz2w2 fz2w2 hqw2; clear hbw3) | (go_at_call 92; clear m4; refine (E3.out _).mono ?_; rintro e w4 ⟨rfl, hbw4⟩; have ksw4 : At w4 (w.heap.size) [.int .i64 ((tM i).1 : Int), .int .i64 ((tM i).2.1 : Int), .bool (tM i).2.2] := (at_red); have kzw4 : At w4 (w.heap.size + 1) [.int .i64 0, .int .i64 0, .bool false] := (at_red); have kaw4 : At w4 (w2.heap.size) [.int .i64 ((tM (4 * em n)).1 : Int), .int .i64 ((tM (4 * em n)).2.1 : Int), .bool (tM (4 * em n)).2.2] := (at_red); have kbw4 : At w4 (w3.heap.size) [.int .i64 ((tM (i * em m)).1 : Int), .int .i64 ((tM (i * em m)).2.1 : Int), .bool (tM (i * em m)).2.2] := (at_red); have hqw4 : Below w.heap.size w w4 := (below_by); have hzw4 := hqw4.size; obtain ⟨zsw4, cs0w4, cs1w4, cs2w4, fs0w4, fs1w4, fs2w4⟩ := ksw4.three; obtain ⟨zzw4, cz0w4, cz1w4, cz2w4, fz0w4, fz1w4, fz2w4⟩ := kzw4.three; obtain ⟨zaw4, ca0w4, ca1w4, ca2w4, fa0w4, fa1w4, fa2w4⟩ := kaw4.three; obtain ⟨zbw4, cb0w4, cb1w4, cb2w4, fb0w4, fb1w4, fb2w4⟩ := kbw4.three; clear ksw3 cs0w3 fs0w3 cs1w3 fs1w3 cs2w3 fs2w3 kzw3 cz0w3 fz0w3 cz1w3 fz1w3 cz2w3 fz2w3 kaw3 ca0w3 fa0w3 ca1w3 fa1w3 ca2w3 fa2w3 hqw3; clear hbw4))
  exact bodyPost_ret (v := .agg #[.int .i64 ((r).1 : Int), .int .i64 ((r).2.1 : Int), .bool (r).2.2]) (by simp [results, Tryz.results98, go_sem, *]) rfl ⟨rfl, below_by⟩
end Go.Proofs.YtgngdabfmbipaakGreatDoor
