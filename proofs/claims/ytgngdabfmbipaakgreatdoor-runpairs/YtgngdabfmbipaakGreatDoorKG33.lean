/- The answers to pair, short and sign, as the plain reckoning has them (stoneref2.answer). -/
import Derived.Test.YtgngdabfmbipaakGreatDoorKRefRunD
import Derived.Test.YtgngdabfmbipaakGreatDoorKRefSeal
import Derived.Test.YtgngdabfmbipaakGreatDoorKGate
import Derived.Test.YtgngdabfmbipaakGreatDoorKG2
import Derived.Test.YtgngdabfmbipaakGreatDoorKRefRunF
namespace Go.Proofs.YtgngdabfmbipaakGreatDoor
open Go.RowKit Go.Sort
set_option linter.unusedVariables false
set_option linter.unusedSimpArgs false
theorem tp_nat (k : Nat) : ∃ x y : Nat, tp gI k = ((x : Int), (y : Int)) ∧ x ≤ 4050 ∧ y ≤ 4050 := by
  have a1 : 0 ≤ (tp gI k).1 := fm_lo _
  have a2 : (tp gI k).1 ≤ 4050 := fm_hi _
  have b1 : 0 ≤ (tp gI k).2 := fm_lo _
  have b2 : (tp gI k).2 ≤ 4050 := fm_hi _
  refine ⟨(tp gI k).1.toNat, (tp gI k).2.toNat, ?_, by omega, by omega⟩
  rw [Int.toNat_of_nonneg a1, Int.toNat_of_nonneg b1]
set_option maxRecDepth 100000 in
set_option maxHeartbeats 4000000 in
theorem rans_pair (a b c : Nat) (t : ByteArray) (w : World) (ha : a ≤ 9999) (hb : b ≤ 9999) (hc : c ≤ 9999) (ht : t.size ≤ 3000)  : Calls Tryz.prog 19 #[.string ⟨#[112, 97, 105, 114]⟩, .agg #[.int .i64 (a : Int), .int .i64 (b : Int), .int .i64 (c : Int)], .string t] w fun e w' => e = .returned (.string (ansB 4 a b c t)) ∧ Below w.heap.size w w' := by
  have A1 : Hid (∀ w, Calls Tryz.prog 49 #[.int .i64 (a : Int)] w fun e w' => e = .returned (.bool (secB (a : Int))) ∧ Below w.heap.size w w') := fun w => rsecret _ w
  have A2 : Hid (∀ w, Calls Tryz.prog 49 #[.int .i64 (b : Int)] w fun e w' => e = .returned (.bool (secB (b : Int))) ∧ Below w.heap.size w w') := fun w => rsecret _ w
  have A3 : Hid (∀ w, Calls Tryz.prog 50 #[.int .i64 (a : Int)] w fun e w' => e = .returned (.bool (resB (a : Int))) ∧ Below w.heap.size w w') := fun w => rrest _ w
  have A4 : Hid (∀ w, Calls Tryz.prog 50 #[.int .i64 (b : Int)] w fun e w' => e = .returned (.bool (resB (b : Int))) ∧ Below w.heap.size w w') := fun w => rrest _ w
  obtain ⟨x, y, hxy, hx, hy⟩ := tp_nat (a * b)
  have HX : Hid (ansB 4 a b c t = digB x ++ ⟨#[32]⟩ ++ digB y) := by unfold Hid ansB; rw [hxy]; rfl
  have HA : Hid (tM (4 * em (a : Int)) = tM (4 * a)) := tM_em 4 a
  have HB : Hid (tM (4 * em (b : Int)) = tM (4 * b)) := tM_em 4 b
  have HP : Hid (∀ w, Calls Tryz.prog 57 #[.agg #[.int .i64 ((tM (4 * a)).1 : Int), .int .i64 ((tM (4 * a)).2.1 : Int), .bool (tM (4 * a)).2.2], .agg #[.int .i64 ((tM (4 * b)).1 : Int), .int .i64 ((tM (4 * b)).2.1 : Int), .bool (tM (4 * b)).2.2]] w fun e w' => e = .returned (.agg #[.int .i64 (x : Int), .int .i64 (y : Int)]) ∧ Below w.heap.size w w') := fun w => by
    have := rpair_tM a b w
    rw [hxy] at this
    exact this
  have s1 := digB_size x
  have s2 := digB_size y
  clear hxy
  have m1 : True := trivial; have m2 : True := trivial; have m3 : True := trivial; have m4 : True := trivial; have m5 : True := trivial; have m6 : True := trivial
  go_enter Tryz.func19, Tryz.ntmps19
  go_upto_region 20 with (first | (go_at_call 49; clear m1; refine (A1.out _).mono ?_; rintro e w1 ⟨rfl, hbw1⟩; have knw1 : At w1 (w.heap.size) [.int .i64 (a : Int), .int .i64 (b : Int), .int .i64 (c : Int)] := (at_red); have hqw1 : Below w.heap.size w w1 := (below_by); have hzw1 := hqw1.size; obtain ⟨znw1, cn0w1, cn1w1, cn2w1, fn0w1, fn1w1, fn2w1⟩ := knw1.three; clear hbw1) | (go_at_call 49; clear m2; refine (A2.out _).mono ?_; rintro e w2 ⟨rfl, hbw2⟩; have knw2 : At w2 (w.heap.size) [.int .i64 (a : Int), .int .i64 (b : Int), .int .i64 (c : Int)] := (at_red); have hqw2 : Below w.heap.size w w2 := (below_by); have hzw2 := hqw2.size; obtain ⟨znw2, cn0w2, cn1w2, cn2w2, fn0w2, fn1w2, fn2w2⟩ := knw2.three; clear knw1 cn0w1 fn0w1 cn1w1 fn1w1 cn2w1 fn2w1 hqw1; clear hbw2) | (go_at_call 50; clear m3; refine (A3.out _).mono ?_; rintro e w3 ⟨rfl, hbw3⟩; have knw3 : At w3 (w.heap.size) [.int .i64 (a : Int), .int .i64 (b : Int), .int .i64 (c : Int)] := (at_red); have hqw3 : Below w.heap.size w w3 := (below_by); have hzw3 := hqw3.size; obtain ⟨znw3, cn0w3, cn1w3, cn2w3, fn0w3, fn1w3, fn2w3⟩ := knw3.three; clear knw2 cn0w2 fn0w2 cn1w2 fn1w2 cn2w2 fn2w2 hqw2; clear hbw3) | (go_at_call 50; clear m4; refine (A4.out _).mono ?_; rintro e w4 ⟨rfl, hbw4⟩; have knw4 : At w4 (w.heap.size) [.int .i64 (a : Int), .int .i64 (b : Int), .int .i64 (c : Int)] := (at_red); have hqw4 : Below w.heap.size w w4 := (below_by); have hzw4 := hqw4.size; obtain ⟨znw4, cn0w4, cn1w4, cn2w4, fn0w4, fn1w4, fn2w4⟩ := knw4.three; clear knw3 cn0w3 fn0w3 cn1w3 fn1w3 cn2w3 fn2w3 hqw3; clear hbw4))
  refine wp_gen (fun U => At U (w.heap.size) [.int .i64 (a : Int), .int .i64 (b : Int), .int .i64 (c : Int)] ∧ Below w.heap.size w U) ⟨at_red, below_by⟩ ?_
  rintro U ⟨knU, hqU⟩
  have hzU := hqU.size
  clear knw4 cn0w4 fn0w4 cn1w4 fn1w4 cn2w4 fn2w4 hqw4
  obtain ⟨znU, cn0U, cn1U, cn2U, fn0U, fn1U, fn2U⟩ := knU.three
  apply region_new 7 93 [.int .i64 0, .int .i64 0] (by kernel_rfl) (by kernel_rfl) (fun b => by kernel_rfl) rfl rfl rfl
  case hal => intro e u; simp [go_sem]
  case h =>
    intro z Y hrY
    have knY := knU.below hrY
    obtain ⟨znY, cn0Y, cn1Y, cn2Y, fn0Y, fn1Y, fn2Y⟩ := knY.three
    dsimp only [List.dropLast, withPtr, ptrOp, Cls]
    repeat (go_big_quiet_step (first | (go_at_call 52; with_reducible exact Calls.regrown_of (rby_eq HA.out _)) | (go_at_call 52; with_reducible exact Calls.regrown_of (rby_eq HB.out _)) | (go_at_call 57; with_reducible exact Calls.regrown_of (HP.out _))))
    exact wpQuiet_nil rfl
  case hA => intro b; rfl
  case hend =>
  intro z Y hrY kzY hyz
  have knY := knU.below hrY
  have hqY := bl_call hqU hrY (by omega)
  have hzY := hqY.size
  clear hrY knU cn0U fn0U cn1U fn1U cn2U fn2U hqU
  obtain ⟨znY, cn0Y, cn1Y, cn2Y, fn0Y, fn1Y, fn2Y⟩ := knY.three
  obtain ⟨zzY, cz0Y, cz1Y, fz0Y, fz1Y⟩ := kzY.two
  dsimp only [List.dropLast, List.length, List.drop]
  go_wp2_with (first | (go_at_call 11; clear m5; refine (rdigits x _ (by omega)).mono ?_; rintro e v1 ⟨rfl, hb1⟩; have kpv1 : At v1 z [.int .i64 (x : Int), .int .i64 (y : Int)] := (at_red); have hqv1 : Below w.heap.size w v1 := (below_by); have hzv1 := hqv1.size; obtain ⟨zpv1, cp0v1, cp1v1, fp0v1, fp1v1⟩ := kpv1.two; clear hb1) | (go_at_call 11; clear m6; refine (rdigits y _ (by omega)).mono ?_; rintro e v2 ⟨rfl, hb2⟩; have hqv2 : Below w.heap.size w v2 := (below_by); have hzv2 := hqv2.size; clear hb2))
  go_ret
  exact ⟨by rw [HX.out]; rfl, below_by⟩
theorem rof_un (t : ByteArray) (w : World) (ht : t.size ≤ 140737488351232) : Calls Tryz.prog 60 #[.string t] w fun e w' => e = .returned (.agg #[.int .i64 ((tM (4 * uN t)).1 : Int), .int .i64 ((tM (4 * uN t)).2.1 : Int), .bool (tM (4 * uN t)).2.2]) ∧ Below w.heap.size w w' := by
  have := rof_any t w ht
  rw [uN_is] at this
  rw [uN_f]
  exact this
theorem rsec_or {a : Nat} (h : secB (a : Int) = false) : (Nat.beq a 0 || decide (1013 ≤ a)) = true := by
  have := of_decide_eq_false (p := 1 ≤ (a : Int) ∧ (a : Int) < 1013) h
  rcases Nat.eq_zero_or_pos a with h | h
  · rw [h]; rfl
  · rw [decide_eq_true (show 1013 ≤ a by omega), Bool.or_true]
theorem rsec_no {a : Nat} (h : secB (a : Int) = true) : (Nat.beq a 0 || decide (1013 ≤ a)) = false ∧ 1 ≤ a ∧ a < 1013 := by
  have := of_decide_eq_true (p := 1 ≤ (a : Int) ∧ (a : Int) < 1013) h
  exact ⟨by rw [beq_no (show a ≠ 0 by omega), decide_eq_false (show ¬ 1013 ≤ a by omega)]; rfl, by omega, by omega⟩
set_option maxRecDepth 100000 in
set_option maxHeartbeats 4000000 in
theorem rans_short (a b c : Nat) (t : ByteArray) (w : World) (ha : a ≤ 9999) (hb : b ≤ 9999) (hc : c ≤ 9999) (ht : t.size ≤ 3000)  : Calls Tryz.prog 19 #[.string ⟨#[115, 104, 111, 114, 116]⟩, .agg #[.int .i64 (a : Int), .int .i64 (b : Int), .int .i64 (c : Int)], .string t] w fun e w' => e = .returned (.string (ansB 8 a b c t)) ∧ Below w.heap.size w w' := by
  have A1 : Hid (∀ w, Calls Tryz.prog 49 #[.int .i64 (a : Int)] w fun e w' => e = .returned (.bool (secB (a : Int))) ∧ Below w.heap.size w w') := fun w => rsecret _ w
  have A2 : Hid (∀ w, Calls Tryz.prog 49 #[.int .i64 (b : Int)] w fun e w' => e = .returned (.bool (secB (b : Int))) ∧ Below w.heap.size w w') := fun w => rsecret _ w
  have A3 : Hid (∀ w, Calls Tryz.prog 50 #[.int .i64 (a : Int)] w fun e w' => e = .returned (.bool (resB (a : Int))) ∧ Below w.heap.size w w') := fun w => rrest _ w
  have A4 : Hid (∀ w, Calls Tryz.prog 50 #[.int .i64 (b : Int)] w fun e w' => e = .returned (.bool (resB (b : Int))) ∧ Below w.heap.size w w') := fun w => rrest _ w
  cases h1 : secB (a : Int) with
  | false =>
    rw [h1] at A1
    have HX : Hid (ansB 8 a b c t = rangeB) := by unfold Hid ansB; rw [rsec_or h1]; rfl
    clear h1
    have m1 : True := trivial; have m2 : True := trivial; have m3 : True := trivial; have m4 : True := trivial; have m5 : True := trivial
    go_enter Tryz.func19, Tryz.ntmps19
    go_wp2_with (first | (go_at_call 49; clear m1; refine (A1.out _).mono ?_; rintro e w1 ⟨rfl, hbw1⟩; have knw1 : At w1 (w.heap.size) [.int .i64 (a : Int), .int .i64 (b : Int), .int .i64 (c : Int)] := (at_red); have hqw1 : Below w.heap.size w w1 := (below_by); have hzw1 := hqw1.size; obtain ⟨znw1, cn0w1, cn1w1, cn2w1, fn0w1, fn1w1, fn2w1⟩ := knw1.three; clear hbw1) | (go_at_call 49; clear m2; refine (A2.out _).mono ?_; rintro e w2 ⟨rfl, hbw2⟩; have knw2 : At w2 (w.heap.size) [.int .i64 (a : Int), .int .i64 (b : Int), .int .i64 (c : Int)] := (at_red); have hqw2 : Below w.heap.size w w2 := (below_by); have hzw2 := hqw2.size; obtain ⟨znw2, cn0w2, cn1w2, cn2w2, fn0w2, fn1w2, fn2w2⟩ := knw2.three; clear knw1 cn0w1 fn0w1 cn1w1 fn1w1 cn2w1 fn2w1 hqw1; clear hbw2) | (go_at_call 50; clear m3; refine (A3.out _).mono ?_; rintro e w3 ⟨rfl, hbw3⟩; have knw3 : At w3 (w.heap.size) [.int .i64 (a : Int), .int .i64 (b : Int), .int .i64 (c : Int)] := (at_red); have hqw3 : Below w.heap.size w w3 := (below_by); have hzw3 := hqw3.size; obtain ⟨znw3, cn0w3, cn1w3, cn2w3, fn0w3, fn1w3, fn2w3⟩ := knw3.three; clear knw2 cn0w2 fn0w2 cn1w2 fn1w2 cn2w2 fn2w2 hqw2; clear hbw3) | (go_at_call 50; clear m4; refine (A4.out _).mono ?_; rintro e w4 ⟨rfl, hbw4⟩; have knw4 : At w4 (w.heap.size) [.int .i64 (a : Int), .int .i64 (b : Int), .int .i64 (c : Int)] := (at_red); have hqw4 : Below w.heap.size w w4 := (below_by); have hzw4 := hqw4.size; obtain ⟨znw4, cn0w4, cn1w4, cn2w4, fn0w4, fn1w4, fn2w4⟩ := knw4.three; clear knw3 cn0w3 fn0w3 cn1w3 fn1w3 cn2w3 fn2w3 hqw3; clear hbw4) | (go_at_call 53; clear m5; refine (rname1 _).mono ?_; rintro e w5 ⟨rfl, hbw5⟩; have hqw5 : Below w.heap.size w w5 := (below_by); have hzw5 := hqw5.size; clear knw4 cn0w4 fn0w4 cn1w4 fn1w4 cn2w4 fn2w4 hqw4; clear hbw5))
    go_ret
    exact ⟨by rw [HX.out]; rfl, below_by⟩
  | true =>
    rw [h1] at A1
    obtain ⟨e1, a1, a2⟩ := rsec_no h1
    by_cases h60 : 60 < t.size
    · have h6' : (t.size : Int) > 60 := by omega
      have HX : Hid (ansB 8 a b c t = fullB) := by unfold Hid ansB; rw [e1, decide_eq_true h60]; rfl
      clear h1 e1
      have m1 : True := trivial; have m2 : True := trivial; have m3 : True := trivial; have m4 : True := trivial; have m5 : True := trivial
      go_enter Tryz.func19, Tryz.ntmps19
      go_wp2_with (first | (go_at_call 49; clear m1; refine (A1.out _).mono ?_; rintro e w1 ⟨rfl, hbw1⟩; have knw1 : At w1 (w.heap.size) [.int .i64 (a : Int), .int .i64 (b : Int), .int .i64 (c : Int)] := (at_red); have hqw1 : Below w.heap.size w w1 := (below_by); have hzw1 := hqw1.size; obtain ⟨znw1, cn0w1, cn1w1, cn2w1, fn0w1, fn1w1, fn2w1⟩ := knw1.three; clear hbw1) | (go_at_call 49; clear m2; refine (A2.out _).mono ?_; rintro e w2 ⟨rfl, hbw2⟩; have knw2 : At w2 (w.heap.size) [.int .i64 (a : Int), .int .i64 (b : Int), .int .i64 (c : Int)] := (at_red); have hqw2 : Below w.heap.size w w2 := (below_by); have hzw2 := hqw2.size; obtain ⟨znw2, cn0w2, cn1w2, cn2w2, fn0w2, fn1w2, fn2w2⟩ := knw2.three; clear knw1 cn0w1 fn0w1 cn1w1 fn1w1 cn2w1 fn2w1 hqw1; clear hbw2) | (go_at_call 50; clear m3; refine (A3.out _).mono ?_; rintro e w3 ⟨rfl, hbw3⟩; have knw3 : At w3 (w.heap.size) [.int .i64 (a : Int), .int .i64 (b : Int), .int .i64 (c : Int)] := (at_red); have hqw3 : Below w.heap.size w w3 := (below_by); have hzw3 := hqw3.size; obtain ⟨znw3, cn0w3, cn1w3, cn2w3, fn0w3, fn1w3, fn2w3⟩ := knw3.three; clear knw2 cn0w2 fn0w2 cn1w2 fn1w2 cn2w2 fn2w2 hqw2; clear hbw3) | (go_at_call 50; clear m4; refine (A4.out _).mono ?_; rintro e w4 ⟨rfl, hbw4⟩; have knw4 : At w4 (w.heap.size) [.int .i64 (a : Int), .int .i64 (b : Int), .int .i64 (c : Int)] := (at_red); have hqw4 : Below w.heap.size w w4 := (below_by); have hzw4 := hqw4.size; obtain ⟨znw4, cn0w4, cn1w4, cn2w4, fn0w4, fn1w4, fn2w4⟩ := knw4.three; clear knw3 cn0w3 fn0w3 cn1w3 fn1w3 cn2w3 fn2w3 hqw3; clear hbw4) | (go_at_call 53; clear m5; refine (rname4 _).mono ?_; rintro e w5 ⟨rfl, hbw5⟩; have hqw5 : Below w.heap.size w w5 := (below_by); have hzw5 := hqw5.size; clear knw4 cn0w4 fn0w4 cn1w4 fn1w4 cn2w4 fn2w4 hqw4; clear hbw5))
      go_ret
      exact ⟨by rw [HX.out]; rfl, below_by⟩
    · have h6' : ¬ (t.size : Int) > 60 := by omega
      have HX : Hid (ansB 8 a b c t = toldB (tM (4 * uN t * a))) := by unfold Hid ansB; rw [e1, decide_eq_false h60]; rfl
      have HT : Hid (tM (4 * uN t * em (a : Int)) = tM (4 * uN t * a)) := tM_em _ a
      have HO : Hid (∀ w, Calls Tryz.prog 60 #[.string t] w fun e w' => e = .returned (.agg #[.int .i64 ((tM (4 * uN t)).1 : Int), .int .i64 ((tM (4 * uN t)).2.1 : Int), .bool (tM (4 * uN t)).2.2]) ∧ Below w.heap.size w w') := fun w => rof_un t w (by omega)
      clear h1 e1
      have m1 : True := trivial; have m2 : True := trivial; have m3 : True := trivial; have m4 : True := trivial; have m5 : True := trivial; have m6 : True := trivial
      go_enter Tryz.func19, Tryz.ntmps19
      go_upto_region 33 with (first | (go_at_call 49; clear m1; refine (A1.out _).mono ?_; rintro e w1 ⟨rfl, hbw1⟩; have knw1 : At w1 (w.heap.size) [.int .i64 (a : Int), .int .i64 (b : Int), .int .i64 (c : Int)] := (at_red); have hqw1 : Below w.heap.size w w1 := (below_by); have hzw1 := hqw1.size; obtain ⟨znw1, cn0w1, cn1w1, cn2w1, fn0w1, fn1w1, fn2w1⟩ := knw1.three; clear hbw1) | (go_at_call 49; clear m2; refine (A2.out _).mono ?_; rintro e w2 ⟨rfl, hbw2⟩; have knw2 : At w2 (w.heap.size) [.int .i64 (a : Int), .int .i64 (b : Int), .int .i64 (c : Int)] := (at_red); have hqw2 : Below w.heap.size w w2 := (below_by); have hzw2 := hqw2.size; obtain ⟨znw2, cn0w2, cn1w2, cn2w2, fn0w2, fn1w2, fn2w2⟩ := knw2.three; clear knw1 cn0w1 fn0w1 cn1w1 fn1w1 cn2w1 fn2w1 hqw1; clear hbw2) | (go_at_call 50; clear m3; refine (A3.out _).mono ?_; rintro e w3 ⟨rfl, hbw3⟩; have knw3 : At w3 (w.heap.size) [.int .i64 (a : Int), .int .i64 (b : Int), .int .i64 (c : Int)] := (at_red); have hqw3 : Below w.heap.size w w3 := (below_by); have hzw3 := hqw3.size; obtain ⟨znw3, cn0w3, cn1w3, cn2w3, fn0w3, fn1w3, fn2w3⟩ := knw3.three; clear knw2 cn0w2 fn0w2 cn1w2 fn1w2 cn2w2 fn2w2 hqw2; clear hbw3) | (go_at_call 50; clear m4; refine (A4.out _).mono ?_; rintro e w4 ⟨rfl, hbw4⟩; have knw4 : At w4 (w.heap.size) [.int .i64 (a : Int), .int .i64 (b : Int), .int .i64 (c : Int)] := (at_red); have hqw4 : Below w.heap.size w w4 := (below_by); have hzw4 := hqw4.size; obtain ⟨znw4, cn0w4, cn1w4, cn2w4, fn0w4, fn1w4, fn2w4⟩ := knw4.three; clear knw3 cn0w3 fn0w3 cn1w3 fn1w3 cn2w3 fn2w3 hqw3; clear hbw4))
      refine wp_gen (fun U => At U (w.heap.size) [.int .i64 (a : Int), .int .i64 (b : Int), .int .i64 (c : Int)] ∧ Below w.heap.size w U) ⟨at_red, below_by⟩ ?_
      rintro U ⟨knU, hqU⟩
      have hzU := hqU.size
      clear knw4 cn0w4 fn0w4 cn1w4 fn1w4 cn2w4 fn2w4 hqw4
      obtain ⟨znU, cn0U, cn1U, cn2U, fn0U, fn1U, fn2U⟩ := knU.three
      refine wp_region_quiet_below (by kernel_rfl) (by kernel_rfl) ?_
      repeat (go_big_quiet_step (first | (go_at_call 60; with_reducible exact Calls.regrown_of (HO.out _)) | (go_at_call 59; with_reducible exact Calls.regrown_of (rtimes_eq HT.out _)) | (go_at_call 51; with_reducible exact Calls.regrown_of (rtold_t _ _))))
      refine wpQuiet_nil ?_
      intro Y hw1
      have hrY := regrown_below hw1
      clear hw1
      have knY := knU.below hrY
      have hqY := bl_call hqU hrY (by omega)
      have hzY := hqY.size
      clear hrY knU cn0U fn0U cn1U fn1U cn2U fn2U hqU
      obtain ⟨znY, cn0Y, cn1Y, cn2Y, fn0Y, fn1Y, fn2Y⟩ := knY.three
      go_wp2_with fail
      go_ret
      exact ⟨by rw [HX.out]; rfl, below_by⟩
set_option maxRecDepth 100000 in
set_option maxHeartbeats 4000000 in
theorem rans_sign (a b c : Nat) (t : ByteArray) (w : World) (ha : a ≤ 9999) (hb : b ≤ 9999) (hc : c ≤ 9999) (ht : t.size ≤ 3000)  : Calls Tryz.prog 19 #[.string ⟨#[115, 105, 103, 110]⟩, .agg #[.int .i64 (a : Int), .int .i64 (b : Int), .int .i64 (c : Int)], .string t] w fun e w' => e = .returned (.string (ansB 9 a b c t)) ∧ Below w.heap.size w w' := by
  have A1 : Hid (∀ w, Calls Tryz.prog 49 #[.int .i64 (a : Int)] w fun e w' => e = .returned (.bool (secB (a : Int))) ∧ Below w.heap.size w w') := fun w => rsecret _ w
  have A2 : Hid (∀ w, Calls Tryz.prog 49 #[.int .i64 (b : Int)] w fun e w' => e = .returned (.bool (secB (b : Int))) ∧ Below w.heap.size w w') := fun w => rsecret _ w
  have A3 : Hid (∀ w, Calls Tryz.prog 50 #[.int .i64 (a : Int)] w fun e w' => e = .returned (.bool (resB (a : Int))) ∧ Below w.heap.size w w') := fun w => rrest _ w
  have A4 : Hid (∀ w, Calls Tryz.prog 50 #[.int .i64 (b : Int)] w fun e w' => e = .returned (.bool (resB (b : Int))) ∧ Below w.heap.size w w') := fun w => rrest _ w
  cases h1 : secB (a : Int) with
  | false =>
    rw [h1] at A1
    have HX : Hid (ansB 9 a b c t = rangeB) := by unfold Hid ansB; rw [rsec_or h1]; rfl
    clear h1
    have m1 : True := trivial; have m2 : True := trivial; have m3 : True := trivial; have m4 : True := trivial; have m5 : True := trivial
    go_enter Tryz.func19, Tryz.ntmps19
    go_wp2_with (first | (go_at_call 49; clear m1; refine (A1.out _).mono ?_; rintro e w1 ⟨rfl, hbw1⟩; have knw1 : At w1 (w.heap.size) [.int .i64 (a : Int), .int .i64 (b : Int), .int .i64 (c : Int)] := (at_red); have hqw1 : Below w.heap.size w w1 := (below_by); have hzw1 := hqw1.size; obtain ⟨znw1, cn0w1, cn1w1, cn2w1, fn0w1, fn1w1, fn2w1⟩ := knw1.three; clear hbw1) | (go_at_call 49; clear m2; refine (A2.out _).mono ?_; rintro e w2 ⟨rfl, hbw2⟩; have knw2 : At w2 (w.heap.size) [.int .i64 (a : Int), .int .i64 (b : Int), .int .i64 (c : Int)] := (at_red); have hqw2 : Below w.heap.size w w2 := (below_by); have hzw2 := hqw2.size; obtain ⟨znw2, cn0w2, cn1w2, cn2w2, fn0w2, fn1w2, fn2w2⟩ := knw2.three; clear knw1 cn0w1 fn0w1 cn1w1 fn1w1 cn2w1 fn2w1 hqw1; clear hbw2) | (go_at_call 50; clear m3; refine (A3.out _).mono ?_; rintro e w3 ⟨rfl, hbw3⟩; have knw3 : At w3 (w.heap.size) [.int .i64 (a : Int), .int .i64 (b : Int), .int .i64 (c : Int)] := (at_red); have hqw3 : Below w.heap.size w w3 := (below_by); have hzw3 := hqw3.size; obtain ⟨znw3, cn0w3, cn1w3, cn2w3, fn0w3, fn1w3, fn2w3⟩ := knw3.three; clear knw2 cn0w2 fn0w2 cn1w2 fn1w2 cn2w2 fn2w2 hqw2; clear hbw3) | (go_at_call 50; clear m4; refine (A4.out _).mono ?_; rintro e w4 ⟨rfl, hbw4⟩; have knw4 : At w4 (w.heap.size) [.int .i64 (a : Int), .int .i64 (b : Int), .int .i64 (c : Int)] := (at_red); have hqw4 : Below w.heap.size w w4 := (below_by); have hzw4 := hqw4.size; obtain ⟨znw4, cn0w4, cn1w4, cn2w4, fn0w4, fn1w4, fn2w4⟩ := knw4.three; clear knw3 cn0w3 fn0w3 cn1w3 fn1w3 cn2w3 fn2w3 hqw3; clear hbw4) | (go_at_call 53; clear m5; refine (rname1 _).mono ?_; rintro e w5 ⟨rfl, hbw5⟩; have hqw5 : Below w.heap.size w w5 := (below_by); have hzw5 := hqw5.size; clear knw4 cn0w4 fn0w4 cn1w4 fn1w4 cn2w4 fn2w4 hqw4; clear hbw5))
    go_ret
    exact ⟨by rw [HX.out]; rfl, below_by⟩
  | true =>
    rw [h1] at A1
    obtain ⟨e1, a1, a2⟩ := rsec_no h1
    cases h2 : secB (b : Int) with
    | false =>
      rw [h2] at A2
      have e2 := rsec_or h2
      have HX : Hid (ansB 9 a b c t = rangeB) := by unfold Hid ansB; rw [e1, Bool.false_or, e2]; rfl
      clear h1 h2 e1 e2
      have m1 : True := trivial; have m2 : True := trivial; have m3 : True := trivial; have m4 : True := trivial; have m5 : True := trivial
      go_enter Tryz.func19, Tryz.ntmps19
      go_wp2_with (first | (go_at_call 49; clear m1; refine (A1.out _).mono ?_; rintro e w1 ⟨rfl, hbw1⟩; have knw1 : At w1 (w.heap.size) [.int .i64 (a : Int), .int .i64 (b : Int), .int .i64 (c : Int)] := (at_red); have hqw1 : Below w.heap.size w w1 := (below_by); have hzw1 := hqw1.size; obtain ⟨znw1, cn0w1, cn1w1, cn2w1, fn0w1, fn1w1, fn2w1⟩ := knw1.three; clear hbw1) | (go_at_call 49; clear m2; refine (A2.out _).mono ?_; rintro e w2 ⟨rfl, hbw2⟩; have knw2 : At w2 (w.heap.size) [.int .i64 (a : Int), .int .i64 (b : Int), .int .i64 (c : Int)] := (at_red); have hqw2 : Below w.heap.size w w2 := (below_by); have hzw2 := hqw2.size; obtain ⟨znw2, cn0w2, cn1w2, cn2w2, fn0w2, fn1w2, fn2w2⟩ := knw2.three; clear knw1 cn0w1 fn0w1 cn1w1 fn1w1 cn2w1 fn2w1 hqw1; clear hbw2) | (go_at_call 50; clear m3; refine (A3.out _).mono ?_; rintro e w3 ⟨rfl, hbw3⟩; have knw3 : At w3 (w.heap.size) [.int .i64 (a : Int), .int .i64 (b : Int), .int .i64 (c : Int)] := (at_red); have hqw3 : Below w.heap.size w w3 := (below_by); have hzw3 := hqw3.size; obtain ⟨znw3, cn0w3, cn1w3, cn2w3, fn0w3, fn1w3, fn2w3⟩ := knw3.three; clear knw2 cn0w2 fn0w2 cn1w2 fn1w2 cn2w2 fn2w2 hqw2; clear hbw3) | (go_at_call 50; clear m4; refine (A4.out _).mono ?_; rintro e w4 ⟨rfl, hbw4⟩; have knw4 : At w4 (w.heap.size) [.int .i64 (a : Int), .int .i64 (b : Int), .int .i64 (c : Int)] := (at_red); have hqw4 : Below w.heap.size w w4 := (below_by); have hzw4 := hqw4.size; obtain ⟨znw4, cn0w4, cn1w4, cn2w4, fn0w4, fn1w4, fn2w4⟩ := knw4.three; clear knw3 cn0w3 fn0w3 cn1w3 fn1w3 cn2w3 fn2w3 hqw3; clear hbw4) | (go_at_call 53; clear m5; refine (rname1 _).mono ?_; rintro e w5 ⟨rfl, hbw5⟩; have hqw5 : Below w.heap.size w w5 := (below_by); have hzw5 := hqw5.size; clear knw4 cn0w4 fn0w4 cn1w4 fn1w4 cn2w4 fn2w4 hqw4; clear hbw5))
      go_ret
      exact ⟨by rw [HX.out]; rfl, below_by⟩
    | true =>
      rw [h2] at A2
      obtain ⟨e2, b1, b2⟩ := rsec_no h2
      by_cases h60 : 60 < t.size
      · have h6' : (t.size : Int) > 60 := by omega
        have HX : Hid (ansB 9 a b c t = fullB) := by unfold Hid ansB; rw [e1, Bool.false_or, e2, decide_eq_true h60]; rfl
        clear h1 h2 e1 e2
        have m1 : True := trivial; have m2 : True := trivial; have m3 : True := trivial; have m4 : True := trivial; have m5 : True := trivial
        go_enter Tryz.func19, Tryz.ntmps19
        go_wp2_with (first | (go_at_call 49; clear m1; refine (A1.out _).mono ?_; rintro e w1 ⟨rfl, hbw1⟩; have knw1 : At w1 (w.heap.size) [.int .i64 (a : Int), .int .i64 (b : Int), .int .i64 (c : Int)] := (at_red); have hqw1 : Below w.heap.size w w1 := (below_by); have hzw1 := hqw1.size; obtain ⟨znw1, cn0w1, cn1w1, cn2w1, fn0w1, fn1w1, fn2w1⟩ := knw1.three; clear hbw1) | (go_at_call 49; clear m2; refine (A2.out _).mono ?_; rintro e w2 ⟨rfl, hbw2⟩; have knw2 : At w2 (w.heap.size) [.int .i64 (a : Int), .int .i64 (b : Int), .int .i64 (c : Int)] := (at_red); have hqw2 : Below w.heap.size w w2 := (below_by); have hzw2 := hqw2.size; obtain ⟨znw2, cn0w2, cn1w2, cn2w2, fn0w2, fn1w2, fn2w2⟩ := knw2.three; clear knw1 cn0w1 fn0w1 cn1w1 fn1w1 cn2w1 fn2w1 hqw1; clear hbw2) | (go_at_call 50; clear m3; refine (A3.out _).mono ?_; rintro e w3 ⟨rfl, hbw3⟩; have knw3 : At w3 (w.heap.size) [.int .i64 (a : Int), .int .i64 (b : Int), .int .i64 (c : Int)] := (at_red); have hqw3 : Below w.heap.size w w3 := (below_by); have hzw3 := hqw3.size; obtain ⟨znw3, cn0w3, cn1w3, cn2w3, fn0w3, fn1w3, fn2w3⟩ := knw3.three; clear knw2 cn0w2 fn0w2 cn1w2 fn1w2 cn2w2 fn2w2 hqw2; clear hbw3) | (go_at_call 50; clear m4; refine (A4.out _).mono ?_; rintro e w4 ⟨rfl, hbw4⟩; have knw4 : At w4 (w.heap.size) [.int .i64 (a : Int), .int .i64 (b : Int), .int .i64 (c : Int)] := (at_red); have hqw4 : Below w.heap.size w w4 := (below_by); have hzw4 := hqw4.size; obtain ⟨znw4, cn0w4, cn1w4, cn2w4, fn0w4, fn1w4, fn2w4⟩ := knw4.three; clear knw3 cn0w3 fn0w3 cn1w3 fn1w3 cn2w3 fn2w3 hqw3; clear hbw4) | (go_at_call 53; clear m5; refine (rname4 _).mono ?_; rintro e w5 ⟨rfl, hbw5⟩; have hqw5 : Below w.heap.size w w5 := (below_by); have hzw5 := hqw5.size; clear knw4 cn0w4 fn0w4 cn1w4 fn1w4 cn2w4 fn2w4 hqw4; clear hbw5))
        go_ret
        exact ⟨by rw [HX.out]; rfl, below_by⟩
      · have h6' : ¬ (t.size : Int) > 60 := by omega
        obtain ⟨g, hg⟩ : ∃ g, sgN a b t = g := ⟨_, rfl⟩
        have g1 : g < 1013 := by rw [← hg]; exact sgN_lt a b t
        have HX : Hid (ansB 9 a b c t = digB (tM (4 * b)).1 ++ ⟨#[32]⟩ ++ digB (tM (4 * b)).2.1 ++ ⟨#[32]⟩ ++ digB g) := by unfold Hid ansB; rw [e1, Bool.false_or, e2, decide_eq_false h60, hg]; rfl
        have HS : Hid (∀ w, Calls Tryz.prog 61 #[.int .i64 (a : Int), .int .i64 (b : Int), .string t] w fun e w' => e = .returned (.agg #[.int .i64 ((tM (4 * b)).1 : Int), .int .i64 ((tM (4 * b)).2.1 : Int), .bool (tM (4 * b)).2.2, .int .i64 (g : Int)]) ∧ Below w.heap.size w w') := fun w => by
          have := rsign_ok a b t w a2 b2 (by omega)
          rwa [hg] at this
        obtain ⟨x1, y1⟩ := okS_lt (tM_ok (4 * b))
        have s1 := digB_size (tM (4 * b)).1
        have s2 := digB_size (tM (4 * b)).2.1
        have s3 := digB_size g
        clear h1 h2 e1 e2 hg
        have m1 : True := trivial; have m2 : True := trivial; have m3 : True := trivial; have m4 : True := trivial; have m5 : True := trivial; have m6 : True := trivial; have m7 : True := trivial; have m8 : True := trivial
        go_enter Tryz.func19, Tryz.ntmps19
        go_wp2_with (first | (go_at_call 49; clear m1; refine (A1.out _).mono ?_; rintro e w1 ⟨rfl, hbw1⟩; have knw1 : At w1 (w.heap.size) [.int .i64 (a : Int), .int .i64 (b : Int), .int .i64 (c : Int)] := (at_red); have hqw1 : Below w.heap.size w w1 := (below_by); have hzw1 := hqw1.size; obtain ⟨znw1, cn0w1, cn1w1, cn2w1, fn0w1, fn1w1, fn2w1⟩ := knw1.three; clear hbw1) | (go_at_call 49; clear m2; refine (A2.out _).mono ?_; rintro e w2 ⟨rfl, hbw2⟩; have knw2 : At w2 (w.heap.size) [.int .i64 (a : Int), .int .i64 (b : Int), .int .i64 (c : Int)] := (at_red); have hqw2 : Below w.heap.size w w2 := (below_by); have hzw2 := hqw2.size; obtain ⟨znw2, cn0w2, cn1w2, cn2w2, fn0w2, fn1w2, fn2w2⟩ := knw2.three; clear knw1 cn0w1 fn0w1 cn1w1 fn1w1 cn2w1 fn2w1 hqw1; clear hbw2) | (go_at_call 50; clear m3; refine (A3.out _).mono ?_; rintro e w3 ⟨rfl, hbw3⟩; have knw3 : At w3 (w.heap.size) [.int .i64 (a : Int), .int .i64 (b : Int), .int .i64 (c : Int)] := (at_red); have hqw3 : Below w.heap.size w w3 := (below_by); have hzw3 := hqw3.size; obtain ⟨znw3, cn0w3, cn1w3, cn2w3, fn0w3, fn1w3, fn2w3⟩ := knw3.three; clear knw2 cn0w2 fn0w2 cn1w2 fn1w2 cn2w2 fn2w2 hqw2; clear hbw3) | (go_at_call 50; clear m4; refine (A4.out _).mono ?_; rintro e w4 ⟨rfl, hbw4⟩; have knw4 : At w4 (w.heap.size) [.int .i64 (a : Int), .int .i64 (b : Int), .int .i64 (c : Int)] := (at_red); have hqw4 : Below w.heap.size w w4 := (below_by); have hzw4 := hqw4.size; obtain ⟨znw4, cn0w4, cn1w4, cn2w4, fn0w4, fn1w4, fn2w4⟩ := knw4.three; clear knw3 cn0w3 fn0w3 cn1w3 fn1w3 cn2w3 fn2w3 hqw3; clear hbw4) | (go_at_call 61; clear m5; refine (HS.out _).mono ?_; rintro e w5 ⟨rfl, hbw5⟩; have hqw5 : Below w.heap.size w w5 := (below_by); have hzw5 := hqw5.size; clear knw4 cn0w4 fn0w4 cn1w4 fn1w4 cn2w4 fn2w4 hqw4; clear hbw5) | (go_at_call 11; clear m6; refine (rdigits ((tM (4 * b)).1) _ (by omega)).mono ?_; rintro e w6 ⟨rfl, hbw6⟩; have ksw6 : At w6 (w5.heap.size) [.int .i64 ((tM (4 * b)).1 : Int), .int .i64 ((tM (4 * b)).2.1 : Int), .bool (tM (4 * b)).2.2, .int .i64 (g : Int)] := (at_red); have hqw6 : Below w.heap.size w w6 := (below_by); have hzw6 := hqw6.size; obtain ⟨zsw6, cs0w6, cs1w6, cs2w6, cs3w6, fs0w6, fs1w6, fs2w6, fs3w6⟩ := ksw6.four; clear  hqw5; clear hbw6) | (go_at_call 11; clear m7; refine (rdigits ((tM (4 * b)).2.1) _ (by omega)).mono ?_; rintro e w7 ⟨rfl, hbw7⟩; have ksw7 : At w7 (w5.heap.size) [.int .i64 ((tM (4 * b)).1 : Int), .int .i64 ((tM (4 * b)).2.1 : Int), .bool (tM (4 * b)).2.2, .int .i64 (g : Int)] := (at_red); have hqw7 : Below w.heap.size w w7 := (below_by); have hzw7 := hqw7.size; obtain ⟨zsw7, cs0w7, cs1w7, cs2w7, cs3w7, fs0w7, fs1w7, fs2w7, fs3w7⟩ := ksw7.four; clear ksw6 cs0w6 fs0w6 cs1w6 fs1w6 cs2w6 fs2w6 cs3w6 fs3w6 hqw6; clear hbw7) | (go_at_call 11; clear m8; refine (rdigits g _ (by omega)).mono ?_; rintro e w8 ⟨rfl, hbw8⟩; have hqw8 : Below w.heap.size w w8 := (below_by); have hzw8 := hqw8.size; clear ksw7 cs0w7 fs0w7 cs1w7 fs1w7 cs2w7 fs2w7 cs3w7 fs3w7 hqw7; clear hbw8))
        go_ret
        exact ⟨by rw [HX.out]; rfl, below_by⟩
end Go.Proofs.YtgngdabfmbipaakGreatDoor

/- The answer to one line, as the plain reckoning has it (stoneref2.Line). -/
namespace Go.Proofs.YtgngdabfmbipaakGreatDoor
open Go.RowKit Go.Sort
set_option linter.unusedVariables false
set_option linter.unusedSimpArgs false
theorem list_eq {s : ByteArray} {l : List UInt8} (h : s.toList = l) : s = ⟨l.toArray⟩ := by
  subst h
  apply ByteArray.ext
  rw [ByteArray.toList_eq]
/-- Which word it is. -/
theorem kind_any (w : ByteArray) : (kindB w = 0 ∧ (w.toList == [98, 97, 115, 101]) = false ∧ (w.toList == [108, 105, 102, 116]) = false ∧ (w.toList == [111, 114, 100, 101, 114]) = false ∧ (w.toList == [112, 97, 105, 114]) = false ∧ (w.toList == [104, 105, 100, 101]) = false ∧ (w.toList == [115, 104, 97, 114, 101, 115]) = false ∧ (w.toList == [104, 97, 115, 104]) = false ∧ (w.toList == [115, 104, 111, 114, 116]) = false ∧ (w.toList == [115, 105, 103, 110]) = false) ∨ (kindB w = 1 ∧ w = ⟨#[98, 97, 115, 101]⟩) ∨ (kindB w = 2 ∧ w = ⟨#[108, 105, 102, 116]⟩) ∨ (kindB w = 3 ∧ w = ⟨#[111, 114, 100, 101, 114]⟩) ∨ (kindB w = 4 ∧ w = ⟨#[112, 97, 105, 114]⟩) ∨ (kindB w = 5 ∧ w = ⟨#[104, 105, 100, 101]⟩) ∨ (kindB w = 6 ∧ w = ⟨#[115, 104, 97, 114, 101, 115]⟩) ∨ (kindB w = 7 ∧ w = ⟨#[104, 97, 115, 104]⟩) ∨ (kindB w = 8 ∧ w = ⟨#[115, 104, 111, 114, 116]⟩) ∨ (kindB w = 9 ∧ w = ⟨#[115, 105, 103, 110]⟩) := by
  by_cases h1 : w.toList = [98, 97, 115, 101]
  · refine Or.inr (Or.inl ⟨?_, list_eq h1⟩)
    unfold kindB
    rw [show (w.toList == [98, 97, 115, 101]) = true by rw [h1]; rfl]
    rfl
  have f1 : (w.toList == [98, 97, 115, 101]) = false := by simpa using h1
  by_cases h2 : w.toList = [108, 105, 102, 116]
  · refine Or.inr (Or.inr (Or.inl ⟨?_, list_eq h2⟩))
    unfold kindB
    rw [f1, show (w.toList == [108, 105, 102, 116]) = true by rw [h2]; rfl]
    rfl
  have f2 : (w.toList == [108, 105, 102, 116]) = false := by simpa using h2
  by_cases h3 : w.toList = [111, 114, 100, 101, 114]
  · refine Or.inr (Or.inr (Or.inr (Or.inl ⟨?_, list_eq h3⟩)))
    unfold kindB
    rw [f1, f2, show (w.toList == [111, 114, 100, 101, 114]) = true by rw [h3]; rfl]
    rfl
  have f3 : (w.toList == [111, 114, 100, 101, 114]) = false := by simpa using h3
  by_cases h4 : w.toList = [112, 97, 105, 114]
  · refine Or.inr (Or.inr (Or.inr (Or.inr (Or.inl ⟨?_, list_eq h4⟩))))
    unfold kindB
    rw [f1, f2, f3, show (w.toList == [112, 97, 105, 114]) = true by rw [h4]; rfl]
    rfl
  have f4 : (w.toList == [112, 97, 105, 114]) = false := by simpa using h4
  by_cases h5 : w.toList = [104, 105, 100, 101]
  · refine Or.inr (Or.inr (Or.inr (Or.inr (Or.inr (Or.inl ⟨?_, list_eq h5⟩)))))
    unfold kindB
    rw [f1, f2, f3, f4, show (w.toList == [104, 105, 100, 101]) = true by rw [h5]; rfl]
    rfl
  have f5 : (w.toList == [104, 105, 100, 101]) = false := by simpa using h5
  by_cases h6 : w.toList = [115, 104, 97, 114, 101, 115]
  · refine Or.inr (Or.inr (Or.inr (Or.inr (Or.inr (Or.inr (Or.inl ⟨?_, list_eq h6⟩))))))
    unfold kindB
    rw [f1, f2, f3, f4, f5, show (w.toList == [115, 104, 97, 114, 101, 115]) = true by rw [h6]; rfl]
    rfl
  have f6 : (w.toList == [115, 104, 97, 114, 101, 115]) = false := by simpa using h6
  by_cases h7 : w.toList = [104, 97, 115, 104]
  · refine Or.inr (Or.inr (Or.inr (Or.inr (Or.inr (Or.inr (Or.inr (Or.inl ⟨?_, list_eq h7⟩)))))))
    unfold kindB
    rw [f1, f2, f3, f4, f5, f6, show (w.toList == [104, 97, 115, 104]) = true by rw [h7]; rfl]
    rfl
  have f7 : (w.toList == [104, 97, 115, 104]) = false := by simpa using h7
  by_cases h8 : w.toList = [115, 104, 111, 114, 116]
  · refine Or.inr (Or.inr (Or.inr (Or.inr (Or.inr (Or.inr (Or.inr (Or.inr (Or.inl ⟨?_, list_eq h8⟩))))))))
    unfold kindB
    rw [f1, f2, f3, f4, f5, f6, f7, show (w.toList == [115, 104, 111, 114, 116]) = true by rw [h8]; rfl]
    rfl
  have f8 : (w.toList == [115, 104, 111, 114, 116]) = false := by simpa using h8
  by_cases h9 : w.toList = [115, 105, 103, 110]
  · refine Or.inr (Or.inr (Or.inr (Or.inr (Or.inr (Or.inr (Or.inr (Or.inr (Or.inr (⟨?_, list_eq h9⟩)))))))))
    unfold kindB
    rw [f1, f2, f3, f4, f5, f6, f7, f8, show (w.toList == [115, 105, 103, 110]) = true by rw [h9]; rfl]
    rfl
  have f9 : (w.toList == [115, 105, 103, 110]) = false := by simpa using h9
  refine Or.inl ⟨?_, f1, f2, f3, f4, f5, f6, f7, f8, f9⟩
  unfold kindB
  rw [f1, f2, f3, f4, f5, f6, f7, f8, f9]
  rfl
/-- The answer of each word. -/
theorem rans_any (A : ByteArray) (k : Nat) (h : kindB A = k) (hk : k ≠ 0) : ∀ (a b c : Nat) (t : ByteArray) (w : World), a ≤ 9999 → b ≤ 9999 → c ≤ 9999 → t.size ≤ 3000 → Calls Tryz.prog 19 #[.string A, .agg #[.int .i64 (a : Int), .int .i64 (b : Int), .int .i64 (c : Int)], .string t] w fun e w' => e = .returned (.string (ansB k a b c t)) ∧ Below w.heap.size w w' := by
  rcases kind_any A with ⟨h0, _⟩ | ⟨h1, rfl⟩ | ⟨h2, rfl⟩ | ⟨h3, rfl⟩ | ⟨h4, rfl⟩ | ⟨h5, rfl⟩ | ⟨h6, rfl⟩ | ⟨h7, rfl⟩ | ⟨h8, rfl⟩ | ⟨h9, rfl⟩
  · exact absurd (h.symm.trans h0) hk
  · rw [← h, h1]; exact fun a b c t w ha hb hc ht => rans_base a b c t w ha hb hc ht
  · rw [← h, h2]; exact fun a b c t w ha hb hc ht => rans_lift a b c t w ha hb hc ht
  · rw [← h, h3]; exact fun a b c t w ha hb hc ht => rans_order a b c t w ha hb hc ht
  · rw [← h, h4]; exact fun a b c t w ha hb hc ht => rans_pair a b c t w ha hb hc ht
  · rw [← h, h5]; exact fun a b c t w ha hb hc ht => rans_hide a b c t w ha hb hc ht
  · rw [← h, h6]; exact fun a b c t w ha hb hc ht => rans_shares a b c t w ha hb hc ht
  · rw [← h, h7]; exact fun a b c t w ha hb hc ht => rans_hash a b c t w ha hb hc ht
  · rw [← h, h8]; exact fun a b c t w ha hb hc ht => rans_short a b c t w ha hb hc ht
  · rw [← h, h9]; exact fun a b c t w ha hb hc ht => rans_sign a b c t w ha hb hc ht
theorem many_le (k : Nat) : manyB k ≤ 3 := by
  unfold manyB
  cases Nat.ble k 3 <;> cases Nat.ble k 5 <;> cases Nat.ble k 6 <;> cases Nat.ble k 7 <;> cases Nat.ble k 8 <;> decide
theorem num_le {s : ByteArray} {n : Nat} (h : numB s = some n) : n ≤ 9999 := by
  unfold numB at h
  cases hg : (Nat.beq s.size 0 || decide (4 < s.size) || (Nat.beq (byN s 0) 48 && decide (1 < s.size))) with
  | true => rw [hg] at h; cases h
  | false =>
    rw [hg, cond_false] at h
    have h1 := numS_lt h
    have h4 : s.size ≤ 4 := by
      rcases Nat.lt_or_ge 4 s.size with h | h
      · rw [decide_eq_true h, Bool.or_true, Bool.true_or] at hg; cases hg
      · exact h
    have : (10 : Nat) ^ s.size ≤ 10 ^ 4 := Nat.pow_le_pow_right (by omega) h4
    omega
theorem wordA_size (s : ByteArray) : (wordA s).size ≤ s.size := by
  unfold wordA
  cases wordM s with
  | true => rw [cond_true, ByteArray.size_extract]; omega
  | false => exact Nat.le_refl _
theorem wordR_size (s : ByteArray) : (wordR s).size ≤ s.size := by
  unfold wordR
  cases wordM s with
  | true => rw [cond_true, ByteArray.size_extract]; omega
  | false => exact Nat.zero_le _
/-- A number more. -/
def Args (M i : Nat) (R0 : ByteArray) (M0 : Bool) (ns : List Nat) (r : ByteArray) (m : Bool) : Prop :=
  argsB M R0 M0 = (argsB (M - i) r m).map fun q => (ns ++ q.1, q.2.1, q.2.2)
theorem Args.start (M : Nat) (R0 : ByteArray) (M0 : Bool) : Args M 0 R0 M0 [] R0 M0 := by
  unfold Args
  cases argsB (M - 0) R0 M0 <;> simp_all
theorem Args.no {M i : Nat} {R0 r : ByteArray} {M0 : Bool} {ns : List Nat} (h : Args M i R0 M0 ns r false) (hi : i < M) : argsB M R0 M0 = none := by
  unfold Args at h
  rw [h, show M - i = (M - i - 1) + 1 by omega]
  rfl
theorem Args.bad {M i : Nat} {R0 r : ByteArray} {M0 : Bool} {ns : List Nat} (h : Args M i R0 M0 ns r true) (hi : i < M) (hn : numB (wordA r) = none) : argsB M R0 M0 = none := by
  unfold Args at h
  rw [h, show M - i = (M - i - 1) + 1 by omega]
  unfold argsB
  rw [hn]
  rfl
theorem args_yes {k n : Nat} {r : ByteArray} (hn : numB (wordA r) = some n) : argsB (k + 1) r true = (argsB k (wordR r) (wordM r)).map fun (q : List Nat × ByteArray × Bool) => (n :: q.1, q.2.1, q.2.2) := by
  show (match numB (wordA r) with | none => none | some x => (argsB k (wordR r) (wordM r)).map fun (q : List Nat × ByteArray × Bool) => (x :: q.1, q.2.1, q.2.2)) = _
  rw [hn]
theorem Args.next {M i n : Nat} {R0 r : ByteArray} {M0 : Bool} {ns : List Nat} (h : Args M i R0 M0 ns r true) (hi : i < M) (hn : numB (wordA r) = some n) : Args M (i + 1) R0 M0 (ns ++ [n]) (wordR r) (wordM r) := by
  unfold Args at h ⊢
  rw [h, show M - i = (M - (i + 1)) + 1 by omega, args_yes hn]
  generalize argsB (M - (i + 1)) (wordR r) (wordM r) = o
  cases o <;> simp
theorem Args.last {M : Nat} {R0 r : ByteArray} {M0 m : Bool} {ns : List Nat} (h : Args M M R0 M0 ns r m) : argsB M R0 M0 = some (ns, r, m) := by
  unfold Args at h
  rw [h, Nat.sub_self]
  show some (ns ++ [], r, m) = _
  rw [List.append_nil]
theorem At.put30 {w : World} {b : Nat} {u v x y : Value} (h : At w b [u, v, x]) : At (w.setCell ⟨b, 0, none⟩ y) b [y, v, x] := by
  have a0 : w.cell? ⟨b, 0, none⟩ = some u := h.2.1 0 (by simp)
  have g0 : w.frozen? ⟨b, 0, none⟩ = false := h.2.2 0 (by simp)
  have a1 : w.cell? ⟨b, 1, none⟩ = some v := h.2.1 1 (by simp)
  have g1 : w.frozen? ⟨b, 1, none⟩ = false := h.2.2 1 (by simp)
  have a2 : w.cell? ⟨b, 2, none⟩ = some x := h.2.1 2 (by simp)
  have g2 : w.frozen? ⟨b, 2, none⟩ = false := h.2.2 2 (by simp)
  refine ⟨by simpa [World.setCell] using h.1, fun i hi => ?_, fun i hi => ?_⟩
  · rcases i with _ | _ | _ | i
    · show _ = some y; simp [a0, go_sem]
    · show _ = some v; simp [a1, go_sem]
    · show _ = some x; simp [a2, go_sem]
    · simp at hi; omega
  · rcases i with _ | _ | _ | i
    · rw [World.frozen?_setCell]; exact g0
    · rw [World.frozen?_setCell]; exact g1
    · rw [World.frozen?_setCell]; exact g2
    · simp at hi; omega
theorem At.put31 {w : World} {b : Nat} {u v x y : Value} (h : At w b [u, v, x]) : At (w.setCell ⟨b, 1, none⟩ y) b [u, y, x] := by
  have a0 : w.cell? ⟨b, 0, none⟩ = some u := h.2.1 0 (by simp)
  have g0 : w.frozen? ⟨b, 0, none⟩ = false := h.2.2 0 (by simp)
  have a1 : w.cell? ⟨b, 1, none⟩ = some v := h.2.1 1 (by simp)
  have g1 : w.frozen? ⟨b, 1, none⟩ = false := h.2.2 1 (by simp)
  have a2 : w.cell? ⟨b, 2, none⟩ = some x := h.2.1 2 (by simp)
  have g2 : w.frozen? ⟨b, 2, none⟩ = false := h.2.2 2 (by simp)
  refine ⟨by simpa [World.setCell] using h.1, fun i hi => ?_, fun i hi => ?_⟩
  · rcases i with _ | _ | _ | i
    · show _ = some u; simp [a0, go_sem]
    · show _ = some y; simp [a1, go_sem]
    · show _ = some x; simp [a2, go_sem]
    · simp at hi; omega
  · rcases i with _ | _ | _ | i
    · rw [World.frozen?_setCell]; exact g0
    · rw [World.frozen?_setCell]; exact g1
    · rw [World.frozen?_setCell]; exact g2
    · simp at hi; omega
theorem At.put32 {w : World} {b : Nat} {u v x y : Value} (h : At w b [u, v, x]) : At (w.setCell ⟨b, 2, none⟩ y) b [u, v, y] := by
  have a0 : w.cell? ⟨b, 0, none⟩ = some u := h.2.1 0 (by simp)
  have g0 : w.frozen? ⟨b, 0, none⟩ = false := h.2.2 0 (by simp)
  have a1 : w.cell? ⟨b, 1, none⟩ = some v := h.2.1 1 (by simp)
  have g1 : w.frozen? ⟨b, 1, none⟩ = false := h.2.2 1 (by simp)
  have a2 : w.cell? ⟨b, 2, none⟩ = some x := h.2.1 2 (by simp)
  have g2 : w.frozen? ⟨b, 2, none⟩ = false := h.2.2 2 (by simp)
  refine ⟨by simpa [World.setCell] using h.1, fun i hi => ?_, fun i hi => ?_⟩
  · rcases i with _ | _ | _ | i
    · show _ = some u; simp [a0, go_sem]
    · show _ = some v; simp [a1, go_sem]
    · show _ = some y; simp [a2, go_sem]
    · simp at hi; omega
  · rcases i with _ | _ | _ | i
    · rw [World.frozen?_setCell]; exact g0
    · rw [World.frozen?_setCell]; exact g1
    · rw [World.frozen?_setCell]; exact g2
    · simp at hi; omega
theorem get_le {ns : List Nat} (h : ∀ x, x ∈ ns → x ≤ 9999) (j : Nat) : ns.getD j 0 ≤ 9999 := by
  rcases Nat.lt_or_ge j ns.length with hj | hj
  · rw [List.getD_eq_getElem?_getD, List.getElem?_eq_getElem hj]; exact h _ (List.getElem_mem hj)
  · rw [List.getD_eq_getElem?_getD, List.getElem?_eq_none hj]; exact Nat.zero_le _
/-- How many numbers, as the switch has it. -/
def mvI (k : Nat) : Int := bif Nat.beq k 0 then -1 else (manyB k : Int)
def tvB (k : Nat) : Bool := bif Nat.beq k 0 then false else textB k
set_option maxRecDepth 100000 in
set_option maxHeartbeats 8000000 in
theorem rline (s : ByteArray) (w : World) (hs : s.size ≤ 3000) : Calls Tryz.prog 8 #[.string s] w fun e w' => e = .returned (.string (lineB s)) ∧ Below w.heap.size w w' := by
  have HW : Hid (∀ w, Calls Tryz.prog 17 #[.string s] w fun e w' => e = .returned (.tuple #[.string (wordA s), .string (wordR s), .bool (wordM s)]) ∧ Below w.heap.size w w') := fun w => rword s w (by omega)
  obtain ⟨A, hA⟩ : ∃ A, wordA s = A := ⟨_, rfl⟩
  obtain ⟨R, hR⟩ : ∃ R, wordR s = R := ⟨_, rfl⟩
  obtain ⟨M0, hM⟩ : ∃ M0, wordM s = M0 := ⟨_, rfl⟩
  obtain ⟨k, hk⟩ : ∃ k, kindB A = k := ⟨_, rfl⟩
  have hRs : R.size ≤ 3000 := by rw [← hR]; have := wordR_size s; omega
  have HLB : Hid (lineB s = bif Nat.beq k 0 then badB else match argsB (manyB k) R M0 with | none => badB | some q => bif q.2.2 == textB k then ansB k (q.1.getD 0 0) (q.1.getD 1 0) (q.1.getD 2 0) q.2.1 else badB) := by
    unfold Hid lineB
    rw [hA, hR, hM, hk]
    rfl
  rw [hA, hR, hM] at HW
  obtain ⟨mv, hmv⟩ : ∃ mv, mvI k = mv := ⟨_, rfl⟩
  obtain ⟨tv, htv⟩ : ∃ tv, tvB k = tv := ⟨_, rfl⟩
  have HMV : Hid (mv = mvI (kindB A)) := by unfold Hid; rw [← hmv, hk]
  have HTV : Hid (tv = tvB (kindB A)) := by unfold Hid; rw [← htv, hk]
  have HK : Hid (kindB A = k) := hk
  clear hA hR hM hk hmv htv
  have m1 : True := trivial; have m2 : True := trivial
  go_enter Tryz.func8, Tryz.ntmps8
  go_upto_block 0 with (go_at_call 17; clear m1; refine (HW.out _).mono ?_; rintro e w1 ⟨rfl, hbw1⟩; have hqw1 : Below w.heap.size w w1 := (below_by); have hzw1 := hqw1.size; clear hbw1)
  go_cut [6, 7] from 21 to 36 (fun t6 t7 wx => t6 = .int .i64 mv ∧ t7 = .bool tv ∧ Below w.heap.size w wx)
  case first =>
    rcases kind_any A with ⟨h, n1, n2, n3, n4, n5, n6, n7, n8, n9⟩ | ⟨h, rfl⟩ | ⟨h, rfl⟩ | ⟨h, rfl⟩ | ⟨h, rfl⟩ | ⟨h, rfl⟩ | ⟨h, rfl⟩ | ⟨h, rfl⟩ | ⟨h, rfl⟩ | ⟨h, rfl⟩
    · have hm : Hid (mv = -1) := by unfold Hid; rw [HMV.out, h]; rfl
      have ht : Hid (tv = false) := by unfold Hid; rw [HTV.out, h]; rfl
      clear h
      go_wp2_with fail
      go_meet
      case rel => exact ⟨by rw [hm.out], by rw [ht.out], below_by⟩
    · have hm : Hid (mv = 1) := by unfold Hid; rw [HMV.out, h]; rfl
      have ht : Hid (tv = false) := by unfold Hid; rw [HTV.out, h]; rfl
      clear h
      go_wp2_with fail
      go_meet
      case rel => exact ⟨by rw [hm.out], by rw [ht.out], below_by⟩
    · have hm : Hid (mv = 1) := by unfold Hid; rw [HMV.out, h]; rfl
      have ht : Hid (tv = false) := by unfold Hid; rw [HTV.out, h]; rfl
      clear h
      go_wp2_with fail
      go_meet
      case rel => exact ⟨by rw [hm.out], by rw [ht.out], below_by⟩
    · have hm : Hid (mv = 1) := by unfold Hid; rw [HMV.out, h]; rfl
      have ht : Hid (tv = false) := by unfold Hid; rw [HTV.out, h]; rfl
      clear h
      go_wp2_with fail
      go_meet
      case rel => exact ⟨by rw [hm.out], by rw [ht.out], below_by⟩
    · have hm : Hid (mv = 2) := by unfold Hid; rw [HMV.out, h]; rfl
      have ht : Hid (tv = false) := by unfold Hid; rw [HTV.out, h]; rfl
      clear h
      go_wp2_with fail
      go_meet
      case rel => exact ⟨by rw [hm.out], by rw [ht.out], below_by⟩
    · have hm : Hid (mv = 2) := by unfold Hid; rw [HMV.out, h]; rfl
      have ht : Hid (tv = false) := by unfold Hid; rw [HTV.out, h]; rfl
      clear h
      go_wp2_with fail
      go_meet
      case rel => exact ⟨by rw [hm.out], by rw [ht.out], below_by⟩
    · have hm : Hid (mv = 3) := by unfold Hid; rw [HMV.out, h]; rfl
      have ht : Hid (tv = false) := by unfold Hid; rw [HTV.out, h]; rfl
      clear h
      go_wp2_with fail
      go_meet
      case rel => exact ⟨by rw [hm.out], by rw [ht.out], below_by⟩
    · have hm : Hid (mv = 0) := by unfold Hid; rw [HMV.out, h]; rfl
      have ht : Hid (tv = true) := by unfold Hid; rw [HTV.out, h]; rfl
      clear h
      go_wp2_with fail
      go_meet
      case rel => exact ⟨by rw [hm.out], by rw [ht.out], below_by⟩
    · have hm : Hid (mv = 1) := by unfold Hid; rw [HMV.out, h]; rfl
      have ht : Hid (tv = true) := by unfold Hid; rw [HTV.out, h]; rfl
      clear h
      go_wp2_with fail
      go_meet
      case rel => exact ⟨by rw [hm.out], by rw [ht.out], below_by⟩
    · have hm : Hid (mv = 2) := by unfold Hid; rw [HMV.out, h]; rfl
      have ht : Hid (tv = true) := by unfold Hid; rw [HTV.out, h]; rfl
      clear h
      go_wp2_with fail
      go_meet
      case rel => exact ⟨by rw [hm.out], by rw [ht.out], below_by⟩
  case rest =>
    clear hqw1
    obtain ⟨rfl, rfl, hqU⟩ := hcut
    rename World => U
    have hzU := hqU.size
    have HM2 : Hid (mv = mvI k) := by unfold Hid; rw [HMV.out, HK.out]
    have HT2 : Hid (tv = tvB k) := by unfold Hid; rw [HTV.out, HK.out]
    by_cases k0 : k = 0
    · have hm : mv = -1 := by rw [HM2.out, k0]; rfl
      subst hm
      have HX : Hid (lineB s = badB) := by unfold Hid; rw [HLB.out, k0]; rfl
      go_wp2_with fail
      go_ret
      exact ⟨by rw [HX.out]; rfl, below_by⟩
    obtain ⟨M, hM⟩ : ∃ M, manyB k = M := ⟨_, rfl⟩
    have M3 : M ≤ 3 := by rw [← hM]; exact many_le k
    have hm : mv = (M : Int) := by rw [HM2.out, ← hM]; unfold mvI; rw [beq_no k0]; rfl
    have ht : tv = textB k := by rw [HT2.out]; unfold tvB; rw [beq_no k0]; rfl
    subst hm
    have HTX : Hid (textB k = tv) := ht.symm
    have HL2 : Hid (lineB s = match argsB M R M0 with | none => badB | some q => bif q.2.2 == tv then ansB k (q.1.getD 0 0) (q.1.getD 1 0) (q.1.getD 2 0) q.2.1 else badB) := by
      unfold Hid
      rw [HLB.out, beq_no k0, cond_false, hM, ht]
    have HAN : Hid (∀ (a b c : Nat) (t : ByteArray) (w : World), a ≤ 9999 → b ≤ 9999 → c ≤ 9999 → t.size ≤ 3000 → Calls Tryz.prog 19 #[.string A, .agg #[.int .i64 (a : Int), .int .i64 (b : Int), .int .i64 (c : Int)], .string t] w fun e w' => e = .returned (.string (ansB k a b c t)) ∧ Below w.heap.size w w') := rans_any A k HK.out k0
    have m0 : ¬ (M : Int) < 0 := by omega
    clear hM ht k0 HM2 HT2 HMV HTV HLB HW
    go_wp2_with fail
    go_loopw [4, 5, 9] (fun tr tm ti wl => ∃ (i : Nat) (ns : List Nat) (r : ByteArray) (m : Bool), i ≤ M ∧ ns.length = i ∧ ti = .int .i64 i ∧ tr = .string r ∧ tm = .bool m ∧ r.size ≤ 3000 ∧ (∀ x, x ∈ ns → x ≤ 9999) ∧ Args M i R M0 ns r m ∧ At wl (U.heap.size) [.int .i64 ((ns.getD 0 0 : Nat) : Int), .int .i64 ((ns.getD 1 0 : Nat) : Int), .int .i64 ((ns.getD 2 0 : Nat) : Int)] ∧ Below w.heap.size w wl) (fun _ _ ti _ => M - (intOf ti).toNat)
    case atStart => exact ⟨0, [], R, M0, by omega, rfl, rfl, rfl, rfl, hRs, (fun x h => by cases h), Args.start M R M0, (by show At _ _ [.int .i64 0, .int .i64 0, .int .i64 0]; exact (at_red)), below_by⟩
    case round =>
      obtain ⟨i, ns, r, m, hi, hl, rfl, rfl, rfl, hr, hn9, harg, knV, hqV⟩ := hrel
      rename World => V
      have hzV := hqV.size
      have HARG : Hid (Args M i R M0 ns r m) := harg
      have HN9 : Hid (∀ x, x ∈ ns → x ≤ 9999) := hn9
      have HLN : Hid (ns.length = i) := hl
      clear harg hn9 hl
      obtain ⟨znV, cn0V, cn1V, cn2V, fn0V, fn1V, fn2V⟩ := knV.three
      by_cases hlt : i < M
      · have hlt' : (i : Int) < (M : Int) := by omega
        cases m with
        | false =>
          have HX : Hid (lineB s = badB) := by unfold Hid; rw [HL2.out, HARG.out.no hlt]
          go_wp2_with fail
          go_ret
          exact ⟨by rw [HX.out]; rfl, below_by⟩
        | true =>
          have HW2 : Hid (∀ w, Calls Tryz.prog 17 #[.string r] w fun e w' => e = .returned (.tuple #[.string (wordA r), .string (wordR r), .bool (wordM r)]) ∧ Below w.heap.size w w') := fun w => rword r w (by omega)
          have hAs := wordA_size r
          have hRr := wordR_size r
          cases hn : numB (wordA r) with
          | none =>
            have HNU : Hid (∀ w, Calls Tryz.prog 18 #[.string (wordA r)] w fun e w' => e = .returned (.tuple #[.int .i64 0, .bool false]) ∧ Below w.heap.size w w') := fun w => by
              have := rnumb (wordA r) w (by omega)
              rwa [hn] at this
            have HX : Hid (lineB s = badB) := by unfold Hid; rw [HL2.out, HARG.out.bad hlt hn]
            clear hn
            generalize wordA r = A2 at *
            generalize wordR r = R2 at *
            generalize wordM r = M2 at *
            have m1 : True := trivial; have m2 : True := trivial; have m3 : True := trivial
            go_wp2_with (first | (go_at_call 17; refine (HW2.out _).mono ?_; rintro e v1 ⟨rfl, hb1⟩; have knv1 := knV.below hb1; have hqv1 : Below w.heap.size w v1 := (below_by); have hzv1 := hqv1.size; clear hb1) | (go_at_call 18; refine (HNU.out _).mono ?_; rintro e v2 ⟨rfl, hb2⟩; have knv2 := knv1.below hb2; have hqv2 : Below w.heap.size w v2 := (below_by); have hzv2 := hqv2.size; obtain ⟨znv2, cn0v2, cn1v2, cn2v2, fn0v2, fn1v2, fn2v2⟩ := knv2.three; clear hb2))
            go_ret
            exact ⟨by rw [HX.out]; rfl, below_by⟩
          | some n =>
            have HNU : Hid (∀ w, Calls Tryz.prog 18 #[.string (wordA r)] w fun e w' => e = .returned (.tuple #[.int .i64 (n : Int), .bool true]) ∧ Below w.heap.size w w') := fun w => by
              have := rnumb (wordA r) w (by omega)
              rwa [hn] at this
            have HNX : Hid (Args M (i + 1) R M0 (ns ++ [n]) (wordR r) (wordM r)) := HARG.out.next hlt hn
            have HN2 : Hid (∀ x, x ∈ ns ++ [n] → x ≤ 9999) := fun x hx => by
              rcases List.mem_append.1 hx with h | h
              · exact HN9.out x h
              · rw [List.mem_singleton.1 h]; exact num_le hn
            have hcase : (i = 0 ∧ ns = []) ∨ (∃ x, i = 1 ∧ ns = [x]) ∨ (∃ x y, i = 2 ∧ ns = [x, y]) := by
              have h := HLN.out
              rcases ns with _ | ⟨x, _ | ⟨y, _ | ⟨z, ns⟩⟩⟩
              · exact Or.inl ⟨by simpa using h.symm, rfl⟩
              · exact Or.inr (Or.inl ⟨x, by simpa using h.symm, rfl⟩)
              · exact Or.inr (Or.inr ⟨x, y, by simpa using h.symm, rfl⟩)
              · simp at h; omega
            clear hn HARG HN9 HLN
            generalize wordA r = A2 at *
            generalize wordR r = R2 at *
            generalize wordM r = M2 at *
            rcases hcase with ⟨rfl, rfl⟩ | ⟨x, rfl, rfl⟩ | ⟨x, y, rfl, rfl⟩
            · go_wp2_with (first | (go_at_call 17; refine (HW2.out _).mono ?_; rintro e v1 ⟨rfl, hb1⟩; have knv1 := knV.below hb1; have hqv1 : Below w.heap.size w v1 := (below_by); have hzv1 := hqv1.size; clear hb1) | (go_at_call 18; refine (HNU.out _).mono ?_; rintro e v2 ⟨rfl, hb2⟩; have knv2 := knv1.below hb2; have hqv2 : Below w.heap.size w v2 := (below_by); have hzv2 := hqv2.size; obtain ⟨znv2, cn0v2, cn1v2, cn2v2, fn0v2, fn1v2, fn2v2⟩ := knv2.three; clear hb2))
              go_roundw
              case rel => exact ⟨1, [n], R2, M2, by omega, rfl, by simp, rfl, rfl, by omega, HN2.out, HNX.out, knv2.put30, below_by⟩
              case measure => simp [intOf]; omega
            · go_wp2_with (first | (go_at_call 17; refine (HW2.out _).mono ?_; rintro e v1 ⟨rfl, hb1⟩; have knv1 := knV.below hb1; have hqv1 : Below w.heap.size w v1 := (below_by); have hzv1 := hqv1.size; clear hb1) | (go_at_call 18; refine (HNU.out _).mono ?_; rintro e v2 ⟨rfl, hb2⟩; have knv2 := knv1.below hb2; have hqv2 : Below w.heap.size w v2 := (below_by); have hzv2 := hqv2.size; obtain ⟨znv2, cn0v2, cn1v2, cn2v2, fn0v2, fn1v2, fn2v2⟩ := knv2.three; clear hb2))
              go_roundw
              case rel => exact ⟨2, [x, n], R2, M2, by omega, rfl, by simp, rfl, rfl, by omega, HN2.out, HNX.out, knv2.put31, below_by⟩
              case measure => simp [intOf]; omega
            · go_wp2_with (first | (go_at_call 17; refine (HW2.out _).mono ?_; rintro e v1 ⟨rfl, hb1⟩; have knv1 := knV.below hb1; have hqv1 : Below w.heap.size w v1 := (below_by); have hzv1 := hqv1.size; clear hb1) | (go_at_call 18; refine (HNU.out _).mono ?_; rintro e v2 ⟨rfl, hb2⟩; have knv2 := knv1.below hb2; have hqv2 : Below w.heap.size w v2 := (below_by); have hzv2 := hqv2.size; obtain ⟨znv2, cn0v2, cn1v2, cn2v2, fn0v2, fn1v2, fn2v2⟩ := knv2.three; clear hb2))
              go_roundw
              case rel => exact ⟨3, [x, y, n], R2, M2, by omega, rfl, by simp, rfl, rfl, by omega, HN2.out, HNX.out, knv2.put32, below_by⟩
              case measure => simp [intOf]; omega
      · have hlt' : ¬ (i : Int) < (M : Int) := by omega
        obtain rfl : i = M := by omega
        have hq := HARG.out.last
        have g0 : ns.getD 0 0 ≤ 9999 := get_le HN9.out 0
        have g1 : ns.getD 1 0 ≤ 9999 := get_le HN9.out 1
        have g2 : ns.getD 2 0 ≤ 9999 := get_le HN9.out 2
        by_cases hmt : m = tv
        · have HX : Hid (lineB s = ansB k (ns.getD 0 0) (ns.getD 1 0) (ns.getD 2 0) r) := by
            unfold Hid
            rw [HL2.out, hq, hmt]
            show (bif tv == tv then _ else _) = _
            rw [beq_self_eq_true]; rfl
          have HA2 : Hid (∀ w, Calls Tryz.prog 19 #[.string A, .agg #[.int .i64 ((ns.getD 0 0 : Nat) : Int), .int .i64 ((ns.getD 1 0 : Nat) : Int), .int .i64 ((ns.getD 2 0 : Nat) : Int)], .string r] w fun e w' => e = .returned (.string (ansB k (ns.getD 0 0) (ns.getD 1 0) (ns.getD 2 0) r)) ∧ Below w.heap.size w w') := fun w => HAN.out _ _ _ r w g0 g1 g2 hr
          subst hmt
          clear hq HARG HN9 HLN
          generalize ansB k (ns.getD 0 0) (ns.getD 1 0) (ns.getD 2 0) r = Z at *
          generalize ns.getD 0 0 = n0 at *
          generalize ns.getD 1 0 = n1 at *
          generalize ns.getD 2 0 = n2 at *
          cases m
          all_goals (
          go_wp2_with (go_at_call 19; refine (HA2.out _).mono ?_; rintro e v1 ⟨rfl, hb1⟩; have hqv1 : Below w.heap.size w v1 := (below_by); have hzv1 := hqv1.size; clear hb1)
          go_ret
          exact ⟨by rw [HX.out]; rfl, below_by⟩)
        · have HX : Hid (lineB s = badB) := by
            unfold Hid
            rw [HL2.out, hq]
            show (bif m == tv then _ else badB) = _
            cases m <;> cases tv <;> first | rfl | exact absurd rfl hmt
          clear hq HARG HN9 HLN
          cases m <;> cases tv
          all_goals first | exact absurd rfl hmt | (
          go_wp2_with fail
          go_ret
          exact ⟨by rw [HX.out]; rfl, below_by⟩)
end Go.Proofs.YtgngdabfmbipaakGreatDoor
