/- What the other words of a session do. -/
import Derived.Test.YtgngdabfmbipaakGreatDoorKG37
import Derived.Test.YtgngdabfmbipaakGreatDoorKG21
import Derived.Test.YtgngdabfmbipaakGreatDoorKG1
namespace Go.Proofs.YtgngdabfmbipaakGreatDoor
open Go.RowKit Go.Sort Go.Shelf
set_option linter.unusedVariables false
set_option linter.unusedSimpArgs false
set_option maxRecDepth 100000 in
set_option maxHeartbeats 4000000 in
theorem do_lift (a : Addr) (nb c x y z : Nat) (t : ByteArray) (w : World) (h : Lie a w) (hn : At w nb [.int .i64 (x : Int)]) (hx : x ≤ 9999) : Calls Tryz.prog 26 #[.agg #[.slice (some ⟨nb, 0, none⟩) 1 c, .string t]] w fun e w' => DoneB e (ansB 2 x y z t) ∧ Below w.heap.size w w' := by
  have HL : Hid (Lie a w) := h
  have HE : Hid (∀ n w, Calls Tryz.prog 25 #[.agg #[.int .i64 0, .int .i64 0, .bool false], errOf n] w fun e w' => e = .returned (.tuple #[.string ⟨#[]⟩, errOf n]) ∧ Below w.heap.size w w') := fun n w => stold_no 0 0 false n w
  obtain ⟨zn, cn0, fn0⟩ := hn.one
  clear h
  by_cases h1 : 4051 ≤ x
  · have HX : Hid (DoneB (.returned (.tuple #[.string ⟨#[]⟩, errOf 1])) (ansB 2 x y z t)) := Or.inr ⟨1, by decide, by unfold ansB; rw [decide_eq_true h1]; rfl, rfl⟩
    have HLI : Hid (∀ w, Calls Tryz.prog 23 #[.int .i64 (x : Int)] w fun e w' => e = .returned (.tuple #[.agg #[.int .i64 0, .int .i64 0, .bool false], errOf 1]) ∧ Below w.heap.size w w') := fun w => lift_out _ w (by omega)
    have m1 : True := trivial; have m2 : True := trivial
    go_enter Tryz.func26, Tryz.ntmps26
    go_wp2_with (first | (go_at_call 23; clear m1; refine (HLI.out _).mono ?_; rintro e w1 ⟨rfl, hbw1⟩; have hqw1 : Below w.heap.size w w1 := (below_by); have hzw1 := hqw1.size; clear hbw1) | (go_at_call 25; clear m2; refine (HE.out 1 _).mono ?_; rintro e w2 ⟨rfl, hbw2⟩; have hqw2 : Below w.heap.size w w2 := (below_by); have hzw2 := hqw2.size; clear  hqw1; clear hbw2))
    exact bodyPost_ret (v := .tuple #[.string ⟨#[]⟩, errOf 1]) (by simp [results, Tryz.results26, go_sem, *]) rfl ⟨HX.out, below_by⟩
  cases hr : rtOk (sqI (x : Int)) with
  | false =>
    have HX : Hid (DoneB (.returned (.tuple #[.string ⟨#[]⟩, errOf 5])) (ansB 2 x y z t)) := Or.inr ⟨5, by decide, by unfold ansB; rw [decide_eq_false h1, hr]; rfl, rfl⟩
    have HLI : Hid (∀ w, Calls Tryz.prog 23 #[.int .i64 (x : Int)] w fun e w' => e = .returned (.tuple #[.agg #[.int .i64 0, .int .i64 0, .bool false], errOf 5]) ∧ Below w.heap.size w w') := fun w => lift_none _ w (by omega) (by omega) hr
    clear hr
    have m1 : True := trivial; have m2 : True := trivial
    go_enter Tryz.func26, Tryz.ntmps26
    go_wp2_with (first | (go_at_call 23; clear m1; refine (HLI.out _).mono ?_; rintro e w1 ⟨rfl, hbw1⟩; have hqw1 : Below w.heap.size w w1 := (below_by); have hzw1 := hqw1.size; clear hbw1) | (go_at_call 25; clear m2; refine (HE.out 5 _).mono ?_; rintro e w2 ⟨rfl, hbw2⟩; have hqw2 : Below w.heap.size w w2 := (below_by); have hzw2 := hqw2.size; clear  hqw1; clear hbw2))
    exact bodyPost_ret (v := .tuple #[.string ⟨#[]⟩, errOf 5]) (by simp [results, Tryz.results26, go_sem, *]) rfl ⟨HX.out, below_by⟩
  | true =>
    obtain ⟨v, hv⟩ : ∃ v : Nat, rtMin (sqI (x : Int)) = (v : Int) := ⟨(rtMin (sqI (x : Int))).toNat, by have := (least_le (sqI (x : Int))).1; omega⟩
    have hv2 : v ≤ 4050 := by have := (least_le (sqI (x : Int))).2; omega
    have HX : Hid (DoneB (.returned (.tuple #[.string (toldB (x, v, false)), .nilIface])) (ansB 2 x y z t)) := Or.inl (by unfold ansB; rw [decide_eq_false h1, hr, hv]; rfl)
    have HLI : Hid (∀ w, Calls Tryz.prog 23 #[.int .i64 (x : Int)] w fun e w' => e = .returned (.tuple #[.agg #[.int .i64 (x : Int), .int .i64 (v : Int), .bool false], .nilIface]) ∧ Below w.heap.size w w') := fun w => by
      have := lift_yes _ w (by omega) (by omega) hr
      rwa [hv] at this
    have HS : Hid (∀ w, Lie a w → Calls Tryz.prog 25 #[.agg #[.int .i64 (x : Int), .int .i64 (v : Int), .bool false], .nilIface] w fun e w' => e = .returned (.tuple #[.string (toldB (x, v, false)), .nilIface]) ∧ Below w.heap.size w w') := fun w h => stold_ok a (x, v, false) w h (by show x ≤ 9999; omega) (by show v ≤ 9999; omega)
    clear hr hv
    generalize toldB (x, v, false) = A at *
    have m1 : True := trivial; have m2 : True := trivial
    go_enter Tryz.func26, Tryz.ntmps26
    go_wp2_with (first | (go_at_call 23; clear m1; refine (HLI.out _).mono ?_; rintro e w1 ⟨rfl, hbw1⟩; have hqw1 : Below w.heap.size w w1 := (below_by); have hzw1 := hqw1.size; clear hbw1) | (go_at_call 25; clear m2; refine (HS.out _ (HL.out.below (show Below w.heap.size w _ from below_by))).mono ?_; rintro e w2 ⟨rfl, hbw2⟩; have hqw2 : Below w.heap.size w w2 := (below_by); have hzw2 := hqw2.size; clear  hqw1; clear hbw2))
    exact bodyPost_ret (v := .tuple #[.string (A), .nilIface]) (by simp [results, Tryz.results26, go_sem, *]) rfl ⟨HX.out, below_by⟩
set_option maxRecDepth 100000 in
set_option maxHeartbeats 4000000 in
theorem do_hide (a : Addr) (nb c x y z : Nat) (t : ByteArray) (w : World) (h : Lie a w) (hn : At w nb [.int .i64 (x : Int), .int .i64 (y : Int)]) (hx : x ≤ 9999) (hy : y ≤ 9999) : Calls Tryz.prog 39 #[.agg #[.slice (some ⟨nb, 0, none⟩) 2 c, .string t]] w fun e w' => DoneB e (ansB 5 x y z t) ∧ Below w.heap.size w w' := by
  have HL : Hid (Lie a w) := h
  clear h
  by_cases h1 : x < 1013 ∧ y < 1013
  · obtain ⟨b1, b2⟩ := tM_9 (4 * hdN x y)
    obtain ⟨TX, hX⟩ : ∃ T, tM (4 * hdN x y) = T := ⟨_, rfl⟩
    have HT : Hid (∀ w, Calls Tryz.prog 40 #[.int .i64 (x : Int), .int .i64 (y : Int)] w fun e w' => e = .returned (.tuple #[.agg #[.int .i64 ((TX).1 : Int), .int .i64 ((TX).2.1 : Int), .bool (TX).2.2], .nilIface]) ∧ Below w.heap.size w w') := fun w => by
      have := hide_is.2 x y w h1.1 h1.2
      rwa [hX] at this
    rw [hX] at b1 b2
    have HS : Hid (∀ w, Lie a w → Calls Tryz.prog 25 #[.agg #[.int .i64 ((TX).1 : Int), .int .i64 ((TX).2.1 : Int), .bool (TX).2.2], .nilIface] w fun e w' => e = .returned (.tuple #[.string (toldB TX), .nilIface]) ∧ Below w.heap.size w w') := fun w h => stold_ok a TX w h b1 b2
    have HX : Hid (DoneB (.returned (.tuple #[.string (toldB TX), .nilIface])) (ansB 5 x y z t)) := Or.inl (by unfold ansB; rw [decide_eq_false (show ¬ 1013 ≤ x by omega), decide_eq_false (show ¬ 1013 ≤ y by omega), ← hX]; rfl)
    clear hX
    generalize toldB TX = A at *
    go_enter Tryz.func39, Tryz.ntmps39
    go_upto_region 1 with fail
    refine wp_gen (fun V => At V (nb) [.int .i64 (x : Int), .int .i64 (y : Int)] ∧ At V (w.heap.size) [.slice (some ⟨nb, 0, none⟩) 2 c, .string t] ∧ Below w.heap.size w V) ⟨at_red, at_red, below_by⟩ ?_
    rintro V ⟨knV, kaV, hqV⟩
    have hzV := hqV.size
    obtain ⟨znV, cn0V, cn1V, fn0V, fn1V⟩ := knV.two
    obtain ⟨zaV, ca0V, ca1V, fa0V, fa1V⟩ := kaV.two
    have HLV : Hid (Lie a V) := HL.out.below hqV
    refine wp_region_quiet_below (by kernel_rfl) (by kernel_rfl) ?_
    repeat (go_big_quiet_step (first | (go_at_call 40; with_reducible exact Calls.regrown_of (HT.out _)) | (go_at_call 25; with_reducible exact Calls.regrown_of (HS.out _ (HLV.out.below (below_regrown _ _ _))))))
    refine wpQuiet_nil ?_
    intro U hw1
    have hrU := regrown_below hw1
    clear hw1
    have knU := knV.below hrU
    have kaU := kaV.below hrU
    have hqU := bl_call hqV hrU (by omega)
    have hzU := hqU.size
    clear hrU knV cn0V fn0V cn1V fn1V kaV ca0V fa0V ca1V fa1V hqV
    obtain ⟨znU, cn0U, cn1U, fn0U, fn1U⟩ := knU.two
    obtain ⟨zaU, ca0U, ca1U, fa0U, fa1U⟩ := kaU.two
    go_wp2_with fail
    exact bodyPost_ret (v := .tuple #[.string (A), .nilIface]) (by simp [results, Tryz.results39, go_sem, *]) rfl ⟨HX.out, below_by⟩
  · have HT : Hid (∀ w, Calls Tryz.prog 40 #[.int .i64 (x : Int), .int .i64 (y : Int)] w fun e w' => e = .returned (.tuple #[.agg #[.int .i64 0, .int .i64 0, .bool false], errOf 1]) ∧ Below w.heap.size w w') := fun w => by
      refine hide_is.1 x y w (WalkArith.wf_i64 (by omega)) (WalkArith.wf_i64 (by omega)) ?_
      by_cases h2 : x < 1013
      · rw [show resB (y : Int) = false from decide_eq_false (by omega), Bool.and_false]
      · rw [show resB (x : Int) = false from decide_eq_false (by omega), Bool.false_and]
    have HS : Hid (∀ w, Calls Tryz.prog 25 #[.agg #[.int .i64 0, .int .i64 0, .bool false], errOf 1] w fun e w' => e = .returned (.tuple #[.string ⟨#[]⟩, errOf 1]) ∧ Below w.heap.size w w') := fun w => stold_no 0 0 false 1 w
    have HX : Hid (DoneB (.returned (.tuple #[.string ⟨#[]⟩, errOf 1])) (ansB 5 x y z t)) := Or.inr ⟨1, by decide, by
      unfold ansB
      by_cases h2 : x < 1013
      · rw [decide_eq_true (show 1013 ≤ y by omega), Bool.or_true]; rfl
      · rw [decide_eq_true (show 1013 ≤ x by omega), Bool.true_or]; rfl, rfl⟩
    go_enter Tryz.func39, Tryz.ntmps39
    go_upto_region 1 with fail
    refine wp_gen (fun V => At V (nb) [.int .i64 (x : Int), .int .i64 (y : Int)] ∧ At V (w.heap.size) [.slice (some ⟨nb, 0, none⟩) 2 c, .string t] ∧ Below w.heap.size w V) ⟨at_red, at_red, below_by⟩ ?_
    rintro V ⟨knV, kaV, hqV⟩
    have hzV := hqV.size
    obtain ⟨znV, cn0V, cn1V, fn0V, fn1V⟩ := knV.two
    obtain ⟨zaV, ca0V, ca1V, fa0V, fa1V⟩ := kaV.two
    have HLV : Hid (Lie a V) := HL.out.below hqV
    refine wp_region_quiet_below (by kernel_rfl) (by kernel_rfl) ?_
    repeat (go_big_quiet_step (first | (go_at_call 40; with_reducible exact Calls.regrown_of (HT.out _)) | (go_at_call 25; with_reducible exact Calls.regrown_of (HS.out _))))
    refine wpQuiet_nil ?_
    intro U hw1
    have hrU := regrown_below hw1
    clear hw1
    have knU := knV.below hrU
    have kaU := kaV.below hrU
    have hqU := bl_call hqV hrU (by omega)
    have hzU := hqU.size
    clear hrU knV cn0V fn0V cn1V fn1V kaV ca0V fa0V ca1V fa1V hqV
    obtain ⟨znU, cn0U, cn1U, fn0U, fn1U⟩ := knU.two
    obtain ⟨zaU, ca0U, ca1U, fa0U, fa1U⟩ := kaU.two
    go_wp2_with fail
    exact bodyPost_ret (v := .tuple #[.string ⟨#[]⟩, errOf 1]) (by simp [results, Tryz.results39, go_sem, *]) rfl ⟨HX.out, below_by⟩
set_option maxRecDepth 100000 in
set_option maxHeartbeats 4000000 in
theorem do_short (a : Addr) (nb c x y z : Nat) (t : ByteArray) (w : World) (h : Lie a w) (hn : At w nb [.int .i64 (x : Int)]) (hx : x ≤ 9999) (ht : t.size ≤ 3000) : Calls Tryz.prog 37 #[.agg #[.slice (some ⟨nb, 0, none⟩) 1 c, .string t]] w fun e w' => DoneB e (ansB 8 x y z t) ∧ Below w.heap.size w w' := by
  have HL : Hid (Lie a w) := h
  clear h
  by_cases h0 : x = 0 ∨ 1013 ≤ x
  · have HT : Hid (∀ w, Calls Tryz.prog 38 #[.int .i64 (x : Int), .string t] w fun e w' => e = .returned (.tuple #[.agg #[.int .i64 0, .int .i64 0, .bool false], errOf 1]) ∧ Below w.heap.size w w') := fun w => ssign_x _ t w (by omega)
    have HS : Hid (∀ w, Calls Tryz.prog 25 #[.agg #[.int .i64 0, .int .i64 0, .bool false], errOf 1] w fun e w' => e = .returned (.tuple #[.string ⟨#[]⟩, errOf 1]) ∧ Below w.heap.size w w') := fun w => stold_no 0 0 false 1 w
    have HX : Hid (DoneB (.returned (.tuple #[.string ⟨#[]⟩, errOf 1])) (ansB 8 x y z t)) := Or.inr ⟨1, by decide, by
      unfold ansB
      rcases h0 with rfl | h0
      · rfl
      · rw [decide_eq_true h0, Bool.or_true]; rfl, rfl⟩
    clear h0
    go_enter Tryz.func37, Tryz.ntmps37
    go_upto_region 1 with fail
    refine wp_gen (fun V => At V (nb) [.int .i64 (x : Int)] ∧ At V (w.heap.size) [.slice (some ⟨nb, 0, none⟩) 1 c, .string t] ∧ Below w.heap.size w V) ⟨at_red, at_red, below_by⟩ ?_
    rintro V ⟨knV, kaV, hqV⟩
    have hzV := hqV.size
    obtain ⟨znV, cn0V, fn0V⟩ := knV.one
    obtain ⟨zaV, ca0V, ca1V, fa0V, fa1V⟩ := kaV.two
    have HLV : Hid (Lie a V) := HL.out.below hqV
    refine wp_region_quiet_below (by kernel_rfl) (by kernel_rfl) ?_
    repeat (go_big_quiet_step (first | (go_at_call 38; with_reducible exact Calls.regrown_of (HT.out _)) | (go_at_call 25; with_reducible exact Calls.regrown_of (HS.out _))))
    refine wpQuiet_nil ?_
    intro U hw1
    have hrU := regrown_below hw1
    clear hw1
    have knU := knV.below hrU
    have kaU := kaV.below hrU
    have hqU := bl_call hqV hrU (by omega)
    have hzU := hqU.size
    clear hrU knV cn0V fn0V kaV ca0V fa0V ca1V fa1V hqV
    obtain ⟨znU, cn0U, fn0U⟩ := knU.one
    obtain ⟨zaU, ca0U, ca1U, fa0U, fa1U⟩ := kaU.two
    go_wp2_with fail
    exact bodyPost_ret (v := .tuple #[.string ⟨#[]⟩, errOf 1]) (by simp [results, Tryz.results37, go_sem, *]) rfl ⟨HX.out, below_by⟩
  have hb : (Nat.beq x 0 || decide (1013 ≤ x)) = false := by
    rw [decide_eq_false (show ¬ 1013 ≤ x by omega), Bool.or_false]
    cases hq : Nat.beq x 0 with
    | false => rfl
    | true => have := Nat.eq_of_beq_eq_true hq; omega
  by_cases h6 : 60 < t.size
  · have HT : Hid (∀ w, Calls Tryz.prog 38 #[.int .i64 (x : Int), .string t] w fun e w' => e = .returned (.tuple #[.agg #[.int .i64 0, .int .i64 0, .bool false], errOf 4]) ∧ Below w.heap.size w w') := fun w => ssign_full x t w (by omega) (by omega) h6 (by omega)
    have HS : Hid (∀ w, Calls Tryz.prog 25 #[.agg #[.int .i64 0, .int .i64 0, .bool false], errOf 4] w fun e w' => e = .returned (.tuple #[.string ⟨#[]⟩, errOf 4]) ∧ Below w.heap.size w w') := fun w => stold_no 0 0 false 4 w
    have HX : Hid (DoneB (.returned (.tuple #[.string ⟨#[]⟩, errOf 4])) (ansB 8 x y z t)) := Or.inr ⟨4, by decide, by unfold ansB; rw [hb, decide_eq_true h6]; rfl, rfl⟩
    go_enter Tryz.func37, Tryz.ntmps37
    go_upto_region 1 with fail
    refine wp_gen (fun V => At V (nb) [.int .i64 (x : Int)] ∧ At V (w.heap.size) [.slice (some ⟨nb, 0, none⟩) 1 c, .string t] ∧ Below w.heap.size w V) ⟨at_red, at_red, below_by⟩ ?_
    rintro V ⟨knV, kaV, hqV⟩
    have hzV := hqV.size
    obtain ⟨znV, cn0V, fn0V⟩ := knV.one
    obtain ⟨zaV, ca0V, ca1V, fa0V, fa1V⟩ := kaV.two
    have HLV : Hid (Lie a V) := HL.out.below hqV
    refine wp_region_quiet_below (by kernel_rfl) (by kernel_rfl) ?_
    repeat (go_big_quiet_step (first | (go_at_call 38; with_reducible exact Calls.regrown_of (HT.out _)) | (go_at_call 25; with_reducible exact Calls.regrown_of (HS.out _))))
    refine wpQuiet_nil ?_
    intro U hw1
    have hrU := regrown_below hw1
    clear hw1
    have knU := knV.below hrU
    have kaU := kaV.below hrU
    have hqU := bl_call hqV hrU (by omega)
    have hzU := hqU.size
    clear hrU knV cn0V fn0V kaV ca0V fa0V ca1V fa1V hqV
    obtain ⟨znU, cn0U, fn0U⟩ := knU.one
    obtain ⟨zaU, ca0U, ca1U, fa0U, fa1U⟩ := kaU.two
    go_wp2_with fail
    exact bodyPost_ret (v := .tuple #[.string ⟨#[]⟩, errOf 4]) (by simp [results, Tryz.results37, go_sem, *]) rfl ⟨HX.out, below_by⟩
  · have e : 4 * (uN t * x) = 4 * uN t * x := (Nat.mul_assoc _ _ _).symm
    obtain ⟨b1, b2⟩ := tM_9 (4 * uN t * x)
    obtain ⟨TX, hX⟩ : ∃ T, tM (4 * uN t * x) = T := ⟨_, rfl⟩
    have HT : Hid (∀ w, Calls Tryz.prog 38 #[.int .i64 (x : Int), .string t] w fun e w' => e = .returned (.tuple #[.agg #[.int .i64 ((TX).1 : Int), .int .i64 ((TX).2.1 : Int), .bool (TX).2.2], .nilIface]) ∧ Below w.heap.size w w') := fun w => by
      have := ssign_ok x t w (by omega) (by omega) (by omega)
      rwa [e, hX] at this
    rw [hX] at b1 b2
    have HS : Hid (∀ w, Lie a w → Calls Tryz.prog 25 #[.agg #[.int .i64 ((TX).1 : Int), .int .i64 ((TX).2.1 : Int), .bool (TX).2.2], .nilIface] w fun e w' => e = .returned (.tuple #[.string (toldB TX), .nilIface]) ∧ Below w.heap.size w w') := fun w h => stold_ok a TX w h b1 b2
    have HX : Hid (DoneB (.returned (.tuple #[.string (toldB TX), .nilIface])) (ansB 8 x y z t)) := Or.inl (by unfold ansB; rw [hb, decide_eq_false h6, ← hX]; rfl)
    clear hX e
    generalize toldB TX = A at *
    go_enter Tryz.func37, Tryz.ntmps37
    go_upto_region 1 with fail
    refine wp_gen (fun V => At V (nb) [.int .i64 (x : Int)] ∧ At V (w.heap.size) [.slice (some ⟨nb, 0, none⟩) 1 c, .string t] ∧ Below w.heap.size w V) ⟨at_red, at_red, below_by⟩ ?_
    rintro V ⟨knV, kaV, hqV⟩
    have hzV := hqV.size
    obtain ⟨znV, cn0V, fn0V⟩ := knV.one
    obtain ⟨zaV, ca0V, ca1V, fa0V, fa1V⟩ := kaV.two
    have HLV : Hid (Lie a V) := HL.out.below hqV
    refine wp_region_quiet_below (by kernel_rfl) (by kernel_rfl) ?_
    repeat (go_big_quiet_step (first | (go_at_call 38; with_reducible exact Calls.regrown_of (HT.out _)) | (go_at_call 25; with_reducible exact Calls.regrown_of (HS.out _ (HLV.out.below (below_regrown _ _ _))))))
    refine wpQuiet_nil ?_
    intro U hw1
    have hrU := regrown_below hw1
    clear hw1
    have knU := knV.below hrU
    have kaU := kaV.below hrU
    have hqU := bl_call hqV hrU (by omega)
    have hzU := hqU.size
    clear hrU knV cn0V fn0V kaV ca0V fa0V ca1V fa1V hqV
    obtain ⟨znU, cn0U, fn0U⟩ := knU.one
    obtain ⟨zaU, ca0U, ca1U, fa0U, fa1U⟩ := kaU.two
    go_wp2_with fail
    exact bodyPost_ret (v := .tuple #[.string (A), .nilIface]) (by simp [results, Tryz.results37, go_sem, *]) rfl ⟨HX.out, below_by⟩
end Go.Proofs.YtgngdabfmbipaakGreatDoor

/- Seals and shares of a session. -/
namespace Go.Proofs.YtgngdabfmbipaakGreatDoor
open Go.RowKit Go.Sort Go.Shelf
set_option linter.unusedVariables false
set_option linter.unusedSimpArgs false
theorem beq_n {n : Nat} (h : n ≠ 0) : Nat.beq n 0 = false := by
  cases hq : Nat.beq n 0 with
  | false => rfl
  | true => exact absurd (Nat.eq_of_beq_eq_true hq) h
set_option maxRecDepth 100000 in
set_option maxHeartbeats 4000000 in
theorem do_sign (a : Addr) (nb c x y z : Nat) (t : ByteArray) (w : World) (h : Lie a w) (hn : At w nb [.int .i64 (x : Int), .int .i64 (y : Int)]) (hx : x ≤ 9999) (hy : y ≤ 9999) (ht : t.size ≤ 3000) : Calls Tryz.prog 34 #[.agg #[.slice (some ⟨nb, 0, none⟩) 2 c, .string t]] w fun e w' => DoneB e (ansB 9 x y z t) ∧ Below w.heap.size w w' := by
  have HL : Hid (Lie a w) := h
  clear h
  by_cases h0 : x = 0 ∨ 1013 ≤ x ∨ y = 0 ∨ 1013 ≤ y
  · have HT : Hid (∀ w, Calls Tryz.prog 36 #[.int .i64 (x : Int), .int .i64 (y : Int), .string t] w fun e w' => e = .returned (.tuple #[.agg #[.int .i64 0, .int .i64 0, .bool false, .int .i64 0], errOf 1]) ∧ Below w.heap.size w w') := fun w => by
      by_cases h1 : x = 0 ∨ 1013 ≤ x
      · exact sign_x _ _ t w (by omega)
      · exact sign_k x _ t w (by omega) (by omega) (by omega)
    have HS : Hid (∀ w, Calls Tryz.prog 35 #[.agg #[.int .i64 0, .int .i64 0, .bool false, .int .i64 0], errOf 1] w fun e w' => e = .returned (.tuple #[.string ⟨#[]⟩, errOf 1]) ∧ Below w.heap.size w w') := fun w => slt_no 0 0 false 0 1 w
    have HX : Hid (DoneB (.returned (.tuple #[.string ⟨#[]⟩, errOf 1])) (ansB 9 x y z t)) := Or.inr ⟨1, by decide, by
      unfold ansB
      have hb : (Nat.beq x 0 || decide (1013 ≤ x) || Nat.beq y 0 || decide (1013 ≤ y)) = true := by
        rcases h0 with rfl | h0 | rfl | h0
        · rfl
        · rw [decide_eq_true h0, Bool.or_true, Bool.true_or, Bool.true_or]
        · rw [show Nat.beq 0 0 = true from rfl, Bool.or_true, Bool.true_or]
        · rw [decide_eq_true h0, Bool.or_true]
      rw [hb]; rfl, rfl⟩
    clear h0
    go_enter Tryz.func34, Tryz.ntmps34
    go_upto_region 1 with fail
    refine wp_gen (fun V => At V (nb) [.int .i64 (x : Int), .int .i64 (y : Int)] ∧ At V (w.heap.size) [.slice (some ⟨nb, 0, none⟩) 2 c, .string t] ∧ Below w.heap.size w V) ⟨at_red, at_red, below_by⟩ ?_
    rintro V ⟨knV, kaV, hqV⟩
    have hzV := hqV.size
    obtain ⟨znV, cn0V, cn1V, fn0V, fn1V⟩ := knV.two
    obtain ⟨zaV, ca0V, ca1V, fa0V, fa1V⟩ := kaV.two
    have HLV : Hid (Lie a V) := HL.out.below hqV
    refine wp_region_quiet_below (by kernel_rfl) (by kernel_rfl) ?_
    repeat (go_big_quiet_step (first | (go_at_call 36; with_reducible exact Calls.regrown_of (HT.out _)) | (go_at_call 35; with_reducible exact Calls.regrown_of (HS.out _))))
    refine wpQuiet_nil ?_
    intro U hw1
    have hrU := regrown_below hw1
    clear hw1
    have knU := knV.below hrU
    have kaU := kaV.below hrU
    have hqU := bl_call hqV hrU (by omega)
    have hzU := hqU.size
    clear hrU knV cn0V fn0V cn1V fn1V kaV ca0V fa0V ca1V fa1V hqV
    obtain ⟨znU, cn0U, cn1U, fn0U, fn1U⟩ := knU.two
    obtain ⟨zaU, ca0U, ca1U, fa0U, fa1U⟩ := kaU.two
    go_wp2_with fail
    exact bodyPost_ret (v := .tuple #[.string ⟨#[]⟩, errOf 1]) (by simp [results, Tryz.results34, go_sem, *]) rfl ⟨HX.out, below_by⟩
  have hb : (Nat.beq x 0 || decide (1013 ≤ x) || Nat.beq y 0 || decide (1013 ≤ y)) = false := by
    rw [beq_n (by omega), decide_eq_false (show ¬ 1013 ≤ x by omega), beq_n (show y ≠ 0 by omega), decide_eq_false (show ¬ 1013 ≤ y by omega)]
    rfl
  by_cases h6 : 60 < t.size
  · have HT : Hid (∀ w, Calls Tryz.prog 36 #[.int .i64 (x : Int), .int .i64 (y : Int), .string t] w fun e w' => e = .returned (.tuple #[.agg #[.int .i64 0, .int .i64 0, .bool false, .int .i64 0], errOf 4]) ∧ Below w.heap.size w w') := fun w => sign_full x y t w (by omega) (by omega) (by omega) (by omega) h6 (by omega)
    have HS : Hid (∀ w, Calls Tryz.prog 35 #[.agg #[.int .i64 0, .int .i64 0, .bool false, .int .i64 0], errOf 4] w fun e w' => e = .returned (.tuple #[.string ⟨#[]⟩, errOf 4]) ∧ Below w.heap.size w w') := fun w => slt_no 0 0 false 0 4 w
    have HX : Hid (DoneB (.returned (.tuple #[.string ⟨#[]⟩, errOf 4])) (ansB 9 x y z t)) := Or.inr ⟨4, by decide, by unfold ansB; rw [hb, decide_eq_true h6]; rfl, rfl⟩
    go_enter Tryz.func34, Tryz.ntmps34
    go_upto_region 1 with fail
    refine wp_gen (fun V => At V (nb) [.int .i64 (x : Int), .int .i64 (y : Int)] ∧ At V (w.heap.size) [.slice (some ⟨nb, 0, none⟩) 2 c, .string t] ∧ Below w.heap.size w V) ⟨at_red, at_red, below_by⟩ ?_
    rintro V ⟨knV, kaV, hqV⟩
    have hzV := hqV.size
    obtain ⟨znV, cn0V, cn1V, fn0V, fn1V⟩ := knV.two
    obtain ⟨zaV, ca0V, ca1V, fa0V, fa1V⟩ := kaV.two
    have HLV : Hid (Lie a V) := HL.out.below hqV
    refine wp_region_quiet_below (by kernel_rfl) (by kernel_rfl) ?_
    repeat (go_big_quiet_step (first | (go_at_call 36; with_reducible exact Calls.regrown_of (HT.out _)) | (go_at_call 35; with_reducible exact Calls.regrown_of (HS.out _))))
    refine wpQuiet_nil ?_
    intro U hw1
    have hrU := regrown_below hw1
    clear hw1
    have knU := knV.below hrU
    have kaU := kaV.below hrU
    have hqU := bl_call hqV hrU (by omega)
    have hzU := hqU.size
    clear hrU knV cn0V fn0V cn1V fn1V kaV ca0V fa0V ca1V fa1V hqV
    obtain ⟨znU, cn0U, cn1U, fn0U, fn1U⟩ := knU.two
    obtain ⟨zaU, ca0U, ca1U, fa0U, fa1U⟩ := kaU.two
    go_wp2_with fail
    exact bodyPost_ret (v := .tuple #[.string ⟨#[]⟩, errOf 4]) (by simp [results, Tryz.results34, go_sem, *]) rfl ⟨HX.out, below_by⟩
  · obtain ⟨b1, b2⟩ := tM_9 (4 * y)
    have hf : (tM (4 * y)).2.2 = false := by
      rw [tM_f]
      cases hq : farI (4 * y) with
      | false => rfl
      | true => have := (farI_iff _).1 hq; omega
    have hs : sgN x y t ≤ 9999 := by
      have := sgN_lt x y t
      omega
    obtain ⟨s, hs'⟩ : ∃ s, sgN x y t = s := ⟨_, rfl⟩
    obtain ⟨p, hp⟩ : ∃ p, tM (4 * y) = p := ⟨_, rfl⟩
    have HT : Hid (∀ w, Calls Tryz.prog 36 #[.int .i64 (x : Int), .int .i64 (y : Int), .string t] w fun e w' => e = .returned (.tuple #[.agg #[.int .i64 (p.1 : Int), .int .i64 (p.2.1 : Int), .bool p.2.2, .int .i64 (s : Int)], .nilIface]) ∧ Below w.heap.size w w') := fun w => by
      have := sign_ok x y t w (by omega) (by omega) (by omega) (by omega) (by omega)
      rwa [hp, hs'] at this
    rw [hp] at b1 b2 hf
    rw [hs'] at hs
    have HS : Hid (∀ w, Lie a w → Calls Tryz.prog 35 #[.agg #[.int .i64 (p.1 : Int), .int .i64 (p.2.1 : Int), .bool p.2.2, .int .i64 (s : Int)], .nilIface] w fun e w' => e = .returned (.tuple #[.string (pairB (toldB p) (digB s)), .nilIface]) ∧ Below w.heap.size w w') := fun w h => slt_ok a p s w h b1 b2 hs
    have HX : Hid (DoneB (.returned (.tuple #[.string (pairB (toldB p) (digB s)), .nilIface])) (ansB 9 x y z t)) := Or.inl (by
      unfold ansB
      rw [hb, decide_eq_false h6, hp, hs']
      show _ = Ending.returned (.tuple #[.string (pairB (pairB (digB p.1) (digB p.2.1)) (digB s)), .nilIface])
      unfold toldB
      rw [hf]
      rfl)
    clear hp hs' hf b1 b2
    generalize pairB (toldB p) (digB s) = A at *
    go_enter Tryz.func34, Tryz.ntmps34
    go_upto_region 1 with fail
    refine wp_gen (fun V => At V (nb) [.int .i64 (x : Int), .int .i64 (y : Int)] ∧ At V (w.heap.size) [.slice (some ⟨nb, 0, none⟩) 2 c, .string t] ∧ Below w.heap.size w V) ⟨at_red, at_red, below_by⟩ ?_
    rintro V ⟨knV, kaV, hqV⟩
    have hzV := hqV.size
    obtain ⟨znV, cn0V, cn1V, fn0V, fn1V⟩ := knV.two
    obtain ⟨zaV, ca0V, ca1V, fa0V, fa1V⟩ := kaV.two
    have HLV : Hid (Lie a V) := HL.out.below hqV
    refine wp_region_quiet_below (by kernel_rfl) (by kernel_rfl) ?_
    repeat (go_big_quiet_step (first | (go_at_call 36; with_reducible exact Calls.regrown_of (HT.out _)) | (go_at_call 35; with_reducible exact Calls.regrown_of (HS.out _ (HLV.out.below (below_regrown _ _ _))))))
    refine wpQuiet_nil ?_
    intro U hw1
    have hrU := regrown_below hw1
    clear hw1
    have knU := knV.below hrU
    have kaU := kaV.below hrU
    have hqU := bl_call hqV hrU (by omega)
    have hzU := hqU.size
    clear hrU knV cn0V fn0V cn1V fn1V kaV ca0V fa0V ca1V fa1V hqV
    obtain ⟨znU, cn0U, cn1U, fn0U, fn1U⟩ := knU.two
    obtain ⟨zaU, ca0U, ca1U, fa0U, fa1U⟩ := kaU.two
    go_wp2_with fail
    exact bodyPost_ret (v := .tuple #[.string (A), .nilIface]) (by simp [results, Tryz.results34, go_sem, *]) rfl ⟨HX.out, below_by⟩
/-- The value of a share. -/
theorem share_val (x y i : Nat) : vI (vlq (xq fun j => ((if j = 0 then x else y : Nat) : Int)) (zq ((i : Int) + 1)) 2) = (((x + y * (i + 1)) % 1013 : Nat) : Int) := by
  have e : vlq (xq fun j => ((if j = 0 then x else y : Nat) : Int)) (zq ((i : Int) + 1)) 2 = zq ((x : Int) + (y : Int) * ((i : Int) + 1)) := by
    show 0 + zq (x : Int) * 1 + zq (y : Int) * (1 * zq ((i : Int) + 1)) = _
    rw [zq_add (x : Int) _, zq_mul (y : Int) _]
    grind
  rw [e, vI_zq, Int.natCast_emod, Int.natCast_add, Int.natCast_mul, Int.natCast_add]
  rfl
theorem shares_join (x y : Nat) : ∀ n, joinB (digsL (fun i => (x + y * (i + 1)) % 1013) (n + 1)) = sharesB x y (n + 1)
  | 0 => rfl
  | n + 1 => by
    rw [digsL_more, rjoin_more _ _ (by rw [digsL_more]; simp), shares_join x y n]
    show _ = bif Nat.beq (n + 1) 0 then _ else _
    rfl
set_option maxRecDepth 100000 in
set_option maxHeartbeats 4000000 in
theorem do_shares (a : Addr) (nb c x y z : Nat) (t : ByteArray) (w : World) (h : Lie a w) (hn : At w nb [.int .i64 (x : Int), .int .i64 (y : Int), .int .i64 (z : Int)]) (hx : x ≤ 9999) (hy : y ≤ 9999) (hz : z ≤ 9999) (hc : 3 ≤ c) : Calls Tryz.prog 41 #[.agg #[.slice (some ⟨nb, 0, none⟩) 3 c, .string t]] w fun e w' => DoneB e (ansB 6 x y z t) ∧ Below w.heap.size w w' := by
  have HL : Hid (Lie a w) := h
  have hc1 : (2 : Int) ≤ (c : Int) := by omega
  clear h
  have hrI : ∀ W, At W nb [.int .i64 (x : Int), .int .i64 (y : Int), .int .i64 (z : Int)] → RowI W nb 0 2 (fun j => ((if j = 0 then x else y : Nat) : Int)) := fun W k => ⟨k.1, fun i hi => by
    rcases i with _ | _ | i
    · exact k.2.1 0 (by simp)
    · exact k.2.1 1 (by simp)
    · omega⟩
  by_cases h0 : x < 1013 ∧ y < 1013 ∧ 1 ≤ z ∧ z ≤ 12
  · have HSP : Hid (∀ W, At W nb [.int .i64 (x : Int), .int .i64 (y : Int), .int .i64 (z : Int)] → Calls Tryz.prog 43 #[.slice (some ⟨nb, 0, none⟩) 2 c, .int .i64 (z : Int)] W fun e w' => ∃ g d : Nat, e = .returned (.tuple #[.slice (some ⟨g, 0, none⟩) z d, .nilIface]) ∧ RowP w' g 0 z (fun i => (i : Int) + 1) (fun i => (((x + y * (i + 1)) % 1013 : Nat) : Int)) ∧ Below W.heap.size W w') := fun W k => by
      refine (split_is.2.2 nb 0 2 c _ z W (by omega) (by omega) (hrI W k) (fun i _ => by
        show resB ((if i = 0 then x else y : Nat) : Int) = true
        split
        · exact decide_eq_true (by omega)
        · exact decide_eq_true (by omega)) h0.2.2.1 h0.2.2.2).mono ?_
      rintro e w' ⟨u, rfl, hown, hb⟩
      obtain ⟨sa, d, rfl, h1⟩ := own_pairs hown
      rcases h1 with h1 | ⟨g, rfl, _, _, h2⟩
      · omega
      · exact ⟨g, d, rfl, ⟨h2.1, fun i hi => ⟨(h2.2 i hi).1, by
          have h3 := (h2.2 i hi).2
          dsimp only at h3 ⊢
          rw [share_val] at h3
          exact h3⟩⟩, hb⟩
    have HST : Hid (∀ g d W, Lie a W → RowP W g 0 z (fun i => (i : Int) + 1) (fun i => (((x + y * (i + 1)) % 1013 : Nat) : Int)) → Calls Tryz.prog 42 #[.slice (some ⟨g, 0, none⟩) z d, .nilIface] W fun e w' => e = .returned (.tuple #[.string (sharesB x y z), .nilIface]) ∧ Below W.heap.size W w') := fun g d W hl hr => by
      have := sht_ok a g 0 z d _ (fun i => (x + y * (i + 1)) % 1013) W hl hr (by omega) (by omega) (fun i _ => by omega)
      obtain ⟨m, rfl⟩ : ∃ m, z = m + 1 := ⟨z - 1, by omega⟩
      rwa [shares_join] at this
    have HX : Hid (DoneB (.returned (.tuple #[.string (sharesB x y z), .nilIface])) (ansB 6 x y z t)) := Or.inl (by unfold ansB; rw [decide_eq_false (show ¬ 1013 ≤ x by omega), decide_eq_false (show ¬ 1013 ≤ y by omega), beq_n (show z ≠ 0 by omega), decide_eq_false (show ¬ 12 < z by omega)]; rfl)
    generalize sharesB x y z = A at *
    clear hrI
    go_enter Tryz.func41, Tryz.ntmps41
    go_upto_region 1 with fail
    refine wp_gen (fun V => At V (nb) [.int .i64 (x : Int), .int .i64 (y : Int), .int .i64 (z : Int)] ∧ At V (w.heap.size) [.slice (some ⟨nb, 0, none⟩) 3 c, .string t] ∧ Below w.heap.size w V) ⟨at_red, at_red, below_by⟩ ?_
    rintro V ⟨knV, kaV, hqV⟩
    have hzV := hqV.size
    obtain ⟨znV, cn0V, cn1V, cn2V, fn0V, fn1V, fn2V⟩ := knV.three
    obtain ⟨zaV, ca0V, ca1V, fa0V, fa1V⟩ := kaV.two
    have HLV : Hid (Lie a V) := HL.out.below hqV
    go_region_held3 (fun W => ((nb) < W.heap.size ∧ W.cell? ⟨nb, 0, none⟩ = some (.int .i64 (x : Int)) ∧ W.cell? ⟨nb, 1, none⟩ = some (.int .i64 (y : Int)) ∧ W.cell? ⟨nb, 2, none⟩ = some (.int .i64 (z : Int)) ∧ W.frozen? ⟨nb, 0, none⟩ = false ∧ W.frozen? ⟨nb, 1, none⟩ = false ∧ W.frozen? ⟨nb, 2, none⟩ = false) ∧ ((w.heap.size) < W.heap.size ∧ W.cell? ⟨w.heap.size, 0, none⟩ = some (.slice (some ⟨nb, 0, none⟩) 3 c) ∧ W.cell? ⟨w.heap.size, 1, none⟩ = some (.string t) ∧ W.frozen? ⟨w.heap.size, 0, none⟩ = false ∧ W.frozen? ⟨w.heap.size, 1, none⟩ = false)) (exact ⟨At.three (at_red), At.two (at_red)⟩) (first | (go_at_call 43; refine (HSP.out _ (show At _ nb [.int .i64 (x : Int), .int .i64 (y : Int), .int .i64 (z : Int)] from at_red)).mono ?_; rintro e w5 ⟨g, d, rfl, hrow5, hb5⟩; obtain ⟨hc5, hf5⟩ := bcell hb5; have hl5 := rn_lt hb5; have hn5 := rn_ne hb5; have hm5 := rn_ne2 hb5; have hs5 := hb5.size; (try simp at hs5)) | (go_at_call 42; refine (HST.out _ _ _ (HLV.out.below (show Below V.heap.size V _ from below_by)) (hrow5.below hrow5.1 (show Below w5.heap.size w5 _ from below_by))).mono ?_; rintro e w6 ⟨rfl, hb6⟩; obtain ⟨hc6, hf6⟩ := bcell hb6; have hl6 := rn_lt hb6; have hn6 := rn_ne hb6; have hm6 := rn_ne2 hb6; have hs6 := hb6.size; (try simp at hs6)))
    all_goals (go_wp2_with fail)
    all_goals (exact bodyPost_ret (v := .tuple #[.string (A), .nilIface]) (by simp [results, Tryz.results41, go_sem, *]) rfl ⟨HX.out, below_by⟩)
  · have HSP : Hid (∀ W, At W nb [.int .i64 (x : Int), .int .i64 (y : Int), .int .i64 (z : Int)] → Calls Tryz.prog 43 #[.slice (some ⟨nb, 0, none⟩) 2 c, .int .i64 (z : Int)] W fun e w' => e = .returned (.tuple #[.slice none 0 0, errOf 1]) ∧ Below W.heap.size W w') := fun W k => by
      refine split_is.2.1 (some ⟨nb, 0, none⟩) 2 c (fun j => ((if j = 0 then x else y : Nat) : Int)) z W (by omega) (Or.inr ⟨nb, 0, rfl, hrI W k⟩) (fun i _ => by show (Lit.int .i64 ((if i = 0 then x else y : Nat) : Int)).wf = true; split <;> exact WalkArith.wf_i64 (by omega)) (WalkArith.wf_i64 (by omega)) ?_
      by_cases h1 : x < 1013
      · by_cases h2 : y < 1013
        · exact Or.inr (by omega)
        · exact Or.inr (Or.inr (Or.inr ⟨1, by omega, decide_eq_false (by show ¬ (0 ≤ (y : Int) ∧ (y : Int) < 1013); omega)⟩))
      · exact Or.inr (Or.inr (Or.inr ⟨0, by omega, decide_eq_false (by show ¬ (0 ≤ (x : Int) ∧ (x : Int) < 1013); omega)⟩))
    have HST : Hid (∀ w, Calls Tryz.prog 42 #[.slice none 0 0, errOf 1] w fun e w' => e = .returned (.tuple #[.string ⟨#[]⟩, errOf 1]) ∧ Below w.heap.size w w') := fun w => sht_no none 0 0 1 w
    have HX : Hid (DoneB (.returned (.tuple #[.string ⟨#[]⟩, errOf 1])) (ansB 6 x y z t)) := Or.inr ⟨1, by decide, by
      unfold ansB
      have hb : (decide (1013 ≤ x) || decide (1013 ≤ y) || Nat.beq z 0 || decide (12 < z)) = true := by
        by_cases h1 : x < 1013
        · by_cases h2 : y < 1013
          · by_cases h3 : z = 0
            · rw [h3, show Nat.beq 0 0 = true from rfl, Bool.or_true, Bool.true_or]
            · rw [decide_eq_true (show 12 < z by omega), Bool.or_true]
          · rw [decide_eq_true (show 1013 ≤ y by omega), Bool.or_true, Bool.true_or, Bool.true_or]
        · rw [decide_eq_true (show 1013 ≤ x by omega), Bool.true_or, Bool.true_or, Bool.true_or]
      rw [hb]; rfl, rfl⟩
    clear hrI h0
    go_enter Tryz.func41, Tryz.ntmps41
    go_upto_region 1 with fail
    refine wp_gen (fun V => At V (nb) [.int .i64 (x : Int), .int .i64 (y : Int), .int .i64 (z : Int)] ∧ At V (w.heap.size) [.slice (some ⟨nb, 0, none⟩) 3 c, .string t] ∧ Below w.heap.size w V) ⟨at_red, at_red, below_by⟩ ?_
    rintro V ⟨knV, kaV, hqV⟩
    have hzV := hqV.size
    obtain ⟨znV, cn0V, cn1V, cn2V, fn0V, fn1V, fn2V⟩ := knV.three
    obtain ⟨zaV, ca0V, ca1V, fa0V, fa1V⟩ := kaV.two
    go_region_held3 (fun W => ((nb) < W.heap.size ∧ W.cell? ⟨nb, 0, none⟩ = some (.int .i64 (x : Int)) ∧ W.cell? ⟨nb, 1, none⟩ = some (.int .i64 (y : Int)) ∧ W.cell? ⟨nb, 2, none⟩ = some (.int .i64 (z : Int)) ∧ W.frozen? ⟨nb, 0, none⟩ = false ∧ W.frozen? ⟨nb, 1, none⟩ = false ∧ W.frozen? ⟨nb, 2, none⟩ = false) ∧ ((w.heap.size) < W.heap.size ∧ W.cell? ⟨w.heap.size, 0, none⟩ = some (.slice (some ⟨nb, 0, none⟩) 3 c) ∧ W.cell? ⟨w.heap.size, 1, none⟩ = some (.string t) ∧ W.frozen? ⟨w.heap.size, 0, none⟩ = false ∧ W.frozen? ⟨w.heap.size, 1, none⟩ = false)) (exact ⟨At.three (at_red), At.two (at_red)⟩) (first | (go_at_call 43; refine (HSP.out _ (show At _ nb [.int .i64 (x : Int), .int .i64 (y : Int), .int .i64 (z : Int)] from at_red)).mono ?_; rintro e w5 ⟨rfl, hb5⟩; obtain ⟨hc5, hf5⟩ := bcell hb5; have hl5 := rn_lt hb5; have hn5 := rn_ne hb5; have hm5 := rn_ne2 hb5; have hs5 := hb5.size; (try simp at hs5)) | (go_at_call 42; refine (HST.out _).mono ?_; rintro e w6 ⟨rfl, hb6⟩; obtain ⟨hc6, hf6⟩ := bcell hb6; have hl6 := rn_lt hb6; have hn6 := rn_ne hb6; have hm6 := rn_ne2 hb6; have hs6 := hb6.size; (try simp at hs6)))
    all_goals (go_wp2_with fail)
    all_goals (exact bodyPost_ret (v := .tuple #[.string ⟨#[]⟩, errOf 1]) (by simp [results, Tryz.results41, go_sem, *]) rfl ⟨HX.out, below_by⟩)
end Go.Proofs.YtgngdabfmbipaakGreatDoor
