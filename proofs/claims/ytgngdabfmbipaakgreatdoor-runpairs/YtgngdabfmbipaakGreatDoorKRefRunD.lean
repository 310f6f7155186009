/- The answers to what has its words, as the plain reckoning has them (stoneref2.answer). -/
import Derived.Test.YtgngdabfmbipaakGreatDoorKRefRunC
import Derived.Test.YtgngdabfmbipaakGreatDoorKG7
import Derived.Test.YtgngdabfmbipaakGreatDoorKG9
import Derived.Test.YtgngdabfmbipaakGreatDoorKG4
import Derived.Test.YtgngdabfmbipaakGreatDoorKG10
import Derived.Deep.RegionHeld3
import Derived.Deep.CutRange
import Derived.Deep.CutBlock
import Derived.Lib.QuietBelow
namespace Go.Proofs.YtgngdabfmbipaakGreatDoor
open Go.RowKit Go.Sort
set_option linter.unusedVariables false
set_option linter.unusedSimpArgs false
theorem rtold_t (k : Nat) (w : World) : Calls Tryz.prog 51 #[.agg #[.int .i64 ((tM k).1 : Int), .int .i64 ((tM k).2.1 : Int), .bool (tM k).2.2]] w fun e w' => e = .returned (.string (toldB (tM k))) ∧ Below w.heap.size w w' := by
  obtain ⟨h1, h2⟩ := okS_lt (tM_ok k)
  exact rtold (tM k).1 (tM k).2.1 (tM k).2.2 w (by omega) (by omega)
set_option maxRecDepth 100000 in
set_option maxHeartbeats 4000000 in
theorem rans_base (a b c : Nat) (t : ByteArray) (w : World) (ha : a ≤ 9999) (hb : b ≤ 9999) (hc : c ≤ 9999) (ht : t.size ≤ 3000)  : Calls Tryz.prog 19 #[.string ⟨#[98, 97, 115, 101]⟩, .agg #[.int .i64 (a : Int), .int .i64 (b : Int), .int .i64 (c : Int)], .string t] w fun e w' => e = .returned (.string (ansB 1 a b c t)) ∧ Below w.heap.size w w' := by
  have A1 : Hid (∀ w, Calls Tryz.prog 49 #[.int .i64 (a : Int)] w fun e w' => e = .returned (.bool (secB (a : Int))) ∧ Below w.heap.size w w') := fun w => rsecret _ w
  have A2 : Hid (∀ w, Calls Tryz.prog 49 #[.int .i64 (b : Int)] w fun e w' => e = .returned (.bool (secB (b : Int))) ∧ Below w.heap.size w w') := fun w => rsecret _ w
  have A3 : Hid (∀ w, Calls Tryz.prog 50 #[.int .i64 (a : Int)] w fun e w' => e = .returned (.bool (resB (a : Int))) ∧ Below w.heap.size w w') := fun w => rrest _ w
  have A4 : Hid (∀ w, Calls Tryz.prog 50 #[.int .i64 (b : Int)] w fun e w' => e = .returned (.bool (resB (b : Int))) ∧ Below w.heap.size w w') := fun w => rrest _ w
  have HX : Hid (ansB 1 a b c t = toldB (tM (4 * a))) := rfl
  have m1 : True := trivial; have m2 : True := trivial; have m3 : True := trivial; have m4 : True := trivial; have m5 : True := trivial; have m6 : True := trivial
  go_enter Tryz.func19, Tryz.ntmps19
  go_wp2_with (first | (go_at_call 49; clear m1; refine (A1.out _).mono ?_; rintro e w1 ⟨rfl, hbw1⟩; have knw1 : At w1 (w.heap.size) [.int .i64 (a : Int), .int .i64 (b : Int), .int .i64 (c : Int)] := (at_red); have hqw1 : Below w.heap.size w w1 := (below_by); have hzw1 := hqw1.size; obtain ⟨znw1, cn0w1, cn1w1, cn2w1, fn0w1, fn1w1, fn2w1⟩ := knw1.three; clear hbw1) | (go_at_call 49; clear m2; refine (A2.out _).mono ?_; rintro e w2 ⟨rfl, hbw2⟩; have knw2 : At w2 (w.heap.size) [.int .i64 (a : Int), .int .i64 (b : Int), .int .i64 (c : Int)] := (at_red); have hqw2 : Below w.heap.size w w2 := (below_by); have hzw2 := hqw2.size; obtain ⟨znw2, cn0w2, cn1w2, cn2w2, fn0w2, fn1w2, fn2w2⟩ := knw2.three; clear knw1 cn0w1 fn0w1 cn1w1 fn1w1 cn2w1 fn2w1 hqw1; clear hbw2) | (go_at_call 50; clear m3; refine (A3.out _).mono ?_; rintro e w3 ⟨rfl, hbw3⟩; have knw3 : At w3 (w.heap.size) [.int .i64 (a : Int), .int .i64 (b : Int), .int .i64 (c : Int)] := (at_red); have hqw3 : Below w.heap.size w w3 := (below_by); have hzw3 := hqw3.size; obtain ⟨znw3, cn0w3, cn1w3, cn2w3, fn0w3, fn1w3, fn2w3⟩ := knw3.three; clear knw2 cn0w2 fn0w2 cn1w2 fn1w2 cn2w2 fn2w2 hqw2; clear hbw3) | (go_at_call 50; clear m4; refine (A4.out _).mono ?_; rintro e w4 ⟨rfl, hbw4⟩; have knw4 : At w4 (w.heap.size) [.int .i64 (a : Int), .int .i64 (b : Int), .int .i64 (c : Int)] := (at_red); have hqw4 : Below w.heap.size w w4 := (below_by); have hzw4 := hqw4.size; obtain ⟨znw4, cn0w4, cn1w4, cn2w4, fn0w4, fn1w4, fn2w4⟩ := knw4.three; clear knw3 cn0w3 fn0w3 cn1w3 fn1w3 cn2w3 fn2w3 hqw3; clear hbw4) | (go_at_call 52; clear m5; refine (rby_eq (tM_em 4 a) _).mono ?_; rintro e w5 ⟨rfl, hbw5⟩; have hqw5 : Below w.heap.size w w5 := (below_by); have hzw5 := hqw5.size; clear knw4 cn0w4 fn0w4 cn1w4 fn1w4 cn2w4 fn2w4 hqw4; clear hbw5) | (go_at_call 51; clear m6; refine (rtold_t _ _).mono ?_; rintro e w6 ⟨rfl, hbw6⟩; have hqw6 : Below w.heap.size w w6 := (below_by); have hzw6 := hqw6.size; clear  hqw5; clear hbw6))
  go_ret
  exact ⟨by rw [HX.out]; rfl, below_by⟩
set_option maxRecDepth 100000 in
set_option maxHeartbeats 4000000 in
theorem rans_order (a b c : Nat) (t : ByteArray) (w : World) (ha : a ≤ 9999) (hb : b ≤ 9999) (hc : c ≤ 9999) (ht : t.size ≤ 3000)  : Calls Tryz.prog 19 #[.string ⟨#[111, 114, 100, 101, 114]⟩, .agg #[.int .i64 (a : Int), .int .i64 (b : Int), .int .i64 (c : Int)], .string t] w fun e w' => e = .returned (.string (ansB 3 a b c t)) ∧ Below w.heap.size w w' := by
  have A1 : Hid (∀ w, Calls Tryz.prog 49 #[.int .i64 (a : Int)] w fun e w' => e = .returned (.bool (secB (a : Int))) ∧ Below w.heap.size w w') := fun w => rsecret _ w
  have A2 : Hid (∀ w, Calls Tryz.prog 49 #[.int .i64 (b : Int)] w fun e w' => e = .returned (.bool (secB (b : Int))) ∧ Below w.heap.size w w') := fun w => rsecret _ w
  have A3 : Hid (∀ w, Calls Tryz.prog 50 #[.int .i64 (a : Int)] w fun e w' => e = .returned (.bool (resB (a : Int))) ∧ Below w.heap.size w w') := fun w => rrest _ w
  have A4 : Hid (∀ w, Calls Tryz.prog 50 #[.int .i64 (b : Int)] w fun e w' => e = .returned (.bool (resB (b : Int))) ∧ Below w.heap.size w w') := fun w => rrest _ w
  have HX : Hid (ansB 3 a b c t = digB (gM (4 * a))) := rfl
  have hg := gM_le (4 * a)
  have m1 : True := trivial; have m2 : True := trivial; have m3 : True := trivial; have m4 : True := trivial; have m5 : True := trivial; have m6 : True := trivial; have m7 : True := trivial
  go_enter Tryz.func19, Tryz.ntmps19
  go_wp2_with (first | (go_at_call 49; clear m1; refine (A1.out _).mono ?_; rintro e w1 ⟨rfl, hbw1⟩; have knw1 : At w1 (w.heap.size) [.int .i64 (a : Int), .int .i64 (b : Int), .int .i64 (c : Int)] := (at_red); have hqw1 : Below w.heap.size w w1 := (below_by); have hzw1 := hqw1.size; obtain ⟨znw1, cn0w1, cn1w1, cn2w1, fn0w1, fn1w1, fn2w1⟩ := knw1.three; clear hbw1) | (go_at_call 49; clear m2; refine (A2.out _).mono ?_; rintro e w2 ⟨rfl, hbw2⟩; have knw2 : At w2 (w.heap.size) [.int .i64 (a : Int), .int .i64 (b : Int), .int .i64 (c : Int)] := (at_red); have hqw2 : Below w.heap.size w w2 := (below_by); have hzw2 := hqw2.size; obtain ⟨znw2, cn0w2, cn1w2, cn2w2, fn0w2, fn1w2, fn2w2⟩ := knw2.three; clear knw1 cn0w1 fn0w1 cn1w1 fn1w1 cn2w1 fn2w1 hqw1; clear hbw2) | (go_at_call 50; clear m3; refine (A3.out _).mono ?_; rintro e w3 ⟨rfl, hbw3⟩; have knw3 : At w3 (w.heap.size) [.int .i64 (a : Int), .int .i64 (b : Int), .int .i64 (c : Int)] := (at_red); have hqw3 : Below w.heap.size w w3 := (below_by); have hzw3 := hqw3.size; obtain ⟨znw3, cn0w3, cn1w3, cn2w3, fn0w3, fn1w3, fn2w3⟩ := knw3.three; clear knw2 cn0w2 fn0w2 cn1w2 fn1w2 cn2w2 fn2w2 hqw2; clear hbw3) | (go_at_call 50; clear m4; refine (A4.out _).mono ?_; rintro e w4 ⟨rfl, hbw4⟩; have knw4 : At w4 (w.heap.size) [.int .i64 (a : Int), .int .i64 (b : Int), .int .i64 (c : Int)] := (at_red); have hqw4 : Below w.heap.size w w4 := (below_by); have hzw4 := hqw4.size; obtain ⟨znw4, cn0w4, cn1w4, cn2w4, fn0w4, fn1w4, fn2w4⟩ := knw4.three; clear knw3 cn0w3 fn0w3 cn1w3 fn1w3 cn2w3 fn2w3 hqw3; clear hbw4) | (go_at_call 52; clear m5; refine (rby_eq (tM_em 4 a) _).mono ?_; rintro e w5 ⟨rfl, hbw5⟩; have hqw5 : Below w.heap.size w w5 := (below_by); have hzw5 := hqw5.size; clear knw4 cn0w4 fn0w4 cn1w4 fn1w4 cn2w4 fn2w4 hqw4; clear hbw5) | (go_at_call 55; clear m6; refine (rorder_tM _ _).mono ?_; rintro e w6 ⟨rfl, hbw6⟩; have hqw6 : Below w.heap.size w w6 := (below_by); have hzw6 := hqw6.size; clear  hqw5; clear hbw6) | (go_at_call 11; clear m7; refine (rdigits _ _ (by omega)).mono ?_; rintro e w7 ⟨rfl, hbw7⟩; have hqw7 : Below w.heap.size w w7 := (below_by); have hzw7 := hqw7.size; clear  hqw6; clear hbw7))
  go_ret
  exact ⟨by rw [HX.out]; rfl, below_by⟩
set_option maxRecDepth 100000 in
set_option maxHeartbeats 4000000 in
theorem rans_hash (a b c : Nat) (t : ByteArray) (w : World) (ha : a ≤ 9999) (hb : b ≤ 9999) (hc : c ≤ 9999) (ht : t.size ≤ 3000)  : Calls Tryz.prog 19 #[.string ⟨#[104, 97, 115, 104]⟩, .agg #[.int .i64 (a : Int), .int .i64 (b : Int), .int .i64 (c : Int)], .string t] w fun e w' => e = .returned (.string (ansB 7 a b c t)) ∧ Below w.heap.size w w' := by
  have A1 : Hid (∀ w, Calls Tryz.prog 49 #[.int .i64 (a : Int)] w fun e w' => e = .returned (.bool (secB (a : Int))) ∧ Below w.heap.size w w') := fun w => rsecret _ w
  have A2 : Hid (∀ w, Calls Tryz.prog 49 #[.int .i64 (b : Int)] w fun e w' => e = .returned (.bool (secB (b : Int))) ∧ Below w.heap.size w w') := fun w => rsecret _ w
  have A3 : Hid (∀ w, Calls Tryz.prog 50 #[.int .i64 (a : Int)] w fun e w' => e = .returned (.bool (resB (a : Int))) ∧ Below w.heap.size w w') := fun w => rrest _ w
  have A4 : Hid (∀ w, Calls Tryz.prog 50 #[.int .i64 (b : Int)] w fun e w' => e = .returned (.bool (resB (b : Int))) ∧ Below w.heap.size w w') := fun w => rrest _ w
  obtain ⟨q, hq⟩ : ∃ q, longN t % 1013 = q := ⟨_, rfl⟩
  have HX : Hid (ansB 7 a b c t = digB q) := by unfold Hid; rw [← hq]; rfl
  have HN : Hid (∀ w, Calls Tryz.prog 56 #[.string t] w fun e w' => e = .returned (.int .i64 (q : Int)) ∧ Below w.heap.size w w') := fun w => by
    have := below_of_same (rnumber_any t w (by omega))
    rwa [show (longN t : Int) % 1013 = (q : Int) by omega] at this
  have hl : q < 1013 := by rw [← hq]; exact Nat.mod_lt _ (by omega)
  clear hq
  have m1 : True := trivial; have m2 : True := trivial; have m3 : True := trivial; have m4 : True := trivial; have m5 : True := trivial; have m6 : True := trivial
  go_enter Tryz.func19, Tryz.ntmps19
  go_wp2_with (first | (go_at_call 49; clear m1; refine (A1.out _).mono ?_; rintro e w1 ⟨rfl, hbw1⟩; have knw1 : At w1 (w.heap.size) [.int .i64 (a : Int), .int .i64 (b : Int), .int .i64 (c : Int)] := (at_red); have hqw1 : Below w.heap.size w w1 := (below_by); have hzw1 := hqw1.size; obtain ⟨znw1, cn0w1, cn1w1, cn2w1, fn0w1, fn1w1, fn2w1⟩ := knw1.three; clear hbw1) | (go_at_call 49; clear m2; refine (A2.out _).mono ?_; rintro e w2 ⟨rfl, hbw2⟩; have knw2 : At w2 (w.heap.size) [.int .i64 (a : Int), .int .i64 (b : Int), .int .i64 (c : Int)] := (at_red); have hqw2 : Below w.heap.size w w2 := (below_by); have hzw2 := hqw2.size; obtain ⟨znw2, cn0w2, cn1w2, cn2w2, fn0w2, fn1w2, fn2w2⟩ := knw2.three; clear knw1 cn0w1 fn0w1 cn1w1 fn1w1 cn2w1 fn2w1 hqw1; clear hbw2) | (go_at_call 50; clear m3; refine (A3.out _).mono ?_; rintro e w3 ⟨rfl, hbw3⟩; have knw3 : At w3 (w.heap.size) [.int .i64 (a : Int), .int .i64 (b : Int), .int .i64 (c : Int)] := (at_red); have hqw3 : Below w.heap.size w w3 := (below_by); have hzw3 := hqw3.size; obtain ⟨znw3, cn0w3, cn1w3, cn2w3, fn0w3, fn1w3, fn2w3⟩ := knw3.three; clear knw2 cn0w2 fn0w2 cn1w2 fn1w2 cn2w2 fn2w2 hqw2; clear hbw3) | (go_at_call 50; clear m4; refine (A4.out _).mono ?_; rintro e w4 ⟨rfl, hbw4⟩; have knw4 : At w4 (w.heap.size) [.int .i64 (a : Int), .int .i64 (b : Int), .int .i64 (c : Int)] := (at_red); have hqw4 : Below w.heap.size w w4 := (below_by); have hzw4 := hqw4.size; obtain ⟨znw4, cn0w4, cn1w4, cn2w4, fn0w4, fn1w4, fn2w4⟩ := knw4.three; clear knw3 cn0w3 fn0w3 cn1w3 fn1w3 cn2w3 fn2w3 hqw3; clear hbw4) | (go_at_call 56; clear m5; refine (HN.out _).mono ?_; rintro e w5 ⟨rfl, hbw5⟩; have hqw5 : Below w.heap.size w w5 := (below_by); have hzw5 := hqw5.size; clear knw4 cn0w4 fn0w4 cn1w4 fn1w4 cn2w4 fn2w4 hqw4; clear hbw5) | (go_at_call 11; clear m6; refine (rdigits _ _ (by omega)).mono ?_; rintro e w6 ⟨rfl, hbw6⟩; have hqw6 : Below w.heap.size w w6 := (below_by); have hzw6 := hqw6.size; clear  hqw5; clear hbw6))
  go_ret
  exact ⟨by rw [HX.out]; rfl, below_by⟩
set_option maxRecDepth 100000 in
set_option maxHeartbeats 4000000 in
theorem rans_lift (a b c : Nat) (t : ByteArray) (w : World) (ha : a ≤ 9999) (hb : b ≤ 9999) (hc : c ≤ 9999) (ht : t.size ≤ 3000)  : Calls Tryz.prog 19 #[.string ⟨#[108, 105, 102, 116]⟩, .agg #[.int .i64 (a : Int), .int .i64 (b : Int), .int .i64 (c : Int)], .string t] w fun e w' => e = .returned (.string (ansB 2 a b c t)) ∧ Below w.heap.size w w' := by
  have A1 : Hid (∀ w, Calls Tryz.prog 49 #[.int .i64 (a : Int)] w fun e w' => e = .returned (.bool (secB (a : Int))) ∧ Below w.heap.size w w') := fun w => rsecret _ w
  have A2 : Hid (∀ w, Calls Tryz.prog 49 #[.int .i64 (b : Int)] w fun e w' => e = .returned (.bool (secB (b : Int))) ∧ Below w.heap.size w w') := fun w => rsecret _ w
  have A3 : Hid (∀ w, Calls Tryz.prog 50 #[.int .i64 (a : Int)] w fun e w' => e = .returned (.bool (resB (a : Int))) ∧ Below w.heap.size w w') := fun w => rrest _ w
  have A4 : Hid (∀ w, Calls Tryz.prog 50 #[.int .i64 (b : Int)] w fun e w' => e = .returned (.bool (resB (b : Int))) ∧ Below w.heap.size w w') := fun w => rrest _ w
  by_cases h1 : 4051 ≤ a
  · have h1' : (a : Int) ≥ 4051 := by omega
    have HX : Hid (ansB 2 a b c t = rangeB) := by unfold Hid ansB; rw [decide_eq_true h1]; rfl
    have m1 : True := trivial; have m2 : True := trivial; have m3 : True := trivial; have m4 : True := trivial; have m5 : True := trivial
    go_enter Tryz.func19, Tryz.ntmps19
    go_wp2_with (first | (go_at_call 49; clear m1; refine (A1.out _).mono ?_; rintro e w1 ⟨rfl, hbw1⟩; have knw1 : At w1 (w.heap.size) [.int .i64 (a : Int), .int .i64 (b : Int), .int .i64 (c : Int)] := (at_red); have hqw1 : Below w.heap.size w w1 := (below_by); have hzw1 := hqw1.size; obtain ⟨znw1, cn0w1, cn1w1, cn2w1, fn0w1, fn1w1, fn2w1⟩ := knw1.three; clear hbw1) | (go_at_call 49; clear m2; refine (A2.out _).mono ?_; rintro e w2 ⟨rfl, hbw2⟩; have knw2 : At w2 (w.heap.size) [.int .i64 (a : Int), .int .i64 (b : Int), .int .i64 (c : Int)] := (at_red); have hqw2 : Below w.heap.size w w2 := (below_by); have hzw2 := hqw2.size; obtain ⟨znw2, cn0w2, cn1w2, cn2w2, fn0w2, fn1w2, fn2w2⟩ := knw2.three; clear knw1 cn0w1 fn0w1 cn1w1 fn1w1 cn2w1 fn2w1 hqw1; clear hbw2) | (go_at_call 50; clear m3; refine (A3.out _).mono ?_; rintro e w3 ⟨rfl, hbw3⟩; have knw3 : At w3 (w.heap.size) [.int .i64 (a : Int), .int .i64 (b : Int), .int .i64 (c : Int)] := (at_red); have hqw3 : Below w.heap.size w w3 := (below_by); have hzw3 := hqw3.size; obtain ⟨znw3, cn0w3, cn1w3, cn2w3, fn0w3, fn1w3, fn2w3⟩ := knw3.three; clear knw2 cn0w2 fn0w2 cn1w2 fn1w2 cn2w2 fn2w2 hqw2; clear hbw3) | (go_at_call 50; clear m4; refine (A4.out _).mono ?_; rintro e w4 ⟨rfl, hbw4⟩; have knw4 : At w4 (w.heap.size) [.int .i64 (a : Int), .int .i64 (b : Int), .int .i64 (c : Int)] := (at_red); have hqw4 : Below w.heap.size w w4 := (below_by); have hzw4 := hqw4.size; obtain ⟨znw4, cn0w4, cn1w4, cn2w4, fn0w4, fn1w4, fn2w4⟩ := knw4.three; clear knw3 cn0w3 fn0w3 cn1w3 fn1w3 cn2w3 fn2w3 hqw3; clear hbw4) | (go_at_call 53; clear m5; refine (rname1 _).mono ?_; rintro e w5 ⟨rfl, hbw5⟩; have hqw5 : Below w.heap.size w w5 := (below_by); have hzw5 := hqw5.size; clear knw4 cn0w4 fn0w4 cn1w4 fn1w4 cn2w4 fn2w4 hqw4; clear hbw5))
    go_ret
    exact ⟨by rw [HX.out]; rfl, below_by⟩
  have h1' : ¬ (a : Int) ≥ 4051 := by omega
  cases hr : rtOk (sqI (a : Int)) with
  | false =>
    have HX : Hid (ansB 2 a b c t = noneB) := by unfold Hid ansB; rw [decide_eq_false h1, hr]; rfl
    have HL : Hid (∀ w, Calls Tryz.prog 54 #[.int .i64 (a : Int)] w fun e w' => e = .returned (.tuple #[.agg #[.int .i64 0, .int .i64 0, .bool false], .bool false]) ∧ Below w.heap.size w w') := fun w => rlift_no _ w (by omega) (by omega) hr
    clear hr
    have m1 : True := trivial; have m2 : True := trivial; have m3 : True := trivial; have m4 : True := trivial; have m5 : True := trivial; have m6 : True := trivial
    go_enter Tryz.func19, Tryz.ntmps19
    go_wp2_with (first | (go_at_call 49; clear m1; refine (A1.out _).mono ?_; rintro e w1 ⟨rfl, hbw1⟩; have knw1 : At w1 (w.heap.size) [.int .i64 (a : Int), .int .i64 (b : Int), .int .i64 (c : Int)] := (at_red); have hqw1 : Below w.heap.size w w1 := (below_by); have hzw1 := hqw1.size; obtain ⟨znw1, cn0w1, cn1w1, cn2w1, fn0w1, fn1w1, fn2w1⟩ := knw1.three; clear hbw1) | (go_at_call 49; clear m2; refine (A2.out _).mono ?_; rintro e w2 ⟨rfl, hbw2⟩; have knw2 : At w2 (w.heap.size) [.int .i64 (a : Int), .int .i64 (b : Int), .int .i64 (c : Int)] := (at_red); have hqw2 : Below w.heap.size w w2 := (below_by); have hzw2 := hqw2.size; obtain ⟨znw2, cn0w2, cn1w2, cn2w2, fn0w2, fn1w2, fn2w2⟩ := knw2.three; clear knw1 cn0w1 fn0w1 cn1w1 fn1w1 cn2w1 fn2w1 hqw1; clear hbw2) | (go_at_call 50; clear m3; refine (A3.out _).mono ?_; rintro e w3 ⟨rfl, hbw3⟩; have knw3 : At w3 (w.heap.size) [.int .i64 (a : Int), .int .i64 (b : Int), .int .i64 (c : Int)] := (at_red); have hqw3 : Below w.heap.size w w3 := (below_by); have hzw3 := hqw3.size; obtain ⟨znw3, cn0w3, cn1w3, cn2w3, fn0w3, fn1w3, fn2w3⟩ := knw3.three; clear knw2 cn0w2 fn0w2 cn1w2 fn1w2 cn2w2 fn2w2 hqw2; clear hbw3) | (go_at_call 50; clear m4; refine (A4.out _).mono ?_; rintro e w4 ⟨rfl, hbw4⟩; have knw4 : At w4 (w.heap.size) [.int .i64 (a : Int), .int .i64 (b : Int), .int .i64 (c : Int)] := (at_red); have hqw4 : Below w.heap.size w w4 := (below_by); have hzw4 := hqw4.size; obtain ⟨znw4, cn0w4, cn1w4, cn2w4, fn0w4, fn1w4, fn2w4⟩ := knw4.three; clear knw3 cn0w3 fn0w3 cn1w3 fn1w3 cn2w3 fn2w3 hqw3; clear hbw4) | (go_at_call 54; clear m5; refine (HL.out _).mono ?_; rintro e w5 ⟨rfl, hbw5⟩; have hqw5 : Below w.heap.size w w5 := (below_by); have hzw5 := hqw5.size; clear knw4 cn0w4 fn0w4 cn1w4 fn1w4 cn2w4 fn2w4 hqw4; clear hbw5) | (go_at_call 53; clear m6; refine (rname5 _).mono ?_; rintro e w6 ⟨rfl, hbw6⟩; have hqw6 : Below w.heap.size w w6 := (below_by); have hzw6 := hqw6.size; clear  hqw5; clear hbw6))
    go_ret
    exact ⟨by rw [HX.out]; rfl, below_by⟩
  | true =>
    obtain ⟨y, hy⟩ : ∃ y : Nat, rtMin (sqI (a : Int)) = (y : Int) := ⟨(rtMin (sqI (a : Int))).toNat, by have := (least_le (sqI (a : Int))).1; omega⟩
    have hy2 : y ≤ 4050 := by have := (least_le (sqI (a : Int))).2; omega
    have HX : Hid (ansB 2 a b c t = toldB (a, y, false)) := by unfold Hid ansB; rw [decide_eq_false h1, hr, hy]; rfl
    have HL : Hid (∀ w, Calls Tryz.prog 54 #[.int .i64 (a : Int)] w fun e w' => e = .returned (.tuple #[.agg #[.int .i64 (a : Int), .int .i64 (y : Int), .bool false], .bool true]) ∧ Below w.heap.size w w') := fun w => by
      have := rlift_yes _ w (by omega) (by omega) hr
      rwa [hy] at this
    clear hr hy
    have m1 : True := trivial; have m2 : True := trivial; have m3 : True := trivial; have m4 : True := trivial; have m5 : True := trivial; have m6 : True := trivial
    go_enter Tryz.func19, Tryz.ntmps19
    go_wp2_with (first | (go_at_call 49; clear m1; refine (A1.out _).mono ?_; rintro e w1 ⟨rfl, hbw1⟩; have knw1 : At w1 (w.heap.size) [.int .i64 (a : Int), .int .i64 (b : Int), .int .i64 (c : Int)] := (at_red); have hqw1 : Below w.heap.size w w1 := (below_by); have hzw1 := hqw1.size; obtain ⟨znw1, cn0w1, cn1w1, cn2w1, fn0w1, fn1w1, fn2w1⟩ := knw1.three; clear hbw1) | (go_at_call 49; clear m2; refine (A2.out _).mono ?_; rintro e w2 ⟨rfl, hbw2⟩; have knw2 : At w2 (w.heap.size) [.int .i64 (a : Int), .int .i64 (b : Int), .int .i64 (c : Int)] := (at_red); have hqw2 : Below w.heap.size w w2 := (below_by); have hzw2 := hqw2.size; obtain ⟨znw2, cn0w2, cn1w2, cn2w2, fn0w2, fn1w2, fn2w2⟩ := knw2.three; clear knw1 cn0w1 fn0w1 cn1w1 fn1w1 cn2w1 fn2w1 hqw1; clear hbw2) | (go_at_call 50; clear m3; refine (A3.out _).mono ?_; rintro e w3 ⟨rfl, hbw3⟩; have knw3 : At w3 (w.heap.size) [.int .i64 (a : Int), .int .i64 (b : Int), .int .i64 (c : Int)] := (at_red); have hqw3 : Below w.heap.size w w3 := (below_by); have hzw3 := hqw3.size; obtain ⟨znw3, cn0w3, cn1w3, cn2w3, fn0w3, fn1w3, fn2w3⟩ := knw3.three; clear knw2 cn0w2 fn0w2 cn1w2 fn1w2 cn2w2 fn2w2 hqw2; clear hbw3) | (go_at_call 50; clear m4; refine (A4.out _).mono ?_; rintro e w4 ⟨rfl, hbw4⟩; have knw4 : At w4 (w.heap.size) [.int .i64 (a : Int), .int .i64 (b : Int), .int .i64 (c : Int)] := (at_red); have hqw4 : Below w.heap.size w w4 := (below_by); have hzw4 := hqw4.size; obtain ⟨znw4, cn0w4, cn1w4, cn2w4, fn0w4, fn1w4, fn2w4⟩ := knw4.three; clear knw3 cn0w3 fn0w3 cn1w3 fn1w3 cn2w3 fn2w3 hqw3; clear hbw4) | (go_at_call 54; clear m5; refine (HL.out _).mono ?_; rintro e w5 ⟨rfl, hbw5⟩; have hqw5 : Below w.heap.size w w5 := (below_by); have hzw5 := hqw5.size; clear knw4 cn0w4 fn0w4 cn1w4 fn1w4 cn2w4 fn2w4 hqw4; clear hbw5) | (go_at_call 51; clear m6; refine (rtold a y false _ (by omega) hy2).mono ?_; rintro e w6 ⟨rfl, hbw6⟩; have hqw6 : Below w.heap.size w w6 := (below_by); have hzw6 := hqw6.size; clear  hqw5; clear hbw6))
    go_ret
    exact ⟨by rw [HX.out]; rfl, below_by⟩
set_option maxRecDepth 100000 in
set_option maxHeartbeats 4000000 in
theorem rans_hide (a b c : Nat) (t : ByteArray) (w : World) (ha : a ≤ 9999) (hb : b ≤ 9999) (hc : c ≤ 9999) (ht : t.size ≤ 3000)  : Calls Tryz.prog 19 #[.string ⟨#[104, 105, 100, 101]⟩, .agg #[.int .i64 (a : Int), .int .i64 (b : Int), .int .i64 (c : Int)], .string t] w fun e w' => e = .returned (.string (ansB 5 a b c t)) ∧ Below w.heap.size w w' := by
  have A1 : Hid (∀ w, Calls Tryz.prog 49 #[.int .i64 (a : Int)] w fun e w' => e = .returned (.bool (secB (a : Int))) ∧ Below w.heap.size w w') := fun w => rsecret _ w
  have A2 : Hid (∀ w, Calls Tryz.prog 49 #[.int .i64 (b : Int)] w fun e w' => e = .returned (.bool (secB (b : Int))) ∧ Below w.heap.size w w') := fun w => rsecret _ w
  have A3 : Hid (∀ w, Calls Tryz.prog 50 #[.int .i64 (a : Int)] w fun e w' => e = .returned (.bool (resB (a : Int))) ∧ Below w.heap.size w w') := fun w => rrest _ w
  have A4 : Hid (∀ w, Calls Tryz.prog 50 #[.int .i64 (b : Int)] w fun e w' => e = .returned (.bool (resB (b : Int))) ∧ Below w.heap.size w w') := fun w => rrest _ w
  cases h1 : resB (a : Int) with
  | false =>
    rw [h1] at A3
    have HX : Hid (ansB 5 a b c t = rangeB) := by unfold Hid ansB; rw [decide_eq_true (show 1013 ≤ a by have := of_decide_eq_false (p := 0 ≤ (a : Int) ∧ (a : Int) < 1013) h1; omega), Bool.true_or]; rfl
    clear h1
    have m1 : True := trivial; have m2 : True := trivial; have m3 : True := trivial; have m4 : True := trivial; have m5 : True := trivial
    go_enter Tryz.func19, Tryz.ntmps19
    go_wp2_with (first | (go_at_call 49; clear m1; refine (A1.out _).mono ?_; rintro e w1 ⟨rfl, hbw1⟩; have knw1 : At w1 (w.heap.size) [.int .i64 (a : Int), .int .i64 (b : Int), .int .i64 (c : Int)] := (at_red); have hqw1 : Below w.heap.size w w1 := (below_by); have hzw1 := hqw1.size; obtain ⟨znw1, cn0w1, cn1w1, cn2w1, fn0w1, fn1w1, fn2w1⟩ := knw1.three; clear hbw1) | (go_at_call 49; clear m2; refine (A2.out _).mono ?_; rintro e w2 ⟨rfl, hbw2⟩; have knw2 : At w2 (w.heap.size) [.int .i64 (a : Int), .int .i64 (b : Int), .int .i64 (c : Int)] := (at_red); have hqw2 : Below w.heap.size w w2 := (below_by); have hzw2 := hqw2.size; obtain ⟨znw2, cn0w2, cn1w2, cn2w2, fn0w2, fn1w2, fn2w2⟩ := knw2.three; clear knw1 cn0w1 fn0w1 cn1w1 fn1w1 cn2w1 fn2w1 hqw1; clear hbw2) | (go_at_call 50; clear m3; refine (A3.out _).mono ?_; rintro e w3 ⟨rfl, hbw3⟩; have knw3 : At w3 (w.heap.size) [.int .i64 (a : Int), .int .i64 (b : Int), .int .i64 (c : Int)] := (at_red); have hqw3 : Below w.heap.size w w3 := (below_by); have hzw3 := hqw3.size; obtain ⟨znw3, cn0w3, cn1w3, cn2w3, fn0w3, fn1w3, fn2w3⟩ := knw3.three; clear knw2 cn0w2 fn0w2 cn1w2 fn1w2 cn2w2 fn2w2 hqw2; clear hbw3) | (go_at_call 50; clear m4; refine (A4.out _).mono ?_; rintro e w4 ⟨rfl, hbw4⟩; have knw4 : At w4 (w.heap.size) [.int .i64 (a : Int), .int .i64 (b : Int), .int .i64 (c : Int)] := (at_red); have hqw4 : Below w.heap.size w w4 := (below_by); have hzw4 := hqw4.size; obtain ⟨znw4, cn0w4, cn1w4, cn2w4, fn0w4, fn1w4, fn2w4⟩ := knw4.three; clear knw3 cn0w3 fn0w3 cn1w3 fn1w3 cn2w3 fn2w3 hqw3; clear hbw4) | (go_at_call 53; clear m5; refine (rname1 _).mono ?_; rintro e w5 ⟨rfl, hbw5⟩; have hqw5 : Below w.heap.size w w5 := (below_by); have hzw5 := hqw5.size; clear knw4 cn0w4 fn0w4 cn1w4 fn1w4 cn2w4 fn2w4 hqw4; clear hbw5))
    go_ret
    exact ⟨by rw [HX.out]; rfl, below_by⟩
  | true =>
    rw [h1] at A3
    have a1 := of_decide_eq_true (p := 0 ≤ (a : Int) ∧ (a : Int) < 1013) h1
    cases h2 : resB (b : Int) with
    | false =>
      rw [h2] at A4
      have HX : Hid (ansB 5 a b c t = rangeB) := by unfold Hid ansB; rw [decide_eq_true (show 1013 ≤ b by have := of_decide_eq_false (p := 0 ≤ (b : Int) ∧ (b : Int) < 1013) h2; omega), Bool.or_true]; rfl
      clear h1 h2
      have m1 : True := trivial; have m2 : True := trivial; have m3 : True := trivial; have m4 : True := trivial; have m5 : True := trivial
      go_enter Tryz.func19, Tryz.ntmps19
      go_wp2_with (first | (go_at_call 49; clear m1; refine (A1.out _).mono ?_; rintro e w1 ⟨rfl, hbw1⟩; have knw1 : At w1 (w.heap.size) [.int .i64 (a : Int), .int .i64 (b : Int), .int .i64 (c : Int)] := (at_red); have hqw1 : Below w.heap.size w w1 := (below_by); have hzw1 := hqw1.size; obtain ⟨znw1, cn0w1, cn1w1, cn2w1, fn0w1, fn1w1, fn2w1⟩ := knw1.three; clear hbw1) | (go_at_call 49; clear m2; refine (A2.out _).mono ?_; rintro e w2 ⟨rfl, hbw2⟩; have knw2 : At w2 (w.heap.size) [.int .i64 (a : Int), .int .i64 (b : Int), .int .i64 (c : Int)] := (at_red); have hqw2 : Below w.heap.size w w2 := (below_by); have hzw2 := hqw2.size; obtain ⟨znw2, cn0w2, cn1w2, cn2w2, fn0w2, fn1w2, fn2w2⟩ := knw2.three; clear knw1 cn0w1 fn0w1 cn1w1 fn1w1 cn2w1 fn2w1 hqw1; clear hbw2) | (go_at_call 50; clear m3; refine (A3.out _).mono ?_; rintro e w3 ⟨rfl, hbw3⟩; have knw3 : At w3 (w.heap.size) [.int .i64 (a : Int), .int .i64 (b : Int), .int .i64 (c : Int)] := (at_red); have hqw3 : Below w.heap.size w w3 := (below_by); have hzw3 := hqw3.size; obtain ⟨znw3, cn0w3, cn1w3, cn2w3, fn0w3, fn1w3, fn2w3⟩ := knw3.three; clear knw2 cn0w2 fn0w2 cn1w2 fn1w2 cn2w2 fn2w2 hqw2; clear hbw3) | (go_at_call 50; clear m4; refine (A4.out _).mono ?_; rintro e w4 ⟨rfl, hbw4⟩; have knw4 : At w4 (w.heap.size) [.int .i64 (a : Int), .int .i64 (b : Int), .int .i64 (c : Int)] := (at_red); have hqw4 : Below w.heap.size w w4 := (below_by); have hzw4 := hqw4.size; obtain ⟨znw4, cn0w4, cn1w4, cn2w4, fn0w4, fn1w4, fn2w4⟩ := knw4.three; clear knw3 cn0w3 fn0w3 cn1w3 fn1w3 cn2w3 fn2w3 hqw3; clear hbw4) | (go_at_call 53; clear m5; refine (rname1 _).mono ?_; rintro e w5 ⟨rfl, hbw5⟩; have hqw5 : Below w.heap.size w w5 := (below_by); have hzw5 := hqw5.size; clear knw4 cn0w4 fn0w4 cn1w4 fn1w4 cn2w4 fn2w4 hqw4; clear hbw5))
      go_ret
      exact ⟨by rw [HX.out]; rfl, below_by⟩
    | true =>
      rw [h2] at A4
      have b1 := of_decide_eq_true (p := 0 ≤ (b : Int) ∧ (b : Int) < 1013) h2
      obtain ⟨k, hk⟩ : ∃ k, 4 * hdN a b = k := ⟨_, rfl⟩
      have HX : Hid (ansB 5 a b c t = toldB (tM k)) := by unfold Hid ansB; rw [decide_eq_false (show ¬ 1013 ≤ a by omega), decide_eq_false (show ¬ 1013 ≤ b by omega), hk]; rfl
      have HH : Hid (∀ w, Calls Tryz.prog 58 #[.int .i64 (a : Int), .int .i64 (b : Int)] w fun e w' => e = .returned (.agg #[.int .i64 ((tM k).1 : Int), .int .i64 ((tM k).2.1 : Int), .bool (tM k).2.2]) ∧ Below w.heap.size w w') := fun w => by
        have := rhide a b w
        rwa [hk] at this
      clear h1 h2 hk
      have m1 : True := trivial; have m2 : True := trivial; have m3 : True := trivial; have m4 : True := trivial; have m5 : True := trivial; have m6 : True := trivial
      go_enter Tryz.func19, Tryz.ntmps19
      go_wp2_with (first | (go_at_call 49; clear m1; refine (A1.out _).mono ?_; rintro e w1 ⟨rfl, hbw1⟩; have knw1 : At w1 (w.heap.size) [.int .i64 (a : Int), .int .i64 (b : Int), .int .i64 (c : Int)] := (at_red); have hqw1 : Below w.heap.size w w1 := (below_by); have hzw1 := hqw1.size; obtain ⟨znw1, cn0w1, cn1w1, cn2w1, fn0w1, fn1w1, fn2w1⟩ := knw1.three; clear hbw1) | (go_at_call 49; clear m2; refine (A2.out _).mono ?_; rintro e w2 ⟨rfl, hbw2⟩; have knw2 : At w2 (w.heap.size) [.int .i64 (a : Int), .int .i64 (b : Int), .int .i64 (c : Int)] := (at_red); have hqw2 : Below w.heap.size w w2 := (below_by); have hzw2 := hqw2.size; obtain ⟨znw2, cn0w2, cn1w2, cn2w2, fn0w2, fn1w2, fn2w2⟩ := knw2.three; clear knw1 cn0w1 fn0w1 cn1w1 fn1w1 cn2w1 fn2w1 hqw1; clear hbw2) | (go_at_call 50; clear m3; refine (A3.out _).mono ?_; rintro e w3 ⟨rfl, hbw3⟩; have knw3 : At w3 (w.heap.size) [.int .i64 (a : Int), .int .i64 (b : Int), .int .i64 (c : Int)] := (at_red); have hqw3 : Below w.heap.size w w3 := (below_by); have hzw3 := hqw3.size; obtain ⟨znw3, cn0w3, cn1w3, cn2w3, fn0w3, fn1w3, fn2w3⟩ := knw3.three; clear knw2 cn0w2 fn0w2 cn1w2 fn1w2 cn2w2 fn2w2 hqw2; clear hbw3) | (go_at_call 50; clear m4; refine (A4.out _).mono ?_; rintro e w4 ⟨rfl, hbw4⟩; have knw4 : At w4 (w.heap.size) [.int .i64 (a : Int), .int .i64 (b : Int), .int .i64 (c : Int)] := (at_red); have hqw4 : Below w.heap.size w w4 := (below_by); have hzw4 := hqw4.size; obtain ⟨znw4, cn0w4, cn1w4, cn2w4, fn0w4, fn1w4, fn2w4⟩ := knw4.three; clear knw3 cn0w3 fn0w3 cn1w3 fn1w3 cn2w3 fn2w3 hqw3; clear hbw4) | (go_at_call 58; clear m5; refine (HH.out _).mono ?_; rintro e w5 ⟨rfl, hbw5⟩; have hqw5 : Below w.heap.size w w5 := (below_by); have hzw5 := hqw5.size; clear knw4 cn0w4 fn0w4 cn1w4 fn1w4 cn2w4 fn2w4 hqw4; clear hbw5) | (go_at_call 51; clear m6; refine (rtold_t _ _).mono ?_; rintro e w6 ⟨rfl, hbw6⟩; have hqw6 : Below w.heap.size w w6 := (below_by); have hzw6 := hqw6.size; clear  hqw5; clear hbw6))
      go_ret
      exact ⟨by rw [HX.out]; rfl, below_by⟩
end Go.Proofs.YtgngdabfmbipaakGreatDoor
