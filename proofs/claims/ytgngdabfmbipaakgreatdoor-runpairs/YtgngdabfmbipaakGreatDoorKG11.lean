/- What package seal answers, for all numbers, spots and texts, in whatever memory; nothing that was there is turned. -/
import Derived.Test.YtgngdabfmbipaakGreatDoorKG1
import Derived.Test.YtgngdabfmbipaakGreatDoorKG6
import Derived.Test.YtgngdabfmbipaakGreatDoorKG5
import Derived.Test.YtgngdabfmbipaakGreatDoorKG8
import Derived.Deep.RegionHeld3
import Derived.Deep.CutRange
import Derived.Test.YtgngdabfmbipaakGreatDoorKG9
namespace Go.Proofs.YtgngdabfmbipaakGreatDoor
open Go.RowKit Go.Sort
set_option linter.unusedVariables false
set_option linter.unusedSimpArgs false
set_option maxRecDepth 100000 in
set_option maxHeartbeats 2000000 in
theorem key_no (x : Int) (w : World) (h : x < 1 ∨ 1013 ≤ x) :
    Calls Tryz.prog 75 #[.int .i64 x] w fun e w' => e = .returned (.tuple #[.agg #[.int .i64 0, .int .i64 0, .bool false], errOf 1]) ∧ Below w.heap.size w w' := by
  rcases Classical.em (x < 1) with h1 | h1
  · go_enter Tryz.func75, Tryz.ntmps75
    go_wp2_with fail
    exact bodyPost_ret (v := .tuple #[.agg #[.int .i64 0, .int .i64 0, .bool false], errOf 1]) (by simp [results, Tryz.results75, go_sem, *]) rfl ⟨rfl, below_by⟩
  · have h2 : x ≥ 1013 := by omega
    clear h
    go_enter Tryz.func75, Tryz.ntmps75
    go_wp2_with fail
    exact bodyPost_ret (v := .tuple #[.agg #[.int .i64 0, .int .i64 0, .bool false], errOf 1]) (by simp [results, Tryz.results75, go_sem, *]) rfl ⟨rfl, below_by⟩
set_option maxRecDepth 100000 in
set_option maxHeartbeats 2000000 in
theorem key_yes (k : Nat) (w : World) (h1 : 1 ≤ k) (h2 : k < 1013) :
    Calls Tryz.prog 75 #[.int .i64 (k : Int)] w fun e w' => e = .returned (.tuple #[.agg #[.int .i64 ((tM (4 * k)).1 : Int), .int .i64 ((tM (4 * k)).2.1 : Int), .bool (tM (4 * k)).2.2], .nilIface]) ∧ Below w.heap.size w w' := by
  have a1 : ¬ (k : Int) < 1 := by omega
  have a2 : ¬ (k : Int) ≥ 1013 := by omega
  have E : Hid (tM (4 * em (k : Int)) = tM (4 * k)) := by unfold Hid; rw [em_nat h2]
  clear h1 h2
  have m1 : True := trivial; have m2 : True := trivial
  go_enter Tryz.func75, Tryz.ntmps75
  go_wp2_with (first | (go_at_call 10; clear m1; refine (base_is _).mono ?_; rintro e w1 ⟨rfl, hbw1⟩; have krw1 : At w1 (w.heap.size) [.int .i64 0, .int .i64 0, .bool false] := (at_red); have hqw1 : Below w.heap.size w w1 := (below_by); have hzw1 := hqw1.size; obtain ⟨zrw1, cr0w1, cr1w1, cr2w1, fr0w1, fr1w1, fr2w1⟩ := krw1.three; clear hbw1) | (go_at_call 9; clear m2; refine (times_eq E.out _).mono ?_; rintro e w2 ⟨rfl, hbw2⟩; have krw2 : At w2 (w.heap.size) [.int .i64 0, .int .i64 0, .bool false] := (at_red); have hqw2 : Below w.heap.size w w2 := (below_by); have hzw2 := hqw2.size; obtain ⟨zrw2, cr0w2, cr1w2, cr2w2, fr0w2, fr1w2, fr2w2⟩ := krw2.three; clear krw1 cr0w1 fr0w1 cr1w1 fr1w1 cr2w1 fr2w1 hqw1; clear hbw2))
  exact bodyPost_ret (v := .tuple #[.agg #[.int .i64 ((tM (4 * k)).1 : Int), .int .i64 ((tM (4 * k)).2.1 : Int), .bool (tM (4 * k)).2.2], .nilIface]) (by simp [results, Tryz.results75, go_sem, *]) rfl ⟨rfl, below_by⟩
set_option maxRecDepth 100000 in
set_option maxHeartbeats 2000000 in
theorem ask_full (x1 y1 x2 y2 : Int) (f1 f2 : Bool) (t : ByteArray) (w : World) (h : 60 < t.size) (ht : t.size ≤ 9223372036854775807) :
    Calls Tryz.prog 76 #[.agg #[.int .i64 x1, .int .i64 y1, .bool f1], .agg #[.int .i64 x2, .int .i64 y2, .bool f2], .string t] w fun e w' => e = .returned (.tuple #[.int .i64 0, errOf 4]) ∧ Below w.heap.size w w' := by
  have h' : (t.size : Int) > 60 := by omega
  go_enter Tryz.func76, Tryz.ntmps76
  go_wp2_with fail
  go_ret2
  exact ⟨rfl, below_by⟩
set_option maxRecDepth 100000 in
set_option maxHeartbeats 2000000 in
theorem ask_r (x1 y1 x2 y2 : Int) (f1 f2 : Bool) (t : ByteArray) (w : World) (ht : t.size ≤ 60) (h : (ckI x1 y1 f1 == 0) = false) :
    Calls Tryz.prog 76 #[.agg #[.int .i64 x1, .int .i64 y1, .bool f1], .agg #[.int .i64 x2, .int .i64 y2, .bool f2], .string t] w fun e w' => e = .returned (.tuple #[.int .i64 0, errOf (ckI x1 y1 f1)]) ∧ Below w.heap.size w w' := by
  have h' : ¬ (t.size : Int) > 60 := by omega
  have m1 : True := trivial
  go_enter Tryz.func76, Tryz.ntmps76
  go_wp2_with (go_at_call 118; clear m1; refine (pack_no _ _ _ _ h).mono ?_; rintro e w1 ⟨rfl, hbw1⟩; have kaw1 : At w1 (w.heap.size) [.int .i64 x1, .int .i64 y1, .bool f1] := (at_red); have kbw1 : At w1 (w.heap.size + 1) [.int .i64 x2, .int .i64 y2, .bool f2] := (at_red); have hqw1 : Below w.heap.size w w1 := (below_by); have hzw1 := hqw1.size; obtain ⟨zaw1, ca0w1, ca1w1, ca2w1, fa0w1, fa1w1, fa2w1⟩ := kaw1.three; obtain ⟨zbw1, cb0w1, cb1w1, cb2w1, fb0w1, fb1w1, fb2w1⟩ := kbw1.three; clear hbw1)
  go_ret2
  exact ⟨rfl, below_by⟩
set_option maxRecDepth 100000 in
set_option maxHeartbeats 2000000 in
theorem ask_tM (i j : Nat) (t : ByteArray) (w : World) (ht : t.size ≤ 60) :
    Calls Tryz.prog 76 #[.agg #[.int .i64 ((tM i).1 : Int), .int .i64 ((tM i).2.1 : Int), .bool (tM i).2.2], .agg #[.int .i64 ((tM j).1 : Int), .int .i64 ((tM j).2.1 : Int), .bool (tM j).2.2], .string t] w fun e w' => e = .returned (.tuple #[.int .i64 (askN i j t : Int), .nilIface]) ∧ Below w.heap.size w w' := by
  have h' : ¬ (t.size : Int) > 60 := by omega
  have hs := join_size i j ht
  have HA := askI i j t
  have HN : Hid (∀ w, Calls Tryz.prog 31 #[.string (pkB (tM i) ++ pkB (tM j) ++ t)] w fun e w' => e = .returned (.int .i64 (askN i j t : Int)) ∧ Below w.heap.size w w') := fun w => by
    have := below_of_same (number_any (pkB (tM i) ++ pkB (tM j) ++ t) w (by omega))
    rwa [HA] at this
  have p1 := pkB_size (tM i)
  have p2 := pkB_size (tM j)
  clear HA hs
  have m1 : True := trivial; have m2 : True := trivial; have m3 : True := trivial
  go_enter Tryz.func76, Tryz.ntmps76
  go_wp2_with (first | (go_at_call 118; clear m1; refine (pack_tM i _).mono ?_; rintro e w1 ⟨rfl, hbw1⟩; have kaw1 : At w1 (w.heap.size) [.int .i64 ((tM i).1 : Int), .int .i64 ((tM i).2.1 : Int), .bool (tM i).2.2] := (at_red); have kbw1 : At w1 (w.heap.size + 1) [.int .i64 ((tM j).1 : Int), .int .i64 ((tM j).2.1 : Int), .bool (tM j).2.2] := (at_red); have hqw1 : Below w.heap.size w w1 := (below_by); have hzw1 := hqw1.size; obtain ⟨zaw1, ca0w1, ca1w1, ca2w1, fa0w1, fa1w1, fa2w1⟩ := kaw1.three; obtain ⟨zbw1, cb0w1, cb1w1, cb2w1, fb0w1, fb1w1, fb2w1⟩ := kbw1.three; clear hbw1) | (go_at_call 118; clear m2; refine (pack_tM j _).mono ?_; rintro e w2 ⟨rfl, hbw2⟩; have kaw2 : At w2 (w.heap.size) [.int .i64 ((tM i).1 : Int), .int .i64 ((tM i).2.1 : Int), .bool (tM i).2.2] := (at_red); have kbw2 : At w2 (w.heap.size + 1) [.int .i64 ((tM j).1 : Int), .int .i64 ((tM j).2.1 : Int), .bool (tM j).2.2] := (at_red); have hqw2 : Below w.heap.size w w2 := (below_by); have hzw2 := hqw2.size; obtain ⟨zaw2, ca0w2, ca1w2, ca2w2, fa0w2, fa1w2, fa2w2⟩ := kaw2.three; obtain ⟨zbw2, cb0w2, cb1w2, cb2w2, fb0w2, fb1w2, fb2w2⟩ := kbw2.three; clear kaw1 ca0w1 fa0w1 ca1w1 fa1w1 ca2w1 fa2w1 kbw1 cb0w1 fb0w1 cb1w1 fb1w1 cb2w1 fb2w1 hqw1; clear hbw2) | (go_at_call 31; clear m3; refine (HN.out _).mono ?_; rintro e w3 ⟨rfl, hbw3⟩; have hqw3 : Below w.heap.size w w3 := (below_by); have hzw3 := hqw3.size; clear kaw2 ca0w2 fa0w2 ca1w2 fa1w2 ca2w2 fa2w2 kbw2 cb0w2 fb0w2 cb1w2 fb1w2 cb2w2 fb2w2 hqw2; clear hbw3))
  go_ret2
  exact ⟨rfl, below_by⟩
set_option maxRecDepth 100000 in
set_option maxHeartbeats 2000000 in
theorem sign_x (x k : Int) (t : ByteArray) (w : World) (h : x < 1 ∨ 1013 ≤ x) :
    Calls Tryz.prog 36 #[.int .i64 x, .int .i64 k, .string t] w fun e w' => e = .returned (.tuple #[.agg #[.int .i64 0, .int .i64 0, .bool false, .int .i64 0], errOf 1]) ∧ Below w.heap.size w w' := by
  have H : Hid (x < 1 ∨ 1013 ≤ x) := h
  clear h
  have m1 : True := trivial
  go_enter Tryz.func36, Tryz.ntmps36
  go_wp2_with (go_at_call 75; clear m1; refine (key_no _ _ H.out).mono ?_; rintro e w1 ⟨rfl, hbw1⟩; have krw1 : At w1 (w.heap.size) [.int .i64 0, .int .i64 0, .bool false, .int .i64 0] := (at_red); have hqw1 : Below w.heap.size w w1 := (below_by); have hzw1 := hqw1.size; obtain ⟨zrw1, cr0w1, cr1w1, cr2w1, cr3w1, fr0w1, fr1w1, fr2w1, fr3w1⟩ := krw1.four; clear hbw1)
  exact bodyPost_ret (v := .tuple #[.agg #[.int .i64 0, .int .i64 0, .bool false, .int .i64 0], errOf 1]) (by simp [results, Tryz.results36, go_sem, *]) rfl ⟨rfl, below_by⟩
set_option maxRecDepth 100000 in
set_option maxHeartbeats 2000000 in
theorem sign_k (x : Nat) (k : Int) (t : ByteArray) (w : World) (x1 : 1 ≤ x) (x2 : x < 1013) (h : k < 1 ∨ 1013 ≤ k) :
    Calls Tryz.prog 36 #[.int .i64 (x : Int), .int .i64 k, .string t] w fun e w' => e = .returned (.tuple #[.agg #[.int .i64 0, .int .i64 0, .bool false, .int .i64 0], errOf 1]) ∧ Below w.heap.size w w' := by
  have H : Hid (k < 1 ∨ 1013 ≤ k) := h
  clear h
  have m1 : True := trivial; have m2 : True := trivial
  go_enter Tryz.func36, Tryz.ntmps36
  go_wp2_with (first | (go_at_call 75; clear m1; refine (key_yes _ _ x1 x2).mono ?_; rintro e w1 ⟨rfl, hbw1⟩; have krw1 : At w1 (w.heap.size) [.int .i64 0, .int .i64 0, .bool false, .int .i64 0] := (at_red); have hqw1 : Below w.heap.size w w1 := (below_by); have hzw1 := hqw1.size; obtain ⟨zrw1, cr0w1, cr1w1, cr2w1, cr3w1, fr0w1, fr1w1, fr2w1, fr3w1⟩ := krw1.four; clear hbw1) | (go_at_call 75; clear m2; refine (key_no _ _ H.out).mono ?_; rintro e w2 ⟨rfl, hbw2⟩; have krw2 : At w2 (w.heap.size) [.int .i64 0, .int .i64 0, .bool false, .int .i64 0] := (at_red); have kkw2 : At w2 (w1.heap.size) [.int .i64 ((tM (4 * x)).1 : Int), .int .i64 ((tM (4 * x)).2.1 : Int), .bool (tM (4 * x)).2.2] := (at_red); have hqw2 : Below w.heap.size w w2 := (below_by); have hzw2 := hqw2.size; obtain ⟨zrw2, cr0w2, cr1w2, cr2w2, cr3w2, fr0w2, fr1w2, fr2w2, fr3w2⟩ := krw2.four; obtain ⟨zkw2, ck0w2, ck1w2, ck2w2, fk0w2, fk1w2, fk2w2⟩ := kkw2.three; clear krw1 cr0w1 fr0w1 cr1w1 fr1w1 cr2w1 fr2w1 cr3w1 fr3w1 hqw1; clear hbw2))
  exact bodyPost_ret (v := .tuple #[.agg #[.int .i64 0, .int .i64 0, .bool false, .int .i64 0], errOf 1]) (by simp [results, Tryz.results36, go_sem, *]) rfl ⟨rfl, below_by⟩
set_option maxRecDepth 100000 in
set_option maxHeartbeats 2000000 in
theorem sign_full (x k : Nat) (t : ByteArray) (w : World) (x1 : 1 ≤ x) (x2 : x < 1013) (k1 : 1 ≤ k) (k2 : k < 1013) (h : 60 < t.size) (ht : t.size ≤ 9223372036854775807) :
    Calls Tryz.prog 36 #[.int .i64 (x : Int), .int .i64 (k : Int), .string t] w fun e w' => e = .returned (.tuple #[.agg #[.int .i64 0, .int .i64 0, .bool false, .int .i64 0], errOf 4]) ∧ Below w.heap.size w w' := by
  have m1 : True := trivial; have m2 : True := trivial; have m3 : True := trivial
  go_enter Tryz.func36, Tryz.ntmps36
  go_wp2_with (first | (go_at_call 75; clear m1; refine (key_yes _ _ x1 x2).mono ?_; rintro e w1 ⟨rfl, hbw1⟩; have krw1 : At w1 (w.heap.size) [.int .i64 0, .int .i64 0, .bool false, .int .i64 0] := (at_red); have hqw1 : Below w.heap.size w w1 := (below_by); have hzw1 := hqw1.size; obtain ⟨zrw1, cr0w1, cr1w1, cr2w1, cr3w1, fr0w1, fr1w1, fr2w1, fr3w1⟩ := krw1.four; clear hbw1) | (go_at_call 75; clear m2; refine (key_yes _ _ k1 k2).mono ?_; rintro e w2 ⟨rfl, hbw2⟩; have krw2 : At w2 (w.heap.size) [.int .i64 0, .int .i64 0, .bool false, .int .i64 0] := (at_red); have kkw2 : At w2 (w1.heap.size) [.int .i64 ((tM (4 * x)).1 : Int), .int .i64 ((tM (4 * x)).2.1 : Int), .bool (tM (4 * x)).2.2] := (at_red); have hqw2 : Below w.heap.size w w2 := (below_by); have hzw2 := hqw2.size; obtain ⟨zrw2, cr0w2, cr1w2, cr2w2, cr3w2, fr0w2, fr1w2, fr2w2, fr3w2⟩ := krw2.four; obtain ⟨zkw2, ck0w2, ck1w2, ck2w2, fk0w2, fk1w2, fk2w2⟩ := kkw2.three; clear krw1 cr0w1 fr0w1 cr1w1 fr1w1 cr2w1 fr2w1 cr3w1 fr3w1 hqw1; clear hbw2) | (go_at_call 76; clear m3; refine (ask_full _ _ _ _ _ _ _ _ h ht).mono ?_; rintro e w3 ⟨rfl, hbw3⟩; have krw3 : At w3 (w.heap.size) [.int .i64 0, .int .i64 0, .bool false, .int .i64 0] := (at_red); have kkw3 : At w3 (w1.heap.size) [.int .i64 ((tM (4 * x)).1 : Int), .int .i64 ((tM (4 * x)).2.1 : Int), .bool (tM (4 * x)).2.2] := (at_red); have ktw3 : At w3 (w2.heap.size) [.int .i64 ((tM (4 * k)).1 : Int), .int .i64 ((tM (4 * k)).2.1 : Int), .bool (tM (4 * k)).2.2] := (at_red); have hqw3 : Below w.heap.size w w3 := (below_by); have hzw3 := hqw3.size; obtain ⟨zrw3, cr0w3, cr1w3, cr2w3, cr3w3, fr0w3, fr1w3, fr2w3, fr3w3⟩ := krw3.four; obtain ⟨zkw3, ck0w3, ck1w3, ck2w3, fk0w3, fk1w3, fk2w3⟩ := kkw3.three; obtain ⟨ztw3, ct0w3, ct1w3, ct2w3, ft0w3, ft1w3, ft2w3⟩ := ktw3.three; clear krw2 cr0w2 fr0w2 cr1w2 fr1w2 cr2w2 fr2w2 cr3w2 fr3w2 kkw2 ck0w2 fk0w2 ck1w2 fk1w2 ck2w2 fk2w2 hqw2; clear hbw3))
  exact bodyPost_ret (v := .tuple #[.agg #[.int .i64 0, .int .i64 0, .bool false, .int .i64 0], errOf 4]) (by simp [results, Tryz.results36, go_sem, *]) rfl ⟨rfl, below_by⟩
set_option maxRecDepth 100000 in
set_option maxHeartbeats 2000000 in
theorem sign_ok (x k : Nat) (t : ByteArray) (w : World) (x1 : 1 ≤ x) (x2 : x < 1013) (k1 : 1 ≤ k) (k2 : k < 1013) (ht : t.size ≤ 60) :
    Calls Tryz.prog 36 #[.int .i64 (x : Int), .int .i64 (k : Int), .string t] w fun e w' => e = .returned (.tuple #[.agg #[.int .i64 ((tM (4 * k)).1 : Int), .int .i64 ((tM (4 * k)).2.1 : Int), .bool (tM (4 * k)).2.2, .int .i64 (sgN x k t : Int)], .nilIface]) ∧ Below w.heap.size w w' := by
  have hl := askN_lt (4 * k) (4 * x) t
  obtain ⟨b1, b2⟩ := sg_bd hl x2 k2
  have HS := sgI x k t
  obtain ⟨c, hc⟩ : ∃ c, askN (4 * k) (4 * x) t = c := ⟨_, rfl⟩
  have HA : Hid (∀ w, Calls Tryz.prog 76 #[.agg #[.int .i64 ((tM (4 * k)).1 : Int), .int .i64 ((tM (4 * k)).2.1 : Int), .bool (tM (4 * k)).2.2], .agg #[.int .i64 ((tM (4 * x)).1 : Int), .int .i64 ((tM (4 * x)).2.1 : Int), .bool (tM (4 * x)).2.2], .string t] w fun e w' => e = .returned (.tuple #[.int .i64 (c : Int), .nilIface]) ∧ Below w.heap.size w w') := fun w => by
    have := ask_tM (4 * k) (4 * x) t w ht
    rwa [hc] at this
  rw [hc] at b1 b2 HS hl
  clear hc
  have m1 : True := trivial; have m2 : True := trivial; have m3 : True := trivial
  go_enter Tryz.func36, Tryz.ntmps36
  go_wp2_with (first | (go_at_call 75; clear m1; refine (key_yes _ _ x1 x2).mono ?_; rintro e w1 ⟨rfl, hbw1⟩; have krw1 : At w1 (w.heap.size) [.int .i64 0, .int .i64 0, .bool false, .int .i64 0] := (at_red); have hqw1 : Below w.heap.size w w1 := (below_by); have hzw1 := hqw1.size; obtain ⟨zrw1, cr0w1, cr1w1, cr2w1, cr3w1, fr0w1, fr1w1, fr2w1, fr3w1⟩ := krw1.four; clear hbw1) | (go_at_call 75; clear m2; refine (key_yes _ _ k1 k2).mono ?_; rintro e w2 ⟨rfl, hbw2⟩; have krw2 : At w2 (w.heap.size) [.int .i64 0, .int .i64 0, .bool false, .int .i64 0] := (at_red); have kkw2 : At w2 (w1.heap.size) [.int .i64 ((tM (4 * x)).1 : Int), .int .i64 ((tM (4 * x)).2.1 : Int), .bool (tM (4 * x)).2.2] := (at_red); have hqw2 : Below w.heap.size w w2 := (below_by); have hzw2 := hqw2.size; obtain ⟨zrw2, cr0w2, cr1w2, cr2w2, cr3w2, fr0w2, fr1w2, fr2w2, fr3w2⟩ := krw2.four; obtain ⟨zkw2, ck0w2, ck1w2, ck2w2, fk0w2, fk1w2, fk2w2⟩ := kkw2.three; clear krw1 cr0w1 fr0w1 cr1w1 fr1w1 cr2w1 fr2w1 cr3w1 fr3w1 hqw1; clear hbw2) | (go_at_call 76; clear m3; refine (HA.out _).mono ?_; rintro e w3 ⟨rfl, hbw3⟩; have krw3 : At w3 (w.heap.size) [.int .i64 0, .int .i64 0, .bool false, .int .i64 0] := (at_red); have kkw3 : At w3 (w1.heap.size) [.int .i64 ((tM (4 * x)).1 : Int), .int .i64 ((tM (4 * x)).2.1 : Int), .bool (tM (4 * x)).2.2] := (at_red); have ktw3 : At w3 (w2.heap.size) [.int .i64 ((tM (4 * k)).1 : Int), .int .i64 ((tM (4 * k)).2.1 : Int), .bool (tM (4 * k)).2.2] := (at_red); have hqw3 : Below w.heap.size w w3 := (below_by); have hzw3 := hqw3.size; obtain ⟨zrw3, cr0w3, cr1w3, cr2w3, cr3w3, fr0w3, fr1w3, fr2w3, fr3w3⟩ := krw3.four; obtain ⟨zkw3, ck0w3, ck1w3, ck2w3, fk0w3, fk1w3, fk2w3⟩ := kkw3.three; obtain ⟨ztw3, ct0w3, ct1w3, ct2w3, ft0w3, ft1w3, ft2w3⟩ := ktw3.three; clear krw2 cr0w2 fr0w2 cr1w2 fr1w2 cr2w2 fr2w2 cr3w2 fr3w2 kkw2 ck0w2 fk0w2 ck1w2 fk1w2 ck2w2 fk2w2 hqw2; clear hbw3))
  exact bodyPost_ret (v := .tuple #[.agg #[.int .i64 ((tM (4 * k)).1 : Int), .int .i64 ((tM (4 * k)).2.1 : Int), .bool (tM (4 * k)).2.2, .int .i64 (sgN x k t : Int)], .nilIface]) (by simp [results, Tryz.results36, go_sem, *]) rfl ⟨rfl, below_by⟩
end Go.Proofs.YtgngdabfmbipaakGreatDoor

/- What package hide answers: Second, Hide, Open, Find. -/
namespace Go.Proofs.YtgngdabfmbipaakGreatDoor
open Go.RowKit Go.Sort
set_option linter.unusedVariables false
set_option linter.unusedSimpArgs false
theorem hisnum {n : Int} {t : Bool} (ht : resB n = t) (w : World) : Calls Tryz.prog 79 #[.int .i64 n] w fun e w' => e = .returned (.bool t) ∧ w' = w := by
  subst ht
  by_cases h : n ≥ 0
  · by_cases h2 : n < 1013
    · rw [show resB n = true from decide_eq_true ⟨h, h2⟩]
      go_enter Tryz.func79, Tryz.ntmps79
      go_wp2_with fail
      go_ret
      exact ⟨rfl, rfl⟩
    · rw [show resB n = false from decide_eq_false fun k => h2 k.2]
      go_enter Tryz.func79, Tryz.ntmps79
      go_wp2_with fail
      go_ret
      exact ⟨rfl, rfl⟩
  · rw [show resB n = false from decide_eq_false fun k => h k.1]
    go_enter Tryz.func79, Tryz.ntmps79
    go_wp2_with fail
    go_ret
    exact ⟨rfl, rfl⟩
theorem hspot (w : World) : Calls Tryz.prog 78 #[.string ⟨#[115, 101, 99, 111, 110, 100]⟩] w fun e w' => e = .returned (.agg #[.int .i64 ((tM (4 * h2N)).1 : Int), .int .i64 ((tM (4 * h2N)).2.1 : Int), .bool false]) ∧ Below w.heap.size w w' := by
  have := spot_u secT w (by decide)
  rw [← h2_is] at this
  exact this
set_option maxRecDepth 100000 in
set_option maxHeartbeats 4000000 in
theorem second_is : SecondIs := fun w => by
  have HO : Hid (∀ w, Calls Tryz.prog 78 #[.string ⟨#[115, 101, 99, 111, 110, 100]⟩] w fun e w' => e = .returned (.agg #[.int .i64 ((tM (4 * h2N)).1 : Int), .int .i64 ((tM (4 * h2N)).2.1 : Int), .bool false]) ∧ Below w.heap.size w w') := hspot
  have m1 : True := trivial
  go_enter Tryz.func80, Tryz.ntmps80
  go_wp2_with (go_at_call 78; clear m1; refine (HO.out _).mono ?_; rintro e w1 ⟨rfl, hbw1⟩; have krw1 : At w1 (w.heap.size) [.int .i64 0, .int .i64 0, .bool false] := (at_red); have hqw1 : Below w.heap.size w w1 := (below_by); have hzw1 := hqw1.size; obtain ⟨zrw1, cr0w1, cr1w1, cr2w1, fr0w1, fr1w1, fr2w1⟩ := krw1.three; clear hbw1)
  exact bodyPost_ret (v := .agg #[.int .i64 ((tM (4 * h2N)).1 : Int), .int .i64 ((tM (4 * h2N)).2.1 : Int), .bool false]) (by simp [results, Tryz.results80, go_sem, *]) rfl ⟨rfl, below_by⟩
theorem second_w (w : World) : Calls Tryz.prog 80 #[] w fun e w' => e = .returned (.agg #[.int .i64 ((tM (4 * h2N)).1 : Int), .int .i64 ((tM (4 * h2N)).2.1 : Int), .bool (tM (4 * h2N)).2.2]) ∧ Below w.heap.size w w' := by
  rw [h2_f]; exact second_is w
set_option maxRecDepth 100000 in
set_option maxHeartbeats 4000000 in
theorem hhide_no (v r : Int) (w : World) (h : (resB v && resB r) = false) : Calls Tryz.prog 40 #[.int .i64 v, .int .i64 r] w fun e w' => e = .returned (.tuple #[.agg #[.int .i64 0, .int .i64 0, .bool false], errOf 1]) ∧ Below w.heap.size w w' := by
  cases hv : resB v with
  | false =>
    have H1 : Hid (∀ w, Calls Tryz.prog 79 #[.int .i64 v] w fun e w' => e = .returned (.bool false) ∧ w' = w) := hisnum hv
    clear hv h
    go_enter Tryz.func40, Tryz.ntmps40
    go_wp2_with (go_at_call 79; refine (H1.out _).mono ?_; rintro e v1 ⟨rfl, hv1⟩; subst v1)
    exact bodyPost_ret (v := .tuple #[.agg #[.int .i64 0, .int .i64 0, .bool false], errOf 1]) (by simp [results, Tryz.results40, go_sem, *]) rfl ⟨rfl, below_by⟩
  | true =>
    rw [hv, Bool.true_and] at h
    have H1 : Hid (∀ w, Calls Tryz.prog 79 #[.int .i64 v] w fun e w' => e = .returned (.bool true) ∧ w' = w) := hisnum hv
    have H2 : Hid (∀ w, Calls Tryz.prog 79 #[.int .i64 r] w fun e w' => e = .returned (.bool false) ∧ w' = w) := hisnum h
    clear hv h
    go_enter Tryz.func40, Tryz.ntmps40
    go_wp2_with (first | (go_at_call 79; refine (H1.out _).mono ?_; rintro e v1 ⟨rfl, hv1⟩; subst v1) | (go_at_call 79; refine (H2.out _).mono ?_; rintro e v1 ⟨rfl, hv1⟩; subst v1))
    exact bodyPost_ret (v := .tuple #[.agg #[.int .i64 0, .int .i64 0, .bool false], errOf 1]) (by simp [results, Tryz.results40, go_sem, *]) rfl ⟨rfl, below_by⟩
set_option maxRecDepth 100000 in
set_option maxHeartbeats 4000000 in
theorem hhide_ok (h : Nat) (T : Sn) (v r : Nat) (w : World) (v1 : v < 1013) (r1 : r < 1013) (hs : ∀ w, Calls Tryz.prog 80 #[] w fun e w' => e = .returned (.agg #[.int .i64 ((tM (4 * h)).1 : Int), .int .i64 ((tM (4 * h)).2.1 : Int), .bool (tM (4 * h)).2.2]) ∧ Below w.heap.size w w') (he : tM (4 * em (v : Int) + 4 * h * em (r : Int)) = T) : Calls Tryz.prog 40 #[.int .i64 (v : Int), .int .i64 (r : Int)] w fun e w' => e = .returned (.tuple #[.agg #[.int .i64 ((T).1 : Int), .int .i64 ((T).2.1 : Int), .bool (T).2.2], .nilIface]) ∧ Below w.heap.size w w' := by
  have H1 : Hid (∀ w, Calls Tryz.prog 79 #[.int .i64 (v : Int)] w fun e w' => e = .returned (.bool true) ∧ w' = w) := hisnum (decide_eq_true ⟨by omega, by omega⟩)
  have H2 : Hid (∀ w, Calls Tryz.prog 79 #[.int .i64 (r : Int)] w fun e w' => e = .returned (.bool true) ∧ w' = w) := hisnum (decide_eq_true ⟨by omega, by omega⟩)
  have HS : Hid (∀ w, Calls Tryz.prog 80 #[] w fun e w' => e = .returned (.agg #[.int .i64 ((tM (4 * h)).1 : Int), .int .i64 ((tM (4 * h)).2.1 : Int), .bool (tM (4 * h)).2.2]) ∧ Below w.heap.size w w') := hs
  have E : Hid (tM (4 * em (v : Int) + 4 * h * em (r : Int)) = T) := he
  clear hs he
  have m1 : True := trivial; have m2 : True := trivial; have m3 : True := trivial; have m4 : True := trivial; have m5 : True := trivial
  go_enter Tryz.func40, Tryz.ntmps40
  go_wp2_with (first | (go_at_call 79; refine (H1.out _).mono ?_; rintro e v1 ⟨rfl, hv1⟩; subst v1) | (go_at_call 79; refine (H2.out _).mono ?_; rintro e v1 ⟨rfl, hv1⟩; subst v1) | (go_at_call 10; clear m1; refine (base_is _).mono ?_; rintro e w1 ⟨rfl, hbw1⟩; have krw1 : At w1 (w.heap.size) [.int .i64 0, .int .i64 0, .bool false] := (at_red); have hqw1 : Below w.heap.size w w1 := (below_by); have hzw1 := hqw1.size; obtain ⟨zrw1, cr0w1, cr1w1, cr2w1, fr0w1, fr1w1, fr2w1⟩ := krw1.three; clear hbw1) | (go_at_call 9; clear m2; refine (times_tM 4 (v : Int) _).mono ?_; rintro e w2 ⟨rfl, hbw2⟩; have krw2 : At w2 (w.heap.size) [.int .i64 0, .int .i64 0, .bool false] := (at_red); have hqw2 : Below w.heap.size w w2 := (below_by); have hzw2 := hqw2.size; obtain ⟨zrw2, cr0w2, cr1w2, cr2w2, fr0w2, fr1w2, fr2w2⟩ := krw2.three; clear krw1 cr0w1 fr0w1 cr1w1 fr1w1 cr2w1 fr2w1 hqw1; clear hbw2) | (go_at_call 80; clear m3; refine (HS.out _).mono ?_; rintro e w3 ⟨rfl, hbw3⟩; have krw3 : At w3 (w.heap.size) [.int .i64 0, .int .i64 0, .bool false] := (at_red); have kvw3 : At w3 (w2.heap.size) [.int .i64 ((tM (4 * em (v : Int))).1 : Int), .int .i64 ((tM (4 * em (v : Int))).2.1 : Int), .bool (tM (4 * em (v : Int))).2.2] := (at_red); have hqw3 : Below w.heap.size w w3 := (below_by); have hzw3 := hqw3.size; obtain ⟨zrw3, cr0w3, cr1w3, cr2w3, fr0w3, fr1w3, fr2w3⟩ := krw3.three; obtain ⟨zvw3, cv0w3, cv1w3, cv2w3, fv0w3, fv1w3, fv2w3⟩ := kvw3.three; clear krw2 cr0w2 fr0w2 cr1w2 fr1w2 cr2w2 fr2w2 hqw2; clear hbw3) | (go_at_call 9; clear m4; refine (times_tM (4 * h) (r : Int) _).mono ?_; rintro e w4 ⟨rfl, hbw4⟩; have krw4 : At w4 (w.heap.size) [.int .i64 0, .int .i64 0, .bool false] := (at_red); have kvw4 : At w4 (w2.heap.size) [.int .i64 ((tM (4 * em (v : Int))).1 : Int), .int .i64 ((tM (4 * em (v : Int))).2.1 : Int), .bool (tM (4 * em (v : Int))).2.2] := (at_red); have hqw4 : Below w.heap.size w w4 := (below_by); have hzw4 := hqw4.size; obtain ⟨zrw4, cr0w4, cr1w4, cr2w4, fr0w4, fr1w4, fr2w4⟩ := krw4.three; obtain ⟨zvw4, cv0w4, cv1w4, cv2w4, fv0w4, fv1w4, fv2w4⟩ := kvw4.three; clear krw3 cr0w3 fr0w3 cr1w3 fr1w3 cr2w3 fr2w3 kvw3 cv0w3 fv0w3 cv1w3 fv1w3 cv2w3 fv2w3 hqw3; clear hbw4) | (go_at_call 67; clear m5; refine (cadd_eq E.out _).mono ?_; rintro e w5 ⟨rfl, hbw5⟩; have krw5 : At w5 (w.heap.size) [.int .i64 0, .int .i64 0, .bool false] := (at_red); have hqw5 : Below w.heap.size w w5 := (below_by); have hzw5 := hqw5.size; obtain ⟨zrw5, cr0w5, cr1w5, cr2w5, fr0w5, fr1w5, fr2w5⟩ := krw5.three; clear krw4 cr0w4 fr0w4 cr1w4 fr1w4 cr2w4 fr2w4 kvw4 cv0w4 fv0w4 cv1w4 fv1w4 cv2w4 fv2w4 hqw4; clear hbw5))
  exact bodyPost_ret (v := .tuple #[.agg #[.int .i64 ((T).1 : Int), .int .i64 ((T).2.1 : Int), .bool (T).2.2], .nilIface]) (by simp [results, Tryz.results40, go_sem, *]) rfl ⟨rfl, below_by⟩
theorem hide_is : HideIs := ⟨fun v r w _ _ h => hhide_no v r w h, fun v r w v1 r1 => hhide_ok h2N (tM (4 * hdN v r)) v r w v1 r1 second_w (hd_em v r)⟩
end Go.Proofs.YtgngdabfmbipaakGreatDoor
