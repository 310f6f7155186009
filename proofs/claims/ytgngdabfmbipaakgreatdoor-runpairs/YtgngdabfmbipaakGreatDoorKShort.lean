/- What package short answers: short seals, whether one is right, many joined. -/
import Derived.Test.YtgngdabfmbipaakGreatDoorKG1
import Derived.Test.YtgngdabfmbipaakGreatDoorKG9
import Derived.Test.YtgngdabfmbipaakGreatDoorKPairMany
import Derived.Test.YtgngdabfmbipaakGreatDoorKG19
import Derived.Test.YtgngdabfmbipaakGreatDoorKG18
import Derived.Test.YtgngdabfmbipaakGreatDoorKG0
import Derived.Deep.RegionHeld3
import Derived.Deep.CutRange
namespace Go.Proofs.YtgngdabfmbipaakGreatDoor
open Go.RowKit Go.Sort
set_option linter.unusedVariables false
set_option linter.unusedSimpArgs false
theorem tooLong_yes {t : ByteArray} (w : World) (h : 60 < t.size) (ht : t.size ≤ 9223372036854775807) : Calls Tryz.prog 77 #[.string t] w fun e w' => e = .returned (.bool true) ∧ w' = w := by
  have h' : (t.size : Int) > 60 := by omega
  go_enter Tryz.func77, Tryz.ntmps77
  go_wp2_with fail
  go_ret
  exact ⟨rfl, rfl⟩
theorem tooLong_no {t : ByteArray} (w : World) (h : t.size ≤ 60) : Calls Tryz.prog 77 #[.string t] w fun e w' => e = .returned (.bool false) ∧ w' = w := by
  have h' : ¬ (t.size : Int) > 60 := by omega
  go_enter Tryz.func77, Tryz.ntmps77
  go_wp2_with fail
  go_ret
  exact ⟨rfl, rfl⟩
set_option maxRecDepth 100000 in
set_option maxHeartbeats 2000000 in
theorem ssign_x (x : Int) (t : ByteArray) (w : World) (h : x < 1 ∨ 1013 ≤ x) : Calls Tryz.prog 38 #[.int .i64 x, .string t] w fun e w' => e = .returned (.tuple #[.agg #[.int .i64 0, .int .i64 0, .bool false], errOf 1]) ∧ Below w.heap.size w w' := by
  rcases Classical.em (x < 1) with h1 | h1
  · go_enter Tryz.func38, Tryz.ntmps38
    go_wp2_with fail
    exact bodyPost_ret (v := .tuple #[.agg #[.int .i64 0, .int .i64 0, .bool false], errOf 1]) (by simp [results, Tryz.results38, go_sem, *]) rfl ⟨rfl, below_by⟩
  · have h2 : x ≥ 1013 := by omega
    clear h
    go_enter Tryz.func38, Tryz.ntmps38
    go_wp2_with fail
    exact bodyPost_ret (v := .tuple #[.agg #[.int .i64 0, .int .i64 0, .bool false], errOf 1]) (by simp [results, Tryz.results38, go_sem, *]) rfl ⟨rfl, below_by⟩
set_option maxRecDepth 100000 in
set_option maxHeartbeats 2000000 in
theorem ssign_full (x : Nat) (t : ByteArray) (w : World) (x1 : 1 ≤ x) (x2 : x < 1013) (h : 60 < t.size) (ht : t.size ≤ 9223372036854775807) : Calls Tryz.prog 38 #[.int .i64 (x : Int), .string t] w fun e w' => e = .returned (.tuple #[.agg #[.int .i64 0, .int .i64 0, .bool false], errOf 4]) ∧ Below w.heap.size w w' := by
  have a1 : ¬ (x : Int) < 1 := by omega
  have a2 : ¬ (x : Int) ≥ 1013 := by omega
  go_enter Tryz.func38, Tryz.ntmps38
  go_wp2_with (go_at_call 77; refine (tooLong_yes _ h ht).mono ?_; rintro e v1 ⟨rfl, hv1⟩; subst v1)
  exact bodyPost_ret (v := .tuple #[.agg #[.int .i64 0, .int .i64 0, .bool false], errOf 4]) (by simp [results, Tryz.results38, go_sem, *]) rfl ⟨rfl, below_by⟩
set_option maxRecDepth 100000 in
set_option maxHeartbeats 2000000 in
theorem ssign_ok (x : Nat) (t : ByteArray) (w : World) (x1 : 1 ≤ x) (x2 : x < 1013) (h : t.size ≤ 60) : Calls Tryz.prog 38 #[.int .i64 (x : Int), .string t] w fun e w' => e = .returned (.tuple #[.agg #[.int .i64 ((tM (4 * (uN t * x))).1 : Int), .int .i64 ((tM (4 * (uN t * x))).2.1 : Int), .bool (tM (4 * (uN t * x))).2.2], .nilIface]) ∧ Below w.heap.size w w' := by
  have a1 : ¬ (x : Int) < 1 := by omega
  have a2 : ¬ (x : Int) ≥ 1013 := by omega
  have ht : t.size ≤ 9223372036854775807 := by omega
  have E : Hid (tM (4 * uN t * em (x : Int)) = tM (4 * (uN t * x))) := by unfold Hid; rw [em_nat x2, Nat.mul_assoc]
  have m1 : True := trivial; have m2 : True := trivial
  go_enter Tryz.func38, Tryz.ntmps38
  go_wp2_with (first | (go_at_call 77; refine (tooLong_no _ h).mono ?_; rintro e v1 ⟨rfl, hv1⟩; subst v1) | (go_at_call 78; clear m1; refine (spot_w _ _ ht).mono ?_; rintro e w1 ⟨rfl, hbw1⟩; have krw1 : At w1 (w.heap.size) [.int .i64 0, .int .i64 0, .bool false] := (at_red); have hqw1 : Below w.heap.size w w1 := (below_by); have hzw1 := hqw1.size; obtain ⟨zrw1, cr0w1, cr1w1, cr2w1, fr0w1, fr1w1, fr2w1⟩ := krw1.three; clear hbw1) | (go_at_call 9; clear m2; refine (times_eq E.out _).mono ?_; rintro e w2 ⟨rfl, hbw2⟩; have krw2 : At w2 (w.heap.size) [.int .i64 0, .int .i64 0, .bool false] := (at_red); have hqw2 : Below w.heap.size w w2 := (below_by); have hzw2 := hqw2.size; obtain ⟨zrw2, cr0w2, cr1w2, cr2w2, fr0w2, fr1w2, fr2w2⟩ := krw2.three; clear krw1 cr0w1 fr0w1 cr1w1 fr1w1 cr2w1 fr2w1 hqw1; clear hbw2))
  exact bodyPost_ret (v := .tuple #[.agg #[.int .i64 ((tM (4 * (uN t * x))).1 : Int), .int .i64 ((tM (4 * (uN t * x))).2.1 : Int), .bool (tM (4 * (uN t * x))).2.2], .nilIface]) (by simp [results, Tryz.results38, go_sem, *]) rfl ⟨rfl, below_by⟩
end Go.Proofs.YtgngdabfmbipaakGreatDoor
