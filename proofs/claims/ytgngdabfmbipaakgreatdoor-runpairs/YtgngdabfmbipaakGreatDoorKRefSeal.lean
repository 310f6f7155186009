/- What the plain reckoning of seals (stoneref2: Secret, Rest, By, Ask, Sign, Seal, Right; stoneref1.Sum) answers. -/
import Derived.Test.YtgngdabfmbipaakGreatDoorKG1
import Derived.Test.YtgngdabfmbipaakGreatDoorKG7
import Derived.Test.YtgngdabfmbipaakGreatDoorKG20
import Derived.Test.YtgngdabfmbipaakGreatDoorKG9
import Derived.Test.YtgngdabfmbipaakGreatDoorKG4
import Derived.Test.YtgngdabfmbipaakGreatDoorKRefAsk
import Derived.Deep.RegionHeld3
import Derived.Deep.CutRange
namespace Go.Proofs.YtgngdabfmbipaakGreatDoor
open Go.RowKit Go.Sort
set_option linter.unusedVariables false
set_option linter.unusedSimpArgs false
set_option maxRecDepth 100000 in
set_option maxHeartbeats 4000000 in
theorem rsign_ok (x k : Nat) (t : ByteArray) (w : World) (x2 : x < 1013) (k2 : k < 1013) (ht : t.size ≤ 60) :
    Calls Tryz.prog 61 #[.int .i64 (x : Int), .int .i64 (k : Int), .string t] w fun e w' => e = .returned (.agg #[.int .i64 ((tM (4 * k)).1 : Int), .int .i64 ((tM (4 * k)).2.1 : Int), .bool (tM (4 * k)).2.2, .int .i64 (sgN x k t : Int)]) ∧ Below w.heap.size w w' := by
  have hl := askN_lt (4 * k) (4 * x) t
  obtain ⟨b1, b2⟩ := sg_bd hl x2 k2
  have HS := sgI x k t
  have E1 : Hid (tM (4 * em (k : Int)) = tM (4 * k)) := by unfold Hid; rw [em_nat k2]
  have E2 : Hid (tM (4 * em (x : Int)) = tM (4 * x)) := by unfold Hid; rw [em_nat x2]
  obtain ⟨c, hc⟩ : ∃ c, askN (4 * k) (4 * x) t = c := ⟨_, rfl⟩
  have HA : Hid (∀ w, Calls Tryz.prog 100 #[.agg #[.int .i64 ((tM (4 * k)).1 : Int), .int .i64 ((tM (4 * k)).2.1 : Int), .bool (tM (4 * k)).2.2], .agg #[.int .i64 ((tM (4 * x)).1 : Int), .int .i64 ((tM (4 * x)).2.1 : Int), .bool (tM (4 * x)).2.2], .string t] w fun e w' => e = .returned (.int .i64 (c : Int)) ∧ Below w.heap.size w w') := fun w => by
    have := rask_tM (4 * k) (4 * x) t w ht
    rwa [hc] at this
  rw [hc] at b1 b2 HS hl
  clear hc
  have m1 : True := trivial; have m2 : True := trivial; have m3 : True := trivial
  go_enter Tryz.func61, Tryz.ntmps61
  go_wp2_with (first | (go_at_call 52; clear m1; refine (rby_eq E1.out _).mono ?_; rintro e w1 ⟨rfl, hbw1⟩; have kzw1 : At w1 (w.heap.size) [.int .i64 0, .int .i64 0, .bool false, .int .i64 0] := (at_red); have hqw1 : Below w.heap.size w w1 := (below_by); have hzw1 := hqw1.size; obtain ⟨zzw1, cz0w1, cz1w1, cz2w1, cz3w1, fz0w1, fz1w1, fz2w1, fz3w1⟩ := kzw1.four; clear hbw1) | (go_at_call 52; clear m2; refine (rby_eq E2.out _).mono ?_; rintro e w2 ⟨rfl, hbw2⟩; have kzw2 : At w2 (w.heap.size) [.int .i64 0, .int .i64 0, .bool false, .int .i64 0] := (at_red); have krw2 : At w2 (w1.heap.size) [.int .i64 ((tM (4 * k)).1 : Int), .int .i64 ((tM (4 * k)).2.1 : Int), .bool (tM (4 * k)).2.2] := (at_red); have hqw2 : Below w.heap.size w w2 := (below_by); have hzw2 := hqw2.size; obtain ⟨zzw2, cz0w2, cz1w2, cz2w2, cz3w2, fz0w2, fz1w2, fz2w2, fz3w2⟩ := kzw2.four; obtain ⟨zrw2, cr0w2, cr1w2, cr2w2, fr0w2, fr1w2, fr2w2⟩ := krw2.three; clear kzw1 cz0w1 fz0w1 cz1w1 fz1w1 cz2w1 fz2w1 cz3w1 fz3w1 hqw1; clear hbw2) | (go_at_call 100; clear m3; refine (HA.out _).mono ?_; rintro e w3 ⟨rfl, hbw3⟩; have kzw3 : At w3 (w.heap.size) [.int .i64 0, .int .i64 0, .bool false, .int .i64 0] := (at_red); have krw3 : At w3 (w1.heap.size) [.int .i64 ((tM (4 * k)).1 : Int), .int .i64 ((tM (4 * k)).2.1 : Int), .bool (tM (4 * k)).2.2] := (at_red); have kkw3 : At w3 (w2.heap.size) [.int .i64 ((tM (4 * x)).1 : Int), .int .i64 ((tM (4 * x)).2.1 : Int), .bool (tM (4 * x)).2.2] := (at_red); have hqw3 : Below w.heap.size w w3 := (below_by); have hzw3 := hqw3.size; obtain ⟨zzw3, cz0w3, cz1w3, cz2w3, cz3w3, fz0w3, fz1w3, fz2w3, fz3w3⟩ := kzw3.four; obtain ⟨zrw3, cr0w3, cr1w3, cr2w3, fr0w3, fr1w3, fr2w3⟩ := krw3.three; obtain ⟨zkw3, ck0w3, ck1w3, ck2w3, fk0w3, fk1w3, fk2w3⟩ := kkw3.three; clear kzw2 cz0w2 fz0w2 cz1w2 fz1w2 cz2w2 fz2w2 cz3w2 fz3w2 krw2 cr0w2 fr0w2 cr1w2 fr1w2 cr2w2 fr2w2 hqw2; clear hbw3))
  exact bodyPost_ret (v := .agg #[.int .i64 ((tM (4 * k)).1 : Int), .int .i64 ((tM (4 * k)).2.1 : Int), .bool (tM (4 * k)).2.2, .int .i64 (sgN x k t : Int)]) (by simp [results, Tryz.results61, go_sem, *]) rfl ⟨rfl, below_by⟩
end Go.Proofs.YtgngdabfmbipaakGreatDoor
