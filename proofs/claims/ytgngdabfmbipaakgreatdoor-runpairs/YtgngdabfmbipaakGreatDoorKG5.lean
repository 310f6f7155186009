/- What curve.Neg, curve.Add and curve.Lift answer, for all spots and places, in whatever memory; nothing that was there is turned. -/
import Derived.Test.YtgngdabfmbipaakGreatDoorKG4
import Derived.Test.YtgngdabfmbipaakGreatDoorKG3
namespace Go.Proofs.YtgngdabfmbipaakGreatDoor
open Go.RowKit Go.Sort
set_option linter.unusedVariables false
set_option linter.unusedSimpArgs false

theorem rowS_two {w : World} {b : Nat} {x1 y1 x2 y2 : Int} {f1 f2 : Bool} (h : At w b [.int .i64 x1, .int .i64 y1, .bool f1, .int .i64 x2, .int .i64 y2, .bool f2]) :
    RowS w b 2 (fun i => bif Nat.beq i 0 then x1 else x2) (fun i => bif Nat.beq i 0 then y1 else y2) (fun i => bif Nat.beq i 0 then f1 else f2) := by
  refine ⟨h.1, fun i hi => ?_⟩
  rcases i with _ | _ | i
  · exact ⟨h.2.1 0 (by simp), h.2.1 1 (by simp), h.2.1 2 (by simp)⟩
  · exact ⟨h.2.1 3 (by simp), h.2.1 4 (by simp), h.2.1 5 (by simp)⟩
  · omega
section
variable {w : World} {b c : Nat} {x1 y1 x2 y2 : Int} {f1 f2 : Bool}
theorem checkAll_yes (h : At w b [.int .i64 x1, .int .i64 y1, .bool f1, .int .i64 x2, .int .i64 y2, .bool f2]) (h1 : ckI x1 y1 f1 = 0) (h2 : ckI x2 y2 f2 = 0) :
    Calls Tryz.prog 105 #[.slice (some ⟨b, 0, none⟩) 2 c] w fun e w' => e = .returned .nilIface ∧ Below w.heap.size w w' :=
  checkAll_any b 2 c 2 _ _ _ w (by omega) (rowS_two h) (by omega) (fun j hj => by rcases j with _ | _ | j; exact h1; exact h2; omega) _ (Or.inl ⟨rfl, rfl⟩)
theorem checkAll_no2 (h : At w b [.int .i64 x1, .int .i64 y1, .bool f1, .int .i64 x2, .int .i64 y2, .bool f2]) (h1 : ckI x1 y1 f1 = 0) (h2 : (ckI x2 y2 f2 == 0) = false) :
    Calls Tryz.prog 105 #[.slice (some ⟨b, 0, none⟩) 2 c] w fun e w' => e = .returned (errOf (ckI x2 y2 f2)) ∧ Below w.heap.size w w' :=
  checkAll_any b 2 c 1 _ _ _ w (by omega) (rowS_two h) (by omega) (fun j hj => by rcases j with _ | j; exact h1; omega) _ (Or.inr ⟨by omega, h2, rfl⟩)
end
theorem cadd_no2 (x1 y1 x2 y2 : Int) (f1 f2 : Bool) (w : World) (h1 : ckI x1 y1 f1 = 0) (h : (ckI x2 y2 f2 == 0) = false) :
    Calls Tryz.prog 67 #[.agg #[.int .i64 x1, .int .i64 y1, .bool f1], .agg #[.int .i64 x2, .int .i64 y2, .bool f2]] w fun e w' => e = .returned (.tuple #[.agg #[.int .i64 0, .int .i64 0, .bool false], errOf (ckI x2 y2 f2)]) ∧ Below w.heap.size w w' := by
  have m1 : True := trivial
  go_enter Tryz.func67, Tryz.ntmps67
  go_wp2_with (go_at_call 105; clear m1; refine (checkAll_no2 (at_by) h1 h).mono ?_; rintro e w1 ⟨rfl, hbw1⟩; have kaw1 : At w1 (w.heap.size) [.int .i64 x1, .int .i64 y1, .bool f1] := (at_by); have kbw1 : At w1 (w.heap.size + 1) [.int .i64 x2, .int .i64 y2, .bool f2] := (at_by); have krw1 : At w1 (w.heap.size + 2) [.int .i64 0, .int .i64 0, .bool false] := (at_by); have hqw1 : Below w.heap.size w w1 := (below_by); have hzw1 := hqw1.size; obtain ⟨zaw1, ca0w1, ca1w1, ca2w1, fa0w1, fa1w1, fa2w1⟩ := kaw1.three; obtain ⟨zbw1, cb0w1, cb1w1, cb2w1, fb0w1, fb1w1, fb2w1⟩ := kbw1.three; obtain ⟨zrw1, cr0w1, cr1w1, cr2w1, fr0w1, fr1w1, fr2w1⟩ := krw1.three; clear hbw1)
  exact bodyPost_ret (v := .tuple #[.agg #[.int .i64 0, .int .i64 0, .bool false], errOf (ckI x2 y2 f2)]) (by simp [results, Tryz.results67, go_sem, *]) rfl ⟨rfl, below_by⟩
theorem cadd_far1 (x2 y2 : Int) (f2 : Bool) (h1 : ckI 0 0 true = 0) (h2 : ckI x2 y2 f2 = 0) (w : World) :
    Calls Tryz.prog 67 #[.agg #[.int .i64 0, .int .i64 0, .bool true], .agg #[.int .i64 x2, .int .i64 y2, .bool f2]] w fun e w' => e = .returned (.tuple #[.agg #[.int .i64 x2, .int .i64 y2, .bool f2], .nilIface]) ∧ Below w.heap.size w w' := by
  have m1 : True := trivial; have m2 : True := trivial; have m3 : True := trivial; have m4 : True := trivial; have m5 : True := trivial; have m6 : True := trivial
  go_enter Tryz.func67, Tryz.ntmps67
  go_wp2_with (go_at_call 105; clear m1; refine (checkAll_yes (at_by) h1 h2).mono ?_; rintro e w1 ⟨rfl, hbw1⟩; have kaw1 : At w1 (w.heap.size) [.int .i64 0, .int .i64 0, .bool true] := (at_by); have kbw1 : At w1 (w.heap.size + 1) [.int .i64 x2, .int .i64 y2, .bool f2] := (at_by); have krw1 : At w1 (w.heap.size + 2) [.int .i64 0, .int .i64 0, .bool false] := (at_by); have hqw1 : Below w.heap.size w w1 := (below_by); have hzw1 := hqw1.size; obtain ⟨zaw1, ca0w1, ca1w1, ca2w1, fa0w1, fa1w1, fa2w1⟩ := kaw1.three; obtain ⟨zbw1, cb0w1, cb1w1, cb2w1, fb0w1, fb1w1, fb2w1⟩ := kbw1.three; obtain ⟨zrw1, cr0w1, cr1w1, cr2w1, fr0w1, fr1w1, fr2w1⟩ := krw1.three; clear hbw1)
  exact bodyPost_ret (v := .tuple #[.agg #[.int .i64 x2, .int .i64 y2, .bool f2], .nilIface]) (by simp [results, Tryz.results67, go_sem, *]) rfl ⟨rfl, below_by⟩
theorem cadd_far2 (x1 y1 : Int) (h1 : ckI x1 y1 false = 0) (h2 : ckI 0 0 true = 0) (w : World) :
    Calls Tryz.prog 67 #[.agg #[.int .i64 x1, .int .i64 y1, .bool false], .agg #[.int .i64 0, .int .i64 0, .bool true]] w fun e w' => e = .returned (.tuple #[.agg #[.int .i64 x1, .int .i64 y1, .bool false], .nilIface]) ∧ Below w.heap.size w w' := by
  have m1 : True := trivial; have m2 : True := trivial; have m3 : True := trivial; have m4 : True := trivial; have m5 : True := trivial; have m6 : True := trivial
  go_enter Tryz.func67, Tryz.ntmps67
  go_wp2_with (go_at_call 105; clear m1; refine (checkAll_yes (at_by) h1 h2).mono ?_; rintro e w1 ⟨rfl, hbw1⟩; have kaw1 : At w1 (w.heap.size) [.int .i64 x1, .int .i64 y1, .bool false] := (at_by); have kbw1 : At w1 (w.heap.size + 1) [.int .i64 0, .int .i64 0, .bool true] := (at_by); have krw1 : At w1 (w.heap.size + 2) [.int .i64 0, .int .i64 0, .bool false] := (at_by); have hqw1 : Below w.heap.size w w1 := (below_by); have hzw1 := hqw1.size; obtain ⟨zaw1, ca0w1, ca1w1, ca2w1, fa0w1, fa1w1, fa2w1⟩ := kaw1.three; obtain ⟨zbw1, cb0w1, cb1w1, cb2w1, fb0w1, fb1w1, fb2w1⟩ := kbw1.three; obtain ⟨zrw1, cr0w1, cr1w1, cr2w1, fr0w1, fr1w1, fr2w1⟩ := krw1.three; clear hbw1)
  exact bodyPost_ret (v := .tuple #[.agg #[.int .i64 x1, .int .i64 y1, .bool false], .nilIface]) (by simp [results, Tryz.results67, go_sem, *]) rfl ⟨rfl, below_by⟩
theorem cadd_neg (x1 y1 : Nat) (k : y1 < 4051) (h1 : ckI (x1 : Int) (y1 : Int) false = 0) (h2 : ckI (x1 : Int) (ny y1 : Int) false = 0) (w : World) :
    Calls Tryz.prog 67 #[.agg #[.int .i64 (x1 : Int), .int .i64 (y1 : Int), .bool false], .agg #[.int .i64 (x1 : Int), .int .i64 (ny y1 : Int), .bool false]] w fun e w' => e = .returned (.tuple #[.agg #[.int .i64 0, .int .i64 0, .bool true], .nilIface]) ∧ Below w.heap.size w w' := by
  have m1 : True := trivial; have m2 : True := trivial; have m3 : True := trivial; have m4 : True := trivial; have m5 : True := trivial; have m6 : True := trivial
  go_enter Tryz.func67, Tryz.ntmps67
  go_wp2_with (go_at_call 105; clear m1; refine (checkAll_yes (at_by) h1 h2).mono ?_; rintro e w1 ⟨rfl, hbw1⟩; have kaw1 : At w1 (w.heap.size) [.int .i64 (x1 : Int), .int .i64 (y1 : Int), .bool false] := (at_by); have kbw1 : At w1 (w.heap.size + 1) [.int .i64 (x1 : Int), .int .i64 (ny y1 : Int), .bool false] := (at_by); have krw1 : At w1 (w.heap.size + 2) [.int .i64 0, .int .i64 0, .bool false] := (at_by); have hqw1 : Below w.heap.size w w1 := (below_by); have hzw1 := hqw1.size; obtain ⟨zaw1, ca0w1, ca1w1, ca2w1, fa0w1, fa1w1, fa2w1⟩ := kaw1.three; obtain ⟨zbw1, cb0w1, cb1w1, cb2w1, fb0w1, fb1w1, fb2w1⟩ := kbw1.three; obtain ⟨zrw1, cr0w1, cr1w1, cr2w1, fr0w1, fr1w1, fr2w1⟩ := krw1.three; clear hbw1)
  refine wp_gen (fun W2 => At W2 (w.heap.size) [.int .i64 (x1 : Int), .int .i64 (y1 : Int), .bool false] ∧ At W2 (w.heap.size + 1) [.int .i64 (x1 : Int), .int .i64 (ny y1 : Int), .bool false] ∧ At W2 (w.heap.size + 2) [.int .i64 0, .int .i64 0, .bool false] ∧ Below w.heap.size w W2) ⟨at_by, at_by, at_by, below_by⟩ ?_
  rintro W2 ⟨kaW2, kbW2, krW2, hqW2⟩
  have hzW2 := hqW2.size
  clear kaw1 ca0w1 fa0w1 ca1w1 fa1w1 ca2w1 fa2w1 kbw1 cb0w1 fb0w1 cb1w1 fb1w1 cb2w1 fb2w1 krw1 cr0w1 fr0w1 cr1w1 fr1w1 cr2w1 fr2w1 hqw1
  obtain ⟨zaW2, ca0W2, ca1W2, ca2W2, fa0W2, fa1W2, fa2W2⟩ := kaW2.three
  obtain ⟨zbW2, cb0W2, cb1W2, cb2W2, fb0W2, fb1W2, fb2W2⟩ := kbW2.three
  obtain ⟨zrW2, cr0W2, cr1W2, cr2W2, fr0W2, fr1W2, fr2W2⟩ := krW2.three
  refine wp_region_quiet_below (by kernel_rfl) (by kernel_rfl) ?_
  repeat (go_big_quiet_step (first | (go_at_call 106; with_reducible exact Calls.regrown_of (turned_any _ _ _ _ k))))
  refine wpQuiet_nil ?_
  intro W3 hw1
  have hrW3 := regrown_below hw1
  clear hw1
  have kaW3 := kaW2.below hrW3
  have kbW3 := kbW2.below hrW3
  have krW3 := krW2.below hrW3
  have hqW3 := bl_call hqW2 hrW3 (by omega)
  have hzW3 := hqW3.size
  clear hrW3 kaW2 ca0W2 fa0W2 ca1W2 fa1W2 ca2W2 fa2W2 kbW2 cb0W2 fb0W2 cb1W2 fb1W2 cb2W2 fb2W2 krW2 cr0W2 fr0W2 cr1W2 fr1W2 cr2W2 fr2W2 hqW2
  obtain ⟨zaW3, ca0W3, ca1W3, ca2W3, fa0W3, fa1W3, fa2W3⟩ := kaW3.three
  obtain ⟨zbW3, cb0W3, cb1W3, cb2W3, fb0W3, fb1W3, fb2W3⟩ := kbW3.three
  obtain ⟨zrW3, cr0W3, cr1W3, cr2W3, fr0W3, fr1W3, fr2W3⟩ := krW3.three
  go_wp2_with (first | fail)
  exact bodyPost_ret (v := .tuple #[.agg #[.int .i64 0, .int .i64 0, .bool true], .nilIface]) (by simp [results, Tryz.results67, go_sem, *]) rfl ⟨rfl, below_by⟩
theorem cadd_two (x1 y1 x2 y2 : Nat) (k1 : x1 < 4051) (k2 : x2 < 4051) (j1 : y1 < 4051) (j2 : y2 < 4051) (hne : x1 ≠ x2) (h1 : ckI (x1 : Int) (y1 : Int) false = 0) (h2 : ckI (x2 : Int) (y2 : Int) false = 0) (w : World) :
    Calls Tryz.prog 67 #[.agg #[.int .i64 (x1 : Int), .int .i64 (y1 : Int), .bool false], .agg #[.int .i64 (x2 : Int), .int .i64 (y2 : Int), .bool false]] w fun e w' => e = .returned (.tuple #[.agg #[.int .i64 ((lineN (cslN x1 y1 x2 y2) x1 y1 x2).1 : Int), .int .i64 (ny (tyN (cslN x1 y1 x2 y2) x1 y1 x2) : Int), .bool false], .nilIface]) ∧ Below w.heap.size w w' := by
  have HE : ((x2 : Int) == (x1 : Int)) = false := by rw [beq_eq_false_iff_ne]; omega
  have m1 : True := trivial; have m2 : True := trivial; have m3 : True := trivial; have m4 : True := trivial; have m5 : True := trivial; have m6 : True := trivial
  go_enter Tryz.func67, Tryz.ntmps67
  go_wp2_with (go_at_call 105; clear m1; refine (checkAll_yes (at_by) h1 h2).mono ?_; rintro e w1 ⟨rfl, hbw1⟩; have kaw1 : At w1 (w.heap.size) [.int .i64 (x1 : Int), .int .i64 (y1 : Int), .bool false] := (at_by); have kbw1 : At w1 (w.heap.size + 1) [.int .i64 (x2 : Int), .int .i64 (y2 : Int), .bool false] := (at_by); have krw1 : At w1 (w.heap.size + 2) [.int .i64 0, .int .i64 0, .bool false] := (at_by); have hqw1 : Below w.heap.size w w1 := (below_by); have hzw1 := hqw1.size; obtain ⟨zaw1, ca0w1, ca1w1, ca2w1, fa0w1, fa1w1, fa2w1⟩ := kaw1.three; obtain ⟨zbw1, cb0w1, cb1w1, cb2w1, fb0w1, fb1w1, fb2w1⟩ := kbw1.three; obtain ⟨zrw1, cr0w1, cr1w1, cr2w1, fr0w1, fr1w1, fr2w1⟩ := krw1.three; clear hbw1)
  refine wp_gen (fun W2 => At W2 (w.heap.size) [.int .i64 (x1 : Int), .int .i64 (y1 : Int), .bool false] ∧ At W2 (w.heap.size + 1) [.int .i64 (x2 : Int), .int .i64 (y2 : Int), .bool false] ∧ At W2 (w.heap.size + 2) [.int .i64 0, .int .i64 0, .bool false] ∧ Below w.heap.size w W2) ⟨at_by, at_by, at_by, below_by⟩ ?_
  rintro W2 ⟨kaW2, kbW2, krW2, hqW2⟩
  have hzW2 := hqW2.size
  clear kaw1 ca0w1 fa0w1 ca1w1 fa1w1 ca2w1 fa2w1 kbw1 cb0w1 fb0w1 cb1w1 fb1w1 cb2w1 fb2w1 krw1 cr0w1 fr0w1 cr1w1 fr1w1 cr2w1 fr2w1 hqw1
  obtain ⟨zaW2, ca0W2, ca1W2, ca2W2, fa0W2, fa1W2, fa2W2⟩ := kaW2.three
  obtain ⟨zbW2, cb0W2, cb1W2, cb2W2, fb0W2, fb1W2, fb2W2⟩ := kbW2.three
  obtain ⟨zrW2, cr0W2, cr1W2, cr2W2, fr0W2, fr1W2, fr2W2⟩ := krW2.three
  refine wp_region_quiet_below (by kernel_rfl) (by kernel_rfl) ?_
  repeat (go_big_quiet_step (first | (go_at_call 106; with_reducible exact Calls.regrown_of (turned_any _ _ _ _ j1))))
  refine wpQuiet_nil ?_
  intro W3 hw1
  have hrW3 := regrown_below hw1
  clear hw1
  have kaW3 := kaW2.below hrW3
  have kbW3 := kbW2.below hrW3
  have krW3 := krW2.below hrW3
  have hqW3 := bl_call hqW2 hrW3 (by omega)
  have hzW3 := hqW3.size
  clear hrW3 kaW2 ca0W2 fa0W2 ca1W2 fa1W2 ca2W2 fa2W2 kbW2 cb0W2 fb0W2 cb1W2 fb1W2 cb2W2 fb2W2 krW2 cr0W2 fr0W2 cr1W2 fr1W2 cr2W2 fr2W2 hqW2
  obtain ⟨zaW3, ca0W3, ca1W3, ca2W3, fa0W3, fa1W3, fa2W3⟩ := kaW3.three
  obtain ⟨zbW3, cb0W3, cb1W3, cb2W3, fb0W3, fb1W3, fb2W3⟩ := kbW3.three
  obtain ⟨zrW3, cr0W3, cr1W3, cr2W3, fr0W3, fr1W3, fr2W3⟩ := krW3.three
  go_wp2_with (first | (go_at_call 107; clear m2; refine (slope_two _ _ _ _ _ k1 k2 j1 j2 hne).mono ?_; rintro e w4 ⟨rfl, hbw4⟩; have kaw4 : At w4 (w.heap.size) [.int .i64 (x1 : Int), .int .i64 (y1 : Int), .bool false] := (at_by); have kbw4 : At w4 (w.heap.size + 1) [.int .i64 (x2 : Int), .int .i64 (y2 : Int), .bool false] := (at_by); have krw4 : At w4 (w.heap.size + 2) [.int .i64 0, .int .i64 0, .bool false] := (at_by); have hqw4 : Below w.heap.size w w4 := (below_by); have hzw4 := hqw4.size; obtain ⟨zaw4, ca0w4, ca1w4, ca2w4, fa0w4, fa1w4, fa2w4⟩ := kaw4.three; obtain ⟨zbw4, cb0w4, cb1w4, cb2w4, fb0w4, fb1w4, fb2w4⟩ := kbw4.three; obtain ⟨zrw4, cr0w4, cr1w4, cr2w4, fr0w4, fr1w4, fr2w4⟩ := krw4.three; clear kaW3 ca0W3 fa0W3 ca1W3 fa1W3 ca2W3 fa2W3 kbW3 cb0W3 fb0W3 cb1W3 fb1W3 cb2W3 fb2W3 krW3 cr0W3 fr0W3 cr1W3 fr1W3 cr2W3 fr2W3 hqW3; clear hbw4) | (go_at_call 108; clear m3; refine (third_any _ _ _ _ _ _ _ _ k1 k2).mono ?_; rintro e w5 ⟨rfl, hbw5⟩; have kaw5 : At w5 (w.heap.size) [.int .i64 (x1 : Int), .int .i64 (y1 : Int), .bool false] := (at_by); have kbw5 : At w5 (w.heap.size + 1) [.int .i64 (x2 : Int), .int .i64 (y2 : Int), .bool false] := (at_by); have krw5 : At w5 (w.heap.size + 2) [.int .i64 0, .int .i64 0, .bool false] := (at_by); have hqw5 : Below w.heap.size w w5 := (below_by); have hzw5 := hqw5.size; obtain ⟨zaw5, ca0w5, ca1w5, ca2w5, fa0w5, fa1w5, fa2w5⟩ := kaw5.three; obtain ⟨zbw5, cb0w5, cb1w5, cb2w5, fb0w5, fb1w5, fb2w5⟩ := kbw5.three; obtain ⟨zrw5, cr0w5, cr1w5, cr2w5, fr0w5, fr1w5, fr2w5⟩ := krw5.three; clear kaw4 ca0w4 fa0w4 ca1w4 fa1w4 ca2w4 fa2w4 kbw4 cb0w4 fb0w4 cb1w4 fb1w4 cb2w4 fb2w4 krw4 cr0w4 fr0w4 cr1w4 fr1w4 cr2w4 fr2w4 hqw4; clear hbw5) | (go_at_call 106; clear m4; refine (turned_any _ _ _ _ (ty_lt _ _ _ _)).mono ?_; rintro e w6 ⟨rfl, hbw6⟩; have kaw6 : At w6 (w.heap.size) [.int .i64 (x1 : Int), .int .i64 (y1 : Int), .bool false] := (at_by); have kbw6 : At w6 (w.heap.size + 1) [.int .i64 (x2 : Int), .int .i64 (y2 : Int), .bool false] := (at_by); have krw6 : At w6 (w.heap.size + 2) [.int .i64 0, .int .i64 0, .bool false] := (at_by); have hqw6 : Below w.heap.size w w6 := (below_by); have hzw6 := hqw6.size; obtain ⟨zaw6, ca0w6, ca1w6, ca2w6, fa0w6, fa1w6, fa2w6⟩ := kaw6.three; obtain ⟨zbw6, cb0w6, cb1w6, cb2w6, fb0w6, fb1w6, fb2w6⟩ := kbw6.three; obtain ⟨zrw6, cr0w6, cr1w6, cr2w6, fr0w6, fr1w6, fr2w6⟩ := krw6.three; clear kaw5 ca0w5 fa0w5 ca1w5 fa1w5 ca2w5 fa2w5 kbw5 cb0w5 fb0w5 cb1w5 fb1w5 cb2w5 fb2w5 krw5 cr0w5 fr0w5 cr1w5 fr1w5 cr2w5 fr2w5 hqw5; clear hbw6))
  exact bodyPost_ret (v := .tuple #[.agg #[.int .i64 ((lineN (cslN x1 y1 x2 y2) x1 y1 x2).1 : Int), .int .i64 (ny (tyN (cslN x1 y1 x2 y2) x1 y1 x2) : Int), .bool false], .nilIface]) (by simp [results, Tryz.results67, go_sem, *]) rfl ⟨rfl, below_by⟩
theorem cadd_one (x1 y1 : Nat) (k1 : x1 < 4051) (j1 : y1 < 4051) (hne : y1 ≠ 0) (h1 : ckI (x1 : Int) (y1 : Int) false = 0) (w : World) :
    Calls Tryz.prog 67 #[.agg #[.int .i64 (x1 : Int), .int .i64 (y1 : Int), .bool false], .agg #[.int .i64 (x1 : Int), .int .i64 (y1 : Int), .bool false]] w fun e w' => e = .returned (.tuple #[.agg #[.int .i64 ((lineN (dslN x1 y1) x1 y1 x1).1 : Int), .int .i64 (ny (tyN (dslN x1 y1) x1 y1 x1) : Int), .bool false], .nilIface]) ∧ Below w.heap.size w w' := by
  have h2 := h1
  have HE : ((y1 : Int) == (ny y1 : Int)) = false := by rw [beq_eq_false_iff_ne]; unfold ny; omega
  have m1 : True := trivial; have m2 : True := trivial; have m3 : True := trivial; have m4 : True := trivial; have m5 : True := trivial; have m6 : True := trivial
  go_enter Tryz.func67, Tryz.ntmps67
  go_wp2_with (go_at_call 105; clear m1; refine (checkAll_yes (at_by) h1 h2).mono ?_; rintro e w1 ⟨rfl, hbw1⟩; have kaw1 : At w1 (w.heap.size) [.int .i64 (x1 : Int), .int .i64 (y1 : Int), .bool false] := (at_by); have kbw1 : At w1 (w.heap.size + 1) [.int .i64 (x1 : Int), .int .i64 (y1 : Int), .bool false] := (at_by); have krw1 : At w1 (w.heap.size + 2) [.int .i64 0, .int .i64 0, .bool false] := (at_by); have hqw1 : Below w.heap.size w w1 := (below_by); have hzw1 := hqw1.size; obtain ⟨zaw1, ca0w1, ca1w1, ca2w1, fa0w1, fa1w1, fa2w1⟩ := kaw1.three; obtain ⟨zbw1, cb0w1, cb1w1, cb2w1, fb0w1, fb1w1, fb2w1⟩ := kbw1.three; obtain ⟨zrw1, cr0w1, cr1w1, cr2w1, fr0w1, fr1w1, fr2w1⟩ := krw1.three; clear hbw1)
  refine wp_gen (fun W2 => At W2 (w.heap.size) [.int .i64 (x1 : Int), .int .i64 (y1 : Int), .bool false] ∧ At W2 (w.heap.size + 1) [.int .i64 (x1 : Int), .int .i64 (y1 : Int), .bool false] ∧ At W2 (w.heap.size + 2) [.int .i64 0, .int .i64 0, .bool false] ∧ Below w.heap.size w W2) ⟨at_by, at_by, at_by, below_by⟩ ?_
  rintro W2 ⟨kaW2, kbW2, krW2, hqW2⟩
  have hzW2 := hqW2.size
  clear kaw1 ca0w1 fa0w1 ca1w1 fa1w1 ca2w1 fa2w1 kbw1 cb0w1 fb0w1 cb1w1 fb1w1 cb2w1 fb2w1 krw1 cr0w1 fr0w1 cr1w1 fr1w1 cr2w1 fr2w1 hqw1
  obtain ⟨zaW2, ca0W2, ca1W2, ca2W2, fa0W2, fa1W2, fa2W2⟩ := kaW2.three
  obtain ⟨zbW2, cb0W2, cb1W2, cb2W2, fb0W2, fb1W2, fb2W2⟩ := kbW2.three
  obtain ⟨zrW2, cr0W2, cr1W2, cr2W2, fr0W2, fr1W2, fr2W2⟩ := krW2.three
  refine wp_region_quiet_below (by kernel_rfl) (by kernel_rfl) ?_
  repeat (go_big_quiet_step (first | (go_at_call 106; with_reducible exact Calls.regrown_of (turned_any _ _ _ _ j1))))
  refine wpQuiet_nil ?_
  intro W3 hw1
  have hrW3 := regrown_below hw1
  clear hw1
  have kaW3 := kaW2.below hrW3
  have kbW3 := kbW2.below hrW3
  have krW3 := krW2.below hrW3
  have hqW3 := bl_call hqW2 hrW3 (by omega)
  have hzW3 := hqW3.size
  clear hrW3 kaW2 ca0W2 fa0W2 ca1W2 fa1W2 ca2W2 fa2W2 kbW2 cb0W2 fb0W2 cb1W2 fb1W2 cb2W2 fb2W2 krW2 cr0W2 fr0W2 cr1W2 fr1W2 cr2W2 fr2W2 hqW2
  obtain ⟨zaW3, ca0W3, ca1W3, ca2W3, fa0W3, fa1W3, fa2W3⟩ := kaW3.three
  obtain ⟨zbW3, cb0W3, cb1W3, cb2W3, fb0W3, fb1W3, fb2W3⟩ := kbW3.three
  obtain ⟨zrW3, cr0W3, cr1W3, cr2W3, fr0W3, fr1W3, fr2W3⟩ := krW3.three
  go_wp2_with (first | (go_at_call 107; clear m2; refine (slope_one _ _ _ j1 hne).mono ?_; rintro e w4 ⟨rfl, hbw4⟩; have kaw4 : At w4 (w.heap.size) [.int .i64 (x1 : Int), .int .i64 (y1 : Int), .bool false] := (at_by); have kbw4 : At w4 (w.heap.size + 1) [.int .i64 (x1 : Int), .int .i64 (y1 : Int), .bool false] := (at_by); have krw4 : At w4 (w.heap.size + 2) [.int .i64 0, .int .i64 0, .bool false] := (at_by); have hqw4 : Below w.heap.size w w4 := (below_by); have hzw4 := hqw4.size; obtain ⟨zaw4, ca0w4, ca1w4, ca2w4, fa0w4, fa1w4, fa2w4⟩ := kaw4.three; obtain ⟨zbw4, cb0w4, cb1w4, cb2w4, fb0w4, fb1w4, fb2w4⟩ := kbw4.three; obtain ⟨zrw4, cr0w4, cr1w4, cr2w4, fr0w4, fr1w4, fr2w4⟩ := krw4.three; clear kaW3 ca0W3 fa0W3 ca1W3 fa1W3 ca2W3 fa2W3 kbW3 cb0W3 fb0W3 cb1W3 fb1W3 cb2W3 fb2W3 krW3 cr0W3 fr0W3 cr1W3 fr1W3 cr2W3 fr2W3 hqW3; clear hbw4) | (go_at_call 108; clear m3; refine (third_any _ _ _ _ _ _ _ _ k1 k1).mono ?_; rintro e w5 ⟨rfl, hbw5⟩; have kaw5 : At w5 (w.heap.size) [.int .i64 (x1 : Int), .int .i64 (y1 : Int), .bool false] := (at_by); have kbw5 : At w5 (w.heap.size + 1) [.int .i64 (x1 : Int), .int .i64 (y1 : Int), .bool false] := (at_by); have krw5 : At w5 (w.heap.size + 2) [.int .i64 0, .int .i64 0, .bool false] := (at_by); have hqw5 : Below w.heap.size w w5 := (below_by); have hzw5 := hqw5.size; obtain ⟨zaw5, ca0w5, ca1w5, ca2w5, fa0w5, fa1w5, fa2w5⟩ := kaw5.three; obtain ⟨zbw5, cb0w5, cb1w5, cb2w5, fb0w5, fb1w5, fb2w5⟩ := kbw5.three; obtain ⟨zrw5, cr0w5, cr1w5, cr2w5, fr0w5, fr1w5, fr2w5⟩ := krw5.three; clear kaw4 ca0w4 fa0w4 ca1w4 fa1w4 ca2w4 fa2w4 kbw4 cb0w4 fb0w4 cb1w4 fb1w4 cb2w4 fb2w4 krw4 cr0w4 fr0w4 cr1w4 fr1w4 cr2w4 fr2w4 hqw4; clear hbw5) | (go_at_call 106; clear m4; refine (turned_any _ _ _ _ (ty_lt _ _ _ _)).mono ?_; rintro e w6 ⟨rfl, hbw6⟩; have kaw6 : At w6 (w.heap.size) [.int .i64 (x1 : Int), .int .i64 (y1 : Int), .bool false] := (at_by); have kbw6 : At w6 (w.heap.size + 1) [.int .i64 (x1 : Int), .int .i64 (y1 : Int), .bool false] := (at_by); have krw6 : At w6 (w.heap.size + 2) [.int .i64 0, .int .i64 0, .bool false] := (at_by); have hqw6 : Below w.heap.size w w6 := (below_by); have hzw6 := hqw6.size; obtain ⟨zaw6, ca0w6, ca1w6, ca2w6, fa0w6, fa1w6, fa2w6⟩ := kaw6.three; obtain ⟨zbw6, cb0w6, cb1w6, cb2w6, fb0w6, fb1w6, fb2w6⟩ := kbw6.three; obtain ⟨zrw6, cr0w6, cr1w6, cr2w6, fr0w6, fr1w6, fr2w6⟩ := krw6.three; clear kaw5 ca0w5 fa0w5 ca1w5 fa1w5 ca2w5 fa2w5 kbw5 cb0w5 fb0w5 cb1w5 fb1w5 cb2w5 fb2w5 krw5 cr0w5 fr0w5 cr1w5 fr1w5 cr2w5 fr2w5 hqw5; clear hbw6))
  exact bodyPost_ret (v := .tuple #[.agg #[.int .i64 ((lineN (dslN x1 y1) x1 y1 x1).1 : Int), .int .i64 (ny (tyN (dslN x1 y1) x1 y1 x1) : Int), .bool false], .nilIface]) (by simp [results, Tryz.results67, go_sem, *]) rfl ⟨rfl, below_by⟩
end Go.Proofs.YtgngdabfmbipaakGreatDoor

/- What the plain reckoning of the statements (stoneref1: Twin, TwinMul, TwinPower) answers. -/
namespace Go.Proofs.YtgngdabfmbipaakGreatDoor
open Go.RowKit Go.Sort
set_option linter.unusedVariables false

theorem rtwin_any (x : Int × Int) (w : World) :
    Calls Tryz.prog 130 #[.agg #[.int .i64 x.1, .int .i64 x.2]] w fun e w' => e = .returned (.agg #[.int .i64 (cf x).1, .int .i64 (cf x).2]) ∧ Below w.heap.size w w' := by
  go_enter Tryz.func130, Tryz.ntmps130
  go_wp2_with fail
  refine quiet_last (by kernel_rfl) (by kernel_rfl) ?_
  dsimp only [List.dropLast, List.length, List.drop]
  repeat (go_big_quiet_step ((go_at_call 96; exact Calls.quiet_of_same (rmod_fm _ _))))
  refine wpQuiet_nil ?_
  intro _ hw1
  obtain ⟨nq, hw2⟩ := hw1
  subst hw2
  go_wp2_with fail
  exact bodyPost_ret (v := .agg #[.int .i64 (fm x.1), .int .i64 (fm x.2)]) (by simp [results, Tryz.results130, go_sem]) rfl ⟨rfl, below_by⟩
theorem tm_fms (x y : Int × Int) : fm (fm x.1 * fm y.1 - fm x.2 * fm y.2) = (tm x y).1 ∧ fm (fm x.1 * fm y.2 + fm x.2 * fm y.1) = (tm x y).2 := by
  unfold tm cf cm
  simp only
  refine ⟨?_, ?_⟩
  · rw [← fm_sub, fm_mul, fm_mul, fm_sub]
  · rw [← fm_add, fm_mul, fm_mul, fm_add]
set_option maxHeartbeats 1000000 in
theorem rtmul_any (x y : Int × Int) (w : World) :
    Calls Tryz.prog 95 #[.agg #[.int .i64 x.1, .int .i64 x.2], .agg #[.int .i64 y.1, .int .i64 y.2]] w fun e w' => e = .returned (.agg #[.int .i64 (tm x y).1, .int .i64 (tm x y).2]) ∧ Below w.heap.size w w' := by
  obtain ⟨q1, q2⟩ := mul_bd (x := (cf x).1) (y := (cf y).1) (cf_lo x).1 (cf_lo x).2.1 (cf_lo y).1 (cf_lo y).2.1
  obtain ⟨q3, q4⟩ := mul_bd (x := (cf x).2) (y := (cf y).2) (cf_lo x).2.2.1 (cf_lo x).2.2.2 (cf_lo y).2.2.1 (cf_lo y).2.2.2
  obtain ⟨q5, q6⟩ := mul_bd (x := (cf x).1) (y := (cf y).2) (cf_lo x).1 (cf_lo x).2.1 (cf_lo y).2.2.1 (cf_lo y).2.2.2
  obtain ⟨q7, q8⟩ := mul_bd (x := (cf x).2) (y := (cf y).1) (cf_lo x).2.2.1 (cf_lo x).2.2.2 (cf_lo y).1 (cf_lo y).2.1
  have m1 : True := trivial; have m2 : True := trivial
  go_enter Tryz.func95, Tryz.ntmps95
  go_wp2_with (first | (go_at_call 130; clear m1; refine (rtwin_any x _).mono ?_; rintro e w1 ⟨rfl, hbw1⟩; have kxw1 : At w1 (w.heap.size) [.int .i64 (x).1, .int .i64 (x).2] := (at_by); have kyw1 : At w1 (w.heap.size + 1) [.int .i64 (y).1, .int .i64 (y).2] := (at_by); have krw1 : At w1 (w.heap.size + 2) [.int .i64 0, .int .i64 0] := (at_by); have hqw1 : Below w.heap.size w w1 := (below_by); have hzw1 := hqw1.size; obtain ⟨zxw1, cx0w1, cx1w1, fx0w1, fx1w1⟩ := kxw1.two; obtain ⟨zyw1, cy0w1, cy1w1, fy0w1, fy1w1⟩ := kyw1.two; obtain ⟨zrw1, cr0w1, cr1w1, fr0w1, fr1w1⟩ := krw1.two; clear hbw1) | (go_at_call 130; clear m2; refine (rtwin_any y _).mono ?_; rintro e w2 ⟨rfl, hbw2⟩; have kxw2 : At w2 (w.heap.size) [.int .i64 (x).1, .int .i64 (x).2] := (at_by); have kyw2 : At w2 (w.heap.size + 1) [.int .i64 (y).1, .int .i64 (y).2] := (at_by); have krw2 : At w2 (w.heap.size + 2) [.int .i64 0, .int .i64 0] := (at_by); have kaw2 : At w2 (w1.heap.size) [.int .i64 (cf x).1, .int .i64 (cf x).2] := (at_by); have hqw2 : Below w.heap.size w w2 := (below_by); have hzw2 := hqw2.size; obtain ⟨zxw2, cx0w2, cx1w2, fx0w2, fx1w2⟩ := kxw2.two; obtain ⟨zyw2, cy0w2, cy1w2, fy0w2, fy1w2⟩ := kyw2.two; obtain ⟨zrw2, cr0w2, cr1w2, fr0w2, fr1w2⟩ := krw2.two; obtain ⟨zaw2, ca0w2, ca1w2, fa0w2, fa1w2⟩ := kaw2.two; clear kxw1 cx0w1 fx0w1 cx1w1 fx1w1 kyw1 cy0w1 fy0w1 cy1w1 fy1w1 krw1 cr0w1 fr0w1 cr1w1 fr1w1 hqw1; clear hbw2))
  refine wp_gen (fun W => At W (w.heap.size + 2) [.int .i64 0, .int .i64 0] ∧ At W (w1.heap.size) [.int .i64 (cf x).1, .int .i64 (cf x).2] ∧ At W (w2.heap.size) [.int .i64 (cf y).1, .int .i64 (cf y).2] ∧ Below w.heap.size w W) ⟨at_by, at_by, at_by, below_by⟩ ?_
  rintro W ⟨krW, kaW, kbW, hqW⟩
  have hzW := hqW.size
  clear kxw2 cx0w2 fx0w2 cx1w2 fx1w2 kyw2 cy0w2 fy0w2 cy1w2 fy1w2 krw2 cr0w2 fr0w2 cr1w2 fr1w2 kaw2 ca0w2 fa0w2 ca1w2 fa1w2 hqw2
  obtain ⟨zrW, cr0W, cr1W, fr0W, fr1W⟩ := krW.two
  obtain ⟨zaW, ca0W, ca1W, fa0W, fa1W⟩ := kaW.two
  obtain ⟨zbW, cb0W, cb1W, fb0W, fb1W⟩ := kbW.two
  refine quiet_last (by kernel_rfl) (by kernel_rfl) ?_
  dsimp only [List.dropLast, List.length, List.drop]
  repeat (go_big_quiet_step ((go_at_call 96; exact Calls.quiet_of_same (rmod_fm _ _))))
  refine wpQuiet_nil ?_
  intro _ hw1
  obtain ⟨nq, hw2⟩ := hw1
  subst hw2
  go_wp2_with fail
  refine bodyPost_ret (v := .agg #[.int .i64 (fm ((cf x).1 * (cf y).1 - (cf x).2 * (cf y).2)), .int .i64 (fm ((cf x).1 * (cf y).2 + (cf x).2 * (cf y).1))]) (by simp [results, Tryz.results95, go_sem, *]) rfl ⟨ret_tw (tm_fms x y).1 (tm_fms x y).2, below_by⟩
theorem tpow_half (x : Int × Int) (k : Int) (h0 : 0 < k) (h : k % 2 = 0) : tm (tp x (k / 2).toNat) (tp x (k / 2).toNat) = tp x k.toNat := by
  rw [tp_add]; congr 1; omega
theorem tpow_half1 (x : Int × Int) (k : Int) (h0 : 0 < k) (h : k % 2 = 1) : tm (tm (tp x (k / 2).toNat) (tp x (k / 2).toNat)) x = tp x k.toNat := by
  rw [tp_add, ← tp_succ]; congr 1; omega
theorem rtmul_eq {x y z : Int × Int} (h : tm x y = z) (w : World) :
    Calls Tryz.prog 95 #[.agg #[.int .i64 x.1, .int .i64 x.2], .agg #[.int .i64 y.1, .int .i64 y.2]] w fun e w' => e = .returned (.agg #[.int .i64 z.1, .int .i64 z.2]) ∧ Below w.heap.size w w' := by
  rw [← h]; exact rtmul_any x y w
set_option maxHeartbeats 1000000 in
theorem rtpow_any (f : Nat) : ∀ (x : Int × Int) (k : Int) (w : World), 0 ≤ k → k ≤ 9223372036854775807 → k.toNat < 2 ^ f →
    Calls Tryz.prog 97 #[.agg #[.int .i64 x.1, .int .i64 x.2], .int .i64 k] w fun e w' => e = .returned (.agg #[.int .i64 (tp x k.toNat).1, .int .i64 (tp x k.toNat).2]) ∧ Below w.heap.size w w' := by
  have zero : ∀ (x : Int × Int) (w : World), Calls Tryz.prog 97 #[.agg #[.int .i64 x.1, .int .i64 x.2], .int .i64 0] w fun e w' => e = .returned (.agg #[.int .i64 1, .int .i64 0]) ∧ Below w.heap.size w w' := by
    intro x w
    go_enter Tryz.func97, Tryz.ntmps97
    go_wp2_with fail
    exact bodyPost_ret (v := .agg #[.int .i64 1, .int .i64 0]) (by simp [results, Tryz.results97, go_sem, *]) rfl ⟨rfl, below_by⟩
  induction f with
  | zero =>
    intro x k w h0 hm h1
    have hk : k = 0 := by omega
    subst hk
    exact zero x w
  | succ f ih =>
    intro x k w h0 hm h1
    have h2 : (k / 2).toNat < 2 ^ f := by rw [Nat.pow_succ] at h1; omega
    clear h1
    by_cases hk : k = 0
    · subst hk; exact zero x w
    · have hp : 0 < k := by omega
      have hz : (k == 0) = false := beq_eq_false_iff_ne.mpr hk
      clear hk zero
      have IH : Hid (∀ w, Calls Tryz.prog 97 #[.agg #[.int .i64 x.1, .int .i64 x.2], .int .i64 (k / 2)] w fun e w' => e = .returned (.agg #[.int .i64 (tp x (k / 2).toNat).1, .int .i64 (tp x (k / 2).toNat).2]) ∧ Below w.heap.size w w') := fun w => ih x (k / 2) w (by omega) (by omega) h2
      clear ih h2
      by_cases hodd : k % 2 = 1
      · have H : Hid (tm (tm (tp x (k / 2).toNat) (tp x (k / 2).toNat)) x = tp x k.toNat) := tpow_half1 x k hp hodd
        have m1 : True := trivial; have m2 : True := trivial; have m3 : True := trivial
        go_enter Tryz.func97, Tryz.ntmps97
        go_wp2_with (first | (go_at_call 97; clear m1; refine (IH.out _).mono ?_; rintro e w1 ⟨rfl, hbw1⟩; have kxw1 : At w1 (w.heap.size) [.int .i64 (x).1, .int .i64 (x).2] := (at_by); have krw1 : At w1 (w.heap.size + 1) [.int .i64 0, .int .i64 0] := (at_by); have hqw1 : Below w.heap.size w w1 := (below_by); have hzw1 := hqw1.size; obtain ⟨zxw1, cx0w1, cx1w1, fx0w1, fx1w1⟩ := kxw1.two; obtain ⟨zrw1, cr0w1, cr1w1, fr0w1, fr1w1⟩ := krw1.two; clear hbw1) | (go_at_call 95; clear m2; refine (rtmul_any _ _ _).mono ?_; rintro e w2 ⟨rfl, hbw2⟩; have kxw2 : At w2 (w.heap.size) [.int .i64 (x).1, .int .i64 (x).2] := (at_by); have krw2 : At w2 (w.heap.size + 1) [.int .i64 0, .int .i64 0] := (at_by); have khw2 : At w2 (w1.heap.size) [.int .i64 (tp x (k / 2).toNat).1, .int .i64 (tp x (k / 2).toNat).2] := (at_by); have hqw2 : Below w.heap.size w w2 := (below_by); have hzw2 := hqw2.size; obtain ⟨zxw2, cx0w2, cx1w2, fx0w2, fx1w2⟩ := kxw2.two; obtain ⟨zrw2, cr0w2, cr1w2, fr0w2, fr1w2⟩ := krw2.two; obtain ⟨zhw2, ch0w2, ch1w2, fh0w2, fh1w2⟩ := khw2.two; clear kxw1 cx0w1 fx0w1 cx1w1 fx1w1 krw1 cr0w1 fr0w1 cr1w1 fr1w1 hqw1; clear hbw2) | (go_at_call 95; clear m3; refine (rtmul_eq H.out _).mono ?_; rintro e w3 ⟨rfl, hbw3⟩; have kxw3 : At w3 (w.heap.size) [.int .i64 (x).1, .int .i64 (x).2] := (at_by); have krw3 : At w3 (w.heap.size + 1) [.int .i64 0, .int .i64 0] := (at_by); have khw3 : At w3 (w1.heap.size) [.int .i64 (tm (tp x (k / 2).toNat) (tp x (k / 2).toNat)).1, .int .i64 (tm (tp x (k / 2).toNat) (tp x (k / 2).toNat)).2] := (at_by); have hqw3 : Below w.heap.size w w3 := (below_by); have hzw3 := hqw3.size; obtain ⟨zxw3, cx0w3, cx1w3, fx0w3, fx1w3⟩ := kxw3.two; obtain ⟨zrw3, cr0w3, cr1w3, fr0w3, fr1w3⟩ := krw3.two; obtain ⟨zhw3, ch0w3, ch1w3, fh0w3, fh1w3⟩ := khw3.two; clear kxw2 cx0w2 fx0w2 cx1w2 fx1w2 krw2 cr0w2 fr0w2 cr1w2 fr1w2 khw2 ch0w2 fh0w2 ch1w2 fh1w2 hqw2; clear hbw3))
        exact bodyPost_ret (v := .agg #[.int .i64 (tp x k.toNat).1, .int .i64 (tp x k.toNat).2]) (by simp [results, Tryz.results97, go_sem, *]) rfl ⟨rfl, below_by⟩
      · have hev : k % 2 = 0 := by omega
        have H : Hid (tm (tp x (k / 2).toNat) (tp x (k / 2).toNat) = tp x k.toNat) := tpow_half x k hp hev
        have m1 : True := trivial; have m2 : True := trivial; have m3 : True := trivial
        go_enter Tryz.func97, Tryz.ntmps97
        go_wp2_with (first | (go_at_call 97; clear m1; refine (IH.out _).mono ?_; rintro e w1 ⟨rfl, hbw1⟩; have kxw1 : At w1 (w.heap.size) [.int .i64 (x).1, .int .i64 (x).2] := (at_by); have krw1 : At w1 (w.heap.size + 1) [.int .i64 0, .int .i64 0] := (at_by); have hqw1 : Below w.heap.size w w1 := (below_by); have hzw1 := hqw1.size; obtain ⟨zxw1, cx0w1, cx1w1, fx0w1, fx1w1⟩ := kxw1.two; obtain ⟨zrw1, cr0w1, cr1w1, fr0w1, fr1w1⟩ := krw1.two; clear hbw1) | (go_at_call 95; clear m2; refine (rtmul_eq H.out _).mono ?_; rintro e w2 ⟨rfl, hbw2⟩; have kxw2 : At w2 (w.heap.size) [.int .i64 (x).1, .int .i64 (x).2] := (at_by); have krw2 : At w2 (w.heap.size + 1) [.int .i64 0, .int .i64 0] := (at_by); have khw2 : At w2 (w1.heap.size) [.int .i64 (tp x (k / 2).toNat).1, .int .i64 (tp x (k / 2).toNat).2] := (at_by); have hqw2 : Below w.heap.size w w2 := (below_by); have hzw2 := hqw2.size; obtain ⟨zxw2, cx0w2, cx1w2, fx0w2, fx1w2⟩ := kxw2.two; obtain ⟨zrw2, cr0w2, cr1w2, fr0w2, fr1w2⟩ := krw2.two; obtain ⟨zhw2, ch0w2, ch1w2, fh0w2, fh1w2⟩ := khw2.two; clear kxw1 cx0w1 fx0w1 cx1w1 fx1w1 krw1 cr0w1 fr0w1 cr1w1 fr1w1 hqw1; clear hbw2))
        exact bodyPost_ret (v := .agg #[.int .i64 (tp x k.toNat).1, .int .i64 (tp x k.toNat).2]) (by simp [results, Tryz.results97, go_sem, *]) rfl ⟨rfl, below_by⟩
end Go.Proofs.YtgngdabfmbipaakGreatDoor

/- Sums of spots in the words of the group: so many times one and so many times one; and what curve.Lift answers. -/
namespace Go.Proofs.YtgngdabfmbipaakGreatDoor
open Go.RowKit Go.Sort
set_option linter.unusedVariables false
set_option linter.unusedSimpArgs false

theorem addN_aff (x1 y1 x2 y2 : Nat) : addN (x1, y1, false) (x2, y2, false) = cond (Nat.beq x1 x2) (cond (Nat.beq y1 y2 && !(Nat.beq y1 0)) (lineN (dslN x1 y1) x1 y1 x1) farN) (lineN (cslN x1 y1 x2 y2) x1 y1 x2) := rfl
theorem line_form (s x1 y1 x2 : Nat) (h0 : y1 < 4051) (h1 : x1 < 4051) (h2 : x2 < 4051) : lineN s x1 y1 x2 = ((lineN s x1 y1 x2).1, ny (tyN s x1 y1 x2), false) := by rw [ty_neg h0 h1 h2]; rfl
theorem cadd_ok (a b : Sn) (w : World) (ha : okS a = true) (hb : okS b = true) :
    Calls Tryz.prog 67 #[.agg #[.int .i64 ((a).1 : Int), .int .i64 ((a).2.1 : Int), .bool (a).2.2], .agg #[.int .i64 ((b).1 : Int), .int .i64 ((b).2.1 : Int), .bool (b).2.2]] w fun e w' => e = .returned (.tuple #[.agg #[.int .i64 ((addN a b).1 : Int), .int .i64 ((addN a b).2.1 : Int), .bool (addN a b).2.2], .nilIface]) ∧ Below w.heap.size w w' := by
  obtain ⟨x1, y1, f1⟩ := a
  obtain ⟨x2, y2, f2⟩ := b
  have h1 := ckI_of_ok ha
  have h2 := ckI_of_ok hb
  have l1 := okS_lt ha
  have l2 := okS_lt hb
  simp only at h1 h2 l1 l2
  cases f1 with
  | true =>
    obtain ⟨rfl, rfl⟩ : x1 = 0 ∧ y1 = 0 := by
      unfold okS at ha; simp only [cond_true, Bool.and_eq_true] at ha
      exact ⟨Nat.eq_of_beq_eq_true ha.1, Nat.eq_of_beq_eq_true ha.2⟩
    exact cadd_far1 x2 y2 f2 rfl h2 w
  | false =>
    cases f2 with
    | true =>
      obtain ⟨rfl, rfl⟩ : x2 = 0 ∧ y2 = 0 := by
        unfold okS at hb; simp only [cond_true, Bool.and_eq_true] at hb
        exact ⟨Nat.eq_of_beq_eq_true hb.1, Nat.eq_of_beq_eq_true hb.2⟩
      exact cadd_far2 x1 y1 h1 rfl w
    | false =>
      rw [addN_aff]
      by_cases hx : x1 = x2
      · subst hx
        rw [show Nat.beq x1 x1 = true from Nat.beq_refl x1]
        by_cases hy : y2 = ny y1
        · subst hy
          rw [show (Nat.beq y1 (ny y1) && !(Nat.beq y1 0)) = false by
            rw [Bool.eq_false_iff]; intro h; simp only [Bool.and_eq_true, Bool.not_eq_true'] at h
            have e1 := Nat.eq_of_beq_eq_true h.1
            have e2 := Nat.ne_of_beq_eq_false h.2
            unfold ny at e1; omega]
          exact cadd_neg x1 y1 l1.2 h1 h2 w
        · rcases same_place ha hb with rfl | h
          · have y0 : y2 ≠ 0 := by rintro rfl; exact hy rfl
            rw [show (Nat.beq y2 y2 && !(Nat.beq y2 0)) = true by
              simp only [Bool.and_eq_true, Bool.not_eq_true']
              exact ⟨Nat.beq_refl y2, by rw [← Bool.not_eq_true]; intro h; exact y0 (Nat.eq_of_beq_eq_true h)⟩]
            simp only [cond_true]
            rw [line_form _ _ _ _ l1.2 l1.1 l1.1]
            exact cadd_one x1 y2 l1.1 l1.2 y0 h1 w
          · exact absurd h hy
      · rw [show Nat.beq x1 x2 = false by rw [← Bool.not_eq_true]; intro h; exact hx (Nat.eq_of_beq_eq_true h)]
        simp only [cond_false]
        rw [line_form _ _ _ _ l1.2 l1.1 l2.1]
        exact cadd_two x1 y1 x2 y2 l1.1 l2.1 l1.2 l2.2 hx h1 h2 w
theorem cadd_eq {j k : Nat} {r : Sn} (h : tM (j + k) = r) (w : World) :
    Calls Tryz.prog 67 #[.agg #[.int .i64 ((tM j).1 : Int), .int .i64 ((tM j).2.1 : Int), .bool (tM j).2.2], .agg #[.int .i64 ((tM k).1 : Int), .int .i64 ((tM k).2.1 : Int), .bool (tM k).2.2]] w fun e w' => e = .returned (.tuple #[.agg #[.int .i64 ((r).1 : Int), .int .i64 ((r).2.1 : Int), .bool (r).2.2], .nilIface]) ∧ Below w.heap.size w w' := by
  have := cadd_ok (tM j) (tM k) w (tM_ok j) (tM_ok k)
  rwa [tM_add, h] at this
theorem cadd_tM (j k : Nat) (w : World) :
    Calls Tryz.prog 67 #[.agg #[.int .i64 ((tM j).1 : Int), .int .i64 ((tM j).2.1 : Int), .bool (tM j).2.2], .agg #[.int .i64 ((tM k).1 : Int), .int .i64 ((tM k).2.1 : Int), .bool (tM k).2.2]] w fun e w' => e = .returned (.tuple #[.agg #[.int .i64 ((tM (j + k)).1 : Int), .int .i64 ((tM (j + k)).2.1 : Int), .bool (tM (j + k)).2.2], .nilIface]) ∧ Below w.heap.size w w' := cadd_eq rfl w
theorem check_tM (k : Nat) (w : World) :
    Calls Tryz.prog 20 #[.agg #[.int .i64 ((tM k).1 : Int), .int .i64 ((tM k).2.1 : Int), .bool (tM k).2.2]] w fun e w' => e = .returned .nilIface ∧ Below w.heap.size w w' := check_yes _ _ _ w (ck_tM k)
theorem lift_out (x : Int) (w : World) (h : ¬ (0 ≤ x ∧ x < 4051)) :
    Calls Tryz.prog 23 #[.int .i64 x] w fun e w' => e = .returned (.tuple #[.agg #[.int .i64 0, .int .i64 0, .bool false], errOf 1]) ∧ Below w.heap.size w w' := by
  have H : Hid (¬ (0 ≤ x ∧ x < 4051)) := h
  clear h
  go_enter Tryz.func23, Tryz.ntmps23
  go_wp2_with (go_at_call 63; refine (infield_no _ _ H.out).mono ?_; rintro e w' ⟨rfl, rfl⟩)
  exact bodyPost_ret (v := .tuple #[.agg #[.int .i64 0, .int .i64 0, .bool false], errOf 1]) (by simp [results, Tryz.results23, go_sem, *]) rfl ⟨rfl, below_by⟩
theorem lift_none (x : Int) (w : World) (h0 : 0 ≤ x) (h1 : x < 4051) (h : rtOk (sqI x) = false) :
    Calls Tryz.prog 23 #[.int .i64 x] w fun e w' => e = .returned (.tuple #[.agg #[.int .i64 0, .int .i64 0, .bool false], errOf 5]) ∧ Below w.heap.size w w' := by
  go_enter Tryz.func23, Tryz.ntmps23
  go_wp2_with (first | (go_at_call 63; refine (infield_yes _ _ h0 h1).mono ?_; rintro e w' ⟨rfl, rfl⟩) | (go_at_call 65; refine (squareAt_any _ _).mono ?_; rintro e w' ⟨rfl, rfl⟩) | (go_at_call 68; refine (sqrt_no _ _ h).mono ?_; rintro e w' ⟨rfl, rfl⟩))
  exact bodyPost_ret (v := .tuple #[.agg #[.int .i64 0, .int .i64 0, .bool false], errOf 5]) (by simp [results, Tryz.results23, go_sem, *]) rfl ⟨rfl, below_by⟩
theorem lift_yes (x : Int) (w : World) (h0 : 0 ≤ x) (h1 : x < 4051) (h : rtOk (sqI x) = true) :
    Calls Tryz.prog 23 #[.int .i64 x] w fun e w' => e = .returned (.tuple #[.agg #[.int .i64 x, .int .i64 (rtMin (sqI x)), .bool false], .nilIface]) ∧ Below w.heap.size w w' := by
  go_enter Tryz.func23, Tryz.ntmps23
  go_wp2_with (first | (go_at_call 63; refine (infield_yes _ _ h0 h1).mono ?_; rintro e w' ⟨rfl, rfl⟩) | (go_at_call 65; refine (squareAt_any _ _).mono ?_; rintro e w' ⟨rfl, rfl⟩) | (go_at_call 68; refine (sqrt_yes _ _ h).mono ?_; rintro e w' ⟨rfl, rfl⟩))
  exact bodyPost_ret (v := .tuple #[.agg #[.int .i64 x, .int .i64 (rtMin (sqI x)), .bool false], .nilIface]) (by simp [results, Tryz.results23, go_sem, *]) rfl ⟨rfl, below_by⟩
end Go.Proofs.YtgngdabfmbipaakGreatDoor
