/- stonelaw3.LogKeeps where the coins are wrong, by what its callees answer. -/
import Derived.Test.YtpkkclcjiobgoajGreatDoorKA
import Derived.Test.YtpkkclcjiobgoajGreatDoorKG
import Derived.Lib.QuietBelow
import Derived.Deep.RegionHeld3
import Derived.Deep.RegionWith
import Derived.Deep.CutRange
import Derived.Deep.CutBlock
import Derived.Laws.OwnMore
import Derived.Test.YtpkkclcjiobgoajGreatDoorKLogKeepsL
namespace Go.Proofs.YtpkkclcjiobgoajGreatDoor
open Go.RowKit Go.Sort
set_option linter.unusedVariables false
set_option linter.unusedSimpArgs false
set_option maxRecDepth 100000 in
set_option maxHeartbeats 16000000 in
theorem lkeeps_no (R0 : Sn) (z0 : Int) (S1 S2 S3 S4 : World → Value → (Nat → Prop) → Prop) (S5 S6 : Nat → World → Value → (Nat → Prop) → Prop) (n d L ca ny cy nf cf nk ck : Nat) (sl sa sy sf sk : Option Addr) (w : World) (hd : Door w) (q : Int) (T3 : (toldI (errOf q) == q) = true) (z1 : (q == 0) = false)
    (hHC0 : ∀ w, Calls Tryz.prog 14 #[.int .i64 0, .int .i64 1, .agg #[.int .i64 0, .int .i64 0, .bool true]] w fun ex w' => ex = .returned (.tuple #[.agg #[.int .i64 ((R0).1 : Int), .int .i64 ((R0).2.1 : Int), .bool (R0).2.2, .int .i64 z0], .nilIface]) ∧ Below w.heap.size w w')
    (hHN0 : ∀ W, Calls Tryz.prog 29 #[.slice none 0 0] W fun ex w' => ∃ vo Q, ex = .returned (.tuple #[vo, .nilIface]) ∧ S1 w' vo Q ∧ (∀ i, Q i → W.heap.size ≤ i ∧ i < w'.heap.size) ∧ Below W.heap.size W w')
    (hH1 : ∀ W vo bz, OnJ (S1) W vo w.heap.size bz bz → Calls Tryz.prog 31 #[vo, .agg #[.slice none 0 0, .slice none 0 0, .int .i64 ((R0).1 : Int), .int .i64 ((R0).2.1 : Int), .bool (R0).2.2, .int .i64 z0]] W fun ex w' => ex = .returned (.nilIface) ∧ OnJ (S2) w' vo w.heap.size bz bz ∧ Keep w.heap.size bz bz W w')
    (hH2 : ∀ W vo bz, OnJ (S2) W vo w.heap.size bz bz → Calls Tryz.prog 32 #[vo] W fun ex w' => ex = .returned (.nilIface) ∧ OnJ (S3) w' vo w.heap.size bz bz ∧ Keep w.heap.size bz bz W w')
    (hH3 : ∀ W vo bz, OnJ (S3) W vo w.heap.size bz bz → Calls Tryz.prog 31 #[vo, .agg #[.slice none 0 0, .slice none 0 0, .int .i64 ((R0).1 : Int), .int .i64 ((R0).2.1 : Int), .bool (R0).2.2, .int .i64 z0]] W fun ex w' => ex = .returned (.nilIface) ∧ OnJ (S4) w' vo w.heap.size bz bz ∧ Keep w.heap.size bz bz W w')
    (hH4 : ∀ W vo bz, OnJ (S4) W vo w.heap.size bz bz → Calls Tryz.prog 35 #[vo] W fun ex w' => ∃ k : Nat, ex = .returned (.int .i64 (k : Int)) ∧ OnJ (S5 k) w' vo w.heap.size bz bz ∧ Keep w.heap.size bz bz W w')
    (hH5 : ∀ (k : Nat) W vo bz, OnJ (S5 k) W vo w.heap.size bz bz → Calls Tryz.prog 33 #[vo, .int .i64 0] W fun ex w' => ex = .returned (.tuple #[]) ∧ OnJ (S6 k) w' vo w.heap.size bz bz ∧ Keep w.heap.size bz bz W w')
    (hH6 : ∀ (k : Nat) W vo bz, OnJ (S6 k) W vo w.heap.size bz bz → k ≥ 2)
    (hH7 : ∀ (k : Nat) W vo bz, OnJ (S6 k) W vo w.heap.size bz bz → Calls Tryz.prog 34 #[vo] W fun ex w' => ex = .returned (.int .i64 (k : Int)) ∧ OnJ (S6 k) w' vo w.heap.size bz bz ∧ Keep w.heap.size bz bz W w')
    (hH8 : ∀ (k : Nat) W vo bz, OnJ (S6 k) W vo w.heap.size bz bz → Calls Tryz.prog 35 #[vo] W fun ex w' => ex = .returned (.int .i64 (k : Int)) ∧ OnJ (S6 k) w' vo w.heap.size bz bz ∧ Keep w.heap.size bz bz W w')
    (hH9 : ∀ (k : Nat) W vo bz, OnJ (S6 k) W vo w.heap.size bz bz → Calls Tryz.prog 36 #[vo] W fun ex w' => ex = .returned (.agg #[.int .i64 0, .int .i64 0, .bool true]) ∧ OnJ (S6 k) w' vo w.heap.size bz bz ∧ Keep w.heap.size bz bz W w')
    (hHCO : ∀ W, Below w.heap.size w W → Calls Tryz.prog 15 #[.slice sl n d] W fun ex w' => ex = .returned (.int .i64 q) ∧ Below W.heap.size W w')
    (hHNW : ∀ W, Below w.heap.size w W → Calls Tryz.prog 29 #[.slice sl n d] W fun ex w' => ex = .returned (.tuple #[.pointer none, errOf q]) ∧ Below W.heap.size W w')
    : Calls Tryz.prog 5 #[.slice sl n d, .slice sa L ca, .slice sy ny cy, .slice sf nf cf, .slice sk nk ck] w fun e w' => e = .returned (.bool true) ∧ Below w.heap.size w w' := by
  have HD : Hid (Door w) := hd
  have HC0 : Hid (∀ w, Calls Tryz.prog 14 #[.int .i64 0, .int .i64 1, .agg #[.int .i64 0, .int .i64 0, .bool true]] w fun ex w' => ex = .returned (.tuple #[.agg #[.int .i64 ((R0).1 : Int), .int .i64 ((R0).2.1 : Int), .bool (R0).2.2, .int .i64 z0], .nilIface]) ∧ Below w.heap.size w w') := hHC0
  have HN0 : Hid (∀ W, Calls Tryz.prog 29 #[.slice none 0 0] W fun ex w' => ∃ vo Q, ex = .returned (.tuple #[vo, .nilIface]) ∧ S1 w' vo Q ∧ (∀ i, Q i → W.heap.size ≤ i ∧ i < w'.heap.size) ∧ Below W.heap.size W w') := hHN0
  have H1 : Hid (∀ W vo bz, OnJ (S1) W vo w.heap.size bz bz → Calls Tryz.prog 31 #[vo, .agg #[.slice none 0 0, .slice none 0 0, .int .i64 ((R0).1 : Int), .int .i64 ((R0).2.1 : Int), .bool (R0).2.2, .int .i64 z0]] W fun ex w' => ex = .returned (.nilIface) ∧ OnJ (S2) w' vo w.heap.size bz bz ∧ Keep w.heap.size bz bz W w') := hH1
  have H2 : Hid (∀ W vo bz, OnJ (S2) W vo w.heap.size bz bz → Calls Tryz.prog 32 #[vo] W fun ex w' => ex = .returned (.nilIface) ∧ OnJ (S3) w' vo w.heap.size bz bz ∧ Keep w.heap.size bz bz W w') := hH2
  have H3 : Hid (∀ W vo bz, OnJ (S3) W vo w.heap.size bz bz → Calls Tryz.prog 31 #[vo, .agg #[.slice none 0 0, .slice none 0 0, .int .i64 ((R0).1 : Int), .int .i64 ((R0).2.1 : Int), .bool (R0).2.2, .int .i64 z0]] W fun ex w' => ex = .returned (.nilIface) ∧ OnJ (S4) w' vo w.heap.size bz bz ∧ Keep w.heap.size bz bz W w') := hH3
  have H4 : Hid (∀ W vo bz, OnJ (S4) W vo w.heap.size bz bz → Calls Tryz.prog 35 #[vo] W fun ex w' => ∃ k : Nat, ex = .returned (.int .i64 (k : Int)) ∧ OnJ (S5 k) w' vo w.heap.size bz bz ∧ Keep w.heap.size bz bz W w') := hH4
  have H5 : Hid (∀ (k : Nat) W vo bz, OnJ (S5 k) W vo w.heap.size bz bz → Calls Tryz.prog 33 #[vo, .int .i64 0] W fun ex w' => ex = .returned (.tuple #[]) ∧ OnJ (S6 k) w' vo w.heap.size bz bz ∧ Keep w.heap.size bz bz W w') := hH5
  have H6 : Hid (∀ (k : Nat) W vo bz, OnJ (S6 k) W vo w.heap.size bz bz → k ≥ 2) := hH6
  have H7 : Hid (∀ (k : Nat) W vo bz, OnJ (S6 k) W vo w.heap.size bz bz → Calls Tryz.prog 34 #[vo] W fun ex w' => ex = .returned (.int .i64 (k : Int)) ∧ OnJ (S6 k) w' vo w.heap.size bz bz ∧ Keep w.heap.size bz bz W w') := hH7
  have H8 : Hid (∀ (k : Nat) W vo bz, OnJ (S6 k) W vo w.heap.size bz bz → Calls Tryz.prog 35 #[vo] W fun ex w' => ex = .returned (.int .i64 (k : Int)) ∧ OnJ (S6 k) w' vo w.heap.size bz bz ∧ Keep w.heap.size bz bz W w') := hH8
  have H9 : Hid (∀ (k : Nat) W vo bz, OnJ (S6 k) W vo w.heap.size bz bz → Calls Tryz.prog 36 #[vo] W fun ex w' => ex = .returned (.agg #[.int .i64 0, .int .i64 0, .bool true]) ∧ OnJ (S6 k) w' vo w.heap.size bz bz ∧ Keep w.heap.size bz bz W w') := hH9
  have HCO : Hid (∀ W, Below w.heap.size w W → Calls Tryz.prog 15 #[.slice sl n d] W fun ex w' => ex = .returned (.int .i64 q) ∧ Below W.heap.size W w') := hHCO
  have HNW : Hid (∀ W, Below w.heap.size w W → Calls Tryz.prog 29 #[.slice sl n d] W fun ex w' => ex = .returned (.tuple #[.pointer none, errOf q]) ∧ Below W.heap.size W w') := hHNW
  have z2 : (q != 0) = true := by rw [bne, z1]; rfl
  clear hd hHC0 hHN0 hH1 hH2 hH3 hH4 hH5 hH6 hH7 hH8 hH9 hHCO hHNW
  have q1 : True := trivial; have q2 : True := trivial; have q3 : True := trivial; have q4 : True := trivial; have q5 : True := trivial; have q6 : True := trivial; have q7 : True := trivial; have q8 : True := trivial; have q9 : True := trivial; have q10 : True := trivial; have q11 : True := trivial
  have m1 : True := trivial; have m2 : True := trivial
  go_enter Tryz.func5, Tryz.ntmps5
  go_upto_region 5 with (first | (go_at_call 14; clear m1; refine (HC0.out _).mono ?_; rintro e w1 ⟨rfl, hbw1⟩; have hqw1 : Below w.heap.size w w1 := (by repeat (first | (with_reducible first | exact Below.refl _ _ | assumption | refine Below.setCell ?_ (by first | simp <;> omega | omega) _ | refine Below.alloc ?_ (by first | simp <;> omega | omega) _) | refine bl_call ?_ (by assumption) (by first | simp <;> omega | omega) | (with_reducible first | refine bl_drewN ?_ | refine Below.drew ?_ | refine bl_grow ?_ (by first | simp <;> omega | omega)))); have hzw1 := hqw1.size; clear hbw1) | (go_at_call 29; clear m2; refine (HN0.out _).mono ?_; rintro e w2 ⟨vo, Q0, rfl, hs2, hQ2, hb2⟩; have kzw2 : At w2 (w1.heap.size) [.int .i64 ((R0).1 : Int), .int .i64 ((R0).2.1 : Int), .bool (R0).2.2, .int .i64 z0] := (by repeat (first | (with_reducible first | assumption | (refine at_new' _ _ _ _ ?_; first | rfl | (simp; done)) | refine At.alloc ?_ _ | refine At.drew ?_ | refine At.drewN ?_ | refine At.set ?_ (by omega) | apply At.store4 | apply At.store3 | apply At.store2 | apply At.put43) | refine At.below ?_ (by with_reducible assumption))); have hqw2 : Below w.heap.size w w2 := (by repeat (first | (with_reducible first | exact Below.refl _ _ | assumption | refine Below.setCell ?_ (by first | simp <;> omega | omega) _ | refine Below.alloc ?_ (by first | simp <;> omega | omega) _) | refine bl_call ?_ (by assumption) (by first | simp <;> omega | omega) | (with_reducible first | refine bl_drewN ?_ | refine Below.drew ?_ | refine bl_grow ?_ (by first | simp <;> omega | omega)))); have hzw2 := hqw2.size; have hb2s := hb2.size; (try simp at hb2s); (try simp at hQ2); obtain ⟨zzw2, cz0w2, cz1w2, cz2w2, cz3w2, fz0w2, fz1w2, fz2w2, fz3w2⟩ := kzw2.four; clear hb2))
  obtain ⟨bz, hbz⟩ : ∃ bz, w1.heap.size = bz := ⟨_, rfl⟩
  refine wp_gen (fun Y => At Y (w1.heap.size) [.int .i64 ((R0).1 : Int), .int .i64 ((R0).2.1 : Int), .bool (R0).2.2, .int .i64 z0] ∧ OnJ S1 Y vo w.heap.size (w1.heap.size) (w1.heap.size) ∧ Below w.heap.size w Y) ⟨by repeat (first | (with_reducible first | assumption | (refine at_new' _ _ _ _ ?_; first | rfl | (simp; done)) | refine At.alloc ?_ _ | refine At.drew ?_ | refine At.drewN ?_ | refine At.set ?_ (by omega) | apply At.store4 | apply At.store3 | apply At.store2 | apply At.put43) | refine At.below ?_ (by with_reducible assumption)), ⟨Q0, hs2, (fun j hj => by have := hQ2 j hj; omega), (fun e => by have := hQ2 _ e; omega), (fun e => by have := hQ2 _ e; omega), by omega, by omega, by omega⟩, by repeat (first | (with_reducible first | exact Below.refl _ _ | assumption | refine Below.setCell ?_ (by first | simp <;> omega | omega) _ | refine Below.alloc ?_ (by first | simp <;> omega | omega) _) | refine bl_call ?_ (by assumption) (by first | simp <;> omega | omega) | (with_reducible first | refine bl_drewN ?_ | refine Below.drew ?_ | refine bl_grow ?_ (by first | simp <;> omega | omega)))⟩ ?_
  rw [hbz]
  rintro Y ⟨kzY, hJY, hqY⟩
  have hzY := hqY.size
  obtain ⟨zzY, cz0Y, cz1Y, cz2Y, cz3Y, fz0Y, fz1Y, fz2Y, fz3Y⟩ := kzY.four
  clear hs2 hQ2 kzw2 cz0w2 fz0w2 cz1w2 fz1w2 cz2w2 fz2w2 cz3w2 fz3w2 hqw2
  go_upto_region 12 with (first | (go_at_call 31; clear q1; refine (H1.out _ vo bz hJY).mono ?_; rintro e y1 ⟨rfl, hJy1, hky1⟩; have kzy1 : At y1 bz [.int .i64 ((R0).1 : Int), .int .i64 ((R0).2.1 : Int), .bool (R0).2.2, .int .i64 z0] := hky1.atz kzY; have hqy1 : Below w.heap.size w y1 := hky1.below hqY; have hzy1 := hqy1.size; obtain ⟨zzy1, cz0y1, cz1y1, cz2y1, cz3y1, fz0y1, fz1y1, fz2y1, fz3y1⟩ := kzy1.four) | (go_at_call 32; clear q2; refine (H2.out _ vo bz hJy1).mono ?_; rintro e y2 ⟨rfl, hJy2, hky2⟩; have kzy2 : At y2 bz [.int .i64 ((R0).1 : Int), .int .i64 ((R0).2.1 : Int), .bool (R0).2.2, .int .i64 z0] := hky2.atz kzy1; have hqy2 : Below w.heap.size w y2 := hky2.below hqy1; have hzy2 := hqy2.size; obtain ⟨zzy2, cz0y2, cz1y2, cz2y2, cz3y2, fz0y2, fz1y2, fz2y2, fz3y2⟩ := kzy2.four) | (go_at_call 31; clear q3; refine (H3.out _ vo bz hJy2).mono ?_; rintro e y3 ⟨rfl, hJy3, hky3⟩; have kzy3 : At y3 bz [.int .i64 ((R0).1 : Int), .int .i64 ((R0).2.1 : Int), .bool (R0).2.2, .int .i64 z0] := hky3.atz kzy2; have hqy3 : Below w.heap.size w y3 := hky3.below hqy2; have hzy3 := hqy3.size; obtain ⟨zzy3, cz0y3, cz1y3, cz2y3, cz3y3, fz0y3, fz1y3, fz2y3, fz3y3⟩ := kzy3.four) | (go_at_call 35; clear q4; refine (H4.out _ vo bz hJy3).mono ?_; rintro e y4 ⟨k0, rfl, hJy4, hky4⟩; have kzy4 : At y4 bz [.int .i64 ((R0).1 : Int), .int .i64 ((R0).2.1 : Int), .bool (R0).2.2, .int .i64 z0] := hky4.atz kzy3; have hqy4 : Below w.heap.size w y4 := hky4.below hqy3; have hzy4 := hqy4.size; obtain ⟨zzy4, cz0y4, cz1y4, cz2y4, cz3y4, fz0y4, fz1y4, fz2y4, fz3y4⟩ := kzy4.four) | (go_at_call 33; clear q5; refine (H5.out k0 _ vo bz hJy4).mono ?_; rintro e y5 ⟨rfl, hJy5, hky5⟩; have kzy5 : At y5 bz [.int .i64 ((R0).1 : Int), .int .i64 ((R0).2.1 : Int), .bool (R0).2.2, .int .i64 z0] := hky5.atz kzy4; have hqy5 : Below w.heap.size w y5 := hky5.below hqy4; have hzy5 := hqy5.size; obtain ⟨zzy5, cz0y5, cz1y5, cz2y5, cz3y5, fz0y5, fz1y5, fz2y5, fz3y5⟩ := kzy5.four; have hk2 : ¬ (k0 : Int) < 2 := (by have := H6.out k0 _ vo bz hJy5; omega); have hk3 : ((k0 : Int) != (k0 : Int)) = false := (by simp)) | (go_at_call 34; clear q6; refine (H7.out k0 _ vo bz hJy5).mono ?_; rintro e y6 ⟨rfl, hJy6, hky6⟩; have kzy6 : At y6 bz [.int .i64 ((R0).1 : Int), .int .i64 ((R0).2.1 : Int), .bool (R0).2.2, .int .i64 z0] := hky6.atz kzy5; have hqy6 : Below w.heap.size w y6 := hky6.below hqy5; have hzy6 := hqy6.size; obtain ⟨zzy6, cz0y6, cz1y6, cz2y6, cz3y6, fz0y6, fz1y6, fz2y6, fz3y6⟩ := kzy6.four) | (go_at_call 35; clear q7; refine (H8.out k0 _ vo bz hJy6).mono ?_; rintro e y7 ⟨rfl, hJy7, hky7⟩; have kzy7 : At y7 bz [.int .i64 ((R0).1 : Int), .int .i64 ((R0).2.1 : Int), .bool (R0).2.2, .int .i64 z0] := hky7.atz kzy6; have hqy7 : Below w.heap.size w y7 := hky7.below hqy6; have hzy7 := hqy7.size; obtain ⟨zzy7, cz0y7, cz1y7, cz2y7, cz3y7, fz0y7, fz1y7, fz2y7, fz3y7⟩ := kzy7.four) | (go_at_call 36; clear q8; refine (H9.out k0 _ vo bz hJy7).mono ?_; rintro e y8 ⟨rfl, hJy8, hky8⟩; have kzy8 : At y8 bz [.int .i64 ((R0).1 : Int), .int .i64 ((R0).2.1 : Int), .bool (R0).2.2, .int .i64 z0] := hky8.atz kzy7; have hqy8 : Below w.heap.size w y8 := hky8.below hqy7; have hzy8 := hqy8.size; obtain ⟨zzy8, cz0y8, cz1y8, cz2y8, cz3y8, fz0y8, fz1y8, fz2y8, fz3y8⟩ := kzy8.four))
  refine wp_gen (fun S => Below w.heap.size w S) hqy8 ?_
  rintro S hqS
  have hzS := hqS.size
  clear kzy1 cz0y1 fz0y1 cz1y1 fz1y1 cz2y1 fz2y1 cz3y1 fz3y1 kzy2 cz0y2 fz0y2 cz1y2 fz1y2 cz2y2 fz2y2 cz3y2 fz3y2 kzy3 cz0y3 fz0y3 cz1y3 fz1y3 cz2y3 fz2y3 cz3y3 fz3y3 kzy4 cz0y4 fz0y4 cz1y4 fz1y4 cz2y4 fz2y4 cz3y4 fz3y4 kzy5 cz0y5 fz0y5 cz1y5 fz1y5 cz2y5 fz2y5 cz3y5 fz3y5 kzy6 cz0y6 fz0y6 cz1y6 fz1y6 cz2y6 fz2y6 cz3y6 fz3y6 kzy7 cz0y7 fz0y7 cz1y7 fz1y7 cz2y7 fz2y7 cz3y7 fz3y7 kzy8 cz0y8 fz0y8 cz1y8 fz1y8 cz2y8 fz2y8 cz3y8 fz3y8 kzY cz0Y fz0Y cz1Y fz1Y cz2Y fz2Y cz3Y fz3Y hJy1 hqy1 hky1 hJy2 hqy2 hky2 hJy3 hqy3 hky3 hJy4 hqy4 hky4 hJy5 hqy5 hky5 hJy6 hqy6 hky6 hJy7 hqy7 hky7 hJy8 hqy8 hky8 hJY hqY
  go_wp2_with (first | (go_at_call 15; refine (HCO.out _ hqS).mono ?_; rintro e w9 ⟨rfl, hb9⟩; have hq9 : Below w.heap.size w w9 := bl_call hqS hb9 hzS; have hz9 := hq9.size; clear hb9) | (go_at_call 29; refine (HNW.out _ hq9).mono ?_; rintro e w10 ⟨rfl, hb10⟩; have hq10 : Below w.heap.size w w10 := bl_call hq9 hb10 hz9; have hz10 := hq10.size) | (go_at_call 9; refine (same_below _ _ _ (isErr_err q) (HD.out.under hq10)).mono ?_; rintro e w11 ⟨rfl, hb11⟩; have hq11 : Below w.heap.size w w11 := bl_call hq10 hb11 hz10; have hz11 := hq11.size))
  go_ret
  exact ⟨rfl, hq11⟩
end Go.Proofs.YtpkkclcjiobgoajGreatDoor

/- stonelaw3.LogKeeps answers true, by what packages book and log are to answer. -/
namespace Go.Proofs.YtpkkclcjiobgoajGreatDoor
open Go.RowKit Go.Sort
set_option linter.unusedVariables false
set_option linter.unusedSimpArgs false
/-- A log of no coins at all. -/
def kBare (s : LogS) : Prop := (∀ i, i ≤ s.r → s.n i = 0)
theorem kBare.add {s : LogS} (h : kBare s) (a : Nat) (K : Nat → Nat) (G : Nat → Bool) : kBare (s.add a 0 K G) := fun i hi => by
  by_cases e : i = s.r + 1
  · subst e; exact extN_at _ _ _
  · have : i < s.r + 1 := by have : i ≤ s.r + 1 := hi; omega
    exact (extN_lt s.n 0 this).trans (h i (by omega))
section
variable (PL : World → Value → (Nat → Prop) → LogS → Prop)
def k1 (W : World) (v : Value) (Q : Nat → Prop) : Prop := ∃ s, PL W v Q s ∧ kBare s ∧ s.r = 0 ∧ s.stop = false ∧ s.left = none
def k2 (W : World) (v : Value) (Q : Nat → Prop) : Prop := ∃ s, PL W v Q s ∧ kBare s ∧ s.r = 1 ∧ s.stop = false ∧ s.left = none ∧ s.M 1 = s.all ∧ 2 ≤ s.all
def k3 (W : World) (v : Value) (Q : Nat → Prop) : Prop := ∃ s, PL W v Q s ∧ kBare s ∧ s.r = 1 ∧ s.stop = false ∧ s.left = none ∧ s.M 1 = s.safe ∧ s.all = s.safe ∧ 2 ≤ s.safe
def k5 (k : Nat) (W : World) (v : Value) (Q : Nat → Prop) : Prop := ∃ s, PL W v Q s ∧ kBare s ∧ s.r = 2 ∧ s.M 1 = k ∧ s.safe = k ∧ k + 2 ≤ s.M 2 ∧ 2 ≤ k
def k4 (W : World) (v : Value) (Q : Nat → Prop) : Prop := ∃ k, k5 PL k W v Q
def k6 (k : Nat) (W : World) (v : Value) (Q : Nat → Prop) : Prop := ∃ s, PL W v Q s ∧ s.n s.r = 0 ∧ s.all = k ∧ s.safe = k ∧ 2 ≤ k
theorem kb_do1 (hO : PLok PL) (hD : LDoIs PL) (T : Sn) (z : Nat) (hT : T = tM (4 * clR 1)) (hz : z = clS 0 1 0) (W : World) (vo : Value) (A bz : Nat) (h : OnJ (k1 PL) W vo A bz bz) : Calls Tryz.prog 31 #[vo, .agg #[.slice none 0 0, .slice none 0 0, .int .i64 (T.1 : Int), .int .i64 (T.2.1 : Int), .bool T.2.2, .int .i64 (z : Int)]] W fun ex w' => ex = .returned (.nilIface) ∧ OnJ (k2 PL) w' vo A bz bz ∧ Keep A bz bz W w' := by
  obtain ⟨Q, ⟨s, hp, hb, hr, hst, hle⟩, hA, n1, n2, hw, l1, l2⟩ := h
  obtain ⟨w1, w2, w3⟩ := tz_wf hT hz
  refine (hD.2.2.2 vo Q s (nilD T z 0) none none 0 0 0 (s.n s.r) (s.K s.r) (s.G s.r) W (by omega) (Nat.zero_le _) (Nat.zero_le _) (Nat.zero_le _) (fun _ => rfl) (fun i hi => absurd hi (Nat.not_lt_zero _)) w1 w2 w3 (Or.inl rfl) (Or.inl rfl) hp (nilD_is T z hT hz _ _ _ (by rw [hb _ (Nat.le_refl _)]; omega)) hst rfl (by rw [hle]; intro e; cases e)).mono ?_
  rintro ex w' ⟨rfl, n, hn, hd⟩
  rw [hb _ (Nat.le_refl _)] at hd
  obtain ⟨j1, j2⟩ := onj_done PL (S' := k2 PL) hO hA n1 n2 hw l1 l2 hd (fun Q' hq => ⟨_, hq, hb.add _ _ _, by show s.r + 1 = 1; omega, rfl, by show lessO s.left = none; rw [hle]; rfl, by show extN s.M (s.r + 1) n 1 = n; rw [hr]; exact extN_at _ _ _, by show 2 ≤ n; omega⟩)
  exact ⟨rfl, j1, j2⟩
theorem kb_sy (hO : PLok PL) (hS : LSyncIs PL) (W : World) (vo : Value) (A bz : Nat) (h : OnJ (k2 PL) W vo A bz bz) : Calls Tryz.prog 32 #[vo] W fun ex w' => ex = .returned (.nilIface) ∧ OnJ (k3 PL) w' vo A bz bz ∧ Keep A bz bz W w' := by
  obtain ⟨Q, ⟨s, hp, hb, hr, hst, hle, hM, h2⟩, hA, n1, n2, hw, l1, l2⟩ := h
  refine (hS.2.2 vo Q s W hp hst (by rw [hle]; intro e; cases e)).mono ?_
  rintro ex w' ⟨rfl, hd⟩
  obtain ⟨j1, j2⟩ := onj_done PL (S' := k3 PL) hO hA n1 n2 hw l1 l2 hd (fun Q' hq => ⟨_, hq, hb, hr, hst, by show lessO s.left = none; rw [hle]; rfl, hM, rfl, h2⟩)
  exact ⟨rfl, j1, j2⟩
theorem kb_do2 (hO : PLok PL) (hD : LDoIs PL) (T : Sn) (z : Nat) (hT : T = tM (4 * clR 1)) (hz : z = clS 0 1 0) (W : World) (vo : Value) (A bz : Nat) (h : OnJ (k3 PL) W vo A bz bz) : Calls Tryz.prog 31 #[vo, .agg #[.slice none 0 0, .slice none 0 0, .int .i64 (T.1 : Int), .int .i64 (T.2.1 : Int), .bool T.2.2, .int .i64 (z : Int)]] W fun ex w' => ex = .returned (.nilIface) ∧ OnJ (k4 PL) w' vo A bz bz ∧ Keep A bz bz W w' := by
  obtain ⟨Q, ⟨s, hp, hb, hr, hst, hle, hM, ha, h2⟩, hA, n1, n2, hw, l1, l2⟩ := h
  obtain ⟨w1, w2, w3⟩ := tz_wf hT hz
  refine (hD.2.2.2 vo Q s (nilD T z 0) none none 0 0 0 (s.n s.r) (s.K s.r) (s.G s.r) W (by omega) (Nat.zero_le _) (Nat.zero_le _) (Nat.zero_le _) (fun _ => rfl) (fun i hi => absurd hi (Nat.not_lt_zero _)) w1 w2 w3 (Or.inl rfl) (Or.inl rfl) hp (nilD_is T z hT hz _ _ _ (by rw [hb _ (Nat.le_refl _)]; omega)) hst rfl (by rw [hle]; intro e; cases e)).mono ?_
  rintro ex w' ⟨rfl, n, hn, hd⟩
  rw [hb _ (Nat.le_refl _)] at hd
  obtain ⟨j1, j2⟩ := onj_done PL (S' := k4 PL) hO hA n1 n2 hw l1 l2 hd (fun Q' hq => ⟨s.safe, _, hq, hb.add _ _ _, by show s.r + 1 = 2; omega, by show extN s.M (s.r + 1) n 1 = s.safe; rw [hr]; exact (extN_lt s.M n (by omega)).trans hM, rfl, by show s.safe + 2 ≤ extN s.M (s.r + 1) n 2; rw [hr, show extN s.M (1 + 1) n 2 = n from extN_at s.M 2 n]; omega, h2⟩)
  exact ⟨rfl, j1, j2⟩
theorem kb_sa (hO : PLok PL) (hSa : LSafeIs PL) (W : World) (vo : Value) (A bz : Nat) (h : OnJ (k4 PL) W vo A bz bz) : Calls Tryz.prog 35 #[vo] W fun ex w' => ∃ k : Nat, ex = .returned (.int .i64 (k : Int)) ∧ OnJ (k5 PL k) w' vo A bz bz ∧ Keep A bz bz W w' := by
  obtain ⟨Q, ⟨k, s, hp, hb, hr, hM, hs, hM2, h2⟩, hA, n1, n2, hw, l1, l2⟩ := h
  refine (hSa vo Q s W hp).mono ?_
  rintro ex w' ⟨rfl, hbw⟩
  obtain ⟨j1, j2⟩ := onj_read (S := k5 PL k) (fun Q ⟨s, hp, hx⟩ => ⟨s, pl_up PL hO hp hbw, hx⟩) ⟨Q, ⟨s, hp, hb, hr, hM, hs, hM2, h2⟩, hA, n1, n2, hw, l1, l2⟩ hbw
  exact ⟨k, by rw [hs], j1, j2⟩
theorem kb_cr (hO : PLok PL) (hCr : LCrashIs PL) (k : Nat) (W : World) (vo : Value) (A bz : Nat) (h : OnJ (k5 PL k) W vo A bz bz) : Calls Tryz.prog 33 #[vo, .int .i64 0] W fun ex w' => ex = .returned (.tuple #[]) ∧ OnJ (k6 PL k) w' vo A bz bz ∧ Keep A bz bz W w' := by
  obtain ⟨Q, ⟨s, hp, hb, hr, hM, hs, hM2, h2⟩, hA, n1, n2, hw, l1, l2⟩ := h
  refine (hCr vo Q s 0 W hp (by omega) (lwf (by omega) (by omega))).mono ?_
  rintro ex w' ⟨rfl, hd⟩
  have hh : s.high 0 = k := by unfold LogS.high; rw [hs]; show k + min 0 _ = k; omega
  have hl : lastM s.M (s.high 0) s.r = 1 := by
    have e2 : lastM s.M k 2 = lastM s.M k 1 := lastM_no (r := 1) (by show ¬ s.M 2 ≤ k; omega)
    have e1 : lastM s.M k 1 = 1 := lastM_yes (r := 0) (by show s.M 1 ≤ k; omega)
    rw [hh, hr, e2, e1]
  obtain ⟨j1, j2⟩ := onj_done PL (S' := k6 PL k) hO hA n1 n2 hw l1 l2 hd (fun Q' hq => ⟨_, hq, by show s.n (lastM s.M (s.high 0) s.r) = 0; rw [hl]; exact hb 1 (by omega), by show s.M (lastM s.M (s.high 0) s.r) = k; rw [hl]; exact hM, by show s.M (lastM s.M (s.high 0) s.r) = k; rw [hl]; exact hM, h2⟩)
  exact ⟨rfl, j1, j2⟩
theorem kb_rd (hO : PLok PL) (k : Nat) (F : Nat) (args : Array Value) (res : Value) (W : World) (vo : Value) (A bz : Nat) (h : OnJ (k6 PL k) W vo A bz bz) (hc : ∀ Q s, PL W vo Q s → s.n s.r = 0 → s.all = k → s.safe = k → Calls Tryz.prog F args W fun ex w' => ex = .returned res ∧ Below W.heap.size W w') : Calls Tryz.prog F args W fun ex w' => ex = .returned (res) ∧ OnJ (k6 PL k) w' vo A bz bz ∧ Keep A bz bz W w' := by
  obtain ⟨Q, ⟨s, hp, hn, ha, hs, h2⟩, hA, n1, n2, hw, l1, l2⟩ := h
  refine (hc Q s hp hn ha hs).mono ?_
  rintro ex w' ⟨rfl, hbw⟩
  obtain ⟨j1, j2⟩ := onj_read (S := k6 PL k) (fun Q ⟨s, hp, hx⟩ => ⟨s, pl_up PL hO hp hbw, hx⟩) ⟨Q, ⟨s, hp, hn, ha, hs, h2⟩, hA, n1, n2, hw, l1, l2⟩ hbw
  exact ⟨rfl, j1, j2⟩
end
theorem kb_rows {w : World} {n : Nat} {s : Option Addr} (u : n = 0 ∨ ∃ (b o : Nat) (X : Nat → Int), s = some ⟨b, o, none⟩ ∧ RowI w b o n X ∧ ∀ i, i < n → (Lit.int .i64 (X i)).wf = true) : ∃ X : Nat → Int, (n = 0 ∨ ∃ b o : Nat, s = some ⟨b, o, none⟩ ∧ RowI w b o n X) ∧ ∀ i, i < n → (Lit.int .i64 (X i)).wf = true := by
  rcases u with h | ⟨b, o, X, e, r, wf⟩
  · exact ⟨fun _ => 0, Or.inl h, fun i hi => by omega⟩
  · exact ⟨X, Or.inr ⟨b, o, e, r⟩, wf⟩
theorem logKeeps_by (PL : World → Value → (Nat → Prop) → LogS → Prop) (hO : PLok PL) (hC : BCloseIs) (hN : LNewIs PL) (hD : LDoIs PL) (hS : LSyncIs PL) (hF : LFailIs PL) (hCr : LCrashIs PL) (hL : LLiveIs PL) (hT : LTotalIs PL) (hB : LBytesIs PL) (hSa : LSafeIs PL) (w : World) (sl : Option Addr) (n d : Nat) (sa : Option Addr) (L ca : Nat) (sy : Option Addr) (ny cy : Nat) (sf : Option Addr) (nf cf : Nat) (sk : Option Addr) (nk ck : Nat)
    (uK : n = 0 ∨ ∃ (b o : Nat) (X Y : Nat → Int) (F : Nat → Bool), sl = some ⟨b, o, none⟩ ∧ RowO w b o n X Y F) (kd : n ≤ d) (nl : sl = none → d = 0) (uD : L = 0 ∨ ∃ (b o : Nat) (D : Nat → DealV), sa = some ⟨b, o, none⟩ ∧ RowD w b o L D)
    (uy : (ny = 0 ∨ ∃ (b o : Nat) (X : Nat → Int), sy = some ⟨b, o, none⟩ ∧ RowI w b o ny X ∧ ∀ i, i < ny → (Lit.int .i64 (X i)).wf = true)) (uf : (nf = 0 ∨ ∃ (b o : Nat) (X : Nat → Int), sf = some ⟨b, o, none⟩ ∧ RowI w b o nf X ∧ ∀ i, i < nf → (Lit.int .i64 (X i)).wf = true)) (uk : (nk = 0 ∨ ∃ (b o : Nat) (X : Nat → Int), sk = some ⟨b, o, none⟩ ∧ RowI w b o nk X ∧ ∀ i, i < nk → (Lit.int .i64 (X i)).wf = true)) (hd : Door w) :
    Calls Tryz.prog 5 #[.slice sl n d, .slice sa L ca, .slice sy ny cy, .slice sf nf cf, .slice sk nk ck] w fun e w' => e = .returned (.bool true) ∧ Below w.heap.size w w' := by
  obtain ⟨X, Y, F, hr⟩ : ∃ (X Y : Nat → Int) (F : Nat → Bool), n = 0 ∨ ∃ b o : Nat, sl = some ⟨b, o, none⟩ ∧ RowO w b o n X Y F := by
    rcases uK with h | ⟨b, o, X, Y, F, e, q⟩
    · exact ⟨fun _ => 0, fun _ => 0, fun _ => false, Or.inl h⟩
    · exact ⟨X, Y, F, Or.inr ⟨b, o, e, q⟩⟩
  obtain ⟨Xy, ry, wy⟩ := kb_rows uy
  obtain ⟨Xf, rf, wf⟩ := kb_rows uf
  obtain ⟨Xk, rk, wk⟩ := kb_rows uk
  have h0 : ∀ w, Calls Tryz.prog 14 #[.int .i64 0, .int .i64 1, .agg #[.int .i64 0, .int .i64 0, .bool true]] w fun ex w' => ex = .returned (.tuple #[.agg #[.int .i64 ((tM (4 * clR 1)).1 : Int), .int .i64 ((tM (4 * clR 1)).2.1 : Int), .bool (tM (4 * clR 1)).2.2, .int .i64 (clS 0 1 0 : Int)], .nilIface]) ∧ Below w.heap.size w w' := fun w => hC.2.2 0 1 (4 * 0) w (by omega) (by omega) (by omega)
  obtain ⟨T, hT0⟩ : ∃ T, T = tM (4 * clR 1) := ⟨_, rfl⟩
  obtain ⟨z, hz⟩ : ∃ z, z = clS 0 1 0 := ⟨_, rfl⟩
  rw [← hT0, ← hz] at h0
  have h1 : ∀ W, Calls Tryz.prog 29 #[.slice none 0 0] W fun ex w' => ∃ vo Q, ex = .returned (.tuple #[vo, .nilIface]) ∧ k1 PL w' vo Q ∧ (∀ i, Q i → W.heap.size ≤ i ∧ i < w'.heap.size) ∧ Below W.heap.size W w' := fun W => by
    refine (hN.2 none 0 0 (fun _ => 0) (fun _ => 0) (fun _ => false) (fun _ => 0) W (by omega) (Nat.le_refl _) (fun _ => rfl) (Or.inl rfl) (fun i hi => absurd hi (Nat.not_lt_zero _))).mono ?_
    rintro ex w' ⟨v, Q, e1, e2, e3, e4⟩
    exact ⟨v, Q, e1, ⟨_, e2, fun i _ => rfl, rfl, rfl, rfl⟩, fun i hi => ⟨e3 i hi, hO.lt e2 i hi⟩, e4⟩
  have a1 := fun W vo bz h => kb_do1 PL hO hD T z hT0 hz W vo w.heap.size bz h
  have a2 := fun W vo bz h => kb_sy PL hO hS W vo w.heap.size bz h
  have a3 := fun W vo bz h => kb_do2 PL hO hD T z hT0 hz W vo w.heap.size bz h
  have a4 := fun W vo bz h => kb_sa PL hO hSa W vo w.heap.size bz h
  have a5 := fun k W vo bz h => kb_cr PL hO hCr k W vo w.heap.size bz h
  have a6 : ∀ (k : Nat) W vo bz, OnJ (k6 PL k) W vo w.heap.size bz bz → k ≥ 2 := fun k W vo bz h => by
    obtain ⟨Q, ⟨s, _, _, _, _, h2⟩, _⟩ := h
    exact h2
  have a7 := fun (k : Nat) W vo bz h => kb_rd PL hO k 34 #[vo] (.int .i64 (k : Int)) W vo w.heap.size bz h (fun Q s hp _ ha _ => by have := hB vo Q s W hp; rwa [ha] at this)
  have a8 := fun (k : Nat) W vo bz h => kb_rd PL hO k 35 #[vo] (.int .i64 (k : Int)) W vo w.heap.size bz h (fun Q s hp _ _ hs => by have := hSa vo Q s W hp; rwa [hs] at this)
  have a9 := fun (k : Nat) W vo bz h => kb_rd PL hO k 36 #[vo] (.agg #[.int .i64 0, .int .i64 0, .bool true]) W vo w.heap.size bz h (fun Q s hp hn _ _ => by have := hT vo Q s W hp; rw [hn] at this; exact this)
  obtain ⟨q, hq⟩ := come_is X Y F n
  cases hz0 : q == 0 with
  | false =>
    exact lkeeps_no T z (k1 PL) (k2 PL) (k3 PL) (k4 PL) (k5 PL) (k6 PL) n d L ca ny cy nf cf nk ck sl sa sy sf sk w hd q (by rw [toldI_err]; simp) hz0 h0 h1 a1 a2 a3 a4 a5 a6 a7 a8 a9
      (fun W k => rcoins_is sl n d X Y F q W (xrow_up hr k) hq) (fun W k => hN.1 sl n d X Y F q W kd nl (xrow_up hr k) hq hz0)
  | true =>
    obtain rfl : q = 0 := by simpa using hz0
    obtain ⟨h12, K, hK⟩ := hq.ok
    exact lkeeps_main PL T z (k1 PL) (k2 PL) (k3 PL) (k4 PL) (k5 PL) (k6 PL) n d L ca ny cy nf cf nk ck sl sa sy sf sk w hd K Xy Xf Xk h12 h0 h1 a1 a2 a3 a4 a5 a6 a7 a8 a9
      (fun W k => rcoins_is sl n d X Y F 0 W (xrow_up hr k) hq) (fun W k => hN.2 sl n d X Y F K W h12 kd nl (xrow_up hr k) hK) (fun W k => rnew sl n d X Y F K W h12 nl (xrow_up hr k) hK) uD ry rf rk wf wk hO hD hS hF hCr hL hT hB hSa
end Go.Proofs.YtpkkclcjiobgoajGreatDoor
