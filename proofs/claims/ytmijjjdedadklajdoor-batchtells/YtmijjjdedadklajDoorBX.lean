/- Texts joined: RefBy RefAsk RefSum RefSeal SameRows Gate. What the plain reckoning of so many times the base (stoneref2.By) and of a share (stoneref2.Share) answers. What the plain reckoning of a challenge (stoneref2.Ask) answers. What the plain reckoning of so many times the base and so many times another spot (stoneref1.Sum) answers. What the plain reckoning of seals (stoneref2: Secret, Rest, By, Ask, Sign, Seal, Right; stoneref1.Sum) answers. stonesame.Ints, Shares, Spots of two lists that hold the same. A region that draws its order, in two parts: the first only reads (its callees may lay memory), and all of it is waited for by its last operation, for which the second part waits: the first part is walked once, in the order of the text; behind it the second part is left to be walked. Of whatever program. -/
import Derived.Test.YtmijjjdedadklajDoorRefTimes
import Derived.Test.YtmijjjdedadklajDoorRefSec
import Derived.Test.YtmijjjdedadklajDoorSealMath
import Derived.Test.YtmijjjdedadklajDoorRefBytes
import Derived.Test.YtmijjjdedadklajDoorRefHash
import Derived.Deep.RegionHeld3
import Derived.Deep.CutRange
import Derived.Test.YtmijjjdedadklajDoorOwn
import Derived.BigQuiet
import Derived.Test.YtmijjjdedadklajDoorMem
import Derived.RegionTactic
/- RefBy -/
namespace Go.Proofs.YtmijjjdedadklajDoor
open Go.RowKit Go.Sort
set_option linter.unusedVariables false
set_option linter.unusedSimpArgs false
theorem rbase_is (w : World) : Calls Tryd.prog 20 #[] w fun e w' => e = .returned (.agg #[.int .i64 ((tM 4).1 : Int), .int .i64 ((tM 4).2.1 : Int), .bool (tM 4).2.2]) ∧ Below w.heap.size w w' := by
  rw [show (tM 4).2.2 = false by rw [tM_f]; rfl]
  exact rbase_f w
end Go.Proofs.YtmijjjdedadklajDoor
/- RefAsk -/
namespace Go.Proofs.YtmijjjdedadklajDoor
open Go.RowKit Go.Sort
set_option linter.unusedVariables false
set_option linter.unusedSimpArgs false
set_option maxRecDepth 100000 in
set_option maxHeartbeats 4000000 in
theorem rask_tM (i j : Nat) (t : ByteArray) (w : World) (ht : t.size ≤ 60) : Calls Tryd.prog 7 #[.agg #[.int .i64 ((tM i).1 : Int), .int .i64 ((tM i).2.1 : Int), .bool (tM i).2.2], .agg #[.int .i64 ((tM j).1 : Int), .int .i64 ((tM j).2.1 : Int), .bool (tM j).2.2], .string t] w fun e w' => e = .returned (.int .i64 (askN i j t : Int)) ∧ Below w.heap.size w w' := by
  have hs := join_size i j ht
  have HA := askI i j t
  have HN : Hid (∀ w, Calls Tryd.prog 18 #[.string (pkB (tM i) ++ pkB (tM j) ++ t)] w fun e w' => e = .returned (.int .i64 (askN i j t : Int)) ∧ Below w.heap.size w w') := fun w => by
    have := below_of_same (rnumber_any (pkB (tM i) ++ pkB (tM j) ++ t) w (by omega))
    rwa [HA] at this
  have p1 := pkB_size (tM i)
  have p2 := pkB_size (tM j)
  clear HA hs
  go_enter Tryd.func7, Tryd.ntmps7
  go_wp2_with fail
  refine wp_gen (fun V => At V (w.heap.size) [.int .i64 ((tM i).1 : Int), .int .i64 ((tM i).2.1 : Int), .bool (tM i).2.2] ∧ At V (w.heap.size + 1) [.int .i64 ((tM j).1 : Int), .int .i64 ((tM j).2.1 : Int), .bool (tM j).2.2] ∧ Below w.heap.size w V) ⟨by repeat (first | assumption | ((with_reducible refine at_new' _ _ _ _ ?_); (first | rfl | (simp; done))) | (with_reducible refine At.alloc ?_ _) | (with_reducible refine At.drewN ?_) | (with_reducible refine At.grow ?_) | (with_reducible refine At.store4 (by assumption)) | (with_reducible refine At.store3 (by assumption)) | (with_reducible refine At.store2 (by assumption)) | (with_reducible refine At.set ?_ (by omega)) | (with_reducible apply At.store4) | (with_reducible apply At.store3) | (with_reducible apply At.put43) | (refine At.below ?_ (by assumption))), by repeat (first | assumption | ((with_reducible refine at_new' _ _ _ _ ?_); (first | rfl | (simp; done))) | (with_reducible refine At.alloc ?_ _) | (with_reducible refine At.drewN ?_) | (with_reducible refine At.grow ?_) | (with_reducible refine At.store4 (by assumption)) | (with_reducible refine At.store3 (by assumption)) | (with_reducible refine At.store2 (by assumption)) | (with_reducible refine At.set ?_ (by omega)) | (with_reducible apply At.store4) | (with_reducible apply At.store3) | (with_reducible apply At.put43) | (refine At.below ?_ (by assumption))), by repeat (first | (with_reducible exact Below.refl _ _) | (with_reducible assumption) | (with_reducible refine Below.setCell ?_ (by first | (simp; done) | (simp; omega) | omega) _) | (with_reducible refine Below.alloc ?_ (by first | (simp; done) | (simp; omega) | omega) _) | (refine bl_call ?_ (by assumption) (by first | (simp; done) | (simp; omega) | omega)) | (with_reducible refine bl_drewN ?_) | (with_reducible refine Below.drew ?_) | (with_reducible refine bl_grow ?_ (by first | (simp; done) | (simp; omega) | omega)))⟩ ?_
  rintro V ⟨kaV, kbV, hqV⟩
  have hzV := hqV.size
  obtain ⟨zaV, ca0V, ca1V, ca2V, fa0V, fa1V, fa2V⟩ := kaV.three
  obtain ⟨zbV, cb0V, cb1V, cb2V, fb0V, fb1V, fb2V⟩ := kbV.three
  refine wp_region_quiet_below (by kernel_rfl) (by kernel_rfl) ?_
  repeat (go_big_quiet_step (first | (go_at_call 19; with_reducible exact Calls.regrown_of (rbytes_tM i _)) | (go_at_call 19; with_reducible exact Calls.regrown_of (rbytes_tM j _)) | (go_at_call 18; with_reducible exact Calls.regrown_of (HN.out _))))
  refine wpQuiet_nil ?_
  intro V2 hw1
  have hrV2 := regrown_below hw1
  clear hw1
  have kaV2 := kaV.below hrV2
  have kbV2 := kbV.below hrV2
  have hqV2 := bl_call hqV hrV2 (by omega)
  have hzV2 := hqV2.size
  clear hrV2 kaV ca0V fa0V ca1V fa1V ca2V fa2V kbV cb0V fb0V cb1V fb1V cb2V fb2V hqV
  obtain ⟨zaV2, ca0V2, ca1V2, ca2V2, fa0V2, fa1V2, fa2V2⟩ := kaV2.three
  obtain ⟨zbV2, cb0V2, cb1V2, cb2V2, fb0V2, fb1V2, fb2V2⟩ := kbV2.three
  go_wp2_with fail
  go_ret
  exact ⟨rfl, by repeat (first | (with_reducible exact Below.refl _ _) | (with_reducible assumption) | (with_reducible refine Below.setCell ?_ (by first | (simp; done) | (simp; omega) | omega) _) | (with_reducible refine Below.alloc ?_ (by first | (simp; done) | (simp; omega) | omega) _) | (refine bl_call ?_ (by assumption) (by first | (simp; done) | (simp; omega) | omega)) | (with_reducible refine bl_drewN ?_) | (with_reducible refine Below.drew ?_) | (with_reducible refine bl_grow ?_ (by first | (simp; done) | (simp; omega) | omega)))⟩
end Go.Proofs.YtmijjjdedadklajDoor
/- RefSum -/
namespace Go.Proofs.YtmijjjdedadklajDoor
open Go.RowKit Go.Sort
set_option linter.unusedVariables false
set_option linter.unusedSimpArgs false
set_option maxRecDepth 100000 in
set_option maxHeartbeats 4000000 in
theorem rsum_eq {n m : Int} {i : Nat} {r : Sn} (h : tM (4 * em n + i * em m) = r) (w : World) : Calls Tryd.prog 8 #[.int .i64 n, .int .i64 m, .agg #[.int .i64 ((tM i).1 : Int), .int .i64 ((tM i).2.1 : Int), .bool (tM i).2.2]] w fun e w' => e = .returned (.agg #[.int .i64 ((r).1 : Int), .int .i64 ((r).2.1 : Int), .bool (r).2.2]) ∧ Below w.heap.size w w' := by
  have E3 : Hid (∀ w, Calls Tryd.prog 9 #[.agg #[.int .i64 ((tM (4 * em n)).1 : Int), .int .i64 ((tM (4 * em n)).2.1 : Int), .bool (tM (4 * em n)).2.2], .agg #[.int .i64 ((tM (i * em m)).1 : Int), .int .i64 ((tM (i * em m)).2.1 : Int), .bool (tM (i * em m)).2.2]] w fun e w' => e = .returned (.agg #[.int .i64 ((r).1 : Int), .int .i64 ((r).2.1 : Int), .bool (r).2.2]) ∧ Below w.heap.size w w') := fun w => by
    have := radd_tM (4 * em n) (i * em m) w
    rwa [h] at this
  clear h
  have m1 : True := trivial; have m2 : True := trivial; have m3 : True := trivial; have m4 : True := trivial
  go_enter Tryd.func8, Tryd.ntmps8
  go_wp2_with (first | (go_at_call 20; clear m1; refine (rbase_is _).mono ?_; rintro e w1 ⟨rfl, hbw1⟩; have ksw1 : At w1 (w.heap.size) [.int .i64 ((tM i).1 : Int), .int .i64 ((tM i).2.1 : Int), .bool (tM i).2.2] := (by repeat (first | (with_reducible assumption) | ((with_reducible refine at_new' _ _ _ _ ?_); (first | rfl | (simp; done))) | (with_reducible refine At.alloc ?_ _) | (with_reducible refine At.drew ?_) | (with_reducible refine At.drewN ?_) | (with_reducible refine At.set ?_ (by omega)) | (with_reducible apply At.store4) | (with_reducible apply At.store3) | (with_reducible apply At.store2) | (with_reducible apply At.put43) | (refine At.below ?_ (by with_reducible assumption)))); have kzw1 : At w1 (w.heap.size + 1) [.int .i64 0, .int .i64 0, .bool false] := (by repeat (first | (with_reducible assumption) | ((with_reducible refine at_new' _ _ _ _ ?_); (first | rfl | (simp; done))) | (with_reducible refine At.alloc ?_ _) | (with_reducible refine At.drew ?_) | (with_reducible refine At.drewN ?_) | (with_reducible refine At.set ?_ (by omega)) | (with_reducible apply At.store4) | (with_reducible apply At.store3) | (with_reducible apply At.store2) | (with_reducible apply At.put43) | (refine At.below ?_ (by with_reducible assumption)))); have hqw1 : Below w.heap.size w w1 := (by repeat (first | (with_reducible exact Below.refl _ _) | (with_reducible assumption) | (with_reducible refine Below.setCell ?_ (by first | (simp; done) | (simp; omega) | omega) _) | (with_reducible refine Below.alloc ?_ (by first | (simp; done) | (simp; omega) | omega) _) | (refine bl_call ?_ (by assumption) (by first | (simp; done) | (simp; omega) | omega)) | (with_reducible refine bl_drewN ?_) | (with_reducible refine Below.drew ?_) | (with_reducible refine bl_grow ?_ (by first | (simp; done) | (simp; omega) | omega)))); have hzw1 := hqw1.size; obtain ⟨zsw1, cs0w1, cs1w1, cs2w1, fs0w1, fs1w1, fs2w1⟩ := ksw1.three; obtain ⟨zzw1, cz0w1, cz1w1, cz2w1, fz0w1, fz1w1, fz2w1⟩ := kzw1.three; clear hbw1) | (go_at_call 10; clear m2; refine (rtimes_tM 4 n _).mono ?_; rintro e w2 ⟨rfl, hbw2⟩; have ksw2 : At w2 (w.heap.size) [.int .i64 ((tM i).1 : Int), .int .i64 ((tM i).2.1 : Int), .bool (tM i).2.2] := (by repeat (first | (with_reducible assumption) | ((with_reducible refine at_new' _ _ _ _ ?_); (first | rfl | (simp; done))) | (with_reducible refine At.alloc ?_ _) | (with_reducible refine At.drew ?_) | (with_reducible refine At.drewN ?_) | (with_reducible refine At.set ?_ (by omega)) | (with_reducible apply At.store4) | (with_reducible apply At.store3) | (with_reducible apply At.store2) | (with_reducible apply At.put43) | (refine At.below ?_ (by with_reducible assumption)))); have kzw2 : At w2 (w.heap.size + 1) [.int .i64 0, .int .i64 0, .bool false] := (by repeat (first | (with_reducible assumption) | ((with_reducible refine at_new' _ _ _ _ ?_); (first | rfl | (simp; done))) | (with_reducible refine At.alloc ?_ _) | (with_reducible refine At.drew ?_) | (with_reducible refine At.drewN ?_) | (with_reducible refine At.set ?_ (by omega)) | (with_reducible apply At.store4) | (with_reducible apply At.store3) | (with_reducible apply At.store2) | (with_reducible apply At.put43) | (refine At.below ?_ (by with_reducible assumption)))); have hqw2 : Below w.heap.size w w2 := (by repeat (first | (with_reducible exact Below.refl _ _) | (with_reducible assumption) | (with_reducible refine Below.setCell ?_ (by first | (simp; done) | (simp; omega) | omega) _) | (with_reducible refine Below.alloc ?_ (by first | (simp; done) | (simp; omega) | omega) _) | (refine bl_call ?_ (by assumption) (by first | (simp; done) | (simp; omega) | omega)) | (with_reducible refine bl_drewN ?_) | (with_reducible refine Below.drew ?_) | (with_reducible refine bl_grow ?_ (by first | (simp; done) | (simp; omega) | omega)))); have hzw2 := hqw2.size; obtain ⟨zsw2, cs0w2, cs1w2, cs2w2, fs0w2, fs1w2, fs2w2⟩ := ksw2.three; obtain ⟨zzw2, cz0w2, cz1w2, cz2w2, fz0w2, fz1w2, fz2w2⟩ := kzw2.three; clear ksw1 cs0w1 fs0w1 cs1w1 fs1w1 cs2w1 fs2w1 kzw1 cz0w1 fz0w1 cz1w1 fz1w1 cz2w1 fz2w1 hqw1; clear hbw2) | (go_at_call 10; clear m3; refine (rtimes_tM i m _).mono ?_; rintro e w3 ⟨rfl, hbw3⟩; have ksw3 : At w3 (w.heap.size) [.int .i64 ((tM i).1 : Int), .int .i64 ((tM i).2.1 : Int), .bool (tM i).2.2] := (by repeat (first | (with_reducible assumption) | ((with_reducible refine at_new' _ _ _ _ ?_); (first | rfl | (simp; done))) | (with_reducible refine At.alloc ?_ _) | (with_reducible refine At.drew ?_) | (with_reducible refine At.drewN ?_) | (with_reducible refine At.set ?_ (by omega)) | (with_reducible apply At.store4) | (with_reducible apply At.store3) | (with_reducible apply At.store2) | (with_reducible apply At.put43) | (refine At.below ?_ (by with_reducible assumption)))); have kzw3 : At w3 (w.heap.size + 1) [.int .i64 0, .int .i64 0, .bool false] := (by repeat (first | (with_reducible assumption) | ((with_reducible refine at_new' _ _ _ _ ?_); (first | rfl | (simp; done))) | (with_reducible refine At.alloc ?_ _) | (with_reducible refine At.drew ?_) | (with_reducible refine At.drewN ?_) | (with_reducible refine At.set ?_ (by omega)) | (with_reducible apply At.store4) | (with_reducible apply At.store3) | (with_reducible apply At.store2) | (with_reducible apply At.put43) | (refine At.below ?_ (by with_reducible assumption)))); have kaw3 : At w3 (w2.heap.size) [.int .i64 ((tM (4 * em n)).1 : Int), .int .i64 ((tM (4 * em n)).2.1 : Int), .bool (tM (4 * em n)).2.2] := (by repeat (first | (with_reducible assumption) | ((with_reducible refine at_new' _ _ _ _ ?_); (first | rfl | (simp; done))) | (with_reducible refine At.alloc ?_ _) | (with_reducible refine At.drew ?_) | (with_reducible refine At.drewN ?_) | (with_reducible refine At.set ?_ (by omega)) | (with_reducible apply At.store4) | (with_reducible apply At.store3) | (with_reducible apply At.store2) | (with_reducible apply At.put43) | (refine At.below ?_ (by with_reducible assumption)))); have hqw3 : Below w.heap.size w w3 := (by repeat (first | (with_reducible exact Below.refl _ _) | (with_reducible assumption) | (with_reducible refine Below.setCell ?_ (by first | (simp; done) | (simp; omega) | omega) _) | (with_reducible refine Below.alloc ?_ (by first | (simp; done) | (simp; omega) | omega) _) | (refine bl_call ?_ (by assumption) (by first | (simp; done) | (simp; omega) | omega)) | (with_reducible refine bl_drewN ?_) | (with_reducible refine Below.drew ?_) | (with_reducible refine bl_grow ?_ (by first | (simp; done) | (simp; omega) | omega)))); have hzw3 := hqw3.size; obtain ⟨zsw3, cs0w3, cs1w3, cs2w3, fs0w3, fs1w3, fs2w3⟩ := ksw3.three; obtain ⟨zzw3, cz0w3, cz1w3, cz2w3, fz0w3, fz1w3, fz2w3⟩ := kzw3.three; obtain ⟨zaw3, ca0w3, ca1w3, ca2w3, fa0w3, fa1w3, fa2w3⟩ := kaw3.three; clear ksw2 cs0w2 fs0w2 cs1w2 fs1w2 cs2w2 fs2w2 kzw2 cz0w2 fz0w2 cz1w2 fz1w2 cz2w2 fz2w2 hqw2; clear hbw3) | (go_at_call 9; clear m4; refine (E3.out _).mono ?_; rintro e w4 ⟨rfl, hbw4⟩; have ksw4 : At w4 (w.heap.size) [.int .i64 ((tM i).1 : Int), .int .i64 ((tM i).2.1 : Int), .bool (tM i).2.2] := (by repeat (first | (with_reducible assumption) | ((with_reducible refine at_new' _ _ _ _ ?_); (first | rfl | (simp; done))) | (with_reducible refine At.alloc ?_ _) | (with_reducible refine At.drew ?_) | (with_reducible refine At.drewN ?_) | (with_reducible refine At.set ?_ (by omega)) | (with_reducible apply At.store4) | (with_reducible apply At.store3) | (with_reducible apply At.store2) | (with_reducible apply At.put43) | (refine At.below ?_ (by with_reducible assumption)))); have kzw4 : At w4 (w.heap.size + 1) [.int .i64 0, .int .i64 0, .bool false] := (by repeat (first | (with_reducible assumption) | ((with_reducible refine at_new' _ _ _ _ ?_); (first | rfl | (simp; done))) | (with_reducible refine At.alloc ?_ _) | (with_reducible refine At.drew ?_) | (with_reducible refine At.drewN ?_) | (with_reducible refine At.set ?_ (by omega)) | (with_reducible apply At.store4) | (with_reducible apply At.store3) | (with_reducible apply At.store2) | (with_reducible apply At.put43) | (refine At.below ?_ (by with_reducible assumption)))); have kaw4 : At w4 (w2.heap.size) [.int .i64 ((tM (4 * em n)).1 : Int), .int .i64 ((tM (4 * em n)).2.1 : Int), .bool (tM (4 * em n)).2.2] := (by repeat (first | (with_reducible assumption) | ((with_reducible refine at_new' _ _ _ _ ?_); (first | rfl | (simp; done))) | (with_reducible refine At.alloc ?_ _) | (with_reducible refine At.drew ?_) | (with_reducible refine At.drewN ?_) | (with_reducible refine At.set ?_ (by omega)) | (with_reducible apply At.store4) | (with_reducible apply At.store3) | (with_reducible apply At.store2) | (with_reducible apply At.put43) | (refine At.below ?_ (by with_reducible assumption)))); have kbw4 : At w4 (w3.heap.size) [.int .i64 ((tM (i * em m)).1 : Int), .int .i64 ((tM (i * em m)).2.1 : Int), .bool (tM (i * em m)).2.2] := (by repeat (first | (with_reducible assumption) | ((with_reducible refine at_new' _ _ _ _ ?_); (first | rfl | (simp; done))) | (with_reducible refine At.alloc ?_ _) | (with_reducible refine At.drew ?_) | (with_reducible refine At.drewN ?_) | (with_reducible refine At.set ?_ (by omega)) | (with_reducible apply At.store4) | (with_reducible apply At.store3) | (with_reducible apply At.store2) | (with_reducible apply At.put43) | (refine At.below ?_ (by with_reducible assumption)))); have hqw4 : Below w.heap.size w w4 := (by repeat (first | (with_reducible exact Below.refl _ _) | (with_reducible assumption) | (with_reducible refine Below.setCell ?_ (by first | (simp; done) | (simp; omega) | omega) _) | (with_reducible refine Below.alloc ?_ (by first | (simp; done) | (simp; omega) | omega) _) | (refine bl_call ?_ (by assumption) (by first | (simp; done) | (simp; omega) | omega)) | (with_reducible refine bl_drewN ?_) | (with_reducible refine Below.drew ?_) | (with_reducible refine bl_grow ?_ (by first | (simp; done) | (simp; omega) | omega)))); have hzw4 := hqw4.size; obtain ⟨zsw4, cs0w4, cs1w4, cs2w4, fs0w4, fs1w4, fs2w4⟩ := ksw4.three; obtain ⟨zzw4, cz0w4, cz1w4, cz2w4, fz0w4, fz1w4, fz2w4⟩ := kzw4.three; obtain ⟨zaw4, ca0w4, ca1w4, ca2w4, fa0w4, fa1w4, fa2w4⟩ := kaw4.three; obtain ⟨zbw4, cb0w4, cb1w4, cb2w4, fb0w4, fb1w4, fb2w4⟩ := kbw4.three; clear ksw3 cs0w3 fs0w3 cs1w3 fs1w3 cs2w3 fs2w3 kzw3 cz0w3 fz0w3 cz1w3 fz1w3 cz2w3 fz2w3 kaw3 ca0w3 fa0w3 ca1w3 fa1w3 ca2w3 fa2w3 hqw3; clear hbw4))
  exact bodyPost_ret (v := .agg #[.int .i64 ((r).1 : Int), .int .i64 ((r).2.1 : Int), .bool (r).2.2]) (by simp [results, Tryd.results8, go_sem, *]) rfl ⟨rfl, by repeat (first | (with_reducible exact Below.refl _ _) | (with_reducible assumption) | (with_reducible refine Below.setCell ?_ (by first | (simp; done) | (simp; omega) | omega) _) | (with_reducible refine Below.alloc ?_ (by first | (simp; done) | (simp; omega) | omega) _) | (refine bl_call ?_ (by assumption) (by first | (simp; done) | (simp; omega) | omega)) | (with_reducible refine bl_drewN ?_) | (with_reducible refine Below.drew ?_) | (with_reducible refine bl_grow ?_ (by first | (simp; done) | (simp; omega) | omega)))⟩
end Go.Proofs.YtmijjjdedadklajDoor
/- RefSeal -/
namespace Go.Proofs.YtmijjjdedadklajDoor
open Go.RowKit Go.Sort
set_option linter.unusedVariables false
set_option linter.unusedSimpArgs false
theorem rb_lt {W w1 : World} (hb : Below W.heap.size W w1) : ∀ b, b < W.heap.size → b < w1.heap.size := fun b h => Nat.lt_of_lt_of_le h hb.size
theorem rb_ne {W w1 : World} (hb : Below W.heap.size W w1) : ∀ b, b < W.heap.size → (b = w1.heap.size) = False := fun b h => eq_false (Nat.ne_of_lt (rb_lt hb b h))
theorem rb_ne2 {W w1 : World} (hb : Below W.heap.size W w1) : ∀ b, b < W.heap.size → (w1.heap.size = b) = False := fun b h => eq_false (Nat.ne_of_gt (rb_lt hb b h))
set_option maxRecDepth 100000 in
set_option maxHeartbeats 4000000 in
theorem rseal_full (x1 y1 x2 y2 s : Int) (f1 f2 : Bool) (t : ByteArray) (w : World) (h : 60 < t.size) (ht : t.size ≤ 9223372036854775807) : Calls Tryd.prog 5 #[.agg #[.int .i64 x1, .int .i64 y1, .bool f1], .string t, .agg #[.int .i64 x2, .int .i64 y2, .bool f2, .int .i64 s]] w fun e w' => e = .returned (.int .i64 4) ∧ Below w.heap.size w w' := by
  have h' : (t.size : Int) > 60 := by omega
  go_enter Tryd.func5, Tryd.ntmps5
  go_wp2_with fail
  go_ret
  exact ⟨rfl, by repeat (first | (with_reducible exact Below.refl _ _) | (with_reducible assumption) | (with_reducible refine Below.setCell ?_ (by first | (simp; done) | (simp; omega) | omega) _) | (with_reducible refine Below.alloc ?_ (by first | (simp; done) | (simp; omega) | omega) _) | (refine bl_call ?_ (by assumption) (by first | (simp; done) | (simp; omega) | omega)) | (with_reducible refine bl_drewN ?_) | (with_reducible refine Below.drew ?_) | (with_reducible refine bl_grow ?_ (by first | (simp; done) | (simp; omega) | omega)))⟩
set_option maxRecDepth 100000 in
set_option maxHeartbeats 4000000 in
theorem rseal_key (x1 y1 x2 y2 s : Int) (f1 f2 : Bool) (t : ByteArray) (w : World) (ht : t.size ≤ 60) (h1 : (ckI x1 y1 f1 == 0) = false) : Calls Tryd.prog 5 #[.agg #[.int .i64 x1, .int .i64 y1, .bool f1], .string t, .agg #[.int .i64 x2, .int .i64 y2, .bool f2, .int .i64 s]] w fun e w' => e = .returned (.int .i64 (ckI x1 y1 f1)) ∧ Below w.heap.size w w' := by
  have h' : ¬ (t.size : Int) > 60 := by omega
  have HR : Hid (∀ w, Calls Tryd.prog 17 #[.int .i64 s] w fun e w' => e = .returned (.bool (resB s)) ∧ Below w.heap.size w w') := fun w => rrest s w
  
  have m1 : True := trivial; have m2 : True := trivial; have m3 : True := trivial
  go_enter Tryd.func5, Tryd.ntmps5
  go_wp2_with (first | (go_at_call 16; clear m1; refine (rspot_any _ _ _ _).mono ?_; rintro e w1 ⟨rfl, hbw1⟩; have kaw1 : At w1 (w.heap.size) [.int .i64 x1, .int .i64 y1, .bool f1] := (by repeat (first | (with_reducible assumption) | ((with_reducible refine at_new' _ _ _ _ ?_); (first | rfl | (simp; done))) | (with_reducible refine At.alloc ?_ _) | (with_reducible refine At.drew ?_) | (with_reducible refine At.drewN ?_) | (with_reducible refine At.set ?_ (by omega)) | (with_reducible apply At.store4) | (with_reducible apply At.store3) | (with_reducible apply At.store2) | (with_reducible apply At.put43) | (refine At.below ?_ (by with_reducible assumption)))); have kbw1 : At w1 (w.heap.size + 1) [.int .i64 x2, .int .i64 y2, .bool f2, .int .i64 s] := (by repeat (first | (with_reducible assumption) | ((with_reducible refine at_new' _ _ _ _ ?_); (first | rfl | (simp; done))) | (with_reducible refine At.alloc ?_ _) | (with_reducible refine At.drew ?_) | (with_reducible refine At.drewN ?_) | (with_reducible refine At.set ?_ (by omega)) | (with_reducible apply At.store4) | (with_reducible apply At.store3) | (with_reducible apply At.store2) | (with_reducible apply At.put43) | (refine At.below ?_ (by with_reducible assumption)))); have hqw1 : Below w.heap.size w w1 := (by repeat (first | (with_reducible exact Below.refl _ _) | (with_reducible assumption) | (with_reducible refine Below.setCell ?_ (by first | (simp; done) | (simp; omega) | omega) _) | (with_reducible refine Below.alloc ?_ (by first | (simp; done) | (simp; omega) | omega) _) | (refine bl_call ?_ (by assumption) (by first | (simp; done) | (simp; omega) | omega)) | (with_reducible refine bl_drewN ?_) | (with_reducible refine Below.drew ?_) | (with_reducible refine bl_grow ?_ (by first | (simp; done) | (simp; omega) | omega)))); have hzw1 := hqw1.size; obtain ⟨zaw1, ca0w1, ca1w1, ca2w1, fa0w1, fa1w1, fa2w1⟩ := kaw1.three; obtain ⟨zbw1, cb0w1, cb1w1, cb2w1, cb3w1, fb0w1, fb1w1, fb2w1, fb3w1⟩ := kbw1.four; clear hbw1) | (go_at_call 17; clear m2; refine (HR.out _).mono ?_; rintro e w3 ⟨rfl, hbw3⟩; have kaw3 : At w3 (w.heap.size) [.int .i64 x1, .int .i64 y1, .bool f1] := (by repeat (first | (with_reducible assumption) | ((with_reducible refine at_new' _ _ _ _ ?_); (first | rfl | (simp; done))) | (with_reducible refine At.alloc ?_ _) | (with_reducible refine At.drew ?_) | (with_reducible refine At.drewN ?_) | (with_reducible refine At.set ?_ (by omega)) | (with_reducible apply At.store4) | (with_reducible apply At.store3) | (with_reducible apply At.store2) | (with_reducible apply At.put43) | (refine At.below ?_ (by with_reducible assumption)))); have kbw3 : At w3 (w.heap.size + 1) [.int .i64 x2, .int .i64 y2, .bool f2, .int .i64 s] := (by repeat (first | (with_reducible assumption) | ((with_reducible refine at_new' _ _ _ _ ?_); (first | rfl | (simp; done))) | (with_reducible refine At.alloc ?_ _) | (with_reducible refine At.drew ?_) | (with_reducible refine At.drewN ?_) | (with_reducible refine At.set ?_ (by omega)) | (with_reducible apply At.store4) | (with_reducible apply At.store3) | (with_reducible apply At.store2) | (with_reducible apply At.put43) | (refine At.below ?_ (by with_reducible assumption)))); have hqw3 : Below w.heap.size w w3 := (by repeat (first | (with_reducible exact Below.refl _ _) | (with_reducible assumption) | (with_reducible refine Below.setCell ?_ (by first | (simp; done) | (simp; omega) | omega) _) | (with_reducible refine Below.alloc ?_ (by first | (simp; done) | (simp; omega) | omega) _) | (refine bl_call ?_ (by assumption) (by first | (simp; done) | (simp; omega) | omega)) | (with_reducible refine bl_drewN ?_) | (with_reducible refine Below.drew ?_) | (with_reducible refine bl_grow ?_ (by first | (simp; done) | (simp; omega) | omega)))); have hzw3 := hqw3.size; obtain ⟨zaw3, ca0w3, ca1w3, ca2w3, fa0w3, fa1w3, fa2w3⟩ := kaw3.three; obtain ⟨zbw3, cb0w3, cb1w3, cb2w3, cb3w3, fb0w3, fb1w3, fb2w3, fb3w3⟩ := kbw3.four; clear kaw1 ca0w1 fa0w1 ca1w1 fa1w1 ca2w1 fa2w1 kbw1 cb0w1 fb0w1 cb1w1 fb1w1 cb2w1 fb2w1 cb3w1 fb3w1 hqw1; clear hbw3))
  go_ret
  exact ⟨rfl, by repeat (first | (with_reducible exact Below.refl _ _) | (with_reducible assumption) | (with_reducible refine Below.setCell ?_ (by first | (simp; done) | (simp; omega) | omega) _) | (with_reducible refine Below.alloc ?_ (by first | (simp; done) | (simp; omega) | omega) _) | (refine bl_call ?_ (by assumption) (by first | (simp; done) | (simp; omega) | omega)) | (with_reducible refine bl_drewN ?_) | (with_reducible refine Below.drew ?_) | (with_reducible refine bl_grow ?_ (by first | (simp; done) | (simp; omega) | omega)))⟩
set_option maxRecDepth 100000 in
set_option maxHeartbeats 4000000 in
theorem rseal_r (x1 y1 x2 y2 s : Int) (f1 f2 : Bool) (t : ByteArray) (w : World) (ht : t.size ≤ 60) (h1 : ckI x1 y1 f1 = 0) (h2 : (ckI x2 y2 f2 == 0) = false) : Calls Tryd.prog 5 #[.agg #[.int .i64 x1, .int .i64 y1, .bool f1], .string t, .agg #[.int .i64 x2, .int .i64 y2, .bool f2, .int .i64 s]] w fun e w' => e = .returned (.int .i64 (ckI x2 y2 f2)) ∧ Below w.heap.size w w' := by
  have h' : ¬ (t.size : Int) > 60 := by omega
  have HR : Hid (∀ w, Calls Tryd.prog 17 #[.int .i64 s] w fun e w' => e = .returned (.bool (resB s)) ∧ Below w.heap.size w w') := fun w => rrest s w
  
  have m1 : True := trivial; have m2 : True := trivial; have m3 : True := trivial
  go_enter Tryd.func5, Tryd.ntmps5
  go_wp2_with (first | (go_at_call 16; clear m1; refine (rspot_yes h1 _).mono ?_; rintro e w1 ⟨rfl, hbw1⟩; have kaw1 : At w1 (w.heap.size) [.int .i64 x1, .int .i64 y1, .bool f1] := (by repeat (first | (with_reducible assumption) | ((with_reducible refine at_new' _ _ _ _ ?_); (first | rfl | (simp; done))) | (with_reducible refine At.alloc ?_ _) | (with_reducible refine At.drew ?_) | (with_reducible refine At.drewN ?_) | (with_reducible refine At.set ?_ (by omega)) | (with_reducible apply At.store4) | (with_reducible apply At.store3) | (with_reducible apply At.store2) | (with_reducible apply At.put43) | (refine At.below ?_ (by with_reducible assumption)))); have kbw1 : At w1 (w.heap.size + 1) [.int .i64 x2, .int .i64 y2, .bool f2, .int .i64 s] := (by repeat (first | (with_reducible assumption) | ((with_reducible refine at_new' _ _ _ _ ?_); (first | rfl | (simp; done))) | (with_reducible refine At.alloc ?_ _) | (with_reducible refine At.drew ?_) | (with_reducible refine At.drewN ?_) | (with_reducible refine At.set ?_ (by omega)) | (with_reducible apply At.store4) | (with_reducible apply At.store3) | (with_reducible apply At.store2) | (with_reducible apply At.put43) | (refine At.below ?_ (by with_reducible assumption)))); have hqw1 : Below w.heap.size w w1 := (by repeat (first | (with_reducible exact Below.refl _ _) | (with_reducible assumption) | (with_reducible refine Below.setCell ?_ (by first | (simp; done) | (simp; omega) | omega) _) | (with_reducible refine Below.alloc ?_ (by first | (simp; done) | (simp; omega) | omega) _) | (refine bl_call ?_ (by assumption) (by first | (simp; done) | (simp; omega) | omega)) | (with_reducible refine bl_drewN ?_) | (with_reducible refine Below.drew ?_) | (with_reducible refine bl_grow ?_ (by first | (simp; done) | (simp; omega) | omega)))); have hzw1 := hqw1.size; obtain ⟨zaw1, ca0w1, ca1w1, ca2w1, fa0w1, fa1w1, fa2w1⟩ := kaw1.three; obtain ⟨zbw1, cb0w1, cb1w1, cb2w1, cb3w1, fb0w1, fb1w1, fb2w1, fb3w1⟩ := kbw1.four; clear hbw1) | (go_at_call 16; clear m2; refine (rspot_any _ _ _ _).mono ?_; rintro e w2 ⟨rfl, hbw2⟩; have kaw2 : At w2 (w.heap.size) [.int .i64 x1, .int .i64 y1, .bool f1] := (by repeat (first | (with_reducible assumption) | ((with_reducible refine at_new' _ _ _ _ ?_); (first | rfl | (simp; done))) | (with_reducible refine At.alloc ?_ _) | (with_reducible refine At.drew ?_) | (with_reducible refine At.drewN ?_) | (with_reducible refine At.set ?_ (by omega)) | (with_reducible apply At.store4) | (with_reducible apply At.store3) | (with_reducible apply At.store2) | (with_reducible apply At.put43) | (refine At.below ?_ (by with_reducible assumption)))); have kbw2 : At w2 (w.heap.size + 1) [.int .i64 x2, .int .i64 y2, .bool f2, .int .i64 s] := (by repeat (first | (with_reducible assumption) | ((with_reducible refine at_new' _ _ _ _ ?_); (first | rfl | (simp; done))) | (with_reducible refine At.alloc ?_ _) | (with_reducible refine At.drew ?_) | (with_reducible refine At.drewN ?_) | (with_reducible refine At.set ?_ (by omega)) | (with_reducible apply At.store4) | (with_reducible apply At.store3) | (with_reducible apply At.store2) | (with_reducible apply At.put43) | (refine At.below ?_ (by with_reducible assumption)))); have hqw2 : Below w.heap.size w w2 := (by repeat (first | (with_reducible exact Below.refl _ _) | (with_reducible assumption) | (with_reducible refine Below.setCell ?_ (by first | (simp; done) | (simp; omega) | omega) _) | (with_reducible refine Below.alloc ?_ (by first | (simp; done) | (simp; omega) | omega) _) | (refine bl_call ?_ (by assumption) (by first | (simp; done) | (simp; omega) | omega)) | (with_reducible refine bl_drewN ?_) | (with_reducible refine Below.drew ?_) | (with_reducible refine bl_grow ?_ (by first | (simp; done) | (simp; omega) | omega)))); have hzw2 := hqw2.size; obtain ⟨zaw2, ca0w2, ca1w2, ca2w2, fa0w2, fa1w2, fa2w2⟩ := kaw2.three; obtain ⟨zbw2, cb0w2, cb1w2, cb2w2, cb3w2, fb0w2, fb1w2, fb2w2, fb3w2⟩ := kbw2.four; clear kaw1 ca0w1 fa0w1 ca1w1 fa1w1 ca2w1 fa2w1 kbw1 cb0w1 fb0w1 cb1w1 fb1w1 cb2w1 fb2w1 cb3w1 fb3w1 hqw1; clear hbw2) | (go_at_call 17; clear m3; refine (HR.out _).mono ?_; rintro e w3 ⟨rfl, hbw3⟩; have kaw3 : At w3 (w.heap.size) [.int .i64 x1, .int .i64 y1, .bool f1] := (by repeat (first | (with_reducible assumption) | ((with_reducible refine at_new' _ _ _ _ ?_); (first | rfl | (simp; done))) | (with_reducible refine At.alloc ?_ _) | (with_reducible refine At.drew ?_) | (with_reducible refine At.drewN ?_) | (with_reducible refine At.set ?_ (by omega)) | (with_reducible apply At.store4) | (with_reducible apply At.store3) | (with_reducible apply At.store2) | (with_reducible apply At.put43) | (refine At.below ?_ (by with_reducible assumption)))); have kbw3 : At w3 (w.heap.size + 1) [.int .i64 x2, .int .i64 y2, .bool f2, .int .i64 s] := (by repeat (first | (with_reducible assumption) | ((with_reducible refine at_new' _ _ _ _ ?_); (first | rfl | (simp; done))) | (with_reducible refine At.alloc ?_ _) | (with_reducible refine At.drew ?_) | (with_reducible refine At.drewN ?_) | (with_reducible refine At.set ?_ (by omega)) | (with_reducible apply At.store4) | (with_reducible apply At.store3) | (with_reducible apply At.store2) | (with_reducible apply At.put43) | (refine At.below ?_ (by with_reducible assumption)))); have hqw3 : Below w.heap.size w w3 := (by repeat (first | (with_reducible exact Below.refl _ _) | (with_reducible assumption) | (with_reducible refine Below.setCell ?_ (by first | (simp; done) | (simp; omega) | omega) _) | (with_reducible refine Below.alloc ?_ (by first | (simp; done) | (simp; omega) | omega) _) | (refine bl_call ?_ (by assumption) (by first | (simp; done) | (simp; omega) | omega)) | (with_reducible refine bl_drewN ?_) | (with_reducible refine Below.drew ?_) | (with_reducible refine bl_grow ?_ (by first | (simp; done) | (simp; omega) | omega)))); have hzw3 := hqw3.size; obtain ⟨zaw3, ca0w3, ca1w3, ca2w3, fa0w3, fa1w3, fa2w3⟩ := kaw3.three; obtain ⟨zbw3, cb0w3, cb1w3, cb2w3, cb3w3, fb0w3, fb1w3, fb2w3, fb3w3⟩ := kbw3.four; clear kaw2 ca0w2 fa0w2 ca1w2 fa1w2 ca2w2 fa2w2 kbw2 cb0w2 fb0w2 cb1w2 fb1w2 cb2w2 fb2w2 cb3w2 fb3w2 hqw2; clear hbw3))
  go_ret
  exact ⟨rfl, by repeat (first | (with_reducible exact Below.refl _ _) | (with_reducible assumption) | (with_reducible refine Below.setCell ?_ (by first | (simp; done) | (simp; omega) | omega) _) | (with_reducible refine Below.alloc ?_ (by first | (simp; done) | (simp; omega) | omega) _) | (refine bl_call ?_ (by assumption) (by first | (simp; done) | (simp; omega) | omega)) | (with_reducible refine bl_drewN ?_) | (with_reducible refine Below.drew ?_) | (with_reducible refine bl_grow ?_ (by first | (simp; done) | (simp; omega) | omega)))⟩
set_option maxRecDepth 100000 in
set_option maxHeartbeats 4000000 in
theorem rseal_s (x1 y1 x2 y2 s : Int) (f1 f2 : Bool) (t : ByteArray) (w : World) (ht : t.size ≤ 60) (h1 : ckI x1 y1 f1 = 0) (h2 : ckI x2 y2 f2 = 0) (hs : resB s = false) : Calls Tryd.prog 5 #[.agg #[.int .i64 x1, .int .i64 y1, .bool f1], .string t, .agg #[.int .i64 x2, .int .i64 y2, .bool f2, .int .i64 s]] w fun e w' => e = .returned (.int .i64 1) ∧ Below w.heap.size w w' := by
  have h' : ¬ (t.size : Int) > 60 := by omega
  have HR : Hid (∀ w, Calls Tryd.prog 17 #[.int .i64 s] w fun e w' => e = .returned (.bool false) ∧ Below w.heap.size w w') := fun w => by have := rrest s w; rwa [hs] at this
  clear hs
  have m1 : True := trivial; have m2 : True := trivial; have m3 : True := trivial
  go_enter Tryd.func5, Tryd.ntmps5
  go_wp2_with (first | (go_at_call 16; clear m1; refine (rspot_yes h1 _).mono ?_; rintro e w1 ⟨rfl, hbw1⟩; have kaw1 : At w1 (w.heap.size) [.int .i64 x1, .int .i64 y1, .bool f1] := (by repeat (first | (with_reducible assumption) | ((with_reducible refine at_new' _ _ _ _ ?_); (first | rfl | (simp; done))) | (with_reducible refine At.alloc ?_ _) | (with_reducible refine At.drew ?_) | (with_reducible refine At.drewN ?_) | (with_reducible refine At.set ?_ (by omega)) | (with_reducible apply At.store4) | (with_reducible apply At.store3) | (with_reducible apply At.store2) | (with_reducible apply At.put43) | (refine At.below ?_ (by with_reducible assumption)))); have kbw1 : At w1 (w.heap.size + 1) [.int .i64 x2, .int .i64 y2, .bool f2, .int .i64 s] := (by repeat (first | (with_reducible assumption) | ((with_reducible refine at_new' _ _ _ _ ?_); (first | rfl | (simp; done))) | (with_reducible refine At.alloc ?_ _) | (with_reducible refine At.drew ?_) | (with_reducible refine At.drewN ?_) | (with_reducible refine At.set ?_ (by omega)) | (with_reducible apply At.store4) | (with_reducible apply At.store3) | (with_reducible apply At.store2) | (with_reducible apply At.put43) | (refine At.below ?_ (by with_reducible assumption)))); have hqw1 : Below w.heap.size w w1 := (by repeat (first | (with_reducible exact Below.refl _ _) | (with_reducible assumption) | (with_reducible refine Below.setCell ?_ (by first | (simp; done) | (simp; omega) | omega) _) | (with_reducible refine Below.alloc ?_ (by first | (simp; done) | (simp; omega) | omega) _) | (refine bl_call ?_ (by assumption) (by first | (simp; done) | (simp; omega) | omega)) | (with_reducible refine bl_drewN ?_) | (with_reducible refine Below.drew ?_) | (with_reducible refine bl_grow ?_ (by first | (simp; done) | (simp; omega) | omega)))); have hzw1 := hqw1.size; obtain ⟨zaw1, ca0w1, ca1w1, ca2w1, fa0w1, fa1w1, fa2w1⟩ := kaw1.three; obtain ⟨zbw1, cb0w1, cb1w1, cb2w1, cb3w1, fb0w1, fb1w1, fb2w1, fb3w1⟩ := kbw1.four; clear hbw1) | (go_at_call 16; clear m2; refine (rspot_yes h2 _).mono ?_; rintro e w2 ⟨rfl, hbw2⟩; have kaw2 : At w2 (w.heap.size) [.int .i64 x1, .int .i64 y1, .bool f1] := (by repeat (first | (with_reducible assumption) | ((with_reducible refine at_new' _ _ _ _ ?_); (first | rfl | (simp; done))) | (with_reducible refine At.alloc ?_ _) | (with_reducible refine At.drew ?_) | (with_reducible refine At.drewN ?_) | (with_reducible refine At.set ?_ (by omega)) | (with_reducible apply At.store4) | (with_reducible apply At.store3) | (with_reducible apply At.store2) | (with_reducible apply At.put43) | (refine At.below ?_ (by with_reducible assumption)))); have kbw2 : At w2 (w.heap.size + 1) [.int .i64 x2, .int .i64 y2, .bool f2, .int .i64 s] := (by repeat (first | (with_reducible assumption) | ((with_reducible refine at_new' _ _ _ _ ?_); (first | rfl | (simp; done))) | (with_reducible refine At.alloc ?_ _) | (with_reducible refine At.drew ?_) | (with_reducible refine At.drewN ?_) | (with_reducible refine At.set ?_ (by omega)) | (with_reducible apply At.store4) | (with_reducible apply At.store3) | (with_reducible apply At.store2) | (with_reducible apply At.put43) | (refine At.below ?_ (by with_reducible assumption)))); have hqw2 : Below w.heap.size w w2 := (by repeat (first | (with_reducible exact Below.refl _ _) | (with_reducible assumption) | (with_reducible refine Below.setCell ?_ (by first | (simp; done) | (simp; omega) | omega) _) | (with_reducible refine Below.alloc ?_ (by first | (simp; done) | (simp; omega) | omega) _) | (refine bl_call ?_ (by assumption) (by first | (simp; done) | (simp; omega) | omega)) | (with_reducible refine bl_drewN ?_) | (with_reducible refine Below.drew ?_) | (with_reducible refine bl_grow ?_ (by first | (simp; done) | (simp; omega) | omega)))); have hzw2 := hqw2.size; obtain ⟨zaw2, ca0w2, ca1w2, ca2w2, fa0w2, fa1w2, fa2w2⟩ := kaw2.three; obtain ⟨zbw2, cb0w2, cb1w2, cb2w2, cb3w2, fb0w2, fb1w2, fb2w2, fb3w2⟩ := kbw2.four; clear kaw1 ca0w1 fa0w1 ca1w1 fa1w1 ca2w1 fa2w1 kbw1 cb0w1 fb0w1 cb1w1 fb1w1 cb2w1 fb2w1 cb3w1 fb3w1 hqw1; clear hbw2) | (go_at_call 17; clear m3; refine (HR.out _).mono ?_; rintro e w3 ⟨rfl, hbw3⟩; have kaw3 : At w3 (w.heap.size) [.int .i64 x1, .int .i64 y1, .bool f1] := (by repeat (first | (with_reducible assumption) | ((with_reducible refine at_new' _ _ _ _ ?_); (first | rfl | (simp; done))) | (with_reducible refine At.alloc ?_ _) | (with_reducible refine At.drew ?_) | (with_reducible refine At.drewN ?_) | (with_reducible refine At.set ?_ (by omega)) | (with_reducible apply At.store4) | (with_reducible apply At.store3) | (with_reducible apply At.store2) | (with_reducible apply At.put43) | (refine At.below ?_ (by with_reducible assumption)))); have kbw3 : At w3 (w.heap.size + 1) [.int .i64 x2, .int .i64 y2, .bool f2, .int .i64 s] := (by repeat (first | (with_reducible assumption) | ((with_reducible refine at_new' _ _ _ _ ?_); (first | rfl | (simp; done))) | (with_reducible refine At.alloc ?_ _) | (with_reducible refine At.drew ?_) | (with_reducible refine At.drewN ?_) | (with_reducible refine At.set ?_ (by omega)) | (with_reducible apply At.store4) | (with_reducible apply At.store3) | (with_reducible apply At.store2) | (with_reducible apply At.put43) | (refine At.below ?_ (by with_reducible assumption)))); have hqw3 : Below w.heap.size w w3 := (by repeat (first | (with_reducible exact Below.refl _ _) | (with_reducible assumption) | (with_reducible refine Below.setCell ?_ (by first | (simp; done) | (simp; omega) | omega) _) | (with_reducible refine Below.alloc ?_ (by first | (simp; done) | (simp; omega) | omega) _) | (refine bl_call ?_ (by assumption) (by first | (simp; done) | (simp; omega) | omega)) | (with_reducible refine bl_drewN ?_) | (with_reducible refine Below.drew ?_) | (with_reducible refine bl_grow ?_ (by first | (simp; done) | (simp; omega) | omega)))); have hzw3 := hqw3.size; obtain ⟨zaw3, ca0w3, ca1w3, ca2w3, fa0w3, fa1w3, fa2w3⟩ := kaw3.three; obtain ⟨zbw3, cb0w3, cb1w3, cb2w3, cb3w3, fb0w3, fb1w3, fb2w3, fb3w3⟩ := kbw3.four; clear kaw2 ca0w2 fa0w2 ca1w2 fa1w2 ca2w2 fa2w2 kbw2 cb0w2 fb0w2 cb1w2 fb1w2 cb2w2 fb2w2 cb3w2 fb3w2 hqw2; clear hbw3))
  go_ret
  exact ⟨rfl, by repeat (first | (with_reducible exact Below.refl _ _) | (with_reducible assumption) | (with_reducible refine Below.setCell ?_ (by first | (simp; done) | (simp; omega) | omega) _) | (with_reducible refine Below.alloc ?_ (by first | (simp; done) | (simp; omega) | omega) _) | (refine bl_call ?_ (by assumption) (by first | (simp; done) | (simp; omega) | omega)) | (with_reducible refine bl_drewN ?_) | (with_reducible refine Below.drew ?_) | (with_reducible refine bl_grow ?_ (by first | (simp; done) | (simp; omega) | omega)))⟩
set_option maxRecDepth 100000 in
set_option maxHeartbeats 4000000 in
theorem rseal_ok (x1 y1 x2 y2 s : Int) (f1 f2 : Bool) (t : ByteArray) (w : World) (ht : t.size ≤ 60) (h1 : ckI x1 y1 f1 = 0) (h2 : ckI x2 y2 f2 = 0) (hs : resB s = true) : Calls Tryd.prog 5 #[.agg #[.int .i64 x1, .int .i64 y1, .bool f1], .string t, .agg #[.int .i64 x2, .int .i64 y2, .bool f2, .int .i64 s]] w fun e w' => e = .returned (.int .i64 0) ∧ Below w.heap.size w w' := by
  have h' : ¬ (t.size : Int) > 60 := by omega
  have HR : Hid (∀ w, Calls Tryd.prog 17 #[.int .i64 s] w fun e w' => e = .returned (.bool true) ∧ Below w.heap.size w w') := fun w => by have := rrest s w; rwa [hs] at this
  clear hs
  have m1 : True := trivial; have m2 : True := trivial; have m3 : True := trivial
  go_enter Tryd.func5, Tryd.ntmps5
  go_wp2_with (first | (go_at_call 16; clear m1; refine (rspot_yes h1 _).mono ?_; rintro e w1 ⟨rfl, hbw1⟩; have kaw1 : At w1 (w.heap.size) [.int .i64 x1, .int .i64 y1, .bool f1] := (by repeat (first | (with_reducible assumption) | ((with_reducible refine at_new' _ _ _ _ ?_); (first | rfl | (simp; done))) | (with_reducible refine At.alloc ?_ _) | (with_reducible refine At.drew ?_) | (with_reducible refine At.drewN ?_) | (with_reducible refine At.set ?_ (by omega)) | (with_reducible apply At.store4) | (with_reducible apply At.store3) | (with_reducible apply At.store2) | (with_reducible apply At.put43) | (refine At.below ?_ (by with_reducible assumption)))); have kbw1 : At w1 (w.heap.size + 1) [.int .i64 x2, .int .i64 y2, .bool f2, .int .i64 s] := (by repeat (first | (with_reducible assumption) | ((with_reducible refine at_new' _ _ _ _ ?_); (first | rfl | (simp; done))) | (with_reducible refine At.alloc ?_ _) | (with_reducible refine At.drew ?_) | (with_reducible refine At.drewN ?_) | (with_reducible refine At.set ?_ (by omega)) | (with_reducible apply At.store4) | (with_reducible apply At.store3) | (with_reducible apply At.store2) | (with_reducible apply At.put43) | (refine At.below ?_ (by with_reducible assumption)))); have hqw1 : Below w.heap.size w w1 := (by repeat (first | (with_reducible exact Below.refl _ _) | (with_reducible assumption) | (with_reducible refine Below.setCell ?_ (by first | (simp; done) | (simp; omega) | omega) _) | (with_reducible refine Below.alloc ?_ (by first | (simp; done) | (simp; omega) | omega) _) | (refine bl_call ?_ (by assumption) (by first | (simp; done) | (simp; omega) | omega)) | (with_reducible refine bl_drewN ?_) | (with_reducible refine Below.drew ?_) | (with_reducible refine bl_grow ?_ (by first | (simp; done) | (simp; omega) | omega)))); have hzw1 := hqw1.size; obtain ⟨zaw1, ca0w1, ca1w1, ca2w1, fa0w1, fa1w1, fa2w1⟩ := kaw1.three; obtain ⟨zbw1, cb0w1, cb1w1, cb2w1, cb3w1, fb0w1, fb1w1, fb2w1, fb3w1⟩ := kbw1.four; clear hbw1) | (go_at_call 16; clear m2; refine (rspot_yes h2 _).mono ?_; rintro e w2 ⟨rfl, hbw2⟩; have kaw2 : At w2 (w.heap.size) [.int .i64 x1, .int .i64 y1, .bool f1] := (by repeat (first | (with_reducible assumption) | ((with_reducible refine at_new' _ _ _ _ ?_); (first | rfl | (simp; done))) | (with_reducible refine At.alloc ?_ _) | (with_reducible refine At.drew ?_) | (with_reducible refine At.drewN ?_) | (with_reducible refine At.set ?_ (by omega)) | (with_reducible apply At.store4) | (with_reducible apply At.store3) | (with_reducible apply At.store2) | (with_reducible apply At.put43) | (refine At.below ?_ (by with_reducible assumption)))); have kbw2 : At w2 (w.heap.size + 1) [.int .i64 x2, .int .i64 y2, .bool f2, .int .i64 s] := (by repeat (first | (with_reducible assumption) | ((with_reducible refine at_new' _ _ _ _ ?_); (first | rfl | (simp; done))) | (with_reducible refine At.alloc ?_ _) | (with_reducible refine At.drew ?_) | (with_reducible refine At.drewN ?_) | (with_reducible refine At.set ?_ (by omega)) | (with_reducible apply At.store4) | (with_reducible apply At.store3) | (with_reducible apply At.store2) | (with_reducible apply At.put43) | (refine At.below ?_ (by with_reducible assumption)))); have hqw2 : Below w.heap.size w w2 := (by repeat (first | (with_reducible exact Below.refl _ _) | (with_reducible assumption) | (with_reducible refine Below.setCell ?_ (by first | (simp; done) | (simp; omega) | omega) _) | (with_reducible refine Below.alloc ?_ (by first | (simp; done) | (simp; omega) | omega) _) | (refine bl_call ?_ (by assumption) (by first | (simp; done) | (simp; omega) | omega)) | (with_reducible refine bl_drewN ?_) | (with_reducible refine Below.drew ?_) | (with_reducible refine bl_grow ?_ (by first | (simp; done) | (simp; omega) | omega)))); have hzw2 := hqw2.size; obtain ⟨zaw2, ca0w2, ca1w2, ca2w2, fa0w2, fa1w2, fa2w2⟩ := kaw2.three; obtain ⟨zbw2, cb0w2, cb1w2, cb2w2, cb3w2, fb0w2, fb1w2, fb2w2, fb3w2⟩ := kbw2.four; clear kaw1 ca0w1 fa0w1 ca1w1 fa1w1 ca2w1 fa2w1 kbw1 cb0w1 fb0w1 cb1w1 fb1w1 cb2w1 fb2w1 cb3w1 fb3w1 hqw1; clear hbw2) | (go_at_call 17; clear m3; refine (HR.out _).mono ?_; rintro e w3 ⟨rfl, hbw3⟩; have kaw3 : At w3 (w.heap.size) [.int .i64 x1, .int .i64 y1, .bool f1] := (by repeat (first | (with_reducible assumption) | ((with_reducible refine at_new' _ _ _ _ ?_); (first | rfl | (simp; done))) | (with_reducible refine At.alloc ?_ _) | (with_reducible refine At.drew ?_) | (with_reducible refine At.drewN ?_) | (with_reducible refine At.set ?_ (by omega)) | (with_reducible apply At.store4) | (with_reducible apply At.store3) | (with_reducible apply At.store2) | (with_reducible apply At.put43) | (refine At.below ?_ (by with_reducible assumption)))); have kbw3 : At w3 (w.heap.size + 1) [.int .i64 x2, .int .i64 y2, .bool f2, .int .i64 s] := (by repeat (first | (with_reducible assumption) | ((with_reducible refine at_new' _ _ _ _ ?_); (first | rfl | (simp; done))) | (with_reducible refine At.alloc ?_ _) | (with_reducible refine At.drew ?_) | (with_reducible refine At.drewN ?_) | (with_reducible refine At.set ?_ (by omega)) | (with_reducible apply At.store4) | (with_reducible apply At.store3) | (with_reducible apply At.store2) | (with_reducible apply At.put43) | (refine At.below ?_ (by with_reducible assumption)))); have hqw3 : Below w.heap.size w w3 := (by repeat (first | (with_reducible exact Below.refl _ _) | (with_reducible assumption) | (with_reducible refine Below.setCell ?_ (by first | (simp; done) | (simp; omega) | omega) _) | (with_reducible refine Below.alloc ?_ (by first | (simp; done) | (simp; omega) | omega) _) | (refine bl_call ?_ (by assumption) (by first | (simp; done) | (simp; omega) | omega)) | (with_reducible refine bl_drewN ?_) | (with_reducible refine Below.drew ?_) | (with_reducible refine bl_grow ?_ (by first | (simp; done) | (simp; omega) | omega)))); have hzw3 := hqw3.size; obtain ⟨zaw3, ca0w3, ca1w3, ca2w3, fa0w3, fa1w3, fa2w3⟩ := kaw3.three; obtain ⟨zbw3, cb0w3, cb1w3, cb2w3, cb3w3, fb0w3, fb1w3, fb2w3, fb3w3⟩ := kbw3.four; clear kaw2 ca0w2 fa0w2 ca1w2 fa1w2 ca2w2 fa2w2 kbw2 cb0w2 fb0w2 cb1w2 fb1w2 cb2w2 fb2w2 cb3w2 fb3w2 hqw2; clear hbw3))
  go_ret
  exact ⟨rfl, by repeat (first | (with_reducible exact Below.refl _ _) | (with_reducible assumption) | (with_reducible refine Below.setCell ?_ (by first | (simp; done) | (simp; omega) | omega) _) | (with_reducible refine Below.alloc ?_ (by first | (simp; done) | (simp; omega) | omega) _) | (refine bl_call ?_ (by assumption) (by first | (simp; done) | (simp; omega) | omega)) | (with_reducible refine bl_drewN ?_) | (with_reducible refine Below.drew ?_) | (with_reducible refine bl_grow ?_ (by first | (simp; done) | (simp; omega) | omega)))⟩
set_option maxRecDepth 100000 in
set_option maxHeartbeats 4000000 in
theorem rright_two {i j l : Nat} {s : Int} {p q : Sn} {t : ByteArray} {t1 t2 t3 : Bool} (ht : t.size ≤ 60) (h1 : tM (4 * em s + l * em 1) = p) (h2 : tM (j + i * askN j i t) = q)
    (e1 : ((p.1 : Int) == (q.1 : Int)) = t1) (e2 : ((p.2.1 : Int) == (q.2.1 : Int)) = t2) (e3 : (p.2.2 == q.2.2) = t3) (w : World) :
    Calls Tryd.prog 13 #[.agg #[.int .i64 ((tM i).1 : Int), .int .i64 ((tM i).2.1 : Int), .bool (tM i).2.2], .string t, .agg #[.int .i64 ((tM j).1 : Int), .int .i64 ((tM j).2.1 : Int), .bool (tM j).2.2, .int .i64 s], .agg #[.int .i64 ((tM l).1 : Int), .int .i64 ((tM l).2.1 : Int), .bool (tM l).2.2]] w fun e w' => e = .returned (.bool (t1 && t2 && t3)) ∧ Below w.heap.size w w' := by
  have hl := askN_lt j i t
  obtain ⟨c, hc⟩ : ∃ c, askN j i t = c := ⟨_, rfl⟩
  have HA : Hid (∀ w, Calls Tryd.prog 7 #[.agg #[.int .i64 ((tM j).1 : Int), .int .i64 ((tM j).2.1 : Int), .bool (tM j).2.2], .agg #[.int .i64 ((tM i).1 : Int), .int .i64 ((tM i).2.1 : Int), .bool (tM i).2.2], .string t] w fun e w' => e = .returned (.int .i64 (c : Int)) ∧ Below w.heap.size w w') := fun w => by
    have := rask_tM j i t w ht
    rwa [hc] at this
  rw [hc] at hl h2
  have ET : Hid (tM (i * em (c : Int)) = tM (i * c)) := by unfold Hid; rw [em_nat hl]
  have EA : Hid (∀ w, Calls Tryd.prog 9 #[.agg #[.int .i64 ((tM j).1 : Int), .int .i64 ((tM j).2.1 : Int), .bool (tM j).2.2], .agg #[.int .i64 ((tM (i * c)).1 : Int), .int .i64 ((tM (i * c)).2.1 : Int), .bool (tM (i * c)).2.2]] w fun e w' => e = .returned (.agg #[.int .i64 ((q).1 : Int), .int .i64 ((q).2.1 : Int), .bool (q).2.2]) ∧ Below w.heap.size w w') := fun w => by
    have := radd_tM j (i * c) w
    rwa [h2] at this
  have E1 : Hid (tM (4 * em s + l * em 1) = p) := h1
  clear hc hl h1 h2 ht
  have m1 : True := trivial; have m2 : True := trivial
  go_enter Tryd.func13, Tryd.ntmps13
  go_wp2_with (first | (go_at_call 7; clear m1; refine (HA.out _).mono ?_; rintro e w1 ⟨rfl, hbw1⟩; have kaw1 : At w1 (w.heap.size) [.int .i64 ((tM i).1 : Int), .int .i64 ((tM i).2.1 : Int), .bool (tM i).2.2] := (by repeat (first | (with_reducible assumption) | ((with_reducible refine at_new' _ _ _ _ ?_); (first | rfl | (simp; done))) | (with_reducible refine At.alloc ?_ _) | (with_reducible refine At.drew ?_) | (with_reducible refine At.drewN ?_) | (with_reducible refine At.set ?_ (by omega)) | (with_reducible apply At.store4) | (with_reducible apply At.store3) | (with_reducible apply At.store2) | (with_reducible apply At.put43) | (refine At.below ?_ (by with_reducible assumption)))); have kbw1 : At w1 (w.heap.size + 1) [.int .i64 ((tM j).1 : Int), .int .i64 ((tM j).2.1 : Int), .bool (tM j).2.2, .int .i64 s] := (by repeat (first | (with_reducible assumption) | ((with_reducible refine at_new' _ _ _ _ ?_); (first | rfl | (simp; done))) | (with_reducible refine At.alloc ?_ _) | (with_reducible refine At.drew ?_) | (with_reducible refine At.drewN ?_) | (with_reducible refine At.set ?_ (by omega)) | (with_reducible apply At.store4) | (with_reducible apply At.store3) | (with_reducible apply At.store2) | (with_reducible apply At.put43) | (refine At.below ?_ (by with_reducible assumption)))); have kmw1 : At w1 (w.heap.size + 2) [.int .i64 ((tM l).1 : Int), .int .i64 ((tM l).2.1 : Int), .bool (tM l).2.2] := (by repeat (first | (with_reducible assumption) | ((with_reducible refine at_new' _ _ _ _ ?_); (first | rfl | (simp; done))) | (with_reducible refine At.alloc ?_ _) | (with_reducible refine At.drew ?_) | (with_reducible refine At.drewN ?_) | (with_reducible refine At.set ?_ (by omega)) | (with_reducible apply At.store4) | (with_reducible apply At.store3) | (with_reducible apply At.store2) | (with_reducible apply At.put43) | (refine At.below ?_ (by with_reducible assumption)))); have hqw1 : Below w.heap.size w w1 := (by repeat (first | (with_reducible exact Below.refl _ _) | (with_reducible assumption) | (with_reducible refine Below.setCell ?_ (by first | (simp; done) | (simp; omega) | omega) _) | (with_reducible refine Below.alloc ?_ (by first | (simp; done) | (simp; omega) | omega) _) | (refine bl_call ?_ (by assumption) (by first | (simp; done) | (simp; omega) | omega)) | (with_reducible refine bl_drewN ?_) | (with_reducible refine Below.drew ?_) | (with_reducible refine bl_grow ?_ (by first | (simp; done) | (simp; omega) | omega)))); have hzw1 := hqw1.size; obtain ⟨zaw1, ca0w1, ca1w1, ca2w1, fa0w1, fa1w1, fa2w1⟩ := kaw1.three; obtain ⟨zbw1, cb0w1, cb1w1, cb2w1, cb3w1, fb0w1, fb1w1, fb2w1, fb3w1⟩ := kbw1.four; obtain ⟨zmw1, cm0w1, cm1w1, cm2w1, fm0w1, fm1w1, fm2w1⟩ := kmw1.three; clear hbw1) | (go_at_call 8; clear m2; refine (rsum_eq E1.out _).mono ?_; rintro e w2 ⟨rfl, hbw2⟩; have kaw2 : At w2 (w.heap.size) [.int .i64 ((tM i).1 : Int), .int .i64 ((tM i).2.1 : Int), .bool (tM i).2.2] := (by repeat (first | (with_reducible assumption) | ((with_reducible refine at_new' _ _ _ _ ?_); (first | rfl | (simp; done))) | (with_reducible refine At.alloc ?_ _) | (with_reducible refine At.drew ?_) | (with_reducible refine At.drewN ?_) | (with_reducible refine At.set ?_ (by omega)) | (with_reducible apply At.store4) | (with_reducible apply At.store3) | (with_reducible apply At.store2) | (with_reducible apply At.put43) | (refine At.below ?_ (by with_reducible assumption)))); have kbw2 : At w2 (w.heap.size + 1) [.int .i64 ((tM j).1 : Int), .int .i64 ((tM j).2.1 : Int), .bool (tM j).2.2, .int .i64 s] := (by repeat (first | (with_reducible assumption) | ((with_reducible refine at_new' _ _ _ _ ?_); (first | rfl | (simp; done))) | (with_reducible refine At.alloc ?_ _) | (with_reducible refine At.drew ?_) | (with_reducible refine At.drewN ?_) | (with_reducible refine At.set ?_ (by omega)) | (with_reducible apply At.store4) | (with_reducible apply At.store3) | (with_reducible apply At.store2) | (with_reducible apply At.put43) | (refine At.below ?_ (by with_reducible assumption)))); have kmw2 : At w2 (w.heap.size + 2) [.int .i64 ((tM l).1 : Int), .int .i64 ((tM l).2.1 : Int), .bool (tM l).2.2] := (by repeat (first | (with_reducible assumption) | ((with_reducible refine at_new' _ _ _ _ ?_); (first | rfl | (simp; done))) | (with_reducible refine At.alloc ?_ _) | (with_reducible refine At.drew ?_) | (with_reducible refine At.drewN ?_) | (with_reducible refine At.set ?_ (by omega)) | (with_reducible apply At.store4) | (with_reducible apply At.store3) | (with_reducible apply At.store2) | (with_reducible apply At.put43) | (refine At.below ?_ (by with_reducible assumption)))); have hqw2 : Below w.heap.size w w2 := (by repeat (first | (with_reducible exact Below.refl _ _) | (with_reducible assumption) | (with_reducible refine Below.setCell ?_ (by first | (simp; done) | (simp; omega) | omega) _) | (with_reducible refine Below.alloc ?_ (by first | (simp; done) | (simp; omega) | omega) _) | (refine bl_call ?_ (by assumption) (by first | (simp; done) | (simp; omega) | omega)) | (with_reducible refine bl_drewN ?_) | (with_reducible refine Below.drew ?_) | (with_reducible refine bl_grow ?_ (by first | (simp; done) | (simp; omega) | omega)))); have hzw2 := hqw2.size; obtain ⟨zaw2, ca0w2, ca1w2, ca2w2, fa0w2, fa1w2, fa2w2⟩ := kaw2.three; obtain ⟨zbw2, cb0w2, cb1w2, cb2w2, cb3w2, fb0w2, fb1w2, fb2w2, fb3w2⟩ := kbw2.four; obtain ⟨zmw2, cm0w2, cm1w2, cm2w2, fm0w2, fm1w2, fm2w2⟩ := kmw2.three; clear kaw1 ca0w1 fa0w1 ca1w1 fa1w1 ca2w1 fa2w1 kbw1 cb0w1 fb0w1 cb1w1 fb1w1 cb2w1 fb2w1 cb3w1 fb3w1 kmw1 cm0w1 fm0w1 cm1w1 fm1w1 cm2w1 fm2w1 hqw1; clear hbw2))
  refine wp_gen (fun V => At V (w.heap.size) [.int .i64 ((tM i).1 : Int), .int .i64 ((tM i).2.1 : Int), .bool (tM i).2.2] ∧ At V (w.heap.size + 1) [.int .i64 ((tM j).1 : Int), .int .i64 ((tM j).2.1 : Int), .bool (tM j).2.2, .int .i64 s] ∧ At V (w.heap.size + 2) [.int .i64 ((tM l).1 : Int), .int .i64 ((tM l).2.1 : Int), .bool (tM l).2.2] ∧ At V (w2.heap.size) [.int .i64 ((p).1 : Int), .int .i64 ((p).2.1 : Int), .bool (p).2.2] ∧ Below w.heap.size w V) ⟨by repeat (first | assumption | ((with_reducible refine at_new' _ _ _ _ ?_); (first | rfl | (simp; done))) | (with_reducible refine At.alloc ?_ _) | (with_reducible refine At.drewN ?_) | (with_reducible refine At.grow ?_) | (with_reducible refine At.store4 (by assumption)) | (with_reducible refine At.store3 (by assumption)) | (with_reducible refine At.store2 (by assumption)) | (with_reducible refine At.set ?_ (by omega)) | (with_reducible apply At.store4) | (with_reducible apply At.store3) | (with_reducible apply At.put43) | (refine At.below ?_ (by assumption))), by repeat (first | assumption | ((with_reducible refine at_new' _ _ _ _ ?_); (first | rfl | (simp; done))) | (with_reducible refine At.alloc ?_ _) | (with_reducible refine At.drewN ?_) | (with_reducible refine At.grow ?_) | (with_reducible refine At.store4 (by assumption)) | (with_reducible refine At.store3 (by assumption)) | (with_reducible refine At.store2 (by assumption)) | (with_reducible refine At.set ?_ (by omega)) | (with_reducible apply At.store4) | (with_reducible apply At.store3) | (with_reducible apply At.put43) | (refine At.below ?_ (by assumption))), by repeat (first | assumption | ((with_reducible refine at_new' _ _ _ _ ?_); (first | rfl | (simp; done))) | (with_reducible refine At.alloc ?_ _) | (with_reducible refine At.drewN ?_) | (with_reducible refine At.grow ?_) | (with_reducible refine At.store4 (by assumption)) | (with_reducible refine At.store3 (by assumption)) | (with_reducible refine At.store2 (by assumption)) | (with_reducible refine At.set ?_ (by omega)) | (with_reducible apply At.store4) | (with_reducible apply At.store3) | (with_reducible apply At.put43) | (refine At.below ?_ (by assumption))), by repeat (first | assumption | ((with_reducible refine at_new' _ _ _ _ ?_); (first | rfl | (simp; done))) | (with_reducible refine At.alloc ?_ _) | (with_reducible refine At.drewN ?_) | (with_reducible refine At.grow ?_) | (with_reducible refine At.store4 (by assumption)) | (with_reducible refine At.store3 (by assumption)) | (with_reducible refine At.store2 (by assumption)) | (with_reducible refine At.set ?_ (by omega)) | (with_reducible apply At.store4) | (with_reducible apply At.store3) | (with_reducible apply At.put43) | (refine At.below ?_ (by assumption))), by repeat (first | (with_reducible exact Below.refl _ _) | (with_reducible assumption) | (with_reducible refine Below.setCell ?_ (by first | (simp; done) | (simp; omega) | omega) _) | (with_reducible refine Below.alloc ?_ (by first | (simp; done) | (simp; omega) | omega) _) | (refine bl_call ?_ (by assumption) (by first | (simp; done) | (simp; omega) | omega)) | (with_reducible refine bl_drewN ?_) | (with_reducible refine Below.drew ?_) | (with_reducible refine bl_grow ?_ (by first | (simp; done) | (simp; omega) | omega)))⟩ ?_
  rintro V ⟨kaV, kbV, kmV, kpV, hqV⟩
  have hzV := hqV.size
  clear kaw2 ca0w2 fa0w2 ca1w2 fa1w2 ca2w2 fa2w2 kbw2 cb0w2 fb0w2 cb1w2 fb1w2 cb2w2 fb2w2 cb3w2 fb3w2 kmw2 cm0w2 fm0w2 cm1w2 fm1w2 cm2w2 fm2w2 hqw2
  obtain ⟨zaV, ca0V, ca1V, ca2V, fa0V, fa1V, fa2V⟩ := kaV.three
  obtain ⟨zbV, cb0V, cb1V, cb2V, cb3V, fb0V, fb1V, fb2V, fb3V⟩ := kbV.four
  obtain ⟨zmV, cm0V, cm1V, cm2V, fm0V, fm1V, fm2V⟩ := kmV.three
  obtain ⟨zpV, cp0V, cp1V, cp2V, fp0V, fp1V, fp2V⟩ := kpV.three
  go_cut [11] from 21 to 26 (fun t11 wx => ∃ b9 : Nat, t11 = .pointer (some ⟨b9, 0, none⟩) ∧ At wx (w2.heap.size) [.int .i64 ((p).1 : Int), .int .i64 ((p).2.1 : Int), .bool (p).2.2] ∧ At wx b9 [.int .i64 ((q).1 : Int), .int .i64 ((q).2.1 : Int), .bool (q).2.2] ∧ Below w.heap.size w wx)
  case first =>
    go_region_held3 (fun W => ((w.heap.size) < W.heap.size ∧ W.cell? ⟨w.heap.size, 0, none⟩ = some (.int .i64 ((tM i).1 : Int)) ∧ W.cell? ⟨w.heap.size, 1, none⟩ = some (.int .i64 ((tM i).2.1 : Int)) ∧ W.cell? ⟨w.heap.size, 2, none⟩ = some (.bool (tM i).2.2) ∧ W.frozen? ⟨w.heap.size, 0, none⟩ = false ∧ W.frozen? ⟨w.heap.size, 1, none⟩ = false ∧ W.frozen? ⟨w.heap.size, 2, none⟩ = false) ∧ ((w.heap.size + 1) < W.heap.size ∧ W.cell? ⟨w.heap.size + 1, 0, none⟩ = some (.int .i64 ((tM j).1 : Int)) ∧ W.cell? ⟨w.heap.size + 1, 1, none⟩ = some (.int .i64 ((tM j).2.1 : Int)) ∧ W.cell? ⟨w.heap.size + 1, 2, none⟩ = some (.bool (tM j).2.2) ∧ W.cell? ⟨w.heap.size + 1, 3, none⟩ = some (.int .i64 s) ∧ W.frozen? ⟨w.heap.size + 1, 0, none⟩ = false ∧ W.frozen? ⟨w.heap.size + 1, 1, none⟩ = false ∧ W.frozen? ⟨w.heap.size + 1, 2, none⟩ = false ∧ W.frozen? ⟨w.heap.size + 1, 3, none⟩ = false)) (exact ⟨At.three (by repeat (first | (with_reducible assumption) | ((with_reducible refine at_new' _ _ _ _ ?_); (first | rfl | (simp; done))) | (with_reducible refine At.alloc ?_ _) | (with_reducible refine At.drew ?_) | (with_reducible refine At.drewN ?_) | (with_reducible refine At.set ?_ (by omega)) | (with_reducible apply At.store4) | (with_reducible apply At.store3) | (with_reducible apply At.store2) | (with_reducible apply At.put43) | (refine At.below ?_ (by with_reducible assumption)))), At.four (by repeat (first | (with_reducible assumption) | ((with_reducible refine at_new' _ _ _ _ ?_); (first | rfl | (simp; done))) | (with_reducible refine At.alloc ?_ _) | (with_reducible refine At.drew ?_) | (with_reducible refine At.drewN ?_) | (with_reducible refine At.set ?_ (by omega)) | (with_reducible apply At.store4) | (with_reducible apply At.store3) | (with_reducible apply At.store2) | (with_reducible apply At.put43) | (refine At.below ?_ (by with_reducible assumption))))⟩) (first | (go_at_call 10; refine (rtimes_eq ET.out _).mono ?_; rintro e w3 ⟨rfl, hb3⟩; obtain ⟨hc3, hf3⟩ := bcell hb3; have hq3 : Below w.heap.size w w3 := (by repeat (first | (with_reducible exact Below.refl _ _) | (with_reducible assumption) | (with_reducible refine Below.setCell ?_ (by first | (simp; done) | (simp; omega) | omega) _) | (with_reducible refine Below.alloc ?_ (by first | (simp; done) | (simp; omega) | omega) _) | (refine bl_call ?_ (by assumption) (by first | (simp; done) | (simp; omega) | omega)) | (with_reducible refine bl_drewN ?_) | (with_reducible refine Below.drew ?_) | (with_reducible refine bl_grow ?_ (by first | (simp; done) | (simp; omega) | omega)))); have hz3 := hq3.size; clear hq3; have hl3 := rb_lt hb3; have hn3 := rb_ne hb3; have hm3 := rb_ne2 hb3; have hs3 := hb3.size; (try simp at hs3)) | (go_at_call 9; refine (EA.out _).mono ?_; rintro e w4 ⟨rfl, hb4⟩; obtain ⟨hc4, hf4⟩ := bcell hb4; have hq4 : Below w.heap.size w w4 := (by repeat (first | (with_reducible exact Below.refl _ _) | (with_reducible assumption) | (with_reducible refine Below.setCell ?_ (by first | (simp; done) | (simp; omega) | omega) _) | (with_reducible refine Below.alloc ?_ (by first | (simp; done) | (simp; omega) | omega) _) | (refine bl_call ?_ (by assumption) (by first | (simp; done) | (simp; omega) | omega)) | (with_reducible refine bl_drewN ?_) | (with_reducible refine Below.drew ?_) | (with_reducible refine bl_grow ?_ (by first | (simp; done) | (simp; omega) | omega)))); have hz4 := hq4.size; clear hq4; have hl4 := rb_lt hb4; have hn4 := rb_ne hb4; have hm4 := rb_ne2 hb4; have hs4 := hb4.size; (try simp at hs4)))
    all_goals (go_wp2_with fail)
    all_goals go_meet
    all_goals (case rel => exact ⟨_, rfl, by repeat (first | (with_reducible assumption) | ((with_reducible refine at_new' _ _ _ _ ?_); (first | rfl | (simp; done))) | (with_reducible refine At.alloc ?_ _) | (with_reducible refine At.drew ?_) | (with_reducible refine At.drewN ?_) | (with_reducible refine At.set ?_ (by omega)) | (with_reducible apply At.store4) | (with_reducible apply At.store3) | (with_reducible apply At.store2) | (with_reducible apply At.put43) | (refine At.below ?_ (by with_reducible assumption))), by repeat (first | (with_reducible assumption) | ((with_reducible refine at_new' _ _ _ _ ?_); (first | rfl | (simp; done))) | (with_reducible refine At.alloc ?_ _) | (with_reducible refine At.drew ?_) | (with_reducible refine At.drewN ?_) | (with_reducible refine At.set ?_ (by omega)) | (with_reducible apply At.store4) | (with_reducible apply At.store3) | (with_reducible apply At.store2) | (with_reducible apply At.put43) | (refine At.below ?_ (by with_reducible assumption))), by repeat (first | (with_reducible exact Below.refl _ _) | (with_reducible assumption) | (with_reducible refine Below.setCell ?_ (by first | (simp; done) | (simp; omega) | omega) _) | (with_reducible refine Below.alloc ?_ (by first | (simp; done) | (simp; omega) | omega) _) | (refine bl_call ?_ (by assumption) (by first | (simp; done) | (simp; omega) | omega)) | (with_reducible refine bl_drewN ?_) | (with_reducible refine Below.drew ?_) | (with_reducible refine bl_grow ?_ (by first | (simp; done) | (simp; omega) | omega)))⟩)
  case rest =>
    clear kaV kbV kmV kpV hqV
    obtain ⟨b9, rfl, kpwc, kqwc, hqwc⟩ := hcut
    have hzwc := hqwc.size
    obtain ⟨zpwc, cp0wc, cp1wc, cp2wc, fp0wc, fp1wc, fp2wc⟩ := kpwc.three
    obtain ⟨zqwc, cq0wc, cq1wc, cq2wc, fq0wc, fq1wc, fq2wc⟩ := kqwc.three
    cases t1 <;> cases t2 <;> cases t3
    all_goals (
    go_wp2_with fail
    go_ret
    exact ⟨rfl, by repeat (first | (with_reducible exact Below.refl _ _) | (with_reducible assumption) | (with_reducible refine Below.setCell ?_ (by first | (simp; done) | (simp; omega) | omega) _) | (with_reducible refine Below.alloc ?_ (by first | (simp; done) | (simp; omega) | omega) _) | (refine bl_call ?_ (by assumption) (by first | (simp; done) | (simp; omega) | omega)) | (with_reducible refine bl_drewN ?_) | (with_reducible refine Below.drew ?_) | (with_reducible refine bl_grow ?_ (by first | (simp; done) | (simp; omega) | omega)))⟩)
/-- Nothing more on its side. -/
theorem rright_same {i j : Nat} {s : Int} {b : Bool} {t : ByteArray} (ht : t.size ≤ 60) (h : sameS (tM (4 * em s)) (tM (j + i * askN j i t)) = b) (w : World) :
    Calls Tryd.prog 13 #[.agg #[.int .i64 ((tM i).1 : Int), .int .i64 ((tM i).2.1 : Int), .bool (tM i).2.2], .string t, .agg #[.int .i64 ((tM j).1 : Int), .int .i64 ((tM j).2.1 : Int), .bool (tM j).2.2, .int .i64 s], .agg #[.int .i64 0, .int .i64 0, .bool true]] w fun e w' => e = .returned (.bool b) ∧ Below w.heap.size w w' := by
  subst h
  exact rright_two (l := 0) ht (by rw [Nat.zero_mul, Nat.add_zero]) rfl rfl rfl rfl w
end Go.Proofs.YtmijjjdedadklajDoor
/- SameRows -/
namespace Go.Proofs.YtmijjjdedadklajDoor
open Go.RowKit Go.Sort
set_option linter.unusedVariables false
set_option linter.unusedSimpArgs false
set_option maxRecDepth 100000 in
set_option maxHeartbeats 2000000 in
theorem sints_nil (sa sb : Option Addr) (c d : Nat) (w : World) : Calls Tryd.prog 15 #[.slice sa 0 c, .slice sb 0 d] w fun e w' => e = .returned (.bool true) ∧ Below w.heap.size w w' := by
  go_enter Tryd.func15, Tryd.ntmps15
  go_wp2_with fail
  go_loopw [5] (fun ti wl => ti = .int .i64 0 ∧ Below w.heap.size w wl) (fun _ _ => 0)
  case atStart => exact ⟨rfl, by repeat (first | (with_reducible exact Below.refl _ _) | (with_reducible assumption) | (with_reducible refine Below.setCell ?_ (by first | (simp; done) | (simp; omega) | omega) _) | (with_reducible refine Below.alloc ?_ (by first | (simp; done) | (simp; omega) | omega) _) | (refine bl_call ?_ (by assumption) (by first | (simp; done) | (simp; omega) | omega)) | (with_reducible refine bl_drewN ?_) | (with_reducible refine Below.drew ?_) | (with_reducible refine bl_grow ?_ (by first | (simp; done) | (simp; omega) | omega)))⟩
  case round =>
    obtain ⟨rfl, hqV⟩ := hrel
    go_wp2_with fail
    go_ret
    exact ⟨rfl, by repeat (first | (with_reducible exact Below.refl _ _) | (with_reducible assumption) | (with_reducible refine Below.setCell ?_ (by first | (simp; done) | (simp; omega) | omega) _) | (with_reducible refine Below.alloc ?_ (by first | (simp; done) | (simp; omega) | omega) _) | (refine bl_call ?_ (by assumption) (by first | (simp; done) | (simp; omega) | omega)) | (with_reducible refine bl_drewN ?_) | (with_reducible refine Below.drew ?_) | (with_reducible refine bl_grow ?_ (by first | (simp; done) | (simp; omega) | omega)))⟩
set_option maxRecDepth 100000 in
set_option maxHeartbeats 2000000 in
theorem sints_row (b o b' o' n c c' : Nat) (X : Nat → Int) (w : World) (hn : n ≤ 1000000) (hr : RowI w b o n X) (hr' : RowI w b' o' n X) :
    Calls Tryd.prog 15 #[.slice (some ⟨b, o, none⟩) n c, .slice (some ⟨b', o', none⟩) n c'] w fun e w' => e = .returned (.bool true) ∧ Below w.heap.size w w' := by
  have HR : Hid (RowI w b o n X) := hr
  have HR' : Hid (RowI w b' o' n X) := hr'
  have hb := hr.1
  have hb' := hr'.1
  clear hr hr'
  go_enter Tryd.func15, Tryd.ntmps15
  go_wp2_with fail
  go_loopw [5] (fun ti wl => ∃ k : Nat, k ≤ n ∧ ti = .int .i64 k ∧ Below w.heap.size w wl) (fun ti _ => n - (intOf ti).toNat)
  case atStart => exact ⟨0, by omega, rfl, by repeat (first | (with_reducible exact Below.refl _ _) | (with_reducible assumption) | (with_reducible refine Below.setCell ?_ (by first | (simp; done) | (simp; omega) | omega) _) | (with_reducible refine Below.alloc ?_ (by first | (simp; done) | (simp; omega) | omega) _) | (refine bl_call ?_ (by assumption) (by first | (simp; done) | (simp; omega) | omega)) | (with_reducible refine bl_drewN ?_) | (with_reducible refine Below.drew ?_) | (with_reducible refine bl_grow ?_ (by first | (simp; done) | (simp; omega) | omega)))⟩
  case round =>
    obtain ⟨k, hk, rfl, hqV⟩ := hrel
    have hzV := hqV.size
    by_cases hlt : k < n
    · have hlt' : (k : Int) < n := by omega
      have hbV := Nat.lt_of_lt_of_le hb hzV
      have hbV' := Nat.lt_of_lt_of_le hb' hzV
      have c0 := (HR.out.below hb hqV).2 k hlt
      have d0 := (HR'.out.below hb' hqV).2 k hlt
      go_wp2_with fail
      go_quiet (fail)
      go_wp2_with fail
      go_roundw
      case rel => exact ⟨k + 1, by omega, by simp, by repeat (first | (with_reducible exact Below.refl _ _) | (with_reducible assumption) | (with_reducible refine Below.setCell ?_ (by first | (simp; done) | (simp; omega) | omega) _) | (with_reducible refine Below.alloc ?_ (by first | (simp; done) | (simp; omega) | omega) _) | (refine bl_call ?_ (by assumption) (by first | (simp; done) | (simp; omega) | omega)) | (with_reducible refine bl_drewN ?_) | (with_reducible refine Below.drew ?_) | (with_reducible refine bl_grow ?_ (by first | (simp; done) | (simp; omega) | omega)))⟩
      case measure => simp [intOf]; omega
    · have hlt' : ¬ (k : Int) < n := by omega
      go_wp2_with fail
      go_ret
      exact ⟨rfl, by repeat (first | (with_reducible exact Below.refl _ _) | (with_reducible assumption) | (with_reducible refine Below.setCell ?_ (by first | (simp; done) | (simp; omega) | omega) _) | (with_reducible refine Below.alloc ?_ (by first | (simp; done) | (simp; omega) | omega) _) | (refine bl_call ?_ (by assumption) (by first | (simp; done) | (simp; omega) | omega)) | (with_reducible refine bl_drewN ?_) | (with_reducible refine Below.drew ?_) | (with_reducible refine bl_grow ?_ (by first | (simp; done) | (simp; omega) | omega)))⟩
end Go.Proofs.YtmijjjdedadklajDoor
/- Gate -/
namespace Go.Proofs.YtmijjjdedadklajDoor
open Go.RowKit Go.Sort
set_option linter.unusedVariables false

section
variable {P : Program} {md : Region.Mode} {C : World → Prop} {ops : Array Oper} {Q : Exit → Act → World → Prop} {l1 l2 : List Oper}

theorem wpAny_more : ∀ (f : Nat) (L : Array Bool) (a : Act) (w : World), wpAny P md ops Q f L a w → wpAny P md ops Q (f + 1) L a w
  | 0, _, _, _, h => ⟨fun _ => h.2, by rw [h.1]; intro i hi; cases hi⟩
  | f + 1, _, _, _, h => ⟨h.1, fun i hi => wpOp_mono (fun a' w' h' => wpAny_more f _ a' w' h') (h.2 i hi)⟩
theorem wpAny_more' (k : Nat) {f : Nat} {L : Array Bool} {a : Act} {w : World} (h : wpAny P md ops Q f L a w) : wpAny P md ops Q (k + f) L a w := by
  induction k with
  | zero => rwa [Nat.zero_add]
  | succ k ih => rw [Nat.succ_add]; exact wpAny_more _ _ _ _ ih

/-- Each operation from n on waits for number n - 1 or for a later one. -/
def gateB (md : Region.Mode) (n : Nat) (ops : Array Oper) : Bool :=
  (List.range ops.size).all fun j => Nat.blt j n || ((ops[j]?).map fun o => o.after.any fun e => Region.binds md e && Nat.blt n (e.on + 2)).getD true
theorem gateB_spec {n : Nat} (h : gateB md n ops = true) {j : Nat} {o : Oper} (ho : ops[j]? = some o) (hj : n ≤ j) : ∃ e ∈ o.after, Region.binds md e = true ∧ n ≤ e.on + 1 := by
  unfold gateB at h
  rw [List.all_eq_true] at h
  have hs : j < ops.size := (Array.getElem?_eq_some_iff.1 ho).1
  have h1 := h j (List.mem_range.2 hs)
  have hn : Nat.blt j n = false := by rw [← Bool.not_eq_true, Nat.blt_eq]; omega
  rw [hn, Bool.false_or, ho] at h1
  simp only [Option.map_some, Option.getD_some] at h1
  rw [Array.any_eq_true] at h1
  obtain ⟨k, hk, h2⟩ := h1
  rw [Bool.and_eq_true, Nat.blt_eq] at h2
  exact ⟨o.after[k], Array.getElem_mem hk, h2.1, by omega⟩
theorem app_lt {j : Nat} (h : j < l1.length) : (l1 ++ l2).toArray[j]? = l1.toArray[j]? := by simp [List.getElem?_append_left h]
theorem getD_app {L : Array Bool} {n j : Nat} : (L ++ Array.replicate n false).getD j false = L.getD j false := by
  simp only [Array.getD_eq_getD_getElem?, Array.getElem?_append]
  split
  · rfl
  · rename_i h
    rw [Array.getElem?_eq_none (xs := L) (by omega), Array.getElem?_replicate]
    split <;> rfl
theorem ready_app {L : Array Bool} (hL : L.size = l1.length) {n j : Nat} (hj : j < l1.length) :
    j ∈ Region.ready md (l1 ++ l2).toArray (L ++ Array.replicate n false) ↔ j ∈ Region.ready md l1.toArray L := by
  rw [mem_ready, mem_ready, getD_tf (by simp; omega), getD_tf (by omega), getD_app, app_lt hj]
  constructor
  · rintro ⟨h0, x, hx, hall⟩
    exact ⟨h0, x, hx, fun e he hbe => by rw [← hall e he hbe, getD_app]⟩
  · rintro ⟨h0, x, hx, hall⟩
    exact ⟨h0, x, hx, fun e he hbe => by rw [← hall e he hbe, getD_app]⟩
theorem all_stuck {L : Array Bool} (hL : L.size = l1.length) (hb : backB l1.toArray = true) (hr : Region.ready md l1.toArray L = []) :
    ∀ n j, j < n → j < l1.length → L.getD j false = true := by
  intro n
  induction n with
  | zero => intro j h; omega
  | succ n ih =>
    intro j h hj
    by_cases hjn : j < n
    · exact ih j hjn hj
    · obtain ⟨x, hx⟩ : ∃ x, l1.toArray[j]? = some x := ⟨l1[j], by simp [hj]⟩
      cases hv : L.getD j false with
      | true => rfl
      | false =>
        exfalso
        have : j ∈ Region.ready md l1.toArray L := mem_ready.2 ⟨by rw [getD_tf (by omega)]; exact hv, x, hx, fun e he _ => ih e.on (by have := backB_spec hb hx e he; omega) (by have := backB_spec hb hx e he; omega)⟩
        rw [hr] at this; cases this
theorem all_gate {L : Array Bool} (hl : lastB md l1.toArray = true) (hc : Closed md l1.toArray L) (hg : L.getD (l1.length - 1) false = true) :
    ∀ n j, l1.length - 1 - n ≤ j → j < l1.length → L.getD j false = true := by
  intro n
  induction n with
  | zero => intro j h1 h2; rwa [show j = l1.length - 1 by omega]
  | succ n ih =>
    intro j h1 h2
    by_cases hj : j = l1.length - 1
    · rwa [hj]
    · obtain ⟨k, x, hjk, hx, e, he, hbe, hon⟩ := lastB_spec hl (i := j) (by simp; omega)
      have hk : k < l1.length := by have := (Array.getElem?_eq_some_iff.1 hx).1; simpa using this
      have := hc k x hx (ih k (by omega) hk) e he hbe
      rwa [hon] at this
theorem all_later {L : Array Bool} (hL : L.size = l1.length) (h0 : 0 < l1.length) (hl : lastB md l1.toArray = true) (hG : gateB md l1.length (l1 ++ l2).toArray = true) (hc : Closed md l1.toArray L) {n j : Nat} (hj : l1.length ≤ j)
    (hr : j ∈ Region.ready md (l1 ++ l2).toArray (L ++ Array.replicate n false)) : ∀ i, i < l1.length → L.getD i false = true := by
  obtain ⟨_, x, hx, hall⟩ := mem_ready.1 hr
  obtain ⟨e, he, hbe, hon⟩ := gateB_spec hG hx hj
  have h1 := hall e he hbe
  rw [getD_app] at h1
  have h2 : e.on < L.size := by
    rcases Nat.lt_or_ge e.on L.size with h | h
    · exact h
    · simp [Array.getD_eq_getD_getElem?, Array.getElem?_eq_none h] at h1
  have h3 : e.on = l1.length - 1 := by omega
  rw [h3] at h1
  exact fun i hi => all_gate hl hc h1 l1.length i (by omega) hi
theorem all_is {L : Array Bool} (hL : L.size = l1.length) (h : ∀ i, i < l1.length → L.getD i false = true) : L = Array.replicate l1.length true := by
  apply Array.ext
  · simpa using hL
  · intro i h1 h2
    have := h i (by omega)
    simp only [Array.getD_eq_getD_getElem?, Array.getElem?_eq_getElem h1, Option.getD_some] at this
    rw [this]; simp

theorem wpAny_gate {Q' : Act → Prop} (h0 : 0 < l1.length) (hg : l1.all (fun o => o.guard.isNone) = true) (hb : backB l1.toArray = true) (hl : lastB md l1.toArray = true) (hG : gateB md l1.length (l1 ++ l2).toArray = true)
    (hQ : ∀ a w, C w → Q' a → wpAny P md (l1 ++ l2).toArray Q l2.length (Array.replicate l1.length true ++ Array.replicate l2.length false) a w) :
    ∀ (fuel : Nat) (L : Array Bool) (a : Act) (w : World), L.size = l1.length → Closed md l1.toArray L → C w →
      wpAnyQ P md l1.toArray C Q' fuel L a → wpAny P md (l1 ++ l2).toArray Q (fuel + l2.length) (L ++ Array.replicate l2.length false) a w := by
  intro fuel
  induction fuel with
  | zero =>
    intro L a w hL hcl hC h
    rw [all_is hL (fun i hi => all_stuck hL hb h.1 l1.length i hi hi), Nat.zero_add]
    exact hQ a w hC h.2
  | succ fuel ih =>
    intro L a w hL hcl hC h
    by_cases hall : ∀ i, i < l1.length → L.getD i false = true
    · rw [all_is hL hall]
      exact wpAny_more' _ (hQ a w hC (h.1 (ready_nil_of_all hL hall)))
    · rw [Nat.succ_add]
      refine ⟨fun hr => ?_, fun i hi => ?_⟩
      · exfalso
        refine hall fun i hi => all_stuck (md := md) hL hb ?_ l1.length i hi hi
        cases e : Region.ready md l1.toArray L with
        | nil => rfl
        | cons j r =>
          exfalso
          have hm : j ∈ Region.ready md l1.toArray L := by rw [e]; simp
          obtain ⟨_, x, hx, _⟩ := mem_ready.1 hm
          have hj : j < l1.length := by have := (Array.getElem?_eq_some_iff.1 hx).1; simpa using this
          have := (ready_app (l2 := l2) (n := l2.length) hL hj).2 hm
          rw [hr] at this; cases this
      · have hi2 : i < l1.length := by
          rcases Nat.lt_or_ge i l1.length with h' | h'
          · exact h'
          · exact absurd (all_later hL h0 hl hG hcl h' hi) hall
        have hm := (ready_app hL hi2).1 hi
        have hset : (L ++ Array.replicate l2.length false).setIfInBounds i true = L.setIfInBounds i true ++ Array.replicate l2.length false := by
          rw [Array.setIfInBounds_append_left (by omega)]
        have hcl' : Closed md l1.toArray (L.setIfInBounds i true) := by
          intro j x hx hj e he hbe
          by_cases h1 : i = e.on
          · rw [← h1]; exact getD_set_self (by omega)
          · rw [getD_set_other h1]
            by_cases h2 : i = j
            · subst h2
              obtain ⟨_, y, hy, hall'⟩ := mem_ready.1 hm
              rw [hx] at hy; obtain rfl := Option.some.inj hy
              exact hall' e he hbe
            · rw [getD_set_other h2] at hj
              exact hcl j x hx hj e he hbe
        have hw := wpOp_of_qOp (P := P) (Q' := Q) (K' := fun a' w' => wpAny P md (l1 ++ l2).toArray Q (fuel + l2.length) ((L ++ Array.replicate l2.length false).setIfInBounds i true) a' w') hC
          (fun a' w' hC' hk => by rw [hset]; exact ih _ a' w' (by simpa using hL) hcl' hC' hk) (h.2 i hm)
        unfold wpOp at hw ⊢
        rw [app_lt hi2]
        obtain ⟨x, hx⟩ : ∃ x, l1.toArray[i]? = some x := ⟨l1[i], by simp [hi2]⟩
        have hgx : x.guard = none := by
          rw [List.all_eq_true] at hg
          have := hg x (List.mem_of_getElem? (by simpa using hx))
          simpa using this
        simp only [hx, Region.wanted, hgx, if_true] at hw ⊢
        exact hw
/-- The whole check of a region, of which the first n operations only read. -/
def quietGateB (n : Nat) (ops : List Oper) : Bool :=
  Nat.blt 0 (ops.take n).length && Region.lexB .any (ops.take n).toArray && backB (ops.take n).toArray && lastB .any (ops.take n).toArray && gateB .any (ops.take n).length ops.toArray && (ops.take n).all (fun o => o.guard.isNone)

theorem region_gate (n : Nat) {id : Nat} {a : Act} {w : World} {ops : List Oper} (hm : P.follows .mixedOrders = true) (hB : quietGateB n ops = true) (hC : C { w with drawn := w.drawn + 1 })
    (h : wpQuiet P (ops.take n).toArray C (fun a' => ∀ w', C w' → wpAny P .any ops.toArray Q (ops.drop n).length (Array.replicate (ops.take n).length true ++ Array.replicate (ops.drop n).length false) a' w') (ops.take n) a) : (Code.region id ops.toArray true).wp P Q a w := by
  simp only [quietGateB, Bool.and_eq_true] at hB
  obtain ⟨⟨⟨⟨⟨h0, h1⟩, h2⟩, h3⟩, h4⟩, h5⟩ := hB
  rw [Nat.blt_eq] at h0
  have hops : ops = ops.take n ++ ops.drop n := (List.take_append_drop n ops).symm
  generalize hL1 : ops.take n = l1 at *
  generalize hL2 : ops.drop n = l2 at *
  subst hops
  simp only [Region.lexB, Bool.and_eq_true] at h1
  have hlex := wpAnyQ_lex (C := C) (md := .any) h1.1 l1 0 (Array.replicate l1.toArray.size false) a (by simp) (by simpa using h1.2) h
  refine wp_region_any hm ?_
  have := wpAny_gate (P := P) (md := .any) (C := C) (Q := Q) (Q' := fun a' => ∀ w', C w' → wpAny P .any (l1 ++ l2).toArray Q l2.length (Array.replicate l1.length true ++ Array.replicate l2.length false) a' w') h0 h5 h2 h3 h4 (fun a' w' hC' hq => hq w' hC') l1.length (Array.replicate l1.length false) a { w with drawn := w.drawn + 1 } (by simp)
    (by
      intro j x hx hj
      simp only [Array.getD_eq_getD_getElem?, Array.getElem?_replicate] at hj
      split at hj <;> simp at hj)
    hC (by simpa using hlex)
  have e1 : (l1 ++ l2).toArray.size = l1.length + l2.length := by simp
  have e2 : Array.replicate (l1.length + l2.length) false = Array.replicate l1.length false ++ Array.replicate l2.length false := by
    rw [Array.replicate_append_replicate]
  rw [e1, e2]
  exact this
/-- The same, for operations that are written out; behind the first part the memory is a letter. -/
theorem below_gate (n m : Nat) (L : Array Bool) {id : Nat} {a : Act} {w : World} {ops : List Oper} (hm : P.follows .mixedOrders = true) (hB : quietGateB n ops = true)
    (hlm : (ops.drop n).length = m) (hL : Array.replicate (ops.take n).length true ++ Array.replicate (ops.drop n).length false = L)
    (h : wpQuiet P (ops.take n).toArray (fun w' => ∃ p : Regrown, w' = grow (redrawn w p.d) p.os) (fun a' => ∀ w', (∃ p : Regrown, w' = grow (redrawn w p.d) p.os) → wpAny P .any ops.toArray Q m L a' w') (ops.take n) a) : (Code.region id ops.toArray true).wp P Q a w := by
  subst hlm hL
  exact region_gate n (C := fun w' => ∃ p : Regrown, w' = grow (redrawn w p.d) p.os) hm hB ⟨⟨w.drawn + 1, #[]⟩, by rw [grow_empty]; rfl⟩ h
end
end Go.Proofs.YtmijjjdedadklajDoor
