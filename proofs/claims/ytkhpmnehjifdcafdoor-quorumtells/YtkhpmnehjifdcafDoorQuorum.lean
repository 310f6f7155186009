/- What package quorum answers: Part, Join, Public. -/
import Derived.Test.YtkhpmnehjifdcafDoorQuorumIs
import Derived.Test.YtkhpmnehjifdcafDoorShare
import Derived.Test.YtkhpmnehjifdcafDoorTimesOrd
import Derived.Test.YtkhpmnehjifdcafDoorCurveEq
import Derived.Test.YtkhpmnehjifdcafDoorUSpot
import Derived.Test.YtkhpmnehjifdcafDoorOwn
import Derived.Test.YtkhpmnehjifdcafDoorRowE
import Derived.Test.YtkhpmnehjifdcafDoorGate
import Derived.Deep.RegionHeld3
import Derived.Deep.CutRange
namespace Go.Proofs.YtkhpmnehjifdcafDoor
open Go.RowKit Go.Sort
set_option linter.unusedVariables false
set_option linter.unusedSimpArgs false
theorem qb_lt {W w1 : World} (hb : Below W.heap.size W w1) : ∀ b, b < W.heap.size → b < w1.heap.size := fun b h => Nat.lt_of_lt_of_le h hb.size
theorem qb_ne {W w1 : World} (hb : Below W.heap.size W w1) : ∀ b, b < W.heap.size → (b = w1.heap.size) = False := fun b h => eq_false (Nat.ne_of_lt (qb_lt hb b h))
theorem qb_ne2 {W w1 : World} (hb : Below W.heap.size W w1) : ∀ b, b < W.heap.size → (w1.heap.size = b) = False := fun b h => eq_false (Nat.ne_of_gt (qb_lt hb b h))
theorem em_res {y : Int} (h : resB y = true) : em y = y.toNat := by
  have := of_decide_eq_true (p := 0 ≤ y ∧ y < 1013) h
  unfold em; omega
theorem em_vI (q : QF) : em (vI q) = q.val := by
  have := q.isLt
  unfold em vI; omega
theorem csh_no (x y : Int) (w : World) (h : (secB x && resB y) = false) : Calls Tryd.prog 41 #[.agg #[.int .i64 x, .int .i64 y]] w fun e w' => e = .returned (errOf 1) ∧ Below w.heap.size w w' := by
  by_cases h1 : x < 1
  · go_enter Tryd.func41, Tryd.ntmps41
    go_wp2_with fail
    go_ret
    exact ⟨rfl, by repeat (first | (with_reducible exact Below.refl _ _) | (with_reducible assumption) | (with_reducible refine Below.setCell ?_ (by first | (simp; done) | (simp; omega) | omega) _) | (with_reducible refine Below.alloc ?_ (by first | (simp; done) | (simp; omega) | omega) _) | (refine bl_call ?_ (by assumption) (by first | (simp; done) | (simp; omega) | omega)) | (with_reducible refine bl_drewN ?_) | (with_reducible refine Below.drew ?_) | (with_reducible refine bl_grow ?_ (by first | (simp; done) | (simp; omega) | omega)))⟩
  by_cases h2 : x ≥ 1013
  · go_enter Tryd.func41, Tryd.ntmps41
    go_wp2_with fail
    go_ret
    exact ⟨rfl, by repeat (first | (with_reducible exact Below.refl _ _) | (with_reducible assumption) | (with_reducible refine Below.setCell ?_ (by first | (simp; done) | (simp; omega) | omega) _) | (with_reducible refine Below.alloc ?_ (by first | (simp; done) | (simp; omega) | omega) _) | (refine bl_call ?_ (by assumption) (by first | (simp; done) | (simp; omega) | omega)) | (with_reducible refine bl_drewN ?_) | (with_reducible refine Below.drew ?_) | (with_reducible refine bl_grow ?_ (by first | (simp; done) | (simp; omega) | omega)))⟩
  by_cases h3 : y < 0
  · go_enter Tryd.func41, Tryd.ntmps41
    go_wp2_with fail
    go_ret
    exact ⟨rfl, by repeat (first | (with_reducible exact Below.refl _ _) | (with_reducible assumption) | (with_reducible refine Below.setCell ?_ (by first | (simp; done) | (simp; omega) | omega) _) | (with_reducible refine Below.alloc ?_ (by first | (simp; done) | (simp; omega) | omega) _) | (refine bl_call ?_ (by assumption) (by first | (simp; done) | (simp; omega) | omega)) | (with_reducible refine bl_drewN ?_) | (with_reducible refine Below.drew ?_) | (with_reducible refine bl_grow ?_ (by first | (simp; done) | (simp; omega) | omega)))⟩
  by_cases h4 : y ≥ 1013
  · go_enter Tryd.func41, Tryd.ntmps41
    go_wp2_with fail
    go_ret
    exact ⟨rfl, by repeat (first | (with_reducible exact Below.refl _ _) | (with_reducible assumption) | (with_reducible refine Below.setCell ?_ (by first | (simp; done) | (simp; omega) | omega) _) | (with_reducible refine Below.alloc ?_ (by first | (simp; done) | (simp; omega) | omega) _) | (refine bl_call ?_ (by assumption) (by first | (simp; done) | (simp; omega) | omega)) | (with_reducible refine bl_drewN ?_) | (with_reducible refine Below.drew ?_) | (with_reducible refine bl_grow ?_ (by first | (simp; done) | (simp; omega) | omega)))⟩
  · exfalso
    rw [show secB x = true from decide_eq_true ⟨by omega, by omega⟩, show resB y = true from decide_eq_true ⟨by omega, by omega⟩] at h
    cases h
theorem csh_yes (x y : Int) (w : World) (h : (secB x && resB y) = true) : Calls Tryd.prog 41 #[.agg #[.int .i64 x, .int .i64 y]] w fun e w' => e = .returned (.nilIface) ∧ Below w.heap.size w w' := by
  rw [Bool.and_eq_true] at h
  have a := sec_bd h.1
  have b := res_bd h.2
  have h1 : ¬ x < 1 := by omega
  have h2 : ¬ x ≥ 1013 := by omega
  have h3 : ¬ y < 0 := by omega
  have h4 : ¬ y ≥ 1013 := by omega
  clear h a b
  go_enter Tryd.func41, Tryd.ntmps41
  go_wp2_with fail
  go_ret
  exact ⟨rfl, by repeat (first | (with_reducible exact Below.refl _ _) | (with_reducible assumption) | (with_reducible refine Below.setCell ?_ (by first | (simp; done) | (simp; omega) | omega) _) | (with_reducible refine Below.alloc ?_ (by first | (simp; done) | (simp; omega) | omega) _) | (refine bl_call ?_ (by assumption) (by first | (simp; done) | (simp; omega) | omega)) | (with_reducible refine bl_drewN ?_) | (with_reducible refine Below.drew ?_) | (with_reducible refine bl_grow ?_ (by first | (simp; done) | (simp; omega) | omega)))⟩
set_option maxRecDepth 100000 in
set_option maxHeartbeats 2000000 in
theorem part_no (x y : Int) (t : ByteArray) (w : World) (h : (secB x && resB y) = false) : Calls Tryd.prog 18 #[.agg #[.int .i64 x, .int .i64 y], .string t] w fun e w' => e = .returned (.tuple #[.agg #[.int .i64 0, .int .i64 0, .bool false], errOf 1]) ∧ Below w.heap.size w w' := by
  have H : Hid (∀ w, Calls Tryd.prog 41 #[.agg #[.int .i64 x, .int .i64 y]] w fun e w' => e = .returned (errOf 1) ∧ Below w.heap.size w w') := fun w => csh_no x y w h
  clear h
  have m1 : True := trivial
  go_enter Tryd.func18, Tryd.ntmps18
  go_wp2_with (go_at_call 41; clear m1; refine (H.out _).mono ?_; rintro e w1 ⟨rfl, hbw1⟩; have ksw1 : At w1 (w.heap.size) [.int .i64 x, .int .i64 y] := (by repeat (first | (with_reducible assumption) | ((with_reducible refine at_new' _ _ _ _ ?_); (first | rfl | (simp; done))) | (with_reducible refine At.alloc ?_ _) | (with_reducible refine At.drew ?_) | (with_reducible refine At.drewN ?_) | (with_reducible refine At.set ?_ (by omega)) | (with_reducible apply At.store4) | (with_reducible apply At.store3) | (with_reducible apply At.store2) | (with_reducible apply At.put43) | (refine At.below ?_ (by with_reducible assumption)))); have krw1 : At w1 (w.heap.size + 1) [.int .i64 0, .int .i64 0, .bool false] := (by repeat (first | (with_reducible assumption) | ((with_reducible refine at_new' _ _ _ _ ?_); (first | rfl | (simp; done))) | (with_reducible refine At.alloc ?_ _) | (with_reducible refine At.drew ?_) | (with_reducible refine At.drewN ?_) | (with_reducible refine At.set ?_ (by omega)) | (with_reducible apply At.store4) | (with_reducible apply At.store3) | (with_reducible apply At.store2) | (with_reducible apply At.put43) | (refine At.below ?_ (by with_reducible assumption)))); have hqw1 : Below w.heap.size w w1 := (by repeat (first | (with_reducible exact Below.refl _ _) | (with_reducible assumption) | (with_reducible refine Below.setCell ?_ (by first | (simp; done) | (simp; omega) | omega) _) | (with_reducible refine Below.alloc ?_ (by first | (simp; done) | (simp; omega) | omega) _) | (refine bl_call ?_ (by assumption) (by first | (simp; done) | (simp; omega) | omega)) | (with_reducible refine bl_drewN ?_) | (with_reducible refine Below.drew ?_) | (with_reducible refine bl_grow ?_ (by first | (simp; done) | (simp; omega) | omega)))); have hzw1 := hqw1.size; obtain ⟨zsw1, cs0w1, cs1w1, fs0w1, fs1w1⟩ := ksw1.two; obtain ⟨zrw1, cr0w1, cr1w1, cr2w1, fr0w1, fr1w1, fr2w1⟩ := krw1.three; clear hbw1)
  exact bodyPost_ret (v := .tuple #[.agg #[.int .i64 0, .int .i64 0, .bool false], errOf 1]) (by simp [results, Tryd.results18, go_sem, *]) rfl ⟨rfl, by repeat (first | (with_reducible exact Below.refl _ _) | (with_reducible assumption) | (with_reducible refine Below.setCell ?_ (by first | (simp; done) | (simp; omega) | omega) _) | (with_reducible refine Below.alloc ?_ (by first | (simp; done) | (simp; omega) | omega) _) | (refine bl_call ?_ (by assumption) (by first | (simp; done) | (simp; omega) | omega)) | (with_reducible refine bl_drewN ?_) | (with_reducible refine Below.drew ?_) | (with_reducible refine bl_grow ?_ (by first | (simp; done) | (simp; omega) | omega)))⟩
set_option maxRecDepth 100000 in
set_option maxHeartbeats 2000000 in
theorem part_full (x y : Int) (t : ByteArray) (w : World) (h : (secB x && resB y) = true) (h2 : 60 < t.size) (ht : t.size ≤ 9223372036854775807) : Calls Tryd.prog 18 #[.agg #[.int .i64 x, .int .i64 y], .string t] w fun e w' => e = .returned (.tuple #[.agg #[.int .i64 0, .int .i64 0, .bool false], errOf 4]) ∧ Below w.heap.size w w' := by
  have H : Hid (∀ w, Calls Tryd.prog 41 #[.agg #[.int .i64 x, .int .i64 y]] w fun e w' => e = .returned (.nilIface) ∧ Below w.heap.size w w') := fun w => csh_yes x y w h
  have h' : (t.size : Int) > 60 := by omega
  clear h
  have m1 : True := trivial
  go_enter Tryd.func18, Tryd.ntmps18
  go_wp2_with (go_at_call 41; clear m1; refine (H.out _).mono ?_; rintro e w1 ⟨rfl, hbw1⟩; have ksw1 : At w1 (w.heap.size) [.int .i64 x, .int .i64 y] := (by repeat (first | (with_reducible assumption) | ((with_reducible refine at_new' _ _ _ _ ?_); (first | rfl | (simp; done))) | (with_reducible refine At.alloc ?_ _) | (with_reducible refine At.drew ?_) | (with_reducible refine At.drewN ?_) | (with_reducible refine At.set ?_ (by omega)) | (with_reducible apply At.store4) | (with_reducible apply At.store3) | (with_reducible apply At.store2) | (with_reducible apply At.put43) | (refine At.below ?_ (by with_reducible assumption)))); have krw1 : At w1 (w.heap.size + 1) [.int .i64 0, .int .i64 0, .bool false] := (by repeat (first | (with_reducible assumption) | ((with_reducible refine at_new' _ _ _ _ ?_); (first | rfl | (simp; done))) | (with_reducible refine At.alloc ?_ _) | (with_reducible refine At.drew ?_) | (with_reducible refine At.drewN ?_) | (with_reducible refine At.set ?_ (by omega)) | (with_reducible apply At.store4) | (with_reducible apply At.store3) | (with_reducible apply At.store2) | (with_reducible apply At.put43) | (refine At.below ?_ (by with_reducible assumption)))); have hqw1 : Below w.heap.size w w1 := (by repeat (first | (with_reducible exact Below.refl _ _) | (with_reducible assumption) | (with_reducible refine Below.setCell ?_ (by first | (simp; done) | (simp; omega) | omega) _) | (with_reducible refine Below.alloc ?_ (by first | (simp; done) | (simp; omega) | omega) _) | (refine bl_call ?_ (by assumption) (by first | (simp; done) | (simp; omega) | omega)) | (with_reducible refine bl_drewN ?_) | (with_reducible refine Below.drew ?_) | (with_reducible refine bl_grow ?_ (by first | (simp; done) | (simp; omega) | omega)))); have hzw1 := hqw1.size; obtain ⟨zsw1, cs0w1, cs1w1, fs0w1, fs1w1⟩ := ksw1.two; obtain ⟨zrw1, cr0w1, cr1w1, cr2w1, fr0w1, fr1w1, fr2w1⟩ := krw1.three; clear hbw1)
  exact bodyPost_ret (v := .tuple #[.agg #[.int .i64 0, .int .i64 0, .bool false], errOf 4]) (by simp [results, Tryd.results18, go_sem, *]) rfl ⟨rfl, by repeat (first | (with_reducible exact Below.refl _ _) | (with_reducible assumption) | (with_reducible refine Below.setCell ?_ (by first | (simp; done) | (simp; omega) | omega) _) | (with_reducible refine Below.alloc ?_ (by first | (simp; done) | (simp; omega) | omega) _) | (refine bl_call ?_ (by assumption) (by first | (simp; done) | (simp; omega) | omega)) | (with_reducible refine bl_drewN ?_) | (with_reducible refine Below.drew ?_) | (with_reducible refine bl_grow ?_ (by first | (simp; done) | (simp; omega) | omega)))⟩
set_option maxRecDepth 100000 in
set_option maxHeartbeats 2000000 in
theorem part_ok (x y : Int) (m : Nat) (t : ByteArray) (w : World) (h : (secB x && resB y) = true) (hm : y = (m : Int)) (h2 : t.size ≤ 60) : Calls Tryd.prog 18 #[.agg #[.int .i64 x, .int .i64 y], .string t] w fun e w' => e = .returned (.tuple #[.agg #[.int .i64 ((tM (4 * (uN t * m))).1 : Int), .int .i64 ((tM (4 * (uN t * m))).2.1 : Int), .bool (tM (4 * (uN t * m))).2.2], .nilIface]) ∧ Below w.heap.size w w' := by
  have H : Hid (∀ w, Calls Tryd.prog 41 #[.agg #[.int .i64 x, .int .i64 y]] w fun e w' => e = .returned (.nilIface) ∧ Below w.heap.size w w') := fun w => csh_yes x y w h
  have E : Hid (tM (4 * uN t * em y) = tM (4 * (uN t * m))) := by
    unfold Hid
    rw [Bool.and_eq_true] at h
    rw [em_res h.2, hm, Int.toNat_natCast, Nat.mul_assoc]
  have h' : ¬ (t.size : Int) > 60 := by omega
  have ht : t.size ≤ 9223372036854775807 := by omega
  clear h hm
  have m1 : True := trivial
  go_enter Tryd.func18, Tryd.ntmps18
  go_wp2_with (go_at_call 41; clear m1; refine (H.out _).mono ?_; rintro e V ⟨rfl, hbV⟩; have ksV : At V (w.heap.size) [.int .i64 x, .int .i64 y] := (by repeat (first | (with_reducible assumption) | ((with_reducible refine at_new' _ _ _ _ ?_); (first | rfl | (simp; done))) | (with_reducible refine At.alloc ?_ _) | (with_reducible refine At.drew ?_) | (with_reducible refine At.drewN ?_) | (with_reducible refine At.set ?_ (by omega)) | (with_reducible apply At.store4) | (with_reducible apply At.store3) | (with_reducible apply At.store2) | (with_reducible apply At.put43) | (refine At.below ?_ (by with_reducible assumption)))); have krV : At V (w.heap.size + 1) [.int .i64 0, .int .i64 0, .bool false] := (by repeat (first | (with_reducible assumption) | ((with_reducible refine at_new' _ _ _ _ ?_); (first | rfl | (simp; done))) | (with_reducible refine At.alloc ?_ _) | (with_reducible refine At.drew ?_) | (with_reducible refine At.drewN ?_) | (with_reducible refine At.set ?_ (by omega)) | (with_reducible apply At.store4) | (with_reducible apply At.store3) | (with_reducible apply At.store2) | (with_reducible apply At.put43) | (refine At.below ?_ (by with_reducible assumption)))); have hqV : Below w.heap.size w V := (by repeat (first | (with_reducible exact Below.refl _ _) | (with_reducible assumption) | (with_reducible refine Below.setCell ?_ (by first | (simp; done) | (simp; omega) | omega) _) | (with_reducible refine Below.alloc ?_ (by first | (simp; done) | (simp; omega) | omega) _) | (refine bl_call ?_ (by assumption) (by first | (simp; done) | (simp; omega) | omega)) | (with_reducible refine bl_drewN ?_) | (with_reducible refine Below.drew ?_) | (with_reducible refine bl_grow ?_ (by first | (simp; done) | (simp; omega) | omega)))); have hzV := hqV.size; obtain ⟨zsV, cs0V, cs1V, fs0V, fs1V⟩ := ksV.two; obtain ⟨zrV, cr0V, cr1V, cr2V, fr0V, fr1V, fr2V⟩ := krV.three; clear hbV)
  refine below_gate 5 4 #[true, true, true, true, true, false, false, false, false] (by kernel_rfl) (by kernel_rfl) rfl rfl ?_
  dsimp only [List.take]
  repeat (go_big_quiet_step (first | (go_at_call 43; with_reducible exact Calls.regrown_of (spot_w _ _ ht)) | (go_at_call 42; with_reducible exact Calls.regrown_of (times_eq E.out _))))
  refine wpQuiet_nil ?_
  intro W hw1
  have hrW := regrown_below hw1
  clear hw1
  have ksW := ksV.below hrW
  have krW := krV.below hrW
  have hqW := bl_call hqV hrW (by omega)
  have hzW := hqW.size
  clear hrW ksV cs0V fs0V cs1V fs1V krV cr0V fr0V cr1V fr1V cr2V fr2V hqV
  obtain ⟨zsW, cs0W, cs1W, fs0W, fs1W⟩ := ksW.two
  obtain ⟨zrW, cr0W, cr1W, cr2W, fr0W, fr1W, fr2W⟩ := krW.three
  refine wpAny_take (i := 5) (v := ?v5) rfl (by kernel_rfl) (by kernel_rfl) (by kernel_rfl) (fun _ _ _ h => h) (Or.inl ⟨by rfl, ?y5⟩) ?z5
  case y5 => ((intro w); (go_simp); (try with_reducible rfl))
  case z5 =>
  refine wpAny_take (i := 6) (v := ?v6) rfl (by kernel_rfl) (by kernel_rfl) (by kernel_rfl) (fun _ _ _ h => h) (Or.inl ⟨by rfl, ?y6⟩) ?z6
  case y6 => ((intro w); (go_simp); (try with_reducible rfl))
  case z6 =>
  refine wpAny_ready (rs := [7]) (by kernel_rfl) (by simp) (AllReady.cons rfl (fun K hK => ?_) AllReady.nil)
  go_simp
  refine hK _ _ ?_
  clear hK K
  refine wpAny_ready (rs := [8]) (by kernel_rfl) (by simp) (AllReady.cons rfl (fun K hK => ?_) AllReady.nil)
  go_simp
  refine hK _ _ ?_
  clear hK K
  refine wpAny_done (by kernel_rfl) ?_ _
  go_wp2_with fail
  exact bodyPost_ret (v := .tuple #[.agg #[.int .i64 ((tM (4 * (uN t * m))).1 : Int), .int .i64 ((tM (4 * (uN t * m))).2.1 : Int), .bool (tM (4 * (uN t * m))).2.2], .nilIface]) (by simp [results, Tryd.results18, go_sem, *]) rfl ⟨rfl, by repeat (first | (with_reducible exact Below.refl _ _) | (with_reducible assumption) | (with_reducible refine Below.setCell ?_ (by first | (simp; done) | (simp; omega) | omega) _) | (with_reducible refine Below.alloc ?_ (by first | (simp; done) | (simp; omega) | omega) _) | (refine bl_call ?_ (by assumption) (by first | (simp; done) | (simp; omega) | omega)) | (with_reducible refine bl_drewN ?_) | (with_reducible refine Below.drew ?_) | (with_reducible refine bl_grow ?_ (by first | (simp; done) | (simp; omega) | omega)))⟩
theorem part_is : PartIs :=
  ⟨fun x y t w _ h => part_no x y t w h, fun x y t w h h2 ht => part_full x y t w h h2 ht,
   fun x y t w hx hy ht => part_ok x (y : Int) y t w (by rw [hx, show resB (y : Int) = true from decide_eq_true ⟨by omega, by omega⟩]; rfl) rfl ht⟩
theorem rowI_at {w W : World} {g q n : Nat} {F : Nat → Int} (h : RowI w g q n F) (k : Below w.heap.size w W) {i : Nat} (hi : i < n) : g < W.heap.size ∧ W.cell? ⟨g, q + i, none⟩ = some (.int .i64 (F i)) :=
  ⟨Nat.lt_of_lt_of_le h.1 k.size, (h.below h.1 k).2 i hi⟩
set_option maxRecDepth 100000 in
set_option maxHeartbeats 2000000 in
theorem weighed_row (b o g q p c d : Nat) (X PX PY : Nat → Int) (PF : Nat → Bool) (K : Nat → Nat) (w : World) (h12 : p ≤ 12) (hr : RowO w b o p PX PY PF) (hK : ∀ i, i < p → PX i = ((tM (K i)).1 : Int) ∧ PY i = ((tM (K i)).2.1 : Int) ∧ PF i = (tM (K i)).2.2) (hw : RowI w g q p (fun i => vI (wtq (xq X) p i))) :
    Calls Tryd.prog 46 #[.slice (some ⟨b, o, none⟩) p c, .slice (some ⟨g, q, none⟩) p d] w fun e w' => e = .returned (.tuple #[.agg #[.int .i64 ((tM (jwN K X p p)).1 : Int), .int .i64 ((tM (jwN K X p p)).2.1 : Int), .bool (tM (jwN K X p p)).2.2], .nilIface]) ∧ Below w.heap.size w w' := by
  have HR : Hid (RowO w b o p PX PY PF) := hr
  have HW : Hid (RowI w g q p (fun i => vI (wtq (xq X) p i))) := hw
  have HK : Hid (∀ i, i < p → PX i = ((tM (K i)).1 : Int) ∧ PY i = ((tM (K i)).2.1 : Int) ∧ PF i = (tM (K i)).2.2) := hK
  have hb := hr.1
  have hg := hw.1
  clear hr hK hw
  go_enter Tryd.func46, Tryd.ntmps46
  go_wp2_with fail
  go_loopw [14] (fun ti wl => ∃ k : Nat, k ≤ p ∧ ti = .int .i64 k ∧ At wl (w.heap.size) [.int .i64 0, .int .i64 0, .bool false] ∧ At wl (w.heap.size + 1) [.int .i64 ((tM (jwN K X p k)).1 : Int), .int .i64 ((tM (jwN K X p k)).2.1 : Int), .bool (tM (jwN K X p k)).2.2] ∧ Below w.heap.size w wl) (fun ti _ => p - (intOf ti).toNat)
  case atStart => exact ⟨0, by omega, rfl, by repeat (first | (with_reducible assumption) | ((with_reducible refine at_new' _ _ _ _ ?_); (first | rfl | (simp; done))) | (with_reducible refine At.alloc ?_ _) | (with_reducible refine At.drew ?_) | (with_reducible refine At.drewN ?_) | (with_reducible refine At.set ?_ (by omega)) | (with_reducible apply At.store4) | (with_reducible apply At.store3) | (with_reducible apply At.store2) | (with_reducible apply At.put43) | (refine At.below ?_ (by with_reducible assumption))), by show At _ _ [.int .i64 0, .int .i64 0, .bool true]; exact (by repeat (first | (with_reducible assumption) | ((with_reducible refine at_new' _ _ _ _ ?_); (first | rfl | (simp; done))) | (with_reducible refine At.alloc ?_ _) | (with_reducible refine At.drew ?_) | (with_reducible refine At.drewN ?_) | (with_reducible refine At.set ?_ (by omega)) | (with_reducible apply At.store4) | (with_reducible apply At.store3) | (with_reducible apply At.store2) | (with_reducible apply At.put43) | (refine At.below ?_ (by with_reducible assumption)))), by repeat (first | (with_reducible exact Below.refl _ _) | (with_reducible assumption) | (with_reducible refine Below.setCell ?_ (by first | (simp; done) | (simp; omega) | omega) _) | (with_reducible refine Below.alloc ?_ (by first | (simp; done) | (simp; omega) | omega) _) | (refine bl_call ?_ (by assumption) (by first | (simp; done) | (simp; omega) | omega)) | (with_reducible refine bl_drewN ?_) | (with_reducible refine Below.drew ?_) | (with_reducible refine bl_grow ?_ (by first | (simp; done) | (simp; omega) | omega)))⟩
  case round =>
    obtain ⟨k, hk, rfl, krV, kpV, hqV⟩ := hrel
    rename World => V
    have hzV := hqV.size
    obtain ⟨zrV, cr0V, cr1V, cr2V, fr0V, fr1V, fr2V⟩ := krV.three
    obtain ⟨zpV, cp0V, cp1V, cp2V, fp0V, fp1V, fp2V⟩ := kpV.three
    by_cases hlt : k < p
    · have hlt' : (k : Int) < p := by omega
      have hbV := Nat.lt_of_lt_of_le hb hzV
      have hgV := Nat.lt_of_lt_of_le hg hzV
      obtain ⟨c0, c1, c2⟩ := (HR.out.below hb hqV).2 k hlt
      obtain ⟨e0, e1, e2⟩ := HK.out k hlt
      rw [e0] at c0
      rw [e1] at c1
      rw [e2] at c2
      clear e0 e1 e2
      have E : Hid (tM (K k * em (vI (wtq (xq X) p k))) = tM (K k * (wtq (xq X) p k).val)) := by unfold Hid; rw [em_vI]
      go_wp2_with fail
      go_cut [9, 10] from 19 to 42 (fun t9 t10 wx => ∃ b9 : Nat, t9 = .pointer (some ⟨b9, 0, none⟩) ∧ t10 = .nilIface ∧ At wx (w.heap.size) [.int .i64 0, .int .i64 0, .bool false] ∧ At wx (w.heap.size + 1) [.int .i64 ((tM (jwN K X p k)).1 : Int), .int .i64 ((tM (jwN K X p k)).2.1 : Int), .bool (tM (jwN K X p k)).2.2] ∧ At wx b9 [.int .i64 ((tM (K k * (wtq (xq X) p k).val)).1 : Int), .int .i64 ((tM (K k * (wtq (xq X) p k).val)).2.1 : Int), .bool (tM (K k * (wtq (xq X) p k).val)).2.2] ∧ w.heap.size + 1 < b9 ∧ Below w.heap.size w wx)
      case first =>
        go_region_held3 (fun W => ((V.heap.size) < W.heap.size ∧ W.cell? ⟨V.heap.size, 0, none⟩ = some (.int .i64 ((tM (K k)).1 : Int)) ∧ W.cell? ⟨V.heap.size, 1, none⟩ = some (.int .i64 ((tM (K k)).2.1 : Int)) ∧ W.cell? ⟨V.heap.size, 2, none⟩ = some (.bool (tM (K k)).2.2) ∧ W.frozen? ⟨V.heap.size, 0, none⟩ = false ∧ W.frozen? ⟨V.heap.size, 1, none⟩ = false ∧ W.frozen? ⟨V.heap.size, 2, none⟩ = false) ∧ (g < W.heap.size ∧ W.cell? ⟨g, q + k, none⟩ = some (.int .i64 (vI (wtq (xq X) p k))))) (exact ⟨At.three (by repeat (first | (with_reducible assumption) | ((with_reducible refine at_new' _ _ _ _ ?_); (first | rfl | (simp; done))) | (with_reducible refine At.alloc ?_ _) | (with_reducible refine At.drew ?_) | (with_reducible refine At.drewN ?_) | (with_reducible refine At.set ?_ (by omega)) | (with_reducible apply At.store4) | (with_reducible apply At.store3) | (with_reducible apply At.store2) | (with_reducible apply At.put43) | (refine At.below ?_ (by with_reducible assumption)))), rowI_at HW.out (by repeat (first | (with_reducible exact Below.refl _ _) | (with_reducible assumption) | (with_reducible refine Below.setCell ?_ (by first | (simp; done) | (simp; omega) | omega) _) | (with_reducible refine Below.alloc ?_ (by first | (simp; done) | (simp; omega) | omega) _) | (refine bl_call ?_ (by assumption) (by first | (simp; done) | (simp; omega) | omega)) | (with_reducible refine bl_drewN ?_) | (with_reducible refine Below.drew ?_) | (with_reducible refine bl_grow ?_ (by first | (simp; done) | (simp; omega) | omega)))) hlt⟩) (first | (go_at_call 42; refine (times_eq E.out _).mono ?_; rintro e w2 ⟨rfl, hb2⟩; obtain ⟨hc2, hf2⟩ := bcell hb2; have hq2 : Below w.heap.size w w2 := (by repeat (first | (with_reducible exact Below.refl _ _) | (with_reducible assumption) | (with_reducible refine Below.setCell ?_ (by first | (simp; done) | (simp; omega) | omega) _) | (with_reducible refine Below.alloc ?_ (by first | (simp; done) | (simp; omega) | omega) _) | (refine bl_call ?_ (by assumption) (by first | (simp; done) | (simp; omega) | omega)) | (with_reducible refine bl_drewN ?_) | (with_reducible refine Below.drew ?_) | (with_reducible refine bl_grow ?_ (by first | (simp; done) | (simp; omega) | omega)))); have hz2 := hq2.size; clear hq2; have hl2 := qb_lt hb2; have hn2 := qb_ne hb2; have hm2 := qb_ne2 hb2; have hs2 := hb2.size; (try simp at hs2)))
        all_goals (go_wp2_with fail)
        all_goals go_meet
        all_goals (case rel => exact ⟨_, rfl, rfl, by repeat (first | (with_reducible assumption) | ((with_reducible refine at_new' _ _ _ _ ?_); (first | rfl | (simp; done))) | (with_reducible refine At.alloc ?_ _) | (with_reducible refine At.drew ?_) | (with_reducible refine At.drewN ?_) | (with_reducible refine At.set ?_ (by omega)) | (with_reducible apply At.store4) | (with_reducible apply At.store3) | (with_reducible apply At.store2) | (with_reducible apply At.put43) | (refine At.below ?_ (by with_reducible assumption))), by repeat (first | (with_reducible assumption) | ((with_reducible refine at_new' _ _ _ _ ?_); (first | rfl | (simp; done))) | (with_reducible refine At.alloc ?_ _) | (with_reducible refine At.drew ?_) | (with_reducible refine At.drewN ?_) | (with_reducible refine At.set ?_ (by omega)) | (with_reducible apply At.store4) | (with_reducible apply At.store3) | (with_reducible apply At.store2) | (with_reducible apply At.put43) | (refine At.below ?_ (by with_reducible assumption))), by repeat (first | (with_reducible assumption) | ((with_reducible refine at_new' _ _ _ _ ?_); (first | rfl | (simp; done))) | (with_reducible refine At.alloc ?_ _) | (with_reducible refine At.drew ?_) | (with_reducible refine At.drewN ?_) | (with_reducible refine At.set ?_ (by omega)) | (with_reducible apply At.store4) | (with_reducible apply At.store3) | (with_reducible apply At.store2) | (with_reducible apply At.put43) | (refine At.below ?_ (by with_reducible assumption))), by omega, by repeat (first | (with_reducible exact Below.refl _ _) | (with_reducible assumption) | (with_reducible refine Below.setCell ?_ (by first | (simp; done) | (simp; omega) | omega) _) | (with_reducible refine Below.alloc ?_ (by first | (simp; done) | (simp; omega) | omega) _) | (refine bl_call ?_ (by assumption) (by first | (simp; done) | (simp; omega) | omega)) | (with_reducible refine bl_drewN ?_) | (with_reducible refine Below.drew ?_) | (with_reducible refine bl_grow ?_ (by first | (simp; done) | (simp; omega) | omega)))⟩)
      case rest =>
        clear c0 c1 c2 krV cr0V fr0V cr1V fr1V cr2V fr2V kpV cp0V fp0V cp1V fp1V cp2V fp2V hqV
        obtain ⟨b9, rfl, rfl, krwc, kpwc, kxwc, hb9, hqwc⟩ := hcut
        have hzwc := hqwc.size
        obtain ⟨zrwc, cr0wc, cr1wc, cr2wc, fr0wc, fr1wc, fr2wc⟩ := krwc.three
        obtain ⟨zpwc, cp0wc, cp1wc, cp2wc, fp0wc, fp1wc, fp2wc⟩ := kpwc.three
        obtain ⟨zxwc, cx0wc, cx1wc, cx2wc, fx0wc, fx1wc, fx2wc⟩ := kxwc.three
        have m1 : True := trivial
        go_wp2_with (go_at_call 62; clear m1; refine (cadd_tM _ _ _).mono ?_; rintro e w3 ⟨rfl, hbw3⟩; have krw3 : At w3 (w.heap.size) [.int .i64 0, .int .i64 0, .bool false] := (by repeat (first | (with_reducible assumption) | ((with_reducible refine at_new' _ _ _ _ ?_); (first | rfl | (simp; done))) | (with_reducible refine At.alloc ?_ _) | (with_reducible refine At.drew ?_) | (with_reducible refine At.drewN ?_) | (with_reducible refine At.set ?_ (by omega)) | (with_reducible apply At.store4) | (with_reducible apply At.store3) | (with_reducible apply At.store2) | (with_reducible apply At.put43) | (refine At.below ?_ (by with_reducible assumption)))); have kpw3 : At w3 (w.heap.size + 1) [.int .i64 ((tM (jwN K X p k)).1 : Int), .int .i64 ((tM (jwN K X p k)).2.1 : Int), .bool (tM (jwN K X p k)).2.2] := (by repeat (first | (with_reducible assumption) | ((with_reducible refine at_new' _ _ _ _ ?_); (first | rfl | (simp; done))) | (with_reducible refine At.alloc ?_ _) | (with_reducible refine At.drew ?_) | (with_reducible refine At.drewN ?_) | (with_reducible refine At.set ?_ (by omega)) | (with_reducible apply At.store4) | (with_reducible apply At.store3) | (with_reducible apply At.store2) | (with_reducible apply At.put43) | (refine At.below ?_ (by with_reducible assumption)))); have hqw3 : Below w.heap.size w w3 := (by repeat (first | (with_reducible exact Below.refl _ _) | (with_reducible assumption) | (with_reducible refine Below.setCell ?_ (by first | (simp; done) | (simp; omega) | omega) _) | (with_reducible refine Below.alloc ?_ (by first | (simp; done) | (simp; omega) | omega) _) | (refine bl_call ?_ (by assumption) (by first | (simp; done) | (simp; omega) | omega)) | (with_reducible refine bl_drewN ?_) | (with_reducible refine Below.drew ?_) | (with_reducible refine bl_grow ?_ (by first | (simp; done) | (simp; omega) | omega)))); have hzw3 := hqw3.size; obtain ⟨zrw3, cr0w3, cr1w3, cr2w3, fr0w3, fr1w3, fr2w3⟩ := krw3.three; obtain ⟨zpw3, cp0w3, cp1w3, cp2w3, fp0w3, fp1w3, fp2w3⟩ := kpw3.three; clear krwc cr0wc fr0wc cr1wc fr1wc cr2wc fr2wc kpwc cp0wc fp0wc cp1wc fp1wc cp2wc fp2wc hqwc; clear hbw3)
        go_roundw
        case rel => exact ⟨k + 1, by omega, by simp, by repeat (first | (with_reducible assumption) | ((with_reducible refine at_new' _ _ _ _ ?_); (first | rfl | (simp; done))) | (with_reducible refine At.alloc ?_ _) | (with_reducible refine At.drew ?_) | (with_reducible refine At.drewN ?_) | (with_reducible refine At.set ?_ (by omega)) | (with_reducible apply At.store4) | (with_reducible apply At.store3) | (with_reducible apply At.store2) | (with_reducible apply At.put43) | (refine At.below ?_ (by with_reducible assumption))), (show At _ _ [.int .i64 ((tM (jwN K X p k + K k * (wtq (xq X) p k).val)).1 : Int), .int .i64 ((tM (jwN K X p k + K k * (wtq (xq X) p k).val)).2.1 : Int), .bool (tM (jwN K X p k + K k * (wtq (xq X) p k).val)).2.2] from by repeat (first | (with_reducible assumption) | ((with_reducible refine at_new' _ _ _ _ ?_); (first | rfl | (simp; done))) | (with_reducible refine At.alloc ?_ _) | (with_reducible refine At.drew ?_) | (with_reducible refine At.drewN ?_) | (with_reducible refine At.set ?_ (by omega)) | (with_reducible apply At.store4) | (with_reducible apply At.store3) | (with_reducible apply At.store2) | (with_reducible apply At.put43) | (refine At.below ?_ (by with_reducible assumption)))), by repeat (first | (with_reducible exact Below.refl _ _) | (with_reducible assumption) | (with_reducible refine Below.setCell ?_ (by first | (simp; done) | (simp; omega) | omega) _) | (with_reducible refine Below.alloc ?_ (by first | (simp; done) | (simp; omega) | omega) _) | (refine bl_call ?_ (by assumption) (by first | (simp; done) | (simp; omega) | omega)) | (with_reducible refine bl_drewN ?_) | (with_reducible refine Below.drew ?_) | (with_reducible refine bl_grow ?_ (by first | (simp; done) | (simp; omega) | omega)))⟩
        case measure => simp [intOf]; omega
    · have hlt' : ¬ (k : Int) < p := by omega
      obtain rfl : k = p := by omega
      go_wp2_with fail
      exact bodyPost_ret (v := .tuple #[.agg #[.int .i64 ((tM (jwN K X k k)).1 : Int), .int .i64 ((tM (jwN K X k k)).2.1 : Int), .bool (tM (jwN K X k k)).2.2], .nilIface]) (by simp [results, Tryd.results46, go_sem, *]) rfl ⟨rfl, by repeat (first | (with_reducible exact Below.refl _ _) | (with_reducible assumption) | (with_reducible refine Below.setCell ?_ (by first | (simp; done) | (simp; omega) | omega) _) | (with_reducible refine Below.alloc ?_ (by first | (simp; done) | (simp; omega) | omega) _) | (refine bl_call ?_ (by assumption) (by first | (simp; done) | (simp; omega) | omega)) | (with_reducible refine bl_drewN ?_) | (with_reducible refine Below.drew ?_) | (with_reducible refine bl_grow ?_ (by first | (simp; done) | (simp; omega) | omega)))⟩
set_option maxRecDepth 100000 in
set_option maxHeartbeats 2000000 in
theorem qjoin_odd (sx sb : Option Addr) (p d q c : Nat) (w : World) (hp : p ≤ 9223372036854775807) (hq : q ≤ 9223372036854775807) (h : p ≠ q) : Calls Tryd.prog 21 #[.slice sx p d, .slice sb q c] w fun e w' => e = .returned (.tuple #[.agg #[.int .i64 0, .int .i64 0, .bool false], errOf 3]) ∧ Below w.heap.size w w' := by
  have h' : ((q : Int) != (p : Int)) = true := by rw [bne_iff_ne]; omega
  go_enter Tryd.func21, Tryd.ntmps21
  go_wp2_with fail
  exact bodyPost_ret (v := .tuple #[.agg #[.int .i64 0, .int .i64 0, .bool false], errOf 3]) (by simp [results, Tryd.results21, go_sem, *]) rfl ⟨rfl, by repeat (first | (with_reducible exact Below.refl _ _) | (with_reducible assumption) | (with_reducible refine Below.setCell ?_ (by first | (simp; done) | (simp; omega) | omega) _) | (with_reducible refine Below.alloc ?_ (by first | (simp; done) | (simp; omega) | omega) _) | (refine bl_call ?_ (by assumption) (by first | (simp; done) | (simp; omega) | omega)) | (with_reducible refine bl_drewN ?_) | (with_reducible refine Below.drew ?_) | (with_reducible refine bl_grow ?_ (by first | (simp; done) | (simp; omega) | omega)))⟩
set_option maxRecDepth 100000 in
set_option maxHeartbeats 2000000 in
theorem qjoin_err (sx sb : Option Addr) (p d c : Nat) (e0 : Int) (w : World) (hp : p ≤ 9223372036854775807) (h : ∀ W, Below w.heap.size w W → Calls Tryd.prog 12 #[.slice sx p d] W fun e w' => e = .returned (.tuple #[.slice none 0 0, errOf e0]) ∧ Below W.heap.size W w') : Calls Tryd.prog 21 #[.slice sx p d, .slice sb p c] w fun e w' => e = .returned (.tuple #[.agg #[.int .i64 0, .int .i64 0, .bool false], errOf e0]) ∧ Below w.heap.size w w' := by
  have H : Hid (∀ W, Below w.heap.size w W → Calls Tryd.prog 12 #[.slice sx p d] W fun e w' => e = .returned (.tuple #[.slice none 0 0, errOf e0]) ∧ Below W.heap.size W w') := h
  have h' : ((p : Int) != (p : Int)) = false := by simp
  clear h
  have m1 : True := trivial
  go_enter Tryd.func21, Tryd.ntmps21
  go_wp2_with (go_at_call 12; clear m1; refine (H.out _ (by repeat (first | (with_reducible exact Below.refl _ _) | (with_reducible assumption) | (with_reducible refine Below.setCell ?_ (by first | (simp; done) | (simp; omega) | omega) _) | (with_reducible refine Below.alloc ?_ (by first | (simp; done) | (simp; omega) | omega) _) | (refine bl_call ?_ (by assumption) (by first | (simp; done) | (simp; omega) | omega)) | (with_reducible refine bl_drewN ?_) | (with_reducible refine Below.drew ?_) | (with_reducible refine bl_grow ?_ (by first | (simp; done) | (simp; omega) | omega))))).mono ?_; rintro e w1 ⟨rfl, hbw1⟩; have krw1 : At w1 (w.heap.size) [.int .i64 0, .int .i64 0, .bool false] := (by repeat (first | (with_reducible assumption) | ((with_reducible refine at_new' _ _ _ _ ?_); (first | rfl | (simp; done))) | (with_reducible refine At.alloc ?_ _) | (with_reducible refine At.drew ?_) | (with_reducible refine At.drewN ?_) | (with_reducible refine At.set ?_ (by omega)) | (with_reducible apply At.store4) | (with_reducible apply At.store3) | (with_reducible apply At.store2) | (with_reducible apply At.put43) | (refine At.below ?_ (by with_reducible assumption)))); have hqw1 : Below w.heap.size w w1 := (by repeat (first | (with_reducible exact Below.refl _ _) | (with_reducible assumption) | (with_reducible refine Below.setCell ?_ (by first | (simp; done) | (simp; omega) | omega) _) | (with_reducible refine Below.alloc ?_ (by first | (simp; done) | (simp; omega) | omega) _) | (refine bl_call ?_ (by assumption) (by first | (simp; done) | (simp; omega) | omega)) | (with_reducible refine bl_drewN ?_) | (with_reducible refine Below.drew ?_) | (with_reducible refine bl_grow ?_ (by first | (simp; done) | (simp; omega) | omega)))); have hzw1 := hqw1.size; obtain ⟨zrw1, cr0w1, cr1w1, cr2w1, fr0w1, fr1w1, fr2w1⟩ := krw1.three; clear hbw1)
  exact bodyPost_ret (v := .tuple #[.agg #[.int .i64 0, .int .i64 0, .bool false], errOf e0]) (by simp [results, Tryd.results21, go_sem, *]) rfl ⟨rfl, by repeat (first | (with_reducible exact Below.refl _ _) | (with_reducible assumption) | (with_reducible refine Below.setCell ?_ (by first | (simp; done) | (simp; omega) | omega) _) | (with_reducible refine Below.alloc ?_ (by first | (simp; done) | (simp; omega) | omega) _) | (refine bl_call ?_ (by assumption) (by first | (simp; done) | (simp; omega) | omega)) | (with_reducible refine bl_drewN ?_) | (with_reducible refine Below.drew ?_) | (with_reducible refine bl_grow ?_ (by first | (simp; done) | (simp; omega) | omega)))⟩
set_option maxRecDepth 100000 in
set_option maxHeartbeats 2000000 in
theorem qjoin_bad (b o b' o' p d c : Nat) (X : Nat → Int) (e0 : Int) (w : World) (hp : p ≤ 12) (h : ∀ W, Below w.heap.size w W → Calls Tryd.prog 12 #[.slice (some ⟨b, o, none⟩) p d] W fun e w' => ∃ u, e = .returned (.tuple #[u, .nilIface]) ∧ w'.ownsRow W.heap.size 3 1 u p (cellsI (fun i => vI (wtq (xq X) p i)) p) ∧ Below W.heap.size W w') (hc : ∀ W, Below w.heap.size w W → Calls Tryd.prog 45 #[.slice (some ⟨b', o', none⟩) p c] W fun e w' => e = .returned (errOf e0) ∧ Below W.heap.size W w') : Calls Tryd.prog 21 #[.slice (some ⟨b, o, none⟩) p d, .slice (some ⟨b', o', none⟩) p c] w fun e w' => e = .returned (.tuple #[.agg #[.int .i64 0, .int .i64 0, .bool false], errOf e0]) ∧ Below w.heap.size w w' := by
  have H : Hid (∀ W, Below w.heap.size w W → Calls Tryd.prog 12 #[.slice (some ⟨b, o, none⟩) p d] W fun e w' => ∃ u, e = .returned (.tuple #[u, .nilIface]) ∧ w'.ownsRow W.heap.size 3 1 u p (cellsI (fun i => vI (wtq (xq X) p i)) p) ∧ Below W.heap.size W w') := h
  have HC : Hid (∀ W, Below w.heap.size w W → Calls Tryd.prog 45 #[.slice (some ⟨b', o', none⟩) p c] W fun e w' => e = .returned (errOf e0) ∧ Below W.heap.size W w') := hc
  have h' : ((p : Int) != (p : Int)) = false := by simp
  clear h hc
  go_enter Tryd.func21, Tryd.ntmps21
  go_wp2_with (go_at_call 12; refine (H.out _ (by repeat (first | (with_reducible exact Below.refl _ _) | (with_reducible assumption) | (with_reducible refine Below.setCell ?_ (by first | (simp; done) | (simp; omega) | omega) _) | (with_reducible refine Below.alloc ?_ (by first | (simp; done) | (simp; omega) | omega) _) | (refine bl_call ?_ (by assumption) (by first | (simp; done) | (simp; omega) | omega)) | (with_reducible refine bl_drewN ?_) | (with_reducible refine Below.drew ?_) | (with_reducible refine bl_grow ?_ (by first | (simp; done) | (simp; omega) | omega))))).mono ?_; rintro e w1 ⟨u1, rfl, ho1, hb1⟩; have kr1 : At w1 (w.heap.size) [.int .i64 0, .int .i64 0, .bool false] := (by repeat (first | (with_reducible assumption) | ((with_reducible refine at_new' _ _ _ _ ?_); (first | rfl | (simp; done))) | (with_reducible refine At.alloc ?_ _) | (with_reducible refine At.drew ?_) | (with_reducible refine At.drewN ?_) | (with_reducible refine At.set ?_ (by omega)) | (with_reducible apply At.store4) | (with_reducible apply At.store3) | (with_reducible apply At.store2) | (with_reducible apply At.put43) | (refine At.below ?_ (by with_reducible assumption)))); have hq1 : Below w.heap.size w w1 := (by repeat (first | (with_reducible exact Below.refl _ _) | (with_reducible assumption) | (with_reducible refine Below.setCell ?_ (by first | (simp; done) | (simp; omega) | omega) _) | (with_reducible refine Below.alloc ?_ (by first | (simp; done) | (simp; omega) | omega) _) | (refine bl_call ?_ (by assumption) (by first | (simp; done) | (simp; omega) | omega)) | (with_reducible refine bl_drewN ?_) | (with_reducible refine Below.drew ?_) | (with_reducible refine bl_grow ?_ (by first | (simp; done) | (simp; omega) | omega)))); have hz1 := hq1.size; obtain ⟨zr1, cr01, cr11, cr21, fr01, fr11, fr21⟩ := kr1.three; clear hb1)
  go_wp2_with (go_at_call 45; refine (HC.out _ hq1).mono ?_; rintro e w2 ⟨rfl, hb2⟩; have kr2 : At w2 (w.heap.size) [.int .i64 0, .int .i64 0, .bool false] := (by repeat (first | (with_reducible assumption) | ((with_reducible refine at_new' _ _ _ _ ?_); (first | rfl | (simp; done))) | (with_reducible refine At.alloc ?_ _) | (with_reducible refine At.drew ?_) | (with_reducible refine At.drewN ?_) | (with_reducible refine At.set ?_ (by omega)) | (with_reducible apply At.store4) | (with_reducible apply At.store3) | (with_reducible apply At.store2) | (with_reducible apply At.put43) | (refine At.below ?_ (by with_reducible assumption)))); have hq2 : Below w.heap.size w w2 := (by repeat (first | (with_reducible exact Below.refl _ _) | (with_reducible assumption) | (with_reducible refine Below.setCell ?_ (by first | (simp; done) | (simp; omega) | omega) _) | (with_reducible refine Below.alloc ?_ (by first | (simp; done) | (simp; omega) | omega) _) | (refine bl_call ?_ (by assumption) (by first | (simp; done) | (simp; omega) | omega)) | (with_reducible refine bl_drewN ?_) | (with_reducible refine Below.drew ?_) | (with_reducible refine bl_grow ?_ (by first | (simp; done) | (simp; omega) | omega)))); have hz2 := hq2.size; have ho2 := own_stay ho1 hb2; obtain ⟨zr2, cr02, cr12, cr22, fr02, fr12, fr22⟩ := kr2.three; clear hb2 ho1 kr1 cr01 fr01 cr11 fr11 cr21 fr21 hq1)
  exact bodyPost_ret (v := .tuple #[.agg #[.int .i64 0, .int .i64 0, .bool false], errOf e0]) (by simp [results, Tryd.results21, go_sem, *]) rfl ⟨rfl, by repeat (first | (with_reducible exact Below.refl _ _) | (with_reducible assumption) | (with_reducible refine Below.setCell ?_ (by first | (simp; done) | (simp; omega) | omega) _) | (with_reducible refine Below.alloc ?_ (by first | (simp; done) | (simp; omega) | omega) _) | (refine bl_call ?_ (by assumption) (by first | (simp; done) | (simp; omega) | omega)) | (with_reducible refine bl_drewN ?_) | (with_reducible refine Below.drew ?_) | (with_reducible refine bl_grow ?_ (by first | (simp; done) | (simp; omega) | omega)))⟩
set_option maxRecDepth 100000 in
set_option maxHeartbeats 2000000 in
theorem qjoin_ok (b o b' o' p d c : Nat) (X PX PY : Nat → Int) (PF : Nat → Bool) (K : Nat → Nat) (w : World) (h0 : 0 < p) (hp : p ≤ 12) (h : ∀ W, Below w.heap.size w W → Calls Tryd.prog 12 #[.slice (some ⟨b, o, none⟩) p d] W fun e w' => ∃ u, e = .returned (.tuple #[u, .nilIface]) ∧ w'.ownsRow W.heap.size 3 1 u p (cellsI (fun i => vI (wtq (xq X) p i)) p) ∧ Below W.heap.size W w') (hc : ∀ W, Below w.heap.size w W → Calls Tryd.prog 45 #[.slice (some ⟨b', o', none⟩) p c] W fun e w' => e = .returned (.nilIface) ∧ Below W.heap.size W w') (hr : RowO w b' o' p PX PY PF) (hK : ∀ i, i < p → PX i = ((tM (K i)).1 : Int) ∧ PY i = ((tM (K i)).2.1 : Int) ∧ PF i = (tM (K i)).2.2) : Calls Tryd.prog 21 #[.slice (some ⟨b, o, none⟩) p d, .slice (some ⟨b', o', none⟩) p c] w fun e w' => e = .returned (.tuple #[.agg #[.int .i64 ((tM (jwN K X p p)).1 : Int), .int .i64 ((tM (jwN K X p p)).2.1 : Int), .bool (tM (jwN K X p p)).2.2], .nilIface]) ∧ Below w.heap.size w w' := by
  have H : Hid (∀ W, Below w.heap.size w W → Calls Tryd.prog 12 #[.slice (some ⟨b, o, none⟩) p d] W fun e w' => ∃ u, e = .returned (.tuple #[u, .nilIface]) ∧ w'.ownsRow W.heap.size 3 1 u p (cellsI (fun i => vI (wtq (xq X) p i)) p) ∧ Below W.heap.size W w') := h
  have HC : Hid (∀ W, Below w.heap.size w W → Calls Tryd.prog 45 #[.slice (some ⟨b', o', none⟩) p c] W fun e w' => e = .returned (.nilIface) ∧ Below W.heap.size W w') := hc
  have HWE : Hid (∀ W u B, Below w.heap.size w W → W.ownsRow B 3 1 u p (cellsI (fun i => vI (wtq (xq X) p i)) p) → Calls Tryd.prog 46 #[.slice (some ⟨b', o', none⟩) p c, u] W fun e w' => e = .returned (.tuple #[.agg #[.int .i64 ((tM (jwN K X p p)).1 : Int), .int .i64 ((tM (jwN K X p p)).2.1 : Int), .bool (tM (jwN K X p p)).2.2], .nilIface]) ∧ Below W.heap.size W w') := fun W u B hW hu => by
    obtain ⟨sa, cc, rfl, k⟩ := own_ints hu
    obtain ⟨g, rfl, _, _, r⟩ := k.resolve_left (by omega)
    exact weighed_row b' o' g 0 p c cc X PX PY PF K W hp (hr.below hr.1 hW) hK r
  have h' : ((p : Int) != (p : Int)) = false := by simp
  clear h hc hr hK
  go_enter Tryd.func21, Tryd.ntmps21
  go_wp2_with (go_at_call 12; refine (H.out _ (by repeat (first | (with_reducible exact Below.refl _ _) | (with_reducible assumption) | (with_reducible refine Below.setCell ?_ (by first | (simp; done) | (simp; omega) | omega) _) | (with_reducible refine Below.alloc ?_ (by first | (simp; done) | (simp; omega) | omega) _) | (refine bl_call ?_ (by assumption) (by first | (simp; done) | (simp; omega) | omega)) | (with_reducible refine bl_drewN ?_) | (with_reducible refine Below.drew ?_) | (with_reducible refine bl_grow ?_ (by first | (simp; done) | (simp; omega) | omega))))).mono ?_; rintro e w1 ⟨u1, rfl, ho1, hb1⟩; have kr1 : At w1 (w.heap.size) [.int .i64 0, .int .i64 0, .bool false] := (by repeat (first | (with_reducible assumption) | ((with_reducible refine at_new' _ _ _ _ ?_); (first | rfl | (simp; done))) | (with_reducible refine At.alloc ?_ _) | (with_reducible refine At.drew ?_) | (with_reducible refine At.drewN ?_) | (with_reducible refine At.set ?_ (by omega)) | (with_reducible apply At.store4) | (with_reducible apply At.store3) | (with_reducible apply At.store2) | (with_reducible apply At.put43) | (refine At.below ?_ (by with_reducible assumption)))); have hq1 : Below w.heap.size w w1 := (by repeat (first | (with_reducible exact Below.refl _ _) | (with_reducible assumption) | (with_reducible refine Below.setCell ?_ (by first | (simp; done) | (simp; omega) | omega) _) | (with_reducible refine Below.alloc ?_ (by first | (simp; done) | (simp; omega) | omega) _) | (refine bl_call ?_ (by assumption) (by first | (simp; done) | (simp; omega) | omega)) | (with_reducible refine bl_drewN ?_) | (with_reducible refine Below.drew ?_) | (with_reducible refine bl_grow ?_ (by first | (simp; done) | (simp; omega) | omega)))); have hz1 := hq1.size; obtain ⟨zr1, cr01, cr11, cr21, fr01, fr11, fr21⟩ := kr1.three; clear hb1)
  go_wp2_with (go_at_call 45; refine (HC.out _ hq1).mono ?_; rintro e w2 ⟨rfl, hb2⟩; have kr2 : At w2 (w.heap.size) [.int .i64 0, .int .i64 0, .bool false] := (by repeat (first | (with_reducible assumption) | ((with_reducible refine at_new' _ _ _ _ ?_); (first | rfl | (simp; done))) | (with_reducible refine At.alloc ?_ _) | (with_reducible refine At.drew ?_) | (with_reducible refine At.drewN ?_) | (with_reducible refine At.set ?_ (by omega)) | (with_reducible apply At.store4) | (with_reducible apply At.store3) | (with_reducible apply At.store2) | (with_reducible apply At.put43) | (refine At.below ?_ (by with_reducible assumption)))); have hq2 : Below w.heap.size w w2 := (by repeat (first | (with_reducible exact Below.refl _ _) | (with_reducible assumption) | (with_reducible refine Below.setCell ?_ (by first | (simp; done) | (simp; omega) | omega) _) | (with_reducible refine Below.alloc ?_ (by first | (simp; done) | (simp; omega) | omega) _) | (refine bl_call ?_ (by assumption) (by first | (simp; done) | (simp; omega) | omega)) | (with_reducible refine bl_drewN ?_) | (with_reducible refine Below.drew ?_) | (with_reducible refine bl_grow ?_ (by first | (simp; done) | (simp; omega) | omega)))); have hz2 := hq2.size; have ho2 := own_stay ho1 hb2; obtain ⟨zr2, cr02, cr12, cr22, fr02, fr12, fr22⟩ := kr2.three; clear hb2 ho1 kr1 cr01 fr01 cr11 fr11 cr21 fr21 hq1)
  go_wp2_with ((go_at_call 46; refine (HWE.out _ _ _ hq2 ho2).mono ?_; rintro e w3 ⟨rfl, hb3⟩; have kr3 : At w3 (w.heap.size) [.int .i64 0, .int .i64 0, .bool false] := (by repeat (first | (with_reducible assumption) | ((with_reducible refine at_new' _ _ _ _ ?_); (first | rfl | (simp; done))) | (with_reducible refine At.alloc ?_ _) | (with_reducible refine At.drew ?_) | (with_reducible refine At.drewN ?_) | (with_reducible refine At.set ?_ (by omega)) | (with_reducible apply At.store4) | (with_reducible apply At.store3) | (with_reducible apply At.store2) | (with_reducible apply At.put43) | (refine At.below ?_ (by with_reducible assumption)))); have hq3 : Below w.heap.size w w3 := (by repeat (first | (with_reducible exact Below.refl _ _) | (with_reducible assumption) | (with_reducible refine Below.setCell ?_ (by first | (simp; done) | (simp; omega) | omega) _) | (with_reducible refine Below.alloc ?_ (by first | (simp; done) | (simp; omega) | omega) _) | (refine bl_call ?_ (by assumption) (by first | (simp; done) | (simp; omega) | omega)) | (with_reducible refine bl_drewN ?_) | (with_reducible refine Below.drew ?_) | (with_reducible refine bl_grow ?_ (by first | (simp; done) | (simp; omega) | omega)))); have hz3 := hq3.size; obtain ⟨zr3, cr03, cr13, cr23, fr03, fr13, fr23⟩ := kr3.three; clear hb3))
  exact bodyPost_ret (v := .tuple #[.agg #[.int .i64 ((tM (jwN K X p p)).1 : Int), .int .i64 ((tM (jwN K X p p)).2.1 : Int), .bool (tM (jwN K X p p)).2.2], .nilIface]) (by simp [results, Tryd.results21, go_sem, *]) rfl ⟨rfl, by repeat (first | (with_reducible exact Below.refl _ _) | (with_reducible assumption) | (with_reducible refine Below.setCell ?_ (by first | (simp; done) | (simp; omega) | omega) _) | (with_reducible refine Below.alloc ?_ (by first | (simp; done) | (simp; omega) | omega) _) | (refine bl_call ?_ (by assumption) (by first | (simp; done) | (simp; omega) | omega)) | (with_reducible refine bl_drewN ?_) | (with_reducible refine Below.drew ?_) | (with_reducible refine bl_grow ?_ (by first | (simp; done) | (simp; omega) | omega)))⟩
theorem join_is : JoinIs :=
  ⟨fun sx sb p d q c w hp hq h => qjoin_odd sx sb p d q c w hp hq h,
   fun sx sb p d c w h hp => qjoin_err sx sb p d c 4 w hp (fun W _ => weights_is.1 sx p d W h hp),
   fun sx sb d c w => qjoin_err sx sb 0 d c 5 w (by omega) (fun W _ => weights_is.2.1 sx d W),
   fun b o b' o' p d c X PX PY PF w h0 h12 hd hc hr hx hr' hne => qjoin_err _ _ p d c _ w (by omega) (fun W hW => weights_is.2.2.1 b o p d X W h0 h12 hd (hr.below hr.1 hW) hx hne),
   fun b o b' o' p d c X PX PY PF w K j h0 h12 hd hc hr hx hr' hpl hj hK hne => qjoin_bad b o b' o' p d c X _ w h12 (fun W hW => weights_is.2.2.2 b o p d X W h0 h12 hd (hr.below hr.1 hW) hpl)
     (fun W hW => checkAll_row b' o' p c j PX PY PF W (by omega) (hr'.below hr'.1 hW) (by omega) (fun i hi => by obtain ⟨a1, a2, a3⟩ := hK i hi; rw [a1, a2, a3]; exact ck_tM _) _ (Or.inr ⟨hj, hne, rfl⟩)),
   fun b o b' o' p d c X PX PY PF w K h0 h12 hd hc hr hx hr' hpl hK => qjoin_ok b o b' o' p d c X PX PY PF K w h0 h12 (fun W hW => weights_is.2.2.2 b o p d X W h0 h12 hd (hr.below hr.1 hW) hpl)
     (fun W hW => checkAll_row b' o' p c p PX PY PF W (by omega) (hr'.below hr'.1 hW) (Nat.le_refl _) (fun i hi => by obtain ⟨a1, a2, a3⟩ := hK i hi; rw [a1, a2, a3]; exact ck_tM _) _ (Or.inl ⟨rfl, rfl⟩)) hr' hK⟩
theorem pinfo : (Tryd.prog.info? 45).map (fun i => (i.zero, i.size, i.bytes)) = some (some (.agg #[.int .i64 0, .int .i64 0, .bool false]), 3, 24) := by kernel_rfl
theorem three_new {w : World} {b : Nat} (h : w.heap.size = b) (x y z : Value) (t : TypeId) : ∀ j u, [x, y, z][j]? = some u → (w.alloc (.cells #[x, y, z] t)).cell? ((⟨b, 0, none⟩ : Addr).add j) = some u := by
  subst h
  intro j u hj
  rw [addr_add]
  match j, hj with
  | 0, hj => simp at hj; subst hj; simp
  | 1, hj => simp at hj; subst hj; simp
  | 2, hj => simp at hj; subst hj; simp
set_option maxRecDepth 100000 in
set_option maxHeartbeats 2000000 in
theorem public_many (sl : Option Addr) (n d : Nat) (w : World) (h : 12 < n) (hn : n ≤ 9223372036854775807) : Calls Tryd.prog 23 #[.slice sl n d] w fun e w' => e = .returned (.tuple #[.slice none 0 0, errOf 4]) ∧ Below w.heap.size w w' := by
  have h' : (n : Int) > 12 := by omega
  go_enter Tryd.func23, Tryd.ntmps23
  go_wp2_with fail
  go_ret2
  exact ⟨rfl, by repeat (first | (with_reducible exact Below.refl _ _) | (with_reducible assumption) | (with_reducible refine Below.setCell ?_ (by first | (simp; done) | (simp; omega) | omega) _) | (with_reducible refine Below.alloc ?_ (by first | (simp; done) | (simp; omega) | omega) _) | (refine bl_call ?_ (by assumption) (by first | (simp; done) | (simp; omega) | omega)) | (with_reducible refine bl_drewN ?_) | (with_reducible refine Below.drew ?_) | (with_reducible refine bl_grow ?_ (by first | (simp; done) | (simp; omega) | omega)))⟩
set_option maxRecDepth 100000 in
set_option maxHeartbeats 2000000 in
theorem public_bad (sl : Option Addr) (n d t : Nat) (X Y : Nat → Int) (w : World) (hn : n ≤ 12) (hr : (n = 0 ∨ ∃ b o : Nat, sl = some ⟨b, o, none⟩ ∧ RowP w b o n X Y)) (hok : ∀ i, i < t → (secB (X i) && resB (Y i)) = true) (ht : t < n) (hbad : (secB (X t) && resB (Y t)) = false) : Calls Tryd.prog 23 #[.slice sl n d] w fun e w' => e = .returned (.tuple #[.slice none 0 0, errOf 1]) ∧ Below w.heap.size w w' := by
  have HR : Hid ((n = 0 ∨ ∃ b o : Nat, sl = some ⟨b, o, none⟩ ∧ RowP w b o n X Y)) := hr
  have HO : Hid (∀ i, i < t → (secB (X i) && resB (Y i)) = true) := hok
  have HB : Hid (∀ w, Calls Tryd.prog 41 #[.agg #[.int .i64 (X t), .int .i64 (Y t)]] w fun e w' => e = .returned (errOf 1) ∧ Below w.heap.size w w') := fun w => csh_no _ _ w hbad
  clear hbad
  have h' : ¬ (n : Int) > 12 := by omega
  clear hr hok
  obtain ⟨i0, hi, hv0, hv1, hv2⟩ := info_parts pinfo
  have m1 : True := trivial
  go_enter Tryd.func23, Tryd.ntmps23
  go_upto_region 4 with (go_at_call 47; clear m1; refine (base_is _).mono ?_; rintro e w1 ⟨rfl, hbw1⟩; have hqw1 : Below w.heap.size w w1 := (by repeat (first | (with_reducible exact Below.refl _ _) | (with_reducible assumption) | (with_reducible refine Below.setCell ?_ (by first | (simp; done) | (simp; omega) | omega) _) | (with_reducible refine Below.alloc ?_ (by first | (simp; done) | (simp; omega) | omega) _) | (refine bl_call ?_ (by assumption) (by first | (simp; done) | (simp; omega) | omega)) | (with_reducible refine bl_drewN ?_) | (with_reducible refine Below.drew ?_) | (with_reducible refine bl_grow ?_ (by first | (simp; done) | (simp; omega) | omega)))); have hzw1 := hqw1.size; clear hbw1)
  refine wp_gen (fun V => At V (w1.heap.size) [.int .i64 ((tM 4).1 : Int), .int .i64 ((tM 4).2.1 : Int), .bool (tM 4).2.2] ∧ Below w.heap.size w V) ⟨by repeat (first | (with_reducible assumption) | ((with_reducible refine at_new' _ _ _ _ ?_); (first | rfl | (simp; done))) | (with_reducible refine At.alloc ?_ _) | (with_reducible refine At.drew ?_) | (with_reducible refine At.drewN ?_) | (with_reducible refine At.set ?_ (by omega)) | (with_reducible apply At.store4) | (with_reducible apply At.store3) | (with_reducible apply At.store2) | (with_reducible apply At.put43) | (refine At.below ?_ (by with_reducible assumption))), by repeat (first | (with_reducible exact Below.refl _ _) | (with_reducible assumption) | (with_reducible refine Below.setCell ?_ (by first | (simp; done) | (simp; omega) | omega) _) | (with_reducible refine Below.alloc ?_ (by first | (simp; done) | (simp; omega) | omega) _) | (refine bl_call ?_ (by assumption) (by first | (simp; done) | (simp; omega) | omega)) | (with_reducible refine bl_drewN ?_) | (with_reducible refine Below.drew ?_) | (with_reducible refine bl_grow ?_ (by first | (simp; done) | (simp; omega) | omega)))⟩ ?_
  rintro V ⟨kpV, hqV⟩
  have hzV := hqV.size
  obtain ⟨zpV, cp0V, cp1V, cp2V, fp0V, fp1V, fp2V⟩ := kpV.three
  go_wp2_with (at_make; refine wpList_make_own _ rfl _ _ 42 rfl V.heap.size 45 i0 (.agg #[.int .i64 0, .int .i64 0, .bool false]) 3 Tryd.underlying42 hi hv0 hv1 _ _ _ n rfl rfl rfl ?b1 ?b2 ?b3 ?_)
  case b1 => rw [hv2]; omega
  case b2 => unfold maxLen; omega
  case b3 => omega
  intro w2 ho2 hg2
  have hq2 : Below V.heap.size V w2 := (Below.refl _ _ : Below V.heap.size V _).grown hg2 (Nat.le_refl _) (fun k h => by cases h)
  clear hg2
  go_wp2_with fail
  go_loopw [5, 21] (fun tv ti wl => ∃ k : Nat, k ≤ t ∧ ti = .int .i64 k ∧ wl.ownsRow V.heap.size 45 3 tv k (cellsT (fun i => ((tM (4 * (Y i).toNat)).1 : Int)) (fun i => ((tM (4 * (Y i).toNat)).2.1 : Int)) (fun i => (tM (4 * (Y i).toNat)).2.2) k) ∧ Below V.heap.size V wl) (fun _ ti _ => n - (intOf ti).toNat)
  case atStart => exact ⟨0, by omega, rfl, ho2, hq2⟩
  case round =>
    clear ho2 hq2
    obtain ⟨k, hk, rfl, hown, hqU⟩ := hrel
    rename World => U
    have hzU := hqU.size
    have kpU : At U (w1.heap.size) [.int .i64 ((tM 4).1 : Int), .int .i64 ((tM 4).2.1 : Int), .bool (tM 4).2.2] := kpV.below hqU
    obtain ⟨zpU, cp0U, cp1U, cp2U, fp0U, fp1U, fp2U⟩ := kpU.three
    by_cases hlt : k < n
    · have hlt' : (k : Int) < (n : Int) := by omega
      obtain ⟨b, o, rfl, hz⟩ : ∃ b o : Nat, sl = some ⟨b, o, none⟩ ∧ RowP w b o n X Y := HR.out.resolve_left (by omega)
      have hqw : Below w.heap.size w U := bl_call hqV hqU hzV
      have hbU := Nat.lt_of_lt_of_le hz.1 hqw.size
      obtain ⟨c0, c1⟩ := (hz.below hz.1 hqw).2 k hlt
      clear hz hqw
      by_cases hkt : k < t
      · have HS : Hid (∀ w, Calls Tryd.prog 41 #[.agg #[.int .i64 (X k), .int .i64 (Y k)]] w fun e w' => e = .returned (.nilIface) ∧ Below w.heap.size w w') := fun w => csh_yes _ _ w (HO.out k (by omega))
        have E : Hid (tM (4 * em (Y k)) = tM (4 * (Y k).toNat)) := by
          unfold Hid
          have := HO.out k (by omega)
          rw [Bool.and_eq_true] at this
          rw [em_res this.2]
        go_wp2_with (first | (go_at_call 41; refine (HS.out _).mono ?_; rintro e w6 ⟨rfl, hb6⟩; have kp6 : At w6 (w1.heap.size) [.int .i64 ((tM 4).1 : Int), .int .i64 ((tM 4).2.1 : Int), .bool (tM 4).2.2] := (by repeat (first | (with_reducible assumption) | ((with_reducible refine at_new' _ _ _ _ ?_); (first | rfl | (simp; done))) | (with_reducible refine At.alloc ?_ _) | (with_reducible refine At.drew ?_) | (with_reducible refine At.drewN ?_) | (with_reducible refine At.set ?_ (by omega)) | (with_reducible apply At.store4) | (with_reducible apply At.store3) | (with_reducible apply At.store2) | (with_reducible apply At.put43) | (refine At.below ?_ (by with_reducible assumption)))); have ks6 : At w6 (U.heap.size) [.int .i64 (X k), .int .i64 (Y k)] := (by repeat (first | (with_reducible assumption) | ((with_reducible refine at_new' _ _ _ _ ?_); (first | rfl | (simp; done))) | (with_reducible refine At.alloc ?_ _) | (with_reducible refine At.drew ?_) | (with_reducible refine At.drewN ?_) | (with_reducible refine At.set ?_ (by omega)) | (with_reducible apply At.store4) | (with_reducible apply At.store3) | (with_reducible apply At.store2) | (with_reducible apply At.put43) | (refine At.below ?_ (by with_reducible assumption)))); have hu6 : Below U.heap.size U w6 := (by repeat (first | (with_reducible exact Below.refl _ _) | (with_reducible assumption) | (with_reducible refine Below.setCell ?_ (by first | (simp; done) | (simp; omega) | omega) _) | (with_reducible refine Below.alloc ?_ (by first | (simp; done) | (simp; omega) | omega) _) | (refine bl_call ?_ (by assumption) (by first | (simp; done) | (simp; omega) | omega)) | (with_reducible refine bl_drewN ?_) | (with_reducible refine Below.drew ?_) | (with_reducible refine bl_grow ?_ (by first | (simp; done) | (simp; omega) | omega)))); have ho6 := own_stay hown hu6; have hy6 := hu6.size; have hq6 : Below V.heap.size V w6 := bl_call hqU hu6 hzU; have hz6 := hq6.size; clear hu6; obtain ⟨zp6, cp06, cp16, cp26, fp06, fp16, fp26⟩ := kp6.three; obtain ⟨zs6, cs06, cs16, fs06, fs16⟩ := ks6.two; clear hb6) | (go_at_call 42; refine (times_eq E.out _).mono ?_; rintro e w7 ⟨rfl, hb7⟩; have kp7 : At w7 (w1.heap.size) [.int .i64 ((tM 4).1 : Int), .int .i64 ((tM 4).2.1 : Int), .bool (tM 4).2.2] := (by repeat (first | (with_reducible assumption) | ((with_reducible refine at_new' _ _ _ _ ?_); (first | rfl | (simp; done))) | (with_reducible refine At.alloc ?_ _) | (with_reducible refine At.drew ?_) | (with_reducible refine At.drewN ?_) | (with_reducible refine At.set ?_ (by omega)) | (with_reducible apply At.store4) | (with_reducible apply At.store3) | (with_reducible apply At.store2) | (with_reducible apply At.put43) | (refine At.below ?_ (by with_reducible assumption)))); have hq7 : Below V.heap.size V w7 := (by repeat (first | (with_reducible exact Below.refl _ _) | (with_reducible assumption) | (with_reducible refine Below.setCell ?_ (by first | (simp; done) | (simp; omega) | omega) _) | (with_reducible refine Below.alloc ?_ (by first | (simp; done) | (simp; omega) | omega) _) | (refine bl_call ?_ (by assumption) (by first | (simp; done) | (simp; omega) | omega)) | (with_reducible refine bl_drewN ?_) | (with_reducible refine Below.drew ?_) | (with_reducible refine bl_grow ?_ (by first | (simp; done) | (simp; omega) | omega)))); have hz7 := hq7.size; have ho7 := own_stay ho6 hb7; obtain ⟨zp7, cp07, cp17, cp27, fp07, fp17, fp27⟩ := kp7.three; clear kp6 cp06 fp06 cp16 fp16 cp26 fp26 ks6 cs06 fs06 cs16 fs16 hq6 ho6) | (at_builtin; refine wpList_append_own_at _ rfl _ _ 42 rfl V.heap.size 45 i0 (.agg #[.int .i64 0, .int .i64 0, .bool false]) 3 24 Tryd.underlying42 hi hv0 hv1 hv2 rfl (by decide) _ _ _ rfl (own_stay ho7 (by repeat (first | (with_reducible exact Below.refl _ _) | (with_reducible assumption) | (with_reducible refine Below.setCell ?_ (by first | (simp; done) | (simp; omega) | omega) _) | (with_reducible refine Below.alloc ?_ (by first | (simp; done) | (simp; omega) | omega) _) | (refine bl_call ?_ (by assumption) (by first | (simp; done) | (simp; omega) | omega)) | (with_reducible refine bl_drewN ?_) | (with_reducible refine Below.drew ?_) | (with_reducible refine bl_grow ?_ (by first | (simp; done) | (simp; omega) | omega))))) ⟨_, 0, none⟩ 1 1 [.int .i64 ((tM (4 * (Y k).toNat)).1 : Int), .int .i64 ((tM (4 * (Y k).toNat)).2.1 : Int), .bool (tM (4 * (Y k).toNat)).2.2] rfl rfl ?c1 ?c2 ?c3 ?c4 ?c5 ?_))
        case c1 => exact three_new (by simp) _ _ _ _
        case c2 => intro u hu; simp at hu; rcases hu with rfl | rfl | rfl <;> rfl
        case c3 => unfold maxLen; omega
        case c4 => omega
        case c5 => simp; omega
        · intro v' w13 hown' hgrow _ hat
          have hq13 : Below V.heap.size V w13 := grown_under (B := V.heap.size) (by repeat (first | (with_reducible exact Below.refl _ _) | (with_reducible assumption) | (with_reducible refine Below.setCell ?_ (by first | (simp; done) | (simp; omega) | omega) _) | (with_reducible refine Below.alloc ?_ (by first | (simp; done) | (simp; omega) | omega) _) | (refine bl_call ?_ (by assumption) (by first | (simp; done) | (simp; omega) | omega)) | (with_reducible refine bl_drewN ?_) | (with_reducible refine Below.drew ?_) | (with_reducible refine bl_grow ?_ (by first | (simp; done) | (simp; omega) | omega)))) (own_stay ho7 (by repeat (first | (with_reducible exact Below.refl _ _) | (with_reducible assumption) | (with_reducible refine Below.setCell ?_ (by first | (simp; done) | (simp; omega) | omega) _) | (with_reducible refine Below.alloc ?_ (by first | (simp; done) | (simp; omega) | omega) _) | (refine bl_call ?_ (by assumption) (by first | (simp; done) | (simp; omega) | omega)) | (with_reducible refine bl_drewN ?_) | (with_reducible refine Below.drew ?_) | (with_reducible refine bl_grow ?_ (by first | (simp; done) | (simp; omega) | omega))))) hgrow (by simp; omega) (Nat.le_refl _)
          rw [← cellsT_succ (fun i => ((tM (4 * (Y i).toNat)).1 : Int)) (fun i => ((tM (4 * (Y i).toNat)).2.1 : Int)) (fun i => (tM (4 * (Y i).toNat)).2.2)] at hown'
          clear hgrow hat ho7 hq7
          go_wp2_with fail
          go_roundw
          case rel => exact ⟨k + 1, by omega, by simp, hown', hq13⟩
          case measure => simp [intOf]; omega
      · obtain rfl : k = t := by omega
        go_wp2_with (go_at_call 41; refine (HB.out _).mono ?_; rintro e w6 ⟨rfl, hb6⟩; have kp6 : At w6 (w1.heap.size) [.int .i64 ((tM 4).1 : Int), .int .i64 ((tM 4).2.1 : Int), .bool (tM 4).2.2] := (by repeat (first | (with_reducible assumption) | ((with_reducible refine at_new' _ _ _ _ ?_); (first | rfl | (simp; done))) | (with_reducible refine At.alloc ?_ _) | (with_reducible refine At.drew ?_) | (with_reducible refine At.drewN ?_) | (with_reducible refine At.set ?_ (by omega)) | (with_reducible apply At.store4) | (with_reducible apply At.store3) | (with_reducible apply At.store2) | (with_reducible apply At.put43) | (refine At.below ?_ (by with_reducible assumption)))); have ks6 : At w6 (U.heap.size) [.int .i64 (X k), .int .i64 (Y k)] := (by repeat (first | (with_reducible assumption) | ((with_reducible refine at_new' _ _ _ _ ?_); (first | rfl | (simp; done))) | (with_reducible refine At.alloc ?_ _) | (with_reducible refine At.drew ?_) | (with_reducible refine At.drewN ?_) | (with_reducible refine At.set ?_ (by omega)) | (with_reducible apply At.store4) | (with_reducible apply At.store3) | (with_reducible apply At.store2) | (with_reducible apply At.put43) | (refine At.below ?_ (by with_reducible assumption)))); have hu6 : Below U.heap.size U w6 := (by repeat (first | (with_reducible exact Below.refl _ _) | (with_reducible assumption) | (with_reducible refine Below.setCell ?_ (by first | (simp; done) | (simp; omega) | omega) _) | (with_reducible refine Below.alloc ?_ (by first | (simp; done) | (simp; omega) | omega) _) | (refine bl_call ?_ (by assumption) (by first | (simp; done) | (simp; omega) | omega)) | (with_reducible refine bl_drewN ?_) | (with_reducible refine Below.drew ?_) | (with_reducible refine bl_grow ?_ (by first | (simp; done) | (simp; omega) | omega)))); have ho6 := own_stay hown hu6; have hy6 := hu6.size; have hq6 : Below V.heap.size V w6 := bl_call hqU hu6 hzU; have hz6 := hq6.size; clear hu6; obtain ⟨zp6, cp06, cp16, cp26, fp06, fp16, fp26⟩ := kp6.three; obtain ⟨zs6, cs06, cs16, fs06, fs16⟩ := ks6.two; clear hb6)
        go_ret2
        exact ⟨rfl, bl_call hqV (by repeat (first | (with_reducible exact Below.refl _ _) | (with_reducible assumption) | (with_reducible refine Below.setCell ?_ (by first | (simp; done) | (simp; omega) | omega) _) | (with_reducible refine Below.alloc ?_ (by first | (simp; done) | (simp; omega) | omega) _) | (refine bl_call ?_ (by assumption) (by first | (simp; done) | (simp; omega) | omega)) | (with_reducible refine bl_drewN ?_) | (with_reducible refine Below.drew ?_) | (with_reducible refine bl_grow ?_ (by first | (simp; done) | (simp; omega) | omega)))) hzV⟩
    · have hlt' : ¬ (k : Int) < (n : Int) := by omega
      exact absurd hk (by omega)
set_option maxRecDepth 100000 in
set_option maxHeartbeats 2000000 in
theorem public_ok (sl : Option Addr) (n d t : Nat) (X Y : Nat → Int) (w : World) (hn : n ≤ 12) (hr : (n = 0 ∨ ∃ b o : Nat, sl = some ⟨b, o, none⟩ ∧ RowP w b o n X Y)) (hok : ∀ i, i < n → (secB (X i) && resB (Y i)) = true)  : Calls Tryd.prog 23 #[.slice sl n d] w fun ex w' => ∃ u, ex = .returned (.tuple #[u, .nilIface]) ∧ w'.ownsRow w.heap.size 45 3 u n (cellsT (fun i => ((tM (4 * (Y i).toNat)).1 : Int)) (fun i => ((tM (4 * (Y i).toNat)).2.1 : Int)) (fun i => (tM (4 * (Y i).toNat)).2.2) n) ∧ Below w.heap.size w w' := by
  have HR : Hid ((n = 0 ∨ ∃ b o : Nat, sl = some ⟨b, o, none⟩ ∧ RowP w b o n X Y)) := hr
  have HO : Hid (∀ i, i < n → (secB (X i) && resB (Y i)) = true) := hok
  
  have h' : ¬ (n : Int) > 12 := by omega
  clear hr hok
  obtain ⟨i0, hi, hv0, hv1, hv2⟩ := info_parts pinfo
  have m1 : True := trivial
  go_enter Tryd.func23, Tryd.ntmps23
  go_upto_region 4 with (go_at_call 47; clear m1; refine (base_is _).mono ?_; rintro e w1 ⟨rfl, hbw1⟩; have hqw1 : Below w.heap.size w w1 := (by repeat (first | (with_reducible exact Below.refl _ _) | (with_reducible assumption) | (with_reducible refine Below.setCell ?_ (by first | (simp; done) | (simp; omega) | omega) _) | (with_reducible refine Below.alloc ?_ (by first | (simp; done) | (simp; omega) | omega) _) | (refine bl_call ?_ (by assumption) (by first | (simp; done) | (simp; omega) | omega)) | (with_reducible refine bl_drewN ?_) | (with_reducible refine Below.drew ?_) | (with_reducible refine bl_grow ?_ (by first | (simp; done) | (simp; omega) | omega)))); have hzw1 := hqw1.size; clear hbw1)
  refine wp_gen (fun V => At V (w1.heap.size) [.int .i64 ((tM 4).1 : Int), .int .i64 ((tM 4).2.1 : Int), .bool (tM 4).2.2] ∧ Below w.heap.size w V) ⟨by repeat (first | (with_reducible assumption) | ((with_reducible refine at_new' _ _ _ _ ?_); (first | rfl | (simp; done))) | (with_reducible refine At.alloc ?_ _) | (with_reducible refine At.drew ?_) | (with_reducible refine At.drewN ?_) | (with_reducible refine At.set ?_ (by omega)) | (with_reducible apply At.store4) | (with_reducible apply At.store3) | (with_reducible apply At.store2) | (with_reducible apply At.put43) | (refine At.below ?_ (by with_reducible assumption))), by repeat (first | (with_reducible exact Below.refl _ _) | (with_reducible assumption) | (with_reducible refine Below.setCell ?_ (by first | (simp; done) | (simp; omega) | omega) _) | (with_reducible refine Below.alloc ?_ (by first | (simp; done) | (simp; omega) | omega) _) | (refine bl_call ?_ (by assumption) (by first | (simp; done) | (simp; omega) | omega)) | (with_reducible refine bl_drewN ?_) | (with_reducible refine Below.drew ?_) | (with_reducible refine bl_grow ?_ (by first | (simp; done) | (simp; omega) | omega)))⟩ ?_
  rintro V ⟨kpV, hqV⟩
  have hzV := hqV.size
  obtain ⟨zpV, cp0V, cp1V, cp2V, fp0V, fp1V, fp2V⟩ := kpV.three
  go_wp2_with (at_make; refine wpList_make_own _ rfl _ _ 42 rfl V.heap.size 45 i0 (.agg #[.int .i64 0, .int .i64 0, .bool false]) 3 Tryd.underlying42 hi hv0 hv1 _ _ _ n rfl rfl rfl ?b1 ?b2 ?b3 ?_)
  case b1 => rw [hv2]; omega
  case b2 => unfold maxLen; omega
  case b3 => omega
  intro w2 ho2 hg2
  have hq2 : Below V.heap.size V w2 := (Below.refl _ _ : Below V.heap.size V _).grown hg2 (Nat.le_refl _) (fun k h => by cases h)
  clear hg2
  go_wp2_with fail
  go_loopw [5, 21] (fun tv ti wl => ∃ k : Nat, k ≤ n ∧ ti = .int .i64 k ∧ wl.ownsRow V.heap.size 45 3 tv k (cellsT (fun i => ((tM (4 * (Y i).toNat)).1 : Int)) (fun i => ((tM (4 * (Y i).toNat)).2.1 : Int)) (fun i => (tM (4 * (Y i).toNat)).2.2) k) ∧ Below V.heap.size V wl) (fun _ ti _ => n - (intOf ti).toNat)
  case atStart => exact ⟨0, by omega, rfl, ho2, hq2⟩
  case round =>
    clear ho2 hq2
    obtain ⟨k, hk, rfl, hown, hqU⟩ := hrel
    rename World => U
    have hzU := hqU.size
    have kpU : At U (w1.heap.size) [.int .i64 ((tM 4).1 : Int), .int .i64 ((tM 4).2.1 : Int), .bool (tM 4).2.2] := kpV.below hqU
    obtain ⟨zpU, cp0U, cp1U, cp2U, fp0U, fp1U, fp2U⟩ := kpU.three
    by_cases hlt : k < n
    · have hlt' : (k : Int) < (n : Int) := by omega
      obtain ⟨b, o, rfl, hz⟩ : ∃ b o : Nat, sl = some ⟨b, o, none⟩ ∧ RowP w b o n X Y := HR.out.resolve_left (by omega)
      have hqw : Below w.heap.size w U := bl_call hqV hqU hzV
      have hbU := Nat.lt_of_lt_of_le hz.1 hqw.size
      obtain ⟨c0, c1⟩ := (hz.below hz.1 hqw).2 k hlt
      clear hz hqw
      have HS : Hid (∀ w, Calls Tryd.prog 41 #[.agg #[.int .i64 (X k), .int .i64 (Y k)]] w fun e w' => e = .returned (.nilIface) ∧ Below w.heap.size w w') := fun w => csh_yes _ _ w (HO.out k (by omega))
      have E : Hid (tM (4 * em (Y k)) = tM (4 * (Y k).toNat)) := by
        unfold Hid
        have := HO.out k (by omega)
        rw [Bool.and_eq_true] at this
        rw [em_res this.2]
      go_wp2_with (first | (go_at_call 41; refine (HS.out _).mono ?_; rintro e w6 ⟨rfl, hb6⟩; have kp6 : At w6 (w1.heap.size) [.int .i64 ((tM 4).1 : Int), .int .i64 ((tM 4).2.1 : Int), .bool (tM 4).2.2] := (by repeat (first | (with_reducible assumption) | ((with_reducible refine at_new' _ _ _ _ ?_); (first | rfl | (simp; done))) | (with_reducible refine At.alloc ?_ _) | (with_reducible refine At.drew ?_) | (with_reducible refine At.drewN ?_) | (with_reducible refine At.set ?_ (by omega)) | (with_reducible apply At.store4) | (with_reducible apply At.store3) | (with_reducible apply At.store2) | (with_reducible apply At.put43) | (refine At.below ?_ (by with_reducible assumption)))); have ks6 : At w6 (U.heap.size) [.int .i64 (X k), .int .i64 (Y k)] := (by repeat (first | (with_reducible assumption) | ((with_reducible refine at_new' _ _ _ _ ?_); (first | rfl | (simp; done))) | (with_reducible refine At.alloc ?_ _) | (with_reducible refine At.drew ?_) | (with_reducible refine At.drewN ?_) | (with_reducible refine At.set ?_ (by omega)) | (with_reducible apply At.store4) | (with_reducible apply At.store3) | (with_reducible apply At.store2) | (with_reducible apply At.put43) | (refine At.below ?_ (by with_reducible assumption)))); have hu6 : Below U.heap.size U w6 := (by repeat (first | (with_reducible exact Below.refl _ _) | (with_reducible assumption) | (with_reducible refine Below.setCell ?_ (by first | (simp; done) | (simp; omega) | omega) _) | (with_reducible refine Below.alloc ?_ (by first | (simp; done) | (simp; omega) | omega) _) | (refine bl_call ?_ (by assumption) (by first | (simp; done) | (simp; omega) | omega)) | (with_reducible refine bl_drewN ?_) | (with_reducible refine Below.drew ?_) | (with_reducible refine bl_grow ?_ (by first | (simp; done) | (simp; omega) | omega)))); have ho6 := own_stay hown hu6; have hy6 := hu6.size; have hq6 : Below V.heap.size V w6 := bl_call hqU hu6 hzU; have hz6 := hq6.size; clear hu6; obtain ⟨zp6, cp06, cp16, cp26, fp06, fp16, fp26⟩ := kp6.three; obtain ⟨zs6, cs06, cs16, fs06, fs16⟩ := ks6.two; clear hb6) | (go_at_call 42; refine (times_eq E.out _).mono ?_; rintro e w7 ⟨rfl, hb7⟩; have kp7 : At w7 (w1.heap.size) [.int .i64 ((tM 4).1 : Int), .int .i64 ((tM 4).2.1 : Int), .bool (tM 4).2.2] := (by repeat (first | (with_reducible assumption) | ((with_reducible refine at_new' _ _ _ _ ?_); (first | rfl | (simp; done))) | (with_reducible refine At.alloc ?_ _) | (with_reducible refine At.drew ?_) | (with_reducible refine At.drewN ?_) | (with_reducible refine At.set ?_ (by omega)) | (with_reducible apply At.store4) | (with_reducible apply At.store3) | (with_reducible apply At.store2) | (with_reducible apply At.put43) | (refine At.below ?_ (by with_reducible assumption)))); have hq7 : Below V.heap.size V w7 := (by repeat (first | (with_reducible exact Below.refl _ _) | (with_reducible assumption) | (with_reducible refine Below.setCell ?_ (by first | (simp; done) | (simp; omega) | omega) _) | (with_reducible refine Below.alloc ?_ (by first | (simp; done) | (simp; omega) | omega) _) | (refine bl_call ?_ (by assumption) (by first | (simp; done) | (simp; omega) | omega)) | (with_reducible refine bl_drewN ?_) | (with_reducible refine Below.drew ?_) | (with_reducible refine bl_grow ?_ (by first | (simp; done) | (simp; omega) | omega)))); have hz7 := hq7.size; have ho7 := own_stay ho6 hb7; obtain ⟨zp7, cp07, cp17, cp27, fp07, fp17, fp27⟩ := kp7.three; clear kp6 cp06 fp06 cp16 fp16 cp26 fp26 ks6 cs06 fs06 cs16 fs16 hq6 ho6) | (at_builtin; refine wpList_append_own_at _ rfl _ _ 42 rfl V.heap.size 45 i0 (.agg #[.int .i64 0, .int .i64 0, .bool false]) 3 24 Tryd.underlying42 hi hv0 hv1 hv2 rfl (by decide) _ _ _ rfl (own_stay ho7 (by repeat (first | (with_reducible exact Below.refl _ _) | (with_reducible assumption) | (with_reducible refine Below.setCell ?_ (by first | (simp; done) | (simp; omega) | omega) _) | (with_reducible refine Below.alloc ?_ (by first | (simp; done) | (simp; omega) | omega) _) | (refine bl_call ?_ (by assumption) (by first | (simp; done) | (simp; omega) | omega)) | (with_reducible refine bl_drewN ?_) | (with_reducible refine Below.drew ?_) | (with_reducible refine bl_grow ?_ (by first | (simp; done) | (simp; omega) | omega))))) ⟨_, 0, none⟩ 1 1 [.int .i64 ((tM (4 * (Y k).toNat)).1 : Int), .int .i64 ((tM (4 * (Y k).toNat)).2.1 : Int), .bool (tM (4 * (Y k).toNat)).2.2] rfl rfl ?c1 ?c2 ?c3 ?c4 ?c5 ?_))
      case c1 => exact three_new (by simp) _ _ _ _
      case c2 => intro u hu; simp at hu; rcases hu with rfl | rfl | rfl <;> rfl
      case c3 => unfold maxLen; omega
      case c4 => omega
      case c5 => simp; omega
      · intro v' w13 hown' hgrow _ hat
        have hq13 : Below V.heap.size V w13 := grown_under (B := V.heap.size) (by repeat (first | (with_reducible exact Below.refl _ _) | (with_reducible assumption) | (with_reducible refine Below.setCell ?_ (by first | (simp; done) | (simp; omega) | omega) _) | (with_reducible refine Below.alloc ?_ (by first | (simp; done) | (simp; omega) | omega) _) | (refine bl_call ?_ (by assumption) (by first | (simp; done) | (simp; omega) | omega)) | (with_reducible refine bl_drewN ?_) | (with_reducible refine Below.drew ?_) | (with_reducible refine bl_grow ?_ (by first | (simp; done) | (simp; omega) | omega)))) (own_stay ho7 (by repeat (first | (with_reducible exact Below.refl _ _) | (with_reducible assumption) | (with_reducible refine Below.setCell ?_ (by first | (simp; done) | (simp; omega) | omega) _) | (with_reducible refine Below.alloc ?_ (by first | (simp; done) | (simp; omega) | omega) _) | (refine bl_call ?_ (by assumption) (by first | (simp; done) | (simp; omega) | omega)) | (with_reducible refine bl_drewN ?_) | (with_reducible refine Below.drew ?_) | (with_reducible refine bl_grow ?_ (by first | (simp; done) | (simp; omega) | omega))))) hgrow (by simp; omega) (Nat.le_refl _)
        rw [← cellsT_succ (fun i => ((tM (4 * (Y i).toNat)).1 : Int)) (fun i => ((tM (4 * (Y i).toNat)).2.1 : Int)) (fun i => (tM (4 * (Y i).toNat)).2.2)] at hown'
        clear hgrow hat ho7 hq7
        go_wp2_with fail
        go_roundw
        case rel => exact ⟨k + 1, by omega, by simp, hown', hq13⟩
        case measure => simp [intOf]; omega
    · have hlt' : ¬ (k : Int) < (n : Int) := by omega
      obtain rfl : k = n := by omega
      go_wp2_with fail
      go_ret2
      exact ⟨_, rfl, own_base hown hzV, bl_call hqV hqU hzV⟩
theorem public_is : PublicIs :=
  ⟨fun sl n d w h hn => public_many sl n d w h hn,
   fun b o n d X Y w h12 hd hr hx hy hbad => by
     obtain ⟨t, h1, h2, h3⟩ := first_no (fun i => secB (X i) && resB (Y i)) n
     rcases h3 with rfl | ⟨h3, h4⟩
     · obtain ⟨j, hj, hj2⟩ := hbad
       have := h2 j hj
       simp only [hj2] at this
       cases this
     · exact public_bad _ n d t X Y w h12 (Or.inr ⟨b, o, rfl, hr⟩) h2 h3 h4,
   fun sl n d X Y w h12 hd hr hok => public_ok sl n d 0 X Y w h12 hr (fun i hi => by rw [(hok i hi).1, (hok i hi).2]; rfl)⟩
end Go.Proofs.YtkhpmnehjifdcafDoor
