/- What the plain reckoning of rings (stoneref2: Ring, RingAsk, RingNext, RingRight, RingSign) answers. -/
import Derived.Test.YtiddfngopoednahDoorRingIs
import Derived.Test.YtiddfngopoednahDoorRefTimes
import Derived.Test.YtiddfngopoednahDoorRefBytes
import Derived.Test.YtiddfngopoednahDoorRefHash
import Derived.Test.YtiddfngopoednahDoorRefBy
import Derived.Test.YtiddfngopoednahDoorRefSum
import Derived.Test.YtiddfngopoednahDoorOwn
import Derived.Test.YtiddfngopoednahDoorGate
import Derived.Deep.RegionHeld3
import Derived.Deep.CutRange
namespace Go.Proofs.YtiddfngopoednahDoor
open Go.RowKit Go.Sort
set_option linter.unusedVariables false
set_option linter.unusedSimpArgs false
theorem At.put20 {w : World} {b : Nat} {u v u' : Value} (h : At w b [u, v]) : At (w.setCell ⟨b, 0, none⟩ u') b [u', v] := by
  have a0 : w.cell? ⟨b, 0, none⟩ = some u := h.2.1 0 (by simp)
  have g0 : w.frozen? ⟨b, 0, none⟩ = false := h.2.2 0 (by simp)
  have a1 : w.cell? ⟨b, 1, none⟩ = some v := h.2.1 1 (by simp)
  have g1 : w.frozen? ⟨b, 1, none⟩ = false := h.2.2 1 (by simp)
  refine ⟨by simpa [World.setCell] using h.1, fun i hi => ?_, fun i hi => ?_⟩
  · rcases i with _ | _ | i
    · show _ = some u'; simp [a0, go_sem]
    · show _ = some v; simp [a1, go_sem]
    · simp at hi; omega
  · rcases i with _ | _ | i
    · rw [World.frozen?_setCell]; exact g0
    · rw [World.frozen?_setCell]; exact g1
    · simp at hi; omega
theorem At.put21 {w : World} {b : Nat} {u v v' : Value} (h : At w b [u, v]) : At (w.setCell ⟨b, 1, none⟩ v') b [u, v'] := by
  have a0 : w.cell? ⟨b, 0, none⟩ = some u := h.2.1 0 (by simp)
  have g0 : w.frozen? ⟨b, 0, none⟩ = false := h.2.2 0 (by simp)
  have a1 : w.cell? ⟨b, 1, none⟩ = some v := h.2.1 1 (by simp)
  have g1 : w.frozen? ⟨b, 1, none⟩ = false := h.2.2 1 (by simp)
  refine ⟨by simpa [World.setCell] using h.1, fun i hi => ?_, fun i hi => ?_⟩
  · rcases i with _ | _ | i
    · show _ = some u; simp [a0, go_sem]
    · show _ = some v'; simp [a1, go_sem]
    · simp at hi; omega
  · rcases i with _ | _ | i
    · rw [World.frozen?_setCell]; exact g0
    · rw [World.frozen?_setCell]; exact g1
    · simp at hi; omega
theorem rrow_up {n : Nat} {sl : Option Addr} {X Y : Nat → Int} {F : Nat → Bool} {w W : World} (h : (n = 0 ∨ ∃ b o : Nat, sl = some ⟨b, o, none⟩ ∧ RowO w b o n X Y F)) (k : Below w.heap.size w W) : (n = 0 ∨ ∃ b o : Nat, sl = some ⟨b, o, none⟩ ∧ RowO W b o n X Y F) := h.imp_right fun ⟨b, o, e, r⟩ => ⟨b, o, e, r.below r.1 k⟩
set_option maxRecDepth 100000 in
set_option maxHeartbeats 4000000 in
theorem rring_no (sl : Option Addr) (n d : Nat) (t : ByteArray) (e0 : Int) (w : World) (he : (e0 == 0) = false) (h : ∀ W, Below w.heap.size w W → Calls Tryd.prog 5 #[.slice sl n d] W fun e w' => e = .returned (.int .i64 e0) ∧ Below W.heap.size W w') : Calls Tryd.prog 17 #[.slice sl n d, .string t] w fun e w' => e = .returned (.int .i64 e0) ∧ Below w.heap.size w w' := by
  have H : Hid (∀ W, Below w.heap.size w W → Calls Tryd.prog 5 #[.slice sl n d] W fun e w' => e = .returned (.int .i64 e0) ∧ Below W.heap.size W w') := h
  clear h
  go_enter Tryd.func17, Tryd.ntmps17
  go_wp2_with (go_at_call 5; refine (H.out _ (by repeat (first | (with_reducible exact Below.refl _ _) | (with_reducible assumption) | (with_reducible refine Below.setCell ?_ (by first | (simp; done) | (simp; omega) | omega) _) | (with_reducible refine Below.alloc ?_ (by first | (simp; done) | (simp; omega) | omega) _) | (refine bl_call ?_ (by assumption) (by first | (simp; done) | (simp; omega) | omega)) | (with_reducible refine bl_drewN ?_) | (with_reducible refine Below.drew ?_) | (with_reducible refine bl_grow ?_ (by first | (simp; done) | (simp; omega) | omega))))).mono ?_; rintro e w1 ⟨rfl, hb1⟩; have hq1 : Below w.heap.size w w1 := (by repeat (first | (with_reducible exact Below.refl _ _) | (with_reducible assumption) | (with_reducible refine Below.setCell ?_ (by first | (simp; done) | (simp; omega) | omega) _) | (with_reducible refine Below.alloc ?_ (by first | (simp; done) | (simp; omega) | omega) _) | (refine bl_call ?_ (by assumption) (by first | (simp; done) | (simp; omega) | omega)) | (with_reducible refine bl_drewN ?_) | (with_reducible refine Below.drew ?_) | (with_reducible refine bl_grow ?_ (by first | (simp; done) | (simp; omega) | omega)))); have hz1 := hq1.size; clear hb1)
  go_ret
  exact ⟨rfl, by repeat (first | (with_reducible exact Below.refl _ _) | (with_reducible assumption) | (with_reducible refine Below.setCell ?_ (by first | (simp; done) | (simp; omega) | omega) _) | (with_reducible refine Below.alloc ?_ (by first | (simp; done) | (simp; omega) | omega) _) | (refine bl_call ?_ (by assumption) (by first | (simp; done) | (simp; omega) | omega)) | (with_reducible refine bl_drewN ?_) | (with_reducible refine Below.drew ?_) | (with_reducible refine bl_grow ?_ (by first | (simp; done) | (simp; omega) | omega)))⟩
set_option maxRecDepth 100000 in
set_option maxHeartbeats 4000000 in
theorem rring_nil (sl : Option Addr) (d : Nat) (t : ByteArray) (w : World) (h : ∀ W, Below w.heap.size w W → Calls Tryd.prog 5 #[.slice sl 0 d] W fun e w' => e = .returned (.int .i64 0) ∧ Below W.heap.size W w') : Calls Tryd.prog 17 #[.slice sl 0 d, .string t] w fun e w' => e = .returned (.int .i64 5) ∧ Below w.heap.size w w' := by
  have H : Hid (∀ W, Below w.heap.size w W → Calls Tryd.prog 5 #[.slice sl 0 d] W fun e w' => e = .returned (.int .i64 0) ∧ Below W.heap.size W w') := h
  clear h
  go_enter Tryd.func17, Tryd.ntmps17
  go_wp2_with (go_at_call 5; refine (H.out _ (by repeat (first | (with_reducible exact Below.refl _ _) | (with_reducible assumption) | (with_reducible refine Below.setCell ?_ (by first | (simp; done) | (simp; omega) | omega) _) | (with_reducible refine Below.alloc ?_ (by first | (simp; done) | (simp; omega) | omega) _) | (refine bl_call ?_ (by assumption) (by first | (simp; done) | (simp; omega) | omega)) | (with_reducible refine bl_drewN ?_) | (with_reducible refine Below.drew ?_) | (with_reducible refine bl_grow ?_ (by first | (simp; done) | (simp; omega) | omega))))).mono ?_; rintro e w1 ⟨rfl, hb1⟩; have hq1 : Below w.heap.size w w1 := (by repeat (first | (with_reducible exact Below.refl _ _) | (with_reducible assumption) | (with_reducible refine Below.setCell ?_ (by first | (simp; done) | (simp; omega) | omega) _) | (with_reducible refine Below.alloc ?_ (by first | (simp; done) | (simp; omega) | omega) _) | (refine bl_call ?_ (by assumption) (by first | (simp; done) | (simp; omega) | omega)) | (with_reducible refine bl_drewN ?_) | (with_reducible refine Below.drew ?_) | (with_reducible refine bl_grow ?_ (by first | (simp; done) | (simp; omega) | omega)))); have hz1 := hq1.size; clear hb1)
  go_ret
  exact ⟨rfl, by repeat (first | (with_reducible exact Below.refl _ _) | (with_reducible assumption) | (with_reducible refine Below.setCell ?_ (by first | (simp; done) | (simp; omega) | omega) _) | (with_reducible refine Below.alloc ?_ (by first | (simp; done) | (simp; omega) | omega) _) | (refine bl_call ?_ (by assumption) (by first | (simp; done) | (simp; omega) | omega)) | (with_reducible refine bl_drewN ?_) | (with_reducible refine Below.drew ?_) | (with_reducible refine bl_grow ?_ (by first | (simp; done) | (simp; omega) | omega)))⟩
set_option maxRecDepth 100000 in
set_option maxHeartbeats 4000000 in
theorem rring_t (sl : Option Addr) (n d : Nat) (t : ByteArray) (e0 : Int) (w : World) (h0 : 0 < n) (hn : n ≤ 12) (ht : t.size ≤ 9223372036854775807) (he : (60 < t.size ∧ e0 = 4) ∨ (t.size ≤ 60 ∧ e0 = 0)) (h : ∀ W, Below w.heap.size w W → Calls Tryd.prog 5 #[.slice sl n d] W fun e w' => e = .returned (.int .i64 0) ∧ Below W.heap.size W w') : Calls Tryd.prog 17 #[.slice sl n d, .string t] w fun e w' => e = .returned (.int .i64 e0) ∧ Below w.heap.size w w' := by
  have H : Hid (∀ W, Below w.heap.size w W → Calls Tryd.prog 5 #[.slice sl n d] W fun e w' => e = .returned (.int .i64 0) ∧ Below W.heap.size W w') := h
  have h1 : ((n : Int) == 0) = false := by rw [beq_eq_false_iff_ne]; omega
  clear h
  rcases he with ⟨he, rfl⟩ | ⟨he, rfl⟩
  · have h2 : (t.size : Int) > 60 := by omega
    go_enter Tryd.func17, Tryd.ntmps17
    go_wp2_with (go_at_call 5; refine (H.out _ (by repeat (first | (with_reducible exact Below.refl _ _) | (with_reducible assumption) | (with_reducible refine Below.setCell ?_ (by first | (simp; done) | (simp; omega) | omega) _) | (with_reducible refine Below.alloc ?_ (by first | (simp; done) | (simp; omega) | omega) _) | (refine bl_call ?_ (by assumption) (by first | (simp; done) | (simp; omega) | omega)) | (with_reducible refine bl_drewN ?_) | (with_reducible refine Below.drew ?_) | (with_reducible refine bl_grow ?_ (by first | (simp; done) | (simp; omega) | omega))))).mono ?_; rintro e w1 ⟨rfl, hb1⟩; have hq1 : Below w.heap.size w w1 := (by repeat (first | (with_reducible exact Below.refl _ _) | (with_reducible assumption) | (with_reducible refine Below.setCell ?_ (by first | (simp; done) | (simp; omega) | omega) _) | (with_reducible refine Below.alloc ?_ (by first | (simp; done) | (simp; omega) | omega) _) | (refine bl_call ?_ (by assumption) (by first | (simp; done) | (simp; omega) | omega)) | (with_reducible refine bl_drewN ?_) | (with_reducible refine Below.drew ?_) | (with_reducible refine bl_grow ?_ (by first | (simp; done) | (simp; omega) | omega)))); have hz1 := hq1.size; clear hb1)
    go_ret
    exact ⟨rfl, by repeat (first | (with_reducible exact Below.refl _ _) | (with_reducible assumption) | (with_reducible refine Below.setCell ?_ (by first | (simp; done) | (simp; omega) | omega) _) | (with_reducible refine Below.alloc ?_ (by first | (simp; done) | (simp; omega) | omega) _) | (refine bl_call ?_ (by assumption) (by first | (simp; done) | (simp; omega) | omega)) | (with_reducible refine bl_drewN ?_) | (with_reducible refine Below.drew ?_) | (with_reducible refine bl_grow ?_ (by first | (simp; done) | (simp; omega) | omega)))⟩
  · have h2 : ¬ (t.size : Int) > 60 := by omega
    go_enter Tryd.func17, Tryd.ntmps17
    go_wp2_with (go_at_call 5; refine (H.out _ (by repeat (first | (with_reducible exact Below.refl _ _) | (with_reducible assumption) | (with_reducible refine Below.setCell ?_ (by first | (simp; done) | (simp; omega) | omega) _) | (with_reducible refine Below.alloc ?_ (by first | (simp; done) | (simp; omega) | omega) _) | (refine bl_call ?_ (by assumption) (by first | (simp; done) | (simp; omega) | omega)) | (with_reducible refine bl_drewN ?_) | (with_reducible refine Below.drew ?_) | (with_reducible refine bl_grow ?_ (by first | (simp; done) | (simp; omega) | omega))))).mono ?_; rintro e w1 ⟨rfl, hb1⟩; have hq1 : Below w.heap.size w w1 := (by repeat (first | (with_reducible exact Below.refl _ _) | (with_reducible assumption) | (with_reducible refine Below.setCell ?_ (by first | (simp; done) | (simp; omega) | omega) _) | (with_reducible refine Below.alloc ?_ (by first | (simp; done) | (simp; omega) | omega) _) | (refine bl_call ?_ (by assumption) (by first | (simp; done) | (simp; omega) | omega)) | (with_reducible refine bl_drewN ?_) | (with_reducible refine Below.drew ?_) | (with_reducible refine bl_grow ?_ (by first | (simp; done) | (simp; omega) | omega)))); have hz1 := hq1.size; clear hb1)
    go_ret
    exact ⟨rfl, by repeat (first | (with_reducible exact Below.refl _ _) | (with_reducible assumption) | (with_reducible refine Below.setCell ?_ (by first | (simp; done) | (simp; omega) | omega) _) | (with_reducible refine Below.alloc ?_ (by first | (simp; done) | (simp; omega) | omega) _) | (refine bl_call ?_ (by assumption) (by first | (simp; done) | (simp; omega) | omega)) | (with_reducible refine bl_drewN ?_) | (with_reducible refine Below.drew ?_) | (with_reducible refine bl_grow ?_ (by first | (simp; done) | (simp; omega) | omega)))⟩
theorem rring (sl : Option Addr) (n d : Nat) (X Y : Nat → Int) (F : Nat → Bool) (t : ByteArray) (w : World) (hn : n ≤ 9223372036854775807) (hr : (n = 0 ∨ ∃ b o : Nat, sl = some ⟨b, o, none⟩ ∧ RowO w b o n X Y F)) (ht : t.size ≤ 9223372036854775807) : Calls Tryd.prog 17 #[.slice sl n d, .string t] w fun e w' => e = .returned (.int .i64 (rgE X Y F n t)) ∧ Below w.heap.size w w' := by
  by_cases h12 : 12 < n
  · rw [rgE_many t h12]
    exact rring_no sl n d t 4 w rfl fun W _ => rspots_many sl n d W h12
  have hsp : ∀ W, Below w.heap.size w W → Calls Tryd.prog 5 #[.slice sl n d] W fun e w' => e = .returned (.int .i64 (rowE X Y F n)) ∧ Below W.heap.size W w' := fun W k => by
    rcases rrow_up hr k with rfl | ⟨b, o, rfl, r⟩
    · exact rspots_nil sl d W
    · exact rspots_row b o n d X Y F W (by omega) r
  cases he : rowE X Y F n == 0 with
  | false => rw [rgE_row t (by omega) he]; exact rring_no sl n d t _ w he hsp
  | true =>
    have he' : rowE X Y F n = 0 := by simpa using he
    rw [he'] at hsp
    by_cases h0 : n = 0
    · subst h0; rw [rgE_nil]; exact rring_nil sl d t w hsp
    by_cases h60 : 60 < t.size
    · rw [rgE_full (by omega) (by omega) he' h60]; exact rring_t sl n d t 4 w (by omega) (by omega) ht (Or.inl ⟨h60, rfl⟩) hsp
    · rw [rgE_ok (by omega) (by omega) he' (by omega)]; exact rring_t sl n d t 0 w (by omega) (by omega) ht (Or.inr ⟨by omega, rfl⟩) hsp
theorem rlist_all (sl : Option Addr) (n d : Nat) (X Y : Nat → Int) (F : Nat → Bool) (K : Nat → Nat) (w : World) (hn : n ≤ 12) (hr : (n = 0 ∨ ∃ b o : Nat, sl = some ⟨b, o, none⟩ ∧ RowO w b o n X Y F)) (hK : (∀ i, i < n → X i = ((tM (K i)).1 : Int) ∧ Y i = ((tM (K i)).2.1 : Int) ∧ F i = (tM (K i)).2.2)) : Calls Tryd.prog 26 #[.slice sl n d] w fun e w' => e = .returned (.string (lsB K n)) ∧ Below w.heap.size w w' := by
  rcases hr with rfl | ⟨b, o, rfl, hr⟩
  · exact rlist_nil sl d w
  · exact rlist_row b o n d X Y F K w hn hr hK
set_option maxRecDepth 100000 in
set_option maxHeartbeats 4000000 in
theorem rringask (sl : Option Addr) (n d : Nat) (X Y : Nat → Int) (F : Nat → Bool) (K : Nat → Nat) (j : Nat) (t : ByteArray) (w : World) (hn : n ≤ 12) (hr : (n = 0 ∨ ∃ b o : Nat, sl = some ⟨b, o, none⟩ ∧ RowO w b o n X Y F)) (hK : (∀ i, i < n → X i = ((tM (K i)).1 : Int) ∧ Y i = ((tM (K i)).2.1 : Int) ∧ F i = (tM (K i)).2.2)) (ht : t.size ≤ 60) : Calls Tryd.prog 18 #[.slice sl n d, .agg #[.int .i64 ((tM j).1 : Int), .int .i64 ((tM j).2.1 : Int), .bool (tM j).2.2], .string t] w fun e w' => e = .returned (.int .i64 (raN K n j t : Int)) ∧ Below w.heap.size w w' := by
  have HL : Hid (∀ W, Below w.heap.size w W → Calls Tryd.prog 26 #[.slice sl n d] W fun e w' => e = .returned (.string (lsB K n)) ∧ Below W.heap.size W w') := fun W k => rlist_all sl n d X Y F K W hn (rrow_up hr k) hK
  have HN : Hid (∀ w, Calls Tryd.prog 25 #[.string (lsB K n ++ pkB (tM j) ++ t)] w fun e w' => e = .returned (.int .i64 (raN K n j t : Int)) ∧ Below w.heap.size w w') := fun w => by
    have := below_of_same (rnumber_any (lsB K n ++ pkB (tM j) ++ t) w (by have := ra_size K hn j ht; omega))
    rwa [raI] at this
  have p1 := ls_size K hn
  have p2 := pkB_size (tM j)
  clear hr hK
  go_enter Tryd.func18, Tryd.ntmps18
  go_wp2_with fail
  refine wp_gen (fun V => At V (w.heap.size) [.int .i64 ((tM j).1 : Int), .int .i64 ((tM j).2.1 : Int), .bool (tM j).2.2] ∧ Below w.heap.size w V) ⟨by repeat (first | (with_reducible assumption) | ((with_reducible refine at_new' _ _ _ _ ?_); (first | rfl | (simp; done))) | (with_reducible refine At.alloc ?_ _) | (with_reducible refine At.drew ?_) | (with_reducible refine At.drewN ?_) | (with_reducible refine At.set ?_ (by omega)) | (with_reducible apply At.store4) | (with_reducible apply At.store3) | (with_reducible apply At.store2) | (with_reducible apply At.put43) | (refine At.below ?_ (by with_reducible assumption))), by repeat (first | (with_reducible exact Below.refl _ _) | (with_reducible assumption) | (with_reducible refine Below.setCell ?_ (by first | (simp; done) | (simp; omega) | omega) _) | (with_reducible refine Below.alloc ?_ (by first | (simp; done) | (simp; omega) | omega) _) | (refine bl_call ?_ (by assumption) (by first | (simp; done) | (simp; omega) | omega)) | (with_reducible refine bl_drewN ?_) | (with_reducible refine Below.drew ?_) | (with_reducible refine bl_grow ?_ (by first | (simp; done) | (simp; omega) | omega)))⟩ ?_
  rintro V ⟨kaV, hqV⟩
  have hzV := hqV.size
  obtain ⟨zaV, ca0V, ca1V, ca2V, fa0V, fa1V, fa2V⟩ := kaV.three
  have HLV : Hid (∀ W, Below V.heap.size V W → Calls Tryd.prog 26 #[.slice sl n d] W fun e w' => e = .returned (.string (lsB K n)) ∧ Below W.heap.size W w') := fun W k => HL.out W (bl_call hqV k hzV)
  refine wp_region_quiet_below (by kernel_rfl) (by kernel_rfl) ?_
  repeat (go_big_quiet_step (first | (go_at_call 26; with_reducible exact Calls.regrown_of (HLV.out _ (below_regrown _ _ _))) | (go_at_call 39; with_reducible exact Calls.regrown_of (rbytes_tM j _)) | (go_at_call 25; with_reducible exact Calls.regrown_of (HN.out _))))
  refine wpQuiet_nil ?_
  intro V2 hw1
  have hrV2 := regrown_below hw1
  clear hw1
  have kaV2 := kaV.below hrV2
  have hqV2 := bl_call hqV hrV2 (by omega)
  have hzV2 := hqV2.size
  clear hrV2 kaV ca0V fa0V ca1V fa1V ca2V fa2V hqV
  obtain ⟨zaV2, ca0V2, ca1V2, ca2V2, fa0V2, fa1V2, fa2V2⟩ := kaV2.three
  go_wp2_with fail
  go_ret
  exact ⟨rfl, by repeat (first | (with_reducible exact Below.refl _ _) | (with_reducible assumption) | (with_reducible refine Below.setCell ?_ (by first | (simp; done) | (simp; omega) | omega) _) | (with_reducible refine Below.alloc ?_ (by first | (simp; done) | (simp; omega) | omega) _) | (refine bl_call ?_ (by assumption) (by first | (simp; done) | (simp; omega) | omega)) | (with_reducible refine bl_drewN ?_) | (with_reducible refine Below.drew ?_) | (with_reducible refine bl_grow ?_ (by first | (simp; done) | (simp; omega) | omega)))⟩
set_option maxRecDepth 100000 in
set_option maxHeartbeats 4000000 in
theorem rringnext (sl : Option Addr) (n d : Nat) (X Y : Nat → Int) (F : Nat → Bool) (K : Nat → Nat) (i c s : Nat) (t : ByteArray) (w : World) (hn : n ≤ 12) (hr : (n = 0 ∨ ∃ b o : Nat, sl = some ⟨b, o, none⟩ ∧ RowO w b o n X Y F)) (hK : (∀ i, i < n → X i = ((tM (K i)).1 : Int) ∧ Y i = ((tM (K i)).2.1 : Int) ∧ F i = (tM (K i)).2.2)) (ht : t.size ≤ 60) (hi : i < n) : Calls Tryd.prog 41 #[.slice sl n d, .int .i64 (i : Int), .int .i64 (c : Int), .int .i64 (s : Int), .string t] w fun e w' => e = .returned (.int .i64 (rnN K n i c s t : Int)) ∧ Below w.heap.size w w' := by
  obtain ⟨b, o, rfl, r⟩ := hr.resolve_left (by omega)
  obtain ⟨c0, c1, c2⟩ := r.2 i hi
  obtain ⟨e0, e1, e2⟩ := hK i hi
  rw [e0] at c0
  rw [e1] at c1
  rw [e2] at c2
  have hb := r.1
  have HA : Hid (∀ W, Below w.heap.size w W → Calls Tryd.prog 18 #[.slice (some ⟨b, o, none⟩) n d, .agg #[.int .i64 ((tM (4 * s + K i * c)).1 : Int), .int .i64 ((tM (4 * s + K i * c)).2.1 : Int), .bool (tM (4 * s + K i * c)).2.2], .string t] W fun e w' => e = .returned (.int .i64 (rnN K n i c s t : Int)) ∧ Below W.heap.size W w') := fun W k => rringask _ n d X Y F K _ t W hn (Or.inr ⟨b, o, rfl, r.below r.1 k⟩) hK ht
  have E : Hid (tM (4 * em (s : Int) + K i * em (c : Int)) = tM (4 * s + K i * c)) := by
    unfold Hid
    rw [← tM_add, ← tM_add, tM_em, tM_em]
  have hi' : (i : Int) < n := by omega
  clear hr hK e0 e1 e2 r
  go_enter Tryd.func41, Tryd.ntmps41
  go_wp2_with (first | (go_at_call 35; refine (rsum_eq E.out _).mono ?_; rintro e w1 ⟨rfl, hb1⟩; have hq1 : Below w.heap.size w w1 := (by repeat (first | (with_reducible exact Below.refl _ _) | (with_reducible assumption) | (with_reducible refine Below.setCell ?_ (by first | (simp; done) | (simp; omega) | omega) _) | (with_reducible refine Below.alloc ?_ (by first | (simp; done) | (simp; omega) | omega) _) | (refine bl_call ?_ (by assumption) (by first | (simp; done) | (simp; omega) | omega)) | (with_reducible refine bl_drewN ?_) | (with_reducible refine Below.drew ?_) | (with_reducible refine bl_grow ?_ (by first | (simp; done) | (simp; omega) | omega)))); have hz1 := hq1.size; clear hb1) | (go_at_call 18; refine (HA.out _ (by repeat (first | (with_reducible exact Below.refl _ _) | (with_reducible assumption) | (with_reducible refine Below.setCell ?_ (by first | (simp; done) | (simp; omega) | omega) _) | (with_reducible refine Below.alloc ?_ (by first | (simp; done) | (simp; omega) | omega) _) | (refine bl_call ?_ (by assumption) (by first | (simp; done) | (simp; omega) | omega)) | (with_reducible refine bl_drewN ?_) | (with_reducible refine Below.drew ?_) | (with_reducible refine bl_grow ?_ (by first | (simp; done) | (simp; omega) | omega))))).mono ?_; rintro e w2 ⟨rfl, hb2⟩; have hq2 : Below w.heap.size w w2 := (by repeat (first | (with_reducible exact Below.refl _ _) | (with_reducible assumption) | (with_reducible refine Below.setCell ?_ (by first | (simp; done) | (simp; omega) | omega) _) | (with_reducible refine Below.alloc ?_ (by first | (simp; done) | (simp; omega) | omega) _) | (refine bl_call ?_ (by assumption) (by first | (simp; done) | (simp; omega) | omega)) | (with_reducible refine bl_drewN ?_) | (with_reducible refine Below.drew ?_) | (with_reducible refine bl_grow ?_ (by first | (simp; done) | (simp; omega) | omega)))); have hz2 := hq2.size; clear hb2))
  go_ret
  exact ⟨rfl, by repeat (first | (with_reducible exact Below.refl _ _) | (with_reducible assumption) | (with_reducible refine Below.setCell ?_ (by first | (simp; done) | (simp; omega) | omega) _) | (with_reducible refine Below.alloc ?_ (by first | (simp; done) | (simp; omega) | omega) _) | (refine bl_call ?_ (by assumption) (by first | (simp; done) | (simp; omega) | omega)) | (with_reducible refine bl_drewN ?_) | (with_reducible refine Below.drew ?_) | (with_reducible refine bl_grow ?_ (by first | (simp; done) | (simp; omega) | omega)))⟩
set_option maxRecDepth 100000 in
set_option maxHeartbeats 4000000 in
theorem rringright (sl : Option Addr) (n d : Nat) (X Y : Nat → Int) (F : Nat → Bool) (K S : Nat → Nat) (z : Nat) (ss : Option Addr) (c : Nat) (t : ByteArray) (w : World) (h0 : 0 < n) (hn : n ≤ 12) (hr : (n = 0 ∨ ∃ b o : Nat, sl = some ⟨b, o, none⟩ ∧ RowO w b o n X Y F)) (hK : (∀ i, i < n → X i = ((tM (K i)).1 : Int) ∧ Y i = ((tM (K i)).2.1 : Int) ∧ F i = (tM (K i)).2.2)) (hs : (∃ b o : Nat, ss = some ⟨b, o, none⟩ ∧ RowI w b o n (fun i => (S i : Int)))) (ht : t.size ≤ 60) : Calls Tryd.prog 23 #[.slice sl n d, .string t, .agg #[.int .i64 (z : Int), .slice ss n c]] w fun e w' => e = .returned (.bool (((rcN K S n t z n : Nat) : Int) == (z : Int))) ∧ Below w.heap.size w w' := by
  have HN : Hid (∀ (i c s : Nat) W, Below w.heap.size w W → i < n → Calls Tryd.prog 41 #[.slice sl n d, .int .i64 (i : Int), .int .i64 (c : Int), .int .i64 (s : Int), .string t] W fun e w' => e = .returned (.int .i64 (rnN K n i c s t : Int)) ∧ Below W.heap.size W w') := fun i c s W k hi => rringnext sl n d X Y F K i c s t W hn (rrow_up hr k) hK ht hi
  obtain ⟨g, q, rfl, r⟩ := hs
  have HS : Hid (RowI w g q n (fun i => (S i : Int))) := r
  have hg := r.1
  clear hr hK r
  go_enter Tryd.func23, Tryd.ntmps23
  go_wp2_with fail
  go_loopw [7, 8] (fun tc ti wl => ∃ i : Nat, i ≤ n ∧ ti = .int .i64 i ∧ tc = .int .i64 ((rcN K S n t z i : Nat) : Int) ∧ At wl (w.heap.size) [.int .i64 (z : Int), .slice (some ⟨g, q, none⟩) n c] ∧ Below w.heap.size w wl) (fun _ ti _ => n - (intOf ti).toNat)
  case atStart => exact ⟨0, by omega, rfl, rfl, by repeat (first | (with_reducible assumption) | ((with_reducible refine at_new' _ _ _ _ ?_); (first | rfl | (simp; done))) | (with_reducible refine At.alloc ?_ _) | (with_reducible refine At.drew ?_) | (with_reducible refine At.drewN ?_) | (with_reducible refine At.set ?_ (by omega)) | (with_reducible apply At.store4) | (with_reducible apply At.store3) | (with_reducible apply At.store2) | (with_reducible apply At.put43) | (refine At.below ?_ (by with_reducible assumption))), by repeat (first | (with_reducible exact Below.refl _ _) | (with_reducible assumption) | (with_reducible refine Below.setCell ?_ (by first | (simp; done) | (simp; omega) | omega) _) | (with_reducible refine Below.alloc ?_ (by first | (simp; done) | (simp; omega) | omega) _) | (refine bl_call ?_ (by assumption) (by first | (simp; done) | (simp; omega) | omega)) | (with_reducible refine bl_drewN ?_) | (with_reducible refine Below.drew ?_) | (with_reducible refine bl_grow ?_ (by first | (simp; done) | (simp; omega) | omega)))⟩
  case round =>
    obtain ⟨i, hin, rfl, rfl, kzV, hqV⟩ := hrel
    rename World => V
    have hzV := hqV.size
    obtain ⟨zzV, cz0V, cz1V, fz0V, fz1V⟩ := kzV.two
    by_cases hlt : i < n
    · have hlt' : (i : Int) < n := by omega
      have hgV := Nat.lt_of_lt_of_le hg hzV
      have c0 := (HS.out.below hg hqV).2 i hlt
      have HNi := HN.out i (rcN K S n t z i) (S i) V hqV hlt
      have HNi' : Hid (Calls Tryd.prog 41 #[.slice sl n d, .int .i64 (i : Int), .int .i64 ((rcN K S n t z i : Nat) : Int), .int .i64 (S i : Int), .string t] V fun e w' => e = .returned (.int .i64 ((rcN K S n t z (i + 1) : Nat) : Int)) ∧ Below V.heap.size V w') := HNi
      clear HNi
      go_wp2_with (go_at_call 41; refine HNi'.out.mono ?_; rintro e w5 ⟨rfl, hb5⟩; have kz5 := kzV.below hb5; have hq5 : Below w.heap.size w w5 := (by repeat (first | (with_reducible exact Below.refl _ _) | (with_reducible assumption) | (with_reducible refine Below.setCell ?_ (by first | (simp; done) | (simp; omega) | omega) _) | (with_reducible refine Below.alloc ?_ (by first | (simp; done) | (simp; omega) | omega) _) | (refine bl_call ?_ (by assumption) (by first | (simp; done) | (simp; omega) | omega)) | (with_reducible refine bl_drewN ?_) | (with_reducible refine Below.drew ?_) | (with_reducible refine bl_grow ?_ (by first | (simp; done) | (simp; omega) | omega)))); have hz5 := hq5.size; clear hb5)
      go_roundw
      case rel => exact ⟨i + 1, by omega, by simp, rfl, kz5, by repeat (first | (with_reducible exact Below.refl _ _) | (with_reducible assumption) | (with_reducible refine Below.setCell ?_ (by first | (simp; done) | (simp; omega) | omega) _) | (with_reducible refine Below.alloc ?_ (by first | (simp; done) | (simp; omega) | omega) _) | (refine bl_call ?_ (by assumption) (by first | (simp; done) | (simp; omega) | omega)) | (with_reducible refine bl_drewN ?_) | (with_reducible refine Below.drew ?_) | (with_reducible refine bl_grow ?_ (by first | (simp; done) | (simp; omega) | omega)))⟩
      case measure => simp [intOf]; omega
    · have hlt' : ¬ (i : Int) < n := by omega
      obtain rfl : i = n := by omega
      go_wp2_with fail
      go_ret
      exact ⟨rfl, by repeat (first | (with_reducible exact Below.refl _ _) | (with_reducible assumption) | (with_reducible refine Below.setCell ?_ (by first | (simp; done) | (simp; omega) | omega) _) | (with_reducible refine Below.alloc ?_ (by first | (simp; done) | (simp; omega) | omega) _) | (refine bl_call ?_ (by assumption) (by first | (simp; done) | (simp; omega) | omega)) | (with_reducible refine bl_drewN ?_) | (with_reducible refine Below.drew ?_) | (with_reducible refine bl_grow ?_ (by first | (simp; done) | (simp; omega) | omega)))⟩
theorem ix_two {n a j : Nat} (ha : a < n) (hj : j < n) : (a + 1 + j) % n = a + 1 + j ∧ a + 1 + j < n ∨ (a + 1 + j) % n + n = a + 1 + j ∧ n ≤ a + 1 + j := by
  by_cases h : a + 1 + j < n
  · exact Or.inl ⟨Nat.mod_eq_of_lt h, h⟩
  · right
    have h2 : (a + 1 + j) % n = a + 1 + j - n := by
      rw [Nat.mod_eq_sub_mod (by omega), Nat.mod_eq_of_lt (by omega)]
    omega
theorem ix_next (n a j : Nat) : ((a + 1 + j) % n + 1) % n = (a + 1 + (j + 1)) % n := by rw [Nat.mod_add_mod]; rfl
theorem ix_left {n a j : Nat} (ha : a < n) (hj : j < n) : (a + n - (a + 1 + j) % n) % n = n - 1 - j := by
  rcases ix_two ha hj with ⟨h, h2⟩ | ⟨h, h2⟩
  · rw [h, show a + n - (a + 1 + j) = n - 1 - j by omega, Nat.mod_eq_of_lt (by omega)]
  · rw [show a + n - (a + 1 + j) % n = (n - 1 - j) + n by omega, Nat.add_mod_right, Nat.mod_eq_of_lt (by omega)]
/-- What stands for the first challenge after so many steps around. -/
def ccN (K s : Nat → Nat) (n : Nat) (t : ByteArray) (a k j : Nat) : Nat := bif decide (n - 1 - a ≤ j) then r0N K s n t a k else 0
theorem cc_at {K s : Nat → Nat} {n : Nat} {t : ByteArray} {a k j : Nat} (h : (a + 1 + j) % n = 0) (ha : a < n) (hj : j < n) : rsN K s n t a k j = ccN K s n t a k j := by
  have e : j = n - 1 - a := by
    rcases ix_two ha hj with ⟨h1, h2⟩ | ⟨h1, h2⟩ <;> omega
  unfold ccN
  rw [decide_eq_true (by omega), e]
  rfl
theorem cc_step {K s : Nat → Nat} {n : Nat} {t : ByteArray} {a k j : Nat} (h : (a + 1 + (j + 1)) % n ≠ 0) (ha : a < n) (hj : j + 1 < n) : ccN K s n t a k (j + 1) = ccN K s n t a k j := by
  unfold ccN
  have e : j + 1 ≠ n - 1 - a := fun e => h (by rw [e, show a + 1 + (n - 1 - a) = n by omega, Nat.mod_self])
  by_cases h1 : n - 1 - a ≤ j
  · rw [decide_eq_true h1, decide_eq_true (by omega)]
  · rw [decide_eq_false h1, decide_eq_false (by omega)]
theorem cc_zero {K s : Nat → Nat} {n : Nat} {t : ByteArray} {a k : Nat} (h : (a + 1 + 0) % n ≠ 0) (ha : a < n) : ccN K s n t a k 0 = 0 := by
  unfold ccN
  rw [decide_eq_false]
  · rfl
  · intro h1
    apply h
    rw [show a + 1 + 0 = n by omega, Nat.mod_self]
theorem cc_end {K s : Nat → Nat} {n : Nat} {t : ByteArray} {a k : Nat} : ccN K s n t a k (n - 1) = r0N K s n t a k := by
  unfold ccN
  rw [decide_eq_true (by omega)]; rfl
theorem riinfo : (Tryd.prog.info? 3).map (fun i => (i.zero, i.size, i.bytes)) = some (some (.int .i64 0), 1, 8) := by kernel_rfl
theorem cells_row {w : World} {b o n : Nat} {X : Nat → Int} (h : RowI w b o n X) : ∀ j u, (cellsI X n)[j]? = some u → w.cell? ((⟨b, o, none⟩ : Addr).add j) = some u := by
  intro j u hj
  have hl : j < n := by
    have := (List.getElem?_eq_some_iff.1 hj).1
    simpa [cellsI] using this
  rw [cellsI_at X hl] at hj
  rw [Addr.add_lit, ← hj]
  exact h.2 j hl
theorem row_set {w : World} {B n g e a : Nat} {S R : Nat → Int} {u : Int} (h : w.ownsRow B 3 1 (.slice (some ⟨g, 0, none⟩) n e) n ((cellsI S n).set a (.int .i64 u))) (hR : ∀ i, i < n → R i = if i = a then u else S i) : RowI w g 0 n R :=
  ⟨(h.lt g rfl).2, fun i hi => by
    rw [Nat.zero_add, h.cellAt i (by omega), hR i hi, List.getElem?_set]
    by_cases hia : i = a
    · subst hia
      rw [if_pos rfl, if_pos rfl, if_pos (by simp [cellsI]; exact hi)]
    · rw [if_neg (fun e => hia e.symm), if_neg hia, cellsI_at S hi]⟩
set_option maxRecDepth 100000 in
set_option maxHeartbeats 4000000 in
theorem rringsign (sl : Option Addr) (n d : Nat) (X Y : Nat → Int) (F : Nat → Bool) (K s : Nat → Nat) (S : Nat → Int) (a x k b o c : Nat) (t : ByteArray) (w : World) (hn : n ≤ 12) (hr : (n = 0 ∨ ∃ b o : Nat, sl = some ⟨b, o, none⟩ ∧ RowO w b o n X Y F)) (hK : (∀ i, i < n → X i = ((tM (K i)).1 : Int) ∧ Y i = ((tM (K i)).2.1 : Int) ∧ F i = (tM (K i)).2.2)) (hs : RowI w b o n S) (hS : ∀ i, i < n → i ≠ a → S i = (s i : Int)) (ha : a < n) (hx : x < 1013) (hk : k < 1013) (ht : t.size ≤ 60) :
    Calls Tryd.prog 20 #[.slice sl n d, .int .i64 (a : Int), .int .i64 (x : Int), .int .i64 (k : Int), .slice (some ⟨b, o, none⟩) n c, .string t] w fun ex w' => ∃ g e : Nat, n ≤ e ∧ w.heap.size ≤ g ∧ ex = .returned (.agg #[.int .i64 (r0N K s n t a k : Int), .slice (some ⟨g, 0, none⟩) n e]) ∧ RowI w' g 0 n (fun i => (rwN K s n t a x k i : Int)) ∧ Below w.heap.size w w' := by
  have HN : Hid (∀ (i c s : Nat) W, Below w.heap.size w W → i < n → Calls Tryd.prog 41 #[.slice sl n d, .int .i64 (i : Int), .int .i64 (c : Int), .int .i64 (s : Int), .string t] W fun e w' => e = .returned (.int .i64 (rnN K n i c s t : Int)) ∧ Below W.heap.size W w') := fun i c s W k hi => rringnext sl n d X Y F K i c s t W hn (rrow_up hr k) hK ht hi
  have HA : Hid (∀ W, Below w.heap.size w W → Calls Tryd.prog 18 #[.slice sl n d, .agg #[.int .i64 ((tM (4 * k)).1 : Int), .int .i64 ((tM (4 * k)).2.1 : Int), .bool (tM (4 * k)).2.2], .string t] W fun e w' => e = .returned (.int .i64 (rsN K s n t a k 0 : Int)) ∧ Below W.heap.size W w') := fun W q => rringask sl n d X Y F K (4 * k) t W hn (rrow_up hr q) hK ht
  have HS : Hid (RowI w b o n S) := hs
  have HSN : Hid (∀ i, i < n → i ≠ a → S i = (s i : Int)) := hS
  have EK : Hid (tM (4 * em (k : Int)) = tM (4 * k)) := tM_em _ _
  have hb := hs.1
  have hcells := cells_row hs
  clear hr hK hs hS
  obtain ⟨i0, hi, hv0, hv1, hv2⟩ := info_parts riinfo
  go_enter Tryd.func20, Tryd.ntmps20
  go_wp2_with (at_builtin; refine wpList_append_own_at _ rfl _ _ 44 rfl (w.heap.size + 2) 3 i0 (.int .i64 0) 1 8 Tryd.underlying44 hi hv0 hv1 hv2 rfl (by decide) _ _ _ rfl (World.ownsRow_nil _ _ _ _) ⟨b, o, none⟩ n c (cellsI S n) rfl ?c0 ?c1 ?c2 ?c3 ?c4 ?c5 ?_)
  case c0 => simp [cellsI]
  case c1 => exact fun j u hj => (Below.cell (p := (⟨b, o, none⟩ : Addr).add j) (show Below w.heap.size w _ from by repeat (first | (with_reducible exact Below.refl _ _) | (with_reducible assumption) | (with_reducible refine Below.setCell ?_ (by first | (simp; done) | (simp; omega) | omega) _) | (with_reducible refine Below.alloc ?_ (by first | (simp; done) | (simp; omega) | omega) _) | (refine bl_call ?_ (by assumption) (by first | (simp; done) | (simp; omega) | omega)) | (with_reducible refine bl_drewN ?_) | (with_reducible refine Below.drew ?_) | (with_reducible refine bl_grow ?_ (by first | (simp; done) | (simp; omega) | omega)))) (by rw [Addr.add_lit]; exact hb)).trans (hcells j u hj)
  case c2 => intro u hu; simp [cellsI] at hu; obtain ⟨_, _, rfl⟩ := hu; rfl
  case c3 => unfold maxLen; omega
  case c4 => omega
  case c5 => simp
  intro v' w2 hown' hgrow _ _
  clear hcells
  obtain ⟨sa, e, rfl, r1⟩ := own_ints hown'
  obtain ⟨g, rfl, _, hg, _⟩ := r1.resolve_left (by omega)
  have hre := own_room hown'
  have kr2 : At w2 (w.heap.size) [.int .i64 0, .slice none 0 0] := At.grown (show At _ (w.heap.size) [.int .i64 0, .slice none 0 0] from by repeat (first | (with_reducible assumption) | ((with_reducible refine at_new' _ _ _ _ ?_); (first | rfl | (simp; done))) | (with_reducible refine At.alloc ?_ _) | (with_reducible refine At.drew ?_) | (with_reducible refine At.drewN ?_) | (with_reducible refine At.set ?_ (by omega)) | (with_reducible apply At.store4) | (with_reducible apply At.store3) | (with_reducible apply At.store2) | (with_reducible apply At.put43) | (refine At.below ?_ (by with_reducible assumption)))) hgrow (fun h => by cases h)
  have ko2 : At w2 (w.heap.size + 1) [.int .i64 0, .slice none 0 0] := At.grown (show At _ (w.heap.size + 1) [.int .i64 0, .slice none 0 0] from by repeat (first | (with_reducible assumption) | ((with_reducible refine at_new' _ _ _ _ ?_); (first | rfl | (simp; done))) | (with_reducible refine At.alloc ?_ _) | (with_reducible refine At.drew ?_) | (with_reducible refine At.drewN ?_) | (with_reducible refine At.set ?_ (by omega)) | (with_reducible apply At.store4) | (with_reducible apply At.store3) | (with_reducible apply At.store2) | (with_reducible apply At.put43) | (refine At.below ?_ (by with_reducible assumption)))) hgrow (fun h => by cases h)
  have hq2 : Below w.heap.size w w2 := (show Below w.heap.size w _ from by repeat (first | (with_reducible exact Below.refl _ _) | (with_reducible assumption) | (with_reducible refine Below.setCell ?_ (by first | (simp; done) | (simp; omega) | omega) _) | (with_reducible refine Below.alloc ?_ (by first | (simp; done) | (simp; omega) | omega) _) | (refine bl_call ?_ (by assumption) (by first | (simp; done) | (simp; omega) | omega)) | (with_reducible refine bl_drewN ?_) | (with_reducible refine Below.drew ?_) | (with_reducible refine bl_grow ?_ (by first | (simp; done) | (simp; omega) | omega)))).grown hgrow (by simp; omega) (fun k h => by cases h)
  have hz2 := hq2.size
  clear hgrow
  obtain ⟨zr2, cr02, cr12, fr02, fr12⟩ := kr2.two
  obtain ⟨zo2, co02, co12, fo02, fo12⟩ := ko2.two
  have E1 : Hid (((a : Int) + 1) % (n : Int) = (((a + 1 + 0) % n : Nat) : Int)) := by unfold Hid; rw [Int.natCast_emod]; rfl
  have hn0 : ((n : Int) == 0) = false := by rw [beq_eq_false_iff_ne]; omega
  have m1 : True := trivial; have m2 : True := trivial
  have EN : ((a + 1 + 0) % n) < n := Nat.mod_lt _ (by omega)
  go_upto_if 34 with (first | (go_at_call 11; refine (rby_eq EK.out _).mono ?_; rintro e w3 ⟨rfl, hbw3⟩; have krw3 : At w3 (w.heap.size) [.int .i64 0, .slice none 0 0] := At.below (At.set kr2 (by omega)) hbw3; have kow3 : At w3 (w.heap.size + 1) [.int .i64 0, .slice (some ⟨g, 0, none⟩) n e] := At.below (At.put21 ko2) hbw3; have ho3 := own_stay (own_set hown' (show (Value.slice (some ⟨g, 0, none⟩) n e).ownBlock ≠ some (w.heap.size + 1) by simp [Value.ownBlock]; omega) _) hbw3; have hqw3 : Below w.heap.size w w3 := (by repeat (first | (with_reducible exact Below.refl _ _) | (with_reducible assumption) | (with_reducible refine Below.setCell ?_ (by first | (simp; done) | (simp; omega) | omega) _) | (with_reducible refine Below.alloc ?_ (by first | (simp; done) | (simp; omega) | omega) _) | (refine bl_call ?_ (by assumption) (by first | (simp; done) | (simp; omega) | omega)) | (with_reducible refine bl_drewN ?_) | (with_reducible refine Below.drew ?_) | (with_reducible refine bl_grow ?_ (by first | (simp; done) | (simp; omega) | omega)))); have hzw3 := hqw3.size; obtain ⟨zrw3, cr0w3, cr1w3, fr0w3, fr1w3⟩ := krw3.two; obtain ⟨zow3, co0w3, co1w3, fo0w3, fo1w3⟩ := kow3.two; clear hbw3) | (go_at_call 18; clear m2; refine (HA.out _ (by repeat (first | (with_reducible exact Below.refl _ _) | (with_reducible assumption) | (with_reducible refine Below.setCell ?_ (by first | (simp; done) | (simp; omega) | omega) _) | (with_reducible refine Below.alloc ?_ (by first | (simp; done) | (simp; omega) | omega) _) | (refine bl_call ?_ (by assumption) (by first | (simp; done) | (simp; omega) | omega)) | (with_reducible refine bl_drewN ?_) | (with_reducible refine Below.drew ?_) | (with_reducible refine bl_grow ?_ (by first | (simp; done) | (simp; omega) | omega))))).mono ?_; rintro e w4 ⟨rfl, hbw4⟩; have krw4 : At w4 (w.heap.size) [.int .i64 0, .slice none 0 0] := (by repeat (first | (with_reducible assumption) | ((with_reducible refine at_new' _ _ _ _ ?_); (first | rfl | (simp; done))) | (with_reducible refine At.alloc ?_ _) | (with_reducible refine At.drew ?_) | (with_reducible refine At.drewN ?_) | (with_reducible refine At.set ?_ (by omega)) | (with_reducible apply At.store4) | (with_reducible apply At.store3) | (with_reducible apply At.store2) | (with_reducible apply At.put43) | (refine At.below ?_ (by with_reducible assumption)))); have kow4 : At w4 (w.heap.size + 1) [.int .i64 0, .slice (some ⟨g, 0, none⟩) n e] := (by repeat (first | (with_reducible assumption) | ((with_reducible refine at_new' _ _ _ _ ?_); (first | rfl | (simp; done))) | (with_reducible refine At.alloc ?_ _) | (with_reducible refine At.drew ?_) | (with_reducible refine At.drewN ?_) | (with_reducible refine At.set ?_ (by omega)) | (with_reducible apply At.store4) | (with_reducible apply At.store3) | (with_reducible apply At.store2) | (with_reducible apply At.put43) | (refine At.below ?_ (by with_reducible assumption)))); have hqw4 : Below w.heap.size w w4 := (by repeat (first | (with_reducible exact Below.refl _ _) | (with_reducible assumption) | (with_reducible refine Below.setCell ?_ (by first | (simp; done) | (simp; omega) | omega) _) | (with_reducible refine Below.alloc ?_ (by first | (simp; done) | (simp; omega) | omega) _) | (refine bl_call ?_ (by assumption) (by first | (simp; done) | (simp; omega) | omega)) | (with_reducible refine bl_drewN ?_) | (with_reducible refine Below.drew ?_) | (with_reducible refine bl_grow ?_ (by first | (simp; done) | (simp; omega) | omega)))); have hzw4 := hqw4.size; obtain ⟨zrw4, cr0w4, cr1w4, fr0w4, fr1w4⟩ := krw4.two; obtain ⟨zow4, co0w4, co1w4, fo0w4, fo1w4⟩ := kow4.two; clear krw3 cr0w3 fr0w3 cr1w3 fr1w3 kow3 co0w3 fo0w3 co1w3 fo1w3 hqw3; have ho4 := own_stay ho3 hbw4; clear hbw4))
  go_cut [] from 17 to 36 (fun wx => At wx (w.heap.size) [.int .i64 0, .slice none 0 0] ∧ At wx (w.heap.size + 1) [.int .i64 (ccN K s n t a k 0 : Int), .slice (some ⟨g, 0, none⟩) n e] ∧ wx.ownsRow (w.heap.size + 2) 3 1 (.slice (some ⟨g, 0, none⟩) n e) n (cellsI S n) ∧ Below w.heap.size w wx)
  case first =>
    by_cases hz0 : (a + 1 + 0) % n = 0
    · have T : (((a : Int) + 1) % (n : Int) == 0) = true := by rw [E1.out, hz0]; rfl
      have EC := cc_at (K := K) (s := s) (t := t) (k := k) hz0 ha (show 0 < n by omega)
      have HE : Hid (rsN K s n t a k 0 = ccN K s n t a k 0) := EC
      clear EC
      go_wp2_with fail
      go_meet
      case rel => exact ⟨At.set krw4 (by omega), by rw [← HE.out]; exact At.put20 kow4, own_set ho4 (show (Value.slice (some ⟨g, 0, none⟩) n e).ownBlock ≠ some (w.heap.size + 1) by simp [Value.ownBlock]; omega) _, by repeat (first | (with_reducible exact Below.refl _ _) | (with_reducible assumption) | (with_reducible refine Below.setCell ?_ (by first | (simp; done) | (simp; omega) | omega) _) | (with_reducible refine Below.alloc ?_ (by first | (simp; done) | (simp; omega) | omega) _) | (refine bl_call ?_ (by assumption) (by first | (simp; done) | (simp; omega) | omega)) | (with_reducible refine bl_drewN ?_) | (with_reducible refine Below.drew ?_) | (with_reducible refine bl_grow ?_ (by first | (simp; done) | (simp; omega) | omega)))⟩
    · have T : (((a : Int) + 1) % (n : Int) == 0) = false := by rw [E1.out, beq_eq_false_iff_ne]; omega
      have HE : Hid (ccN K s n t a k 0 = 0) := cc_zero hz0 ha
      go_wp2_with fail
      go_meet
      case rel => exact ⟨krw4, by rw [HE.out]; exact kow4, ho4, hqw4⟩
  case rest =>
  clear krw4 cr0w4 fr0w4 cr1w4 fr1w4 kow4 co0w4 fo0w4 co1w4 fo1w4 hqw4 ho4 ho3 hown' kr2 cr02 fr02 cr12 fr12 ko2 co02 fo02 co12 fo12 hq2 r1
  obtain ⟨krc, koc, hoc, hqc⟩ := hcut
  go_wp2_with fail
  go_loopw [15, 16] (fun tc ti wl => ∃ j : Nat, j < n ∧ ti = .int .i64 (((a + 1 + j) % n) : Nat) ∧ tc = .int .i64 (rsN K s n t a k j : Nat) ∧ At wl (w.heap.size) [.int .i64 0, .slice none 0 0] ∧ At wl (w.heap.size + 1) [.int .i64 (ccN K s n t a k j : Int), .slice (some ⟨g, 0, none⟩) n e] ∧ wl.ownsRow (w.heap.size + 2) 3 1 (.slice (some ⟨g, 0, none⟩) n e) n (cellsI S n) ∧ Below w.heap.size w wl) (fun _ ti _ => (a + n - (intOf ti).toNat) % n)
  case atStart => exact ⟨0, by omega, congrArg _ E1.out, rfl, krc, koc, hoc, hqc⟩
  case round =>
    clear krc koc hoc hqc
    obtain ⟨j, hj, rfl, rfl, krV, koV, hoV, hqV⟩ := hrel
    rename World => V
    have hzV := hqV.size
    obtain ⟨zrV, cr0V, cr1V, fr0V, fr1V⟩ := krV.two
    obtain ⟨zoV, co0V, co1V, fo0V, fo1V⟩ := koV.two
    have hml := ix_left ha hj
    obtain ⟨I, hI⟩ : ∃ I, ((a + 1 + j) % n) = I := ⟨_, rfl⟩
    have hIn : I < n := by rw [← hI]; exact Nat.mod_lt _ (by omega)
    by_cases hj2 : j + 1 < n
    · have hIa : I ≠ a := by
        rcases ix_two ha hj with ⟨h1, h2⟩ | ⟨h1, h2⟩ <;> omega
      have T1 : ((I : Int) != (a : Int)) = true := by rw [bne_iff_ne]; omega
      have hbV := Nat.lt_of_lt_of_le hb hzV
      have c0 := (HS.out.below hb hqV).2 I hIn
      rw [HSN.out I hIn hIa] at c0
      have HNi := HN.out I (rsN K s n t a k j) (s I) V hqV hIn
      rw [show rnN K n I (rsN K s n t a k j) (s I) t = rsN K s n t a k (j + 1) by rw [← hI]; rfl] at HNi
      have HNi' : Hid (Calls Tryd.prog 41 #[.slice sl n d, .int .i64 (I : Int), .int .i64 (rsN K s n t a k j : Int), .int .i64 (s I : Int), .string t] V fun e w' => e = .returned (.int .i64 (rsN K s n t a k (j + 1) : Int)) ∧ Below V.heap.size V w') := HNi
      have E2 : Hid (((I : Int) + 1) % (n : Int) = (((a + 1 + (j + 1)) % n : Nat) : Int)) := by
        unfold Hid
        rw [← ix_next, hI, Int.natCast_emod]; rfl
      have hml2 := ix_left ha hj2
      rw [hI] at hml
      clear HNi
      rw [hI]
      clear hI
      by_cases hz0 : (a + 1 + (j + 1)) % n = 0
      · have T : (((I : Int) + 1) % (n : Int) == 0) = true := by rw [E2.out, hz0]; rfl
        have HE : Hid (rsN K s n t a k (j + 1) = ccN K s n t a k (j + 1)) := cc_at hz0 ha hj2
        go_wp2_with (go_at_call 41; refine HNi'.out.mono ?_; rintro e w5 ⟨rfl, hb5⟩; have kr5 := krV.below hb5; have ko5 := koV.below hb5; have ho5 := own_stay hoV hb5; have hq5 : Below w.heap.size w w5 := (by repeat (first | (with_reducible exact Below.refl _ _) | (with_reducible assumption) | (with_reducible refine Below.setCell ?_ (by first | (simp; done) | (simp; omega) | omega) _) | (with_reducible refine Below.alloc ?_ (by first | (simp; done) | (simp; omega) | omega) _) | (refine bl_call ?_ (by assumption) (by first | (simp; done) | (simp; omega) | omega)) | (with_reducible refine bl_drewN ?_) | (with_reducible refine Below.drew ?_) | (with_reducible refine bl_grow ?_ (by first | (simp; done) | (simp; omega) | omega)))); have hz5 := hq5.size; obtain ⟨zr5, cr05, cr15, fr05, fr15⟩ := kr5.two; obtain ⟨zo5, co05, co15, fo05, fo15⟩ := ko5.two; clear hb5)
        go_roundw
        case rel => exact ⟨j + 1, hj2, congrArg _ E2.out, rfl, At.set kr5 (by omega), by rw [← HE.out]; exact At.put20 ko5, own_set ho5 (show (Value.slice (some ⟨g, 0, none⟩) n e).ownBlock ≠ some (w.heap.size + 1) by simp [Value.ownBlock]; omega) _, by repeat (first | (with_reducible exact Below.refl _ _) | (with_reducible assumption) | (with_reducible refine Below.setCell ?_ (by first | (simp; done) | (simp; omega) | omega) _) | (with_reducible refine Below.alloc ?_ (by first | (simp; done) | (simp; omega) | omega) _) | (refine bl_call ?_ (by assumption) (by first | (simp; done) | (simp; omega) | omega)) | (with_reducible refine bl_drewN ?_) | (with_reducible refine Below.drew ?_) | (with_reducible refine bl_grow ?_ (by first | (simp; done) | (simp; omega) | omega)))⟩
        case measure => simp only [intOf]; rw [E2.out, Int.toNat_natCast, Int.toNat_natCast, hml, hml2]; omega
      · have T : (((I : Int) + 1) % (n : Int) == 0) = false := by rw [E2.out, beq_eq_false_iff_ne]; omega
        have HE : Hid (ccN K s n t a k (j + 1) = ccN K s n t a k j) := cc_step hz0 ha hj2
        go_wp2_with (go_at_call 41; refine HNi'.out.mono ?_; rintro e w5 ⟨rfl, hb5⟩; have kr5 := krV.below hb5; have ko5 := koV.below hb5; have ho5 := own_stay hoV hb5; have hq5 : Below w.heap.size w w5 := (by repeat (first | (with_reducible exact Below.refl _ _) | (with_reducible assumption) | (with_reducible refine Below.setCell ?_ (by first | (simp; done) | (simp; omega) | omega) _) | (with_reducible refine Below.alloc ?_ (by first | (simp; done) | (simp; omega) | omega) _) | (refine bl_call ?_ (by assumption) (by first | (simp; done) | (simp; omega) | omega)) | (with_reducible refine bl_drewN ?_) | (with_reducible refine Below.drew ?_) | (with_reducible refine bl_grow ?_ (by first | (simp; done) | (simp; omega) | omega)))); have hz5 := hq5.size; obtain ⟨zr5, cr05, cr15, fr05, fr15⟩ := kr5.two; obtain ⟨zo5, co05, co15, fo05, fo15⟩ := ko5.two; clear hb5)
        go_roundw
        case rel => exact ⟨j + 1, hj2, congrArg _ E2.out, rfl, kr5, by rw [HE.out]; exact ko5, ho5, by repeat (first | (with_reducible exact Below.refl _ _) | (with_reducible assumption) | (with_reducible refine Below.setCell ?_ (by first | (simp; done) | (simp; omega) | omega) _) | (with_reducible refine Below.alloc ?_ (by first | (simp; done) | (simp; omega) | omega) _) | (refine bl_call ?_ (by assumption) (by first | (simp; done) | (simp; omega) | omega)) | (with_reducible refine bl_drewN ?_) | (with_reducible refine Below.drew ?_) | (with_reducible refine bl_grow ?_ (by first | (simp; done) | (simp; omega) | omega)))⟩
        case measure => simp only [intOf]; rw [E2.out, Int.toNat_natCast, Int.toNat_natCast, hml, hml2]; omega
    · obtain rfl : j = n - 1 := by omega
      have hIa : I = a := by
        rcases ix_two ha hj with ⟨h1, h2⟩ | ⟨h1, h2⟩ <;> omega
      subst hIa
      have T1 : ((I : Int) != (I : Int)) = false := by simp
      rw [hI]
      clear hI hml
      have hC := rsN_lt (K := K) (S := s) (n := n) (t := t) (a := I) (k := k) (n - 1)
      have EC : Hid (ccN K s n t I k (n - 1) = r0N K s n t I k) := cc_end
      have HM : Hid (((k : Int) - (rsN K s n t I k (n - 1) : Int) * (x : Int)) % 1013 = (rzN K s n t I x k : Int)) := rz_int hC
      have HRW : Hid (∀ i, i < n → ((rwN K s n t I x k i : Nat) : Int) = if i = I then (rzN K s n t I x k : Int) else S i) := fun i hi => by
        by_cases h : i = I
        · subst h; rw [rw_at, if_pos rfl]
        · rw [rw_ne _ _ _ _ _ _ h, if_neg h, HSN.out i hi h]
      obtain ⟨C, hCe⟩ : ∃ C, rsN K s n t I k (n - 1) = C := ⟨_, rfl⟩
      rw [hCe] at hC HM ⊢
      clear hCe
      obtain ⟨q1, q0⟩ := sg_bd (k := 0) hC hx (by omega)
      have HMC : Hid (∀ w, Calls Tryd.prog 31 #[.int .i64 ((k : Int) - (C : Int) * (x : Int)), .int .i64 1013] w fun e w' => e = .returned (.int .i64 (rzN K s n t I x k : Int)) ∧ Below w.heap.size w w') := fun w => below_of_same (rmod_eq HM.out w (by omega) (by omega))
      go_wp2_with fail
      refine below_gate 10 1 #[true, true, true, true, true, true, true, true, true, true, false] (by kernel_rfl) (by kernel_rfl) rfl rfl ?_
      dsimp only [List.take]
      repeat (go_big_quiet_step (first | (go_at_call 31; with_reducible exact Calls.regrown_of (HMC.out _))))
      refine wpQuiet_nil ?_
      intro W hw1
      have hrW := regrown_below hw1
      clear hw1
      have krW := krV.below hrW
      have koW := koV.below hrW
      have hqW := bl_call hqV hrW (by omega)
      have hzW := hqW.size
      have hoW := own_stay hoV hrW
      have fzW := hoW.frozenAt I
      have czW := (hoW.cellAt I (by omega)).trans (cellsI_at S hIn)
      have hgW : g < W.heap.size := (hoW.lt g rfl).2
      clear hrW krV cr0V fr0V cr1V fr1V koV co0V fo0V co1V fo1V hqV
      obtain ⟨zrW, cr0W, cr1W, fr0W, fr1W⟩ := krW.two
      obtain ⟨zoW, co0W, co1W, fo0W, fo1W⟩ := koW.two
      refine wpAny_ready (rs := [10]) (by kernel_rfl) (by simp) (AllReady.cons rfl (fun K hK => ?_) AllReady.nil)
      go_simp
      refine hK _ _ ?_
      clear hK K
      refine wpAny_done (by kernel_rfl) ?_ _
      
      go_wp2_with fail
      refine bodyPost_ret (v := .agg #[.int .i64 (r0N K s n t I k : Int), .slice (some ⟨g, 0, none⟩) n e]) (by simp [results, Tryd.results20, go_sem, EC.out, *]) rfl ?_
      have hne : (Value.slice (some ⟨g, 0, none⟩) n e).ownBlock ≠ some (w.heap.size) := by simp [Value.ownBlock]; omega
      exact ⟨g, e, hre, by omega, rfl, row_set (own_set (own_set (hoW.stored I _).1 hne _) hne _) HRW.out, by repeat (first | (with_reducible exact Below.refl _ _) | (with_reducible assumption) | (with_reducible refine Below.setCell ?_ (by first | (simp; done) | (simp; omega) | omega) _) | (with_reducible refine Below.alloc ?_ (by first | (simp; done) | (simp; omega) | omega) _) | (refine bl_call ?_ (by assumption) (by first | (simp; done) | (simp; omega) | omega)) | (with_reducible refine bl_drewN ?_) | (with_reducible refine Below.drew ?_) | (with_reducible refine bl_grow ?_ (by first | (simp; done) | (simp; omega) | omega)))⟩
end Go.Proofs.YtiddfngopoednahDoor
