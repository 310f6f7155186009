/- What package book is made of: isNumber, Ask, Close, checkCoins, sum, minted, at, checkGone, answered, checkSeal. -/
import Derived.Test.YtpkkclcjiobgoajGreatDoorKE
import Derived.Test.YtpkkclcjiobgoajGreatDoorKI
import Derived.Test.YtpkkclcjiobgoajGreatDoorKF
import Derived.Test.YtpkkclcjiobgoajGreatDoorKBytes
import Derived.Test.YtpkkclcjiobgoajGreatDoorKD
import Derived.Test.YtpkkclcjiobgoajGreatDoorKTimesOrd
import Derived.Test.YtpkkclcjiobgoajGreatDoorKCurveEq
import Derived.Test.YtpkkclcjiobgoajGreatDoorKC
import Derived.Test.YtpkkclcjiobgoajGreatDoorKGate
import Derived.Deep.RegionHeld3
import Derived.Deep.CutRange
namespace Go.Proofs.YtpkkclcjiobgoajGreatDoor
open Go.RowKit Go.Sort
set_option linter.unusedVariables false
set_option linter.unusedSimpArgs false
theorem bb_lt {W w1 : World} (hb : Below W.heap.size W w1) : ∀ b, b < W.heap.size → b < w1.heap.size := fun b h => Nat.lt_of_lt_of_le h hb.size
theorem bb_ne {W w1 : World} (hb : Below W.heap.size W w1) : ∀ b, b < W.heap.size → (b = w1.heap.size) = False := fun b h => eq_false (Nat.ne_of_lt (bb_lt hb b h))
theorem bb_ne2 {W w1 : World} (hb : Below W.heap.size W w1) : ∀ b, b < W.heap.size → (w1.heap.size = b) = False := fun b h => eq_false (Nat.ne_of_gt (bb_lt hb b h))
theorem brow_up {n : Nat} {sl : Option Addr} {X Y : Nat → Int} {F : Nat → Bool} {w W : World} (h : (n = 0 ∨ ∃ b o : Nat, sl = some ⟨b, o, none⟩ ∧ RowO w b o n X Y F)) (k : Below w.heap.size w W) : (n = 0 ∨ ∃ b o : Nat, sl = some ⟨b, o, none⟩ ∧ RowO W b o n X Y F) := h.imp_right fun ⟨b, o, e, r⟩ => ⟨b, o, e, r.below r.1 k⟩
theorem brz_up {m : Nat} {sz : Option Addr} {Z : Nat → Int} {w W : World} (h : (m = 0 ∨ ∃ b o : Nat, sz = some ⟨b, o, none⟩ ∧ RowI w b o m Z)) (k : Below w.heap.size w W) : (m = 0 ∨ ∃ b o : Nat, sz = some ⟨b, o, none⟩ ∧ RowI W b o m Z) := h.imp_right fun ⟨b, o, e, r⟩ => ⟨b, o, e, r.below r.1 k⟩
theorem brow_zero {X Y : Nat → Int} {F : Nat → Bool} {K : Nat → Nat} : ∀ {n : Nat}, (∀ i, i < n → X i = ((tM (K i)).1 : Int) ∧ Y i = ((tM (K i)).2.1 : Int) ∧ F i = (tM (K i)).2.2) → rowE X Y F n = 0
  | 0, _ => rfl
  | n + 1, h => by
    obtain ⟨a, b, c⟩ := h n (by omega)
    unfold rowE
    rw [brow_zero (n := n) (fun i hi => h i (by omega)), a, b, c]
    exact ck_tM _
theorem bone_at {w : World} {b : Nat} (h : w.heap.size = b) (x : Value) (t : TypeId) : ∀ j u, [x][j]? = some u → (w.alloc (.cells #[x] t)).cell? ((⟨b, 0, none⟩ : Addr).add j) = some u := one_at h x t
theorem bfour_at {w : World} {b : Nat} (h : w.heap.size = b) (x y z t : Value) (s : TypeId) : ∀ j u, [x, y, z, t][j]? = some u → (w.alloc (.cells #[x, y, z, t] s)).cell? ((⟨b, 0, none⟩ : Addr).add j) = some u := by
  subst h
  intro j u hj
  rw [addr_add]
  match j, hj with
  | 0, hj => simp at hj; subst hj; simp
  | 1, hj => simp at hj; subst hj; simp
  | 2, hj => simp at hj; subst hj; simp
  | 3, hj => simp at hj; subst hj; simp
/-- Has it been marked? -/
theorem mk_dup {Z : Nat → Int} {z : Nat} : ∀ {k : Nat}, (∀ i, i < k → 0 ≤ Z i) → mkG (fun _ => false) Z k z = dupB Z (z : Int) k
  | 0, _ => rfl
  | k + 1, h => by
    show setB (mkG (fun _ => false) Z k) (Z k).toNat z = (dupB Z (z : Int) k || (Z k == (z : Int)))
    have h0 := h k (by omega)
    by_cases e : z = (Z k).toNat
    · have e2 : Z k = (z : Int) := by omega
      rw [← e, setB_at, e2]; simp
    · have e2 : (Z k == (z : Int)) = false := by rw [beq_eq_false_iff_ne]; omega
      rw [setB_ne _ e, e2, mk_dup fun i hi => h i (by omega), Bool.or_false]
theorem go_nonneg {n : Nat} {G : Nat → Bool} {Z : Nat → Int} {t : Nat} (h : ∀ i, i < t → goE n G Z i = 0) : ∀ i, i < t → 0 ≤ Z i := fun i hi => (inN_yes (goE_ok (h i hi)).1).1
theorem go_many {n : Nat} {G : Nat → Bool} {Z : Nat → Int} {m : Nat} (h : ∀ i, i < m → goE n G Z i = 0) : m ≤ n := by
  have h1 := (tt_mark (K := fun _ => 0) h).2
  have h2 := lvL_len G n
  omega
theorem bmade (n : Nat) : (madeCells #[Value.bool false] n).toList = cellsB (mkG (fun _ => false) (fun _ => 0) 0) n := by
  rw [toList_madeCells_one]
  unfold cellsB mkG
  refine List.ext_getElem? fun i => ?_
  by_cases h : i < n
  · simp [h]
  · simp [h]
theorem beinfo : (Tryz.prog.info? 25).map (fun i => (i.zero, i.size, i.bytes)) = some (some (.agg #[.int .i64 0, .int .i64 0, .bool false]), 3, 24) := by kernel_rfl
theorem bisnum {n : Int} {t : Bool} (ht : resB n = t) (w : World) : Calls Tryz.prog 47 #[.int .i64 n] w fun e w' => e = .returned (.bool t) ∧ w' = w := by
  subst ht
  by_cases h : n ≥ 0
  · by_cases h2 : n < 1013
    · rw [show resB n = true from decide_eq_true ⟨h, h2⟩]
      go_enter Tryz.func47, Tryz.ntmps47
      go_wp2_with fail
      go_ret
      exact ⟨rfl, rfl⟩
    · rw [show resB n = false from decide_eq_false fun k => h2 k.2]
      go_enter Tryz.func47, Tryz.ntmps47
      go_wp2_with fail
      go_ret
      exact ⟨rfl, rfl⟩
  · rw [show resB n = false from decide_eq_false fun k => h k.1]
    go_enter Tryz.func47, Tryz.ntmps47
    go_wp2_with fail
    go_ret
    exact ⟨rfl, rfl⟩
set_option maxRecDepth 100000 in
set_option maxHeartbeats 8000000 in
theorem bask_no (x1 y1 x2 y2 cc : Int) (f1 f2 : Bool) (w : World) (h : ∀ W j, RowO W j 0 2 (twoR x1 x2) (twoR y1 y2) (twoR f1 f2) → Calls Tryz.prog 41 #[.slice (some ⟨j, 0, none⟩) 2 2] W fun e w' => e = .returned (.tuple #[.string ⟨#[]⟩, errOf cc]) ∧ Below W.heap.size W w') : Calls Tryz.prog 8 #[.agg #[.int .i64 x1, .int .i64 y1, .bool f1], .agg #[.int .i64 x2, .int .i64 y2, .bool f2]] w fun e w' => e = .returned (.tuple #[.int .i64 0, errOf cc]) ∧ Below w.heap.size w w' := by
  have HL : Hid (∀ W j, RowO W j 0 2 (twoR x1 x2) (twoR y1 y2) (twoR f1 f2) → Calls Tryz.prog 41 #[.slice (some ⟨j, 0, none⟩) 2 2] W fun e w' => e = .returned (.tuple #[.string ⟨#[]⟩, errOf cc]) ∧ Below W.heap.size W w') := h
  clear h
  go_enter Tryz.func8, Tryz.ntmps8
  go_upto_region 1 with fail
  refine wp_gen (fun V => At V (w.heap.size) [.int .i64 x1, .int .i64 y1, .bool f1] ∧ At V (w.heap.size + 1) [.int .i64 x2, .int .i64 y2, .bool f2] ∧ Below w.heap.size w V) ⟨by repeat (first | (with_reducible first | assumption | (refine at_new' _ _ _ _ ?_; first | rfl | (simp; done)) | refine At.alloc ?_ _ | refine At.drew ?_ | refine At.drewN ?_ | refine At.set ?_ (by omega) | apply At.store4 | apply At.store3 | apply At.store2 | apply At.put43) | refine At.below ?_ (by with_reducible assumption)), by repeat (first | (with_reducible first | assumption | (refine at_new' _ _ _ _ ?_; first | rfl | (simp; done)) | refine At.alloc ?_ _ | refine At.drew ?_ | refine At.drewN ?_ | refine At.set ?_ (by omega) | apply At.store4 | apply At.store3 | apply At.store2 | apply At.put43) | refine At.below ?_ (by with_reducible assumption)), by repeat (first | (with_reducible first | exact Below.refl _ _ | assumption | refine Below.setCell ?_ (by first | simp <;> omega | omega) _ | refine Below.alloc ?_ (by first | simp <;> omega | omega) _) | refine bl_call ?_ (by assumption) (by first | simp <;> omega | omega) | (with_reducible first | refine bl_drewN ?_ | refine Below.drew ?_ | refine bl_grow ?_ (by first | simp <;> omega | omega)))⟩ ?_
  rintro V ⟨krV, keV, hqV⟩
  have hzV := hqV.size
  obtain ⟨zrV, cr0V, cr1V, cr2V, fr0V, fr1V, fr2V⟩ := krV.three
  obtain ⟨zeV, ce0V, ce1V, ce2V, fe0V, fe1V, fe2V⟩ := keV.three
  go_wp2_with (go_at_call 41; refine (HL.out _ V.heap.size ⟨by simp, fun i hi => by rcases lt_two hi with rfl | rfl <;> exact ⟨by simp [two_0, two_1], by simp [two_0, two_1], by simp [two_0, two_1]⟩⟩).mono ?_; rintro e w1 ⟨rfl, hb1⟩; have hq1 : Below w.heap.size w w1 := (by repeat (first | (with_reducible first | exact Below.refl _ _ | assumption | refine Below.setCell ?_ (by first | simp <;> omega | omega) _ | refine Below.alloc ?_ (by first | simp <;> omega | omega) _) | refine bl_call ?_ (by assumption) (by first | simp <;> omega | omega) | (with_reducible first | refine bl_drewN ?_ | refine Below.drew ?_ | refine bl_grow ?_ (by first | simp <;> omega | omega)))); have hz1 := hq1.size; clear hb1)
  exact bodyPost_ret (v := .tuple #[.int .i64 0, errOf cc]) (by simp [results, Tryz.results8, go_sem, *]) rfl ⟨rfl, by repeat (first | (with_reducible first | exact Below.refl _ _ | assumption | refine Below.setCell ?_ (by first | simp <;> omega | omega) _ | refine Below.alloc ?_ (by first | simp <;> omega | omega) _) | refine bl_call ?_ (by assumption) (by first | simp <;> omega | omega) | (with_reducible first | refine bl_drewN ?_ | refine Below.drew ?_ | refine bl_grow ?_ (by first | simp <;> omega | omega)))⟩
set_option maxRecDepth 100000 in
set_option maxHeartbeats 8000000 in
theorem bask_ok (a b : Nat) (w : World) : Calls Tryz.prog 8 #[.agg #[.int .i64 ((tM a).1 : Int), .int .i64 ((tM a).2.1 : Int), .bool (tM a).2.2], .agg #[.int .i64 ((tM b).1 : Int), .int .i64 ((tM b).2.1 : Int), .bool (tM b).2.2]] w fun e w' => e = .returned (.tuple #[.int .i64 (baN a b : Int), .nilIface]) ∧ Below w.heap.size w w' := by
  have HL : Hid (∀ W j, RowO W j 0 2 (twoR ((tM a).1 : Int) ((tM b).1 : Int)) (twoR ((tM a).2.1 : Int) ((tM b).2.1 : Int)) (twoR (tM a).2.2 (tM b).2.2) → Calls Tryz.prog 41 #[.slice (some ⟨j, 0, none⟩) 2 2] W fun e w' => e = .returned (.tuple #[.string (lsB (twoR a b) 2), .nilIface]) ∧ Below W.heap.size W w') := fun W j hr => by
    have hK : ∀ i, i < 2 → twoR ((tM a).1 : Int) ((tM b).1 : Int) i = ((tM (twoR a b i)).1 : Int) ∧ twoR ((tM a).2.1 : Int) ((tM b).2.1 : Int) i = ((tM (twoR a b i)).2.1 : Int) ∧ twoR (tM a).2.2 (tM b).2.2 i = (tM (twoR a b i)).2.2 := fun i hi => by rcases lt_two hi with rfl | rfl <;> exact ⟨rfl, rfl, rfl⟩
    exact list_row j 0 2 2 _ _ _ (twoR a b) W (by omega) hr (brow_zero hK) hK
  have HN : Hid (∀ w, Calls Tryz.prog 42 #[.string (lsB (twoR a b) 2)] w fun e w' => e = .returned (.int .i64 (baN a b : Int)) ∧ Below w.heap.size w w') := fun w => by
    have := below_of_same (number_any (lsB (twoR a b) 2) w (by have := ls_size (twoR a b) (n := 2) (by omega); omega))
    rwa [baI] at this
  obtain ⟨n, hn⟩ : ∃ n, baN a b = n := ⟨_, rfl⟩
  obtain ⟨t, ht⟩ : ∃ t, lsB (twoR a b) 2 = t := ⟨_, rfl⟩
  rw [hn, ht] at HN
  rw [ht] at HL
  rw [hn]
  clear hn ht
  go_enter Tryz.func8, Tryz.ntmps8
  go_upto_region 1 with fail
  refine wp_gen (fun V => At V (w.heap.size) [.int .i64 ((tM a).1 : Int), .int .i64 ((tM a).2.1 : Int), .bool (tM a).2.2] ∧ At V (w.heap.size + 1) [.int .i64 ((tM b).1 : Int), .int .i64 ((tM b).2.1 : Int), .bool (tM b).2.2] ∧ Below w.heap.size w V) ⟨by repeat (first | (with_reducible first | assumption | (refine at_new' _ _ _ _ ?_; first | rfl | (simp; done)) | refine At.alloc ?_ _ | refine At.drew ?_ | refine At.drewN ?_ | refine At.set ?_ (by omega) | apply At.store4 | apply At.store3 | apply At.store2 | apply At.put43) | refine At.below ?_ (by with_reducible assumption)), by repeat (first | (with_reducible first | assumption | (refine at_new' _ _ _ _ ?_; first | rfl | (simp; done)) | refine At.alloc ?_ _ | refine At.drew ?_ | refine At.drewN ?_ | refine At.set ?_ (by omega) | apply At.store4 | apply At.store3 | apply At.store2 | apply At.put43) | refine At.below ?_ (by with_reducible assumption)), by repeat (first | (with_reducible first | exact Below.refl _ _ | assumption | refine Below.setCell ?_ (by first | simp <;> omega | omega) _ | refine Below.alloc ?_ (by first | simp <;> omega | omega) _) | refine bl_call ?_ (by assumption) (by first | simp <;> omega | omega) | (with_reducible first | refine bl_drewN ?_ | refine Below.drew ?_ | refine bl_grow ?_ (by first | simp <;> omega | omega)))⟩ ?_
  rintro V ⟨krV, keV, hqV⟩
  have hzV := hqV.size
  obtain ⟨zrV, cr0V, cr1V, cr2V, fr0V, fr1V, fr2V⟩ := krV.three
  obtain ⟨zeV, ce0V, ce1V, ce2V, fe0V, fe1V, fe2V⟩ := keV.three
  go_wp2_with (first | (go_at_call 41; refine (HL.out _ V.heap.size ⟨by simp, fun i hi => by rcases lt_two hi with rfl | rfl <;> exact ⟨by simp [two_0, two_1], by simp [two_0, two_1], by simp [two_0, two_1]⟩⟩).mono ?_; rintro e w1 ⟨rfl, hb1⟩; have hq1 : Below w.heap.size w w1 := (by repeat (first | (with_reducible first | exact Below.refl _ _ | assumption | refine Below.setCell ?_ (by first | simp <;> omega | omega) _ | refine Below.alloc ?_ (by first | simp <;> omega | omega) _) | refine bl_call ?_ (by assumption) (by first | simp <;> omega | omega) | (with_reducible first | refine bl_drewN ?_ | refine Below.drew ?_ | refine bl_grow ?_ (by first | simp <;> omega | omega)))); have hz1 := hq1.size; clear hb1) | (go_at_call 42; refine (HN.out _).mono ?_; rintro e w2 ⟨rfl, hb2⟩; have hq2 : Below w.heap.size w w2 := (by repeat (first | (with_reducible first | exact Below.refl _ _ | assumption | refine Below.setCell ?_ (by first | simp <;> omega | omega) _ | refine Below.alloc ?_ (by first | simp <;> omega | omega) _) | refine bl_call ?_ (by assumption) (by first | simp <;> omega | omega) | (with_reducible first | refine bl_drewN ?_ | refine Below.drew ?_ | refine bl_grow ?_ (by first | simp <;> omega | omega)))); clear hb2))
  exact bodyPost_ret (v := .tuple #[.int .i64 (n : Int), .nilIface]) (by simp [results, Tryz.results8, go_sem, *]) rfl ⟨rfl, by repeat (first | (with_reducible first | exact Below.refl _ _ | assumption | refine Below.setCell ?_ (by first | simp <;> omega | omega) _ | refine Below.alloc ?_ (by first | simp <;> omega | omega) _) | refine bl_call ?_ (by assumption) (by first | simp <;> omega | omega) | (with_reducible first | refine bl_drewN ?_ | refine Below.drew ?_ | refine bl_grow ?_ (by first | simp <;> omega | omega)))⟩
theorem bask_is : BAskIs :=
  ⟨fun x1 y1 x2 y2 f1 f2 w h => bask_no _ _ _ _ _ _ _ w (fun W j hr => list_no j 0 2 2 _ _ _ W (by omega) hr h), fun a b w => bask_ok a b w⟩
/-- The first is right, the second is not. -/
theorem bask_2 (T : Nat) (x2 y2 : Int) (f2 : Bool) (w : World) (h : (ckI x2 y2 f2 == 0) = false) : Calls Tryz.prog 8 #[.agg #[.int .i64 ((tM T).1 : Int), .int .i64 ((tM T).2.1 : Int), .bool (tM T).2.2], .agg #[.int .i64 x2, .int .i64 y2, .bool f2]] w fun e w' => e = .returned (.tuple #[.int .i64 0, errOf (ckI x2 y2 f2)]) ∧ Below w.heap.size w w' := by
  have e : rowE (twoR ((tM T).1 : Int) x2) (twoR ((tM T).2.1 : Int) y2) (twoR (tM T).2.2 f2) 2 = ckI x2 y2 f2 := by
    have h1 : rowE (twoR ((tM T).1 : Int) x2) (twoR ((tM T).2.1 : Int) y2) (twoR (tM T).2.2 f2) 1 = 0 := brow_zero (K := fun _ => T) fun i hi => by
      obtain rfl : i = 0 := by omega
      exact ⟨rfl, rfl, rfl⟩
    unfold rowE
    rw [h1]
    rfl
  have := bask_is.1 ((tM T).1 : Int) ((tM T).2.1 : Int) x2 y2 (tM T).2.2 f2 w (by rw [e]; exact h)
  rwa [e] at this
set_option maxRecDepth 100000 in
set_option maxHeartbeats 8000000 in
theorem bclose_no (r k x1 y1 : Int) (f1 : Bool) (w : World) (h : (resB r && secB k) = false) : Calls Tryz.prog 14 #[.int .i64 r, .int .i64 k, .agg #[.int .i64 x1, .int .i64 y1, .bool f1]] w fun e w' => e = .returned (.tuple #[.agg #[.int .i64 0, .int .i64 0, .bool false, .int .i64 0], errOf 1]) ∧ Below w.heap.size w w' := by
  cases hv : resB r with
  | false =>
    have H1 : Hid (∀ w, Calls Tryz.prog 47 #[.int .i64 r] w fun e w' => e = .returned (.bool false) ∧ w' = w) := bisnum hv
    clear hv h
    go_enter Tryz.func14, Tryz.ntmps14
    go_wp2_with (go_at_call 47; refine (H1.out _).mono ?_; rintro e v1 ⟨rfl, hv1⟩; subst v1)
    exact bodyPost_ret (v := .tuple #[.agg #[.int .i64 0, .int .i64 0, .bool false, .int .i64 0], errOf 1]) (by simp [results, Tryz.results14, go_sem, *]) rfl ⟨rfl, by repeat (first | (with_reducible first | exact Below.refl _ _ | assumption | refine Below.setCell ?_ (by first | simp <;> omega | omega) _ | refine Below.alloc ?_ (by first | simp <;> omega | omega) _) | refine bl_call ?_ (by assumption) (by first | simp <;> omega | omega) | (with_reducible first | refine bl_drewN ?_ | refine Below.drew ?_ | refine bl_grow ?_ (by first | simp <;> omega | omega)))⟩
  | true =>
    rw [hv, Bool.true_and] at h
    have H1 : Hid (∀ w, Calls Tryz.prog 47 #[.int .i64 r] w fun e w' => e = .returned (.bool true) ∧ w' = w) := bisnum hv
    cases hk : resB k with
    | false =>
      have H2 : Hid (∀ w, Calls Tryz.prog 47 #[.int .i64 k] w fun e w' => e = .returned (.bool false) ∧ w' = w) := bisnum hk
      clear hv h hk
      go_enter Tryz.func14, Tryz.ntmps14
      go_wp2_with (first | (go_at_call 47; refine (H1.out _).mono ?_; rintro e v1 ⟨rfl, hv1⟩; subst v1) | (go_at_call 47; refine (H2.out _).mono ?_; rintro e v1 ⟨rfl, hv1⟩; subst v1))
      exact bodyPost_ret (v := .tuple #[.agg #[.int .i64 0, .int .i64 0, .bool false, .int .i64 0], errOf 1]) (by simp [results, Tryz.results14, go_sem, *]) rfl ⟨rfl, by repeat (first | (with_reducible first | exact Below.refl _ _ | assumption | refine Below.setCell ?_ (by first | simp <;> omega | omega) _ | refine Below.alloc ?_ (by first | simp <;> omega | omega) _) | refine bl_call ?_ (by assumption) (by first | simp <;> omega | omega) | (with_reducible first | refine bl_drewN ?_ | refine Below.drew ?_ | refine bl_grow ?_ (by first | simp <;> omega | omega)))⟩
    | true =>
      have H2 : Hid (∀ w, Calls Tryz.prog 47 #[.int .i64 k] w fun e w' => e = .returned (.bool true) ∧ w' = w) := bisnum hk
      obtain rfl : k = 0 := by
        have a := of_decide_eq_true (p := 0 ≤ k ∧ k < 1013) hk
        have b := of_decide_eq_false (p := 1 ≤ k ∧ k < 1013) h
        omega
      clear hv h hk
      go_enter Tryz.func14, Tryz.ntmps14
      go_wp2_with (first | (go_at_call 47; refine (H1.out _).mono ?_; rintro e v1 ⟨rfl, hv1⟩; subst v1) | (go_at_call 47; refine (H2.out _).mono ?_; rintro e v1 ⟨rfl, hv1⟩; subst v1))
      exact bodyPost_ret (v := .tuple #[.agg #[.int .i64 0, .int .i64 0, .bool false, .int .i64 0], errOf 1]) (by simp [results, Tryz.results14, go_sem, *]) rfl ⟨rfl, by repeat (first | (with_reducible first | exact Below.refl _ _ | assumption | refine Below.setCell ?_ (by first | simp <;> omega | omega) _ | refine Below.alloc ?_ (by first | simp <;> omega | omega) _) | refine bl_call ?_ (by assumption) (by first | simp <;> omega | omega) | (with_reducible first | refine bl_drewN ?_ | refine Below.drew ?_ | refine bl_grow ?_ (by first | simp <;> omega | omega)))⟩
set_option maxRecDepth 100000 in
set_option maxHeartbeats 8000000 in
theorem bclose_e (h r k : Nat) (T : Sn) (x1 y1 cc : Int) (f1 : Bool) (w : World) (r1 : r < 1013) (k0 : 1 ≤ k) (k1 : k < 1013) (hs : ∀ w, Calls Tryz.prog 49 #[] w fun e w' => e = .returned (.agg #[.int .i64 ((tM (4 * h)).1 : Int), .int .i64 ((tM (4 * h)).2.1 : Int), .bool (tM (4 * h)).2.2]) ∧ Below w.heap.size w w') (he : tM (4 * h * em (k : Int)) = T) (ha : ∀ w, Calls Tryz.prog 8 #[.agg #[.int .i64 ((T).1 : Int), .int .i64 ((T).2.1 : Int), .bool (T).2.2], .agg #[.int .i64 x1, .int .i64 y1, .bool f1]] w fun e w' => e = .returned (.tuple #[.int .i64 0, errOf cc]) ∧ Below w.heap.size w w') : Calls Tryz.prog 14 #[.int .i64 (r : Int), .int .i64 (k : Int), .agg #[.int .i64 x1, .int .i64 y1, .bool f1]] w fun e w' => e = .returned (.tuple #[.agg #[.int .i64 0, .int .i64 0, .bool false, .int .i64 0], errOf cc]) ∧ Below w.heap.size w w' := by
  have H1 : Hid (∀ w, Calls Tryz.prog 47 #[.int .i64 (r : Int)] w fun e w' => e = .returned (.bool true) ∧ w' = w) := bisnum (decide_eq_true ⟨by omega, by omega⟩)
  have H2 : Hid (∀ w, Calls Tryz.prog 47 #[.int .i64 (k : Int)] w fun e w' => e = .returned (.bool true) ∧ w' = w) := bisnum (decide_eq_true ⟨by omega, by omega⟩)
  have hk0 : ((k : Int) == 0) = false := by rw [beq_eq_false_iff_ne]; omega
  have HS : Hid (∀ w, Calls Tryz.prog 49 #[] w fun e w' => e = .returned (.agg #[.int .i64 ((tM (4 * h)).1 : Int), .int .i64 ((tM (4 * h)).2.1 : Int), .bool (tM (4 * h)).2.2]) ∧ Below w.heap.size w w') := hs
  have E : Hid (tM (4 * h * em (k : Int)) = T) := he
  have HA : Hid (∀ w, Calls Tryz.prog 8 #[.agg #[.int .i64 ((T).1 : Int), .int .i64 ((T).2.1 : Int), .bool (T).2.2], .agg #[.int .i64 x1, .int .i64 y1, .bool f1]] w fun e w' => e = .returned (.tuple #[.int .i64 0, errOf cc]) ∧ Below w.heap.size w w') := ha
  clear hs he ha
  have m1 : True := trivial; have m2 : True := trivial; have m3 : True := trivial
  go_enter Tryz.func14, Tryz.ntmps14
  go_wp2_with (first | (go_at_call 47; refine (H1.out _).mono ?_; rintro e v1 ⟨rfl, hv1⟩; subst v1) | (go_at_call 47; refine (H2.out _).mono ?_; rintro e v1 ⟨rfl, hv1⟩; subst v1) | (go_at_call 49; clear m1; refine (HS.out _).mono ?_; rintro e w1 ⟨rfl, hbw1⟩; have kew1 : At w1 (w.heap.size) [.int .i64 x1, .int .i64 y1, .bool f1] := (by repeat (first | (with_reducible first | assumption | (refine at_new' _ _ _ _ ?_; first | rfl | (simp; done)) | refine At.alloc ?_ _ | refine At.drew ?_ | refine At.drewN ?_ | refine At.set ?_ (by omega) | apply At.store4 | apply At.store3 | apply At.store2 | apply At.put43) | refine At.below ?_ (by with_reducible assumption))); have kzw1 : At w1 (w.heap.size + 1) [.int .i64 0, .int .i64 0, .bool false, .int .i64 0] := (by repeat (first | (with_reducible first | assumption | (refine at_new' _ _ _ _ ?_; first | rfl | (simp; done)) | refine At.alloc ?_ _ | refine At.drew ?_ | refine At.drewN ?_ | refine At.set ?_ (by omega) | apply At.store4 | apply At.store3 | apply At.store2 | apply At.put43) | refine At.below ?_ (by with_reducible assumption))); have hqw1 : Below w.heap.size w w1 := (by repeat (first | (with_reducible first | exact Below.refl _ _ | assumption | refine Below.setCell ?_ (by first | simp <;> omega | omega) _ | refine Below.alloc ?_ (by first | simp <;> omega | omega) _) | refine bl_call ?_ (by assumption) (by first | simp <;> omega | omega) | (with_reducible first | refine bl_drewN ?_ | refine Below.drew ?_ | refine bl_grow ?_ (by first | simp <;> omega | omega)))); have hzw1 := hqw1.size; obtain ⟨zew1, ce0w1, ce1w1, ce2w1, fe0w1, fe1w1, fe2w1⟩ := kew1.three; obtain ⟨zzw1, cz0w1, cz1w1, cz2w1, cz3w1, fz0w1, fz1w1, fz2w1, fz3w1⟩ := kzw1.four; clear hbw1) | (go_at_call 48; clear m2; refine (times_eq E.out _).mono ?_; rintro e w2 ⟨rfl, hbw2⟩; have kew2 : At w2 (w.heap.size) [.int .i64 x1, .int .i64 y1, .bool f1] := (by repeat (first | (with_reducible first | assumption | (refine at_new' _ _ _ _ ?_; first | rfl | (simp; done)) | refine At.alloc ?_ _ | refine At.drew ?_ | refine At.drewN ?_ | refine At.set ?_ (by omega) | apply At.store4 | apply At.store3 | apply At.store2 | apply At.put43) | refine At.below ?_ (by with_reducible assumption))); have kzw2 : At w2 (w.heap.size + 1) [.int .i64 0, .int .i64 0, .bool false, .int .i64 0] := (by repeat (first | (with_reducible first | assumption | (refine at_new' _ _ _ _ ?_; first | rfl | (simp; done)) | refine At.alloc ?_ _ | refine At.drew ?_ | refine At.drewN ?_ | refine At.set ?_ (by omega) | apply At.store4 | apply At.store3 | apply At.store2 | apply At.put43) | refine At.below ?_ (by with_reducible assumption))); have hqw2 : Below w.heap.size w w2 := (by repeat (first | (with_reducible first | exact Below.refl _ _ | assumption | refine Below.setCell ?_ (by first | simp <;> omega | omega) _ | refine Below.alloc ?_ (by first | simp <;> omega | omega) _) | refine bl_call ?_ (by assumption) (by first | simp <;> omega | omega) | (with_reducible first | refine bl_drewN ?_ | refine Below.drew ?_ | refine bl_grow ?_ (by first | simp <;> omega | omega)))); have hzw2 := hqw2.size; obtain ⟨zew2, ce0w2, ce1w2, ce2w2, fe0w2, fe1w2, fe2w2⟩ := kew2.three; obtain ⟨zzw2, cz0w2, cz1w2, cz2w2, cz3w2, fz0w2, fz1w2, fz2w2, fz3w2⟩ := kzw2.four; clear kew1 ce0w1 fe0w1 ce1w1 fe1w1 ce2w1 fe2w1 kzw1 cz0w1 fz0w1 cz1w1 fz1w1 cz2w1 fz2w1 cz3w1 fz3w1 hqw1; clear hbw2) | (go_at_call 8; clear m3; refine (HA.out _).mono ?_; rintro e w3 ⟨rfl, hbw3⟩; have kew3 : At w3 (w.heap.size) [.int .i64 x1, .int .i64 y1, .bool f1] := (by repeat (first | (with_reducible first | assumption | (refine at_new' _ _ _ _ ?_; first | rfl | (simp; done)) | refine At.alloc ?_ _ | refine At.drew ?_ | refine At.drewN ?_ | refine At.set ?_ (by omega) | apply At.store4 | apply At.store3 | apply At.store2 | apply At.put43) | refine At.below ?_ (by with_reducible assumption))); have kzw3 : At w3 (w.heap.size + 1) [.int .i64 0, .int .i64 0, .bool false, .int .i64 0] := (by repeat (first | (with_reducible first | assumption | (refine at_new' _ _ _ _ ?_; first | rfl | (simp; done)) | refine At.alloc ?_ _ | refine At.drew ?_ | refine At.drewN ?_ | refine At.set ?_ (by omega) | apply At.store4 | apply At.store3 | apply At.store2 | apply At.put43) | refine At.below ?_ (by with_reducible assumption))); have ktw3 : At w3 (w2.heap.size) [.int .i64 ((T).1 : Int), .int .i64 ((T).2.1 : Int), .bool (T).2.2] := (by repeat (first | (with_reducible first | assumption | (refine at_new' _ _ _ _ ?_; first | rfl | (simp; done)) | refine At.alloc ?_ _ | refine At.drew ?_ | refine At.drewN ?_ | refine At.set ?_ (by omega) | apply At.store4 | apply At.store3 | apply At.store2 | apply At.put43) | refine At.below ?_ (by with_reducible assumption))); have hqw3 : Below w.heap.size w w3 := (by repeat (first | (with_reducible first | exact Below.refl _ _ | assumption | refine Below.setCell ?_ (by first | simp <;> omega | omega) _ | refine Below.alloc ?_ (by first | simp <;> omega | omega) _) | refine bl_call ?_ (by assumption) (by first | simp <;> omega | omega) | (with_reducible first | refine bl_drewN ?_ | refine Below.drew ?_ | refine bl_grow ?_ (by first | simp <;> omega | omega)))); have hzw3 := hqw3.size; obtain ⟨zew3, ce0w3, ce1w3, ce2w3, fe0w3, fe1w3, fe2w3⟩ := kew3.three; obtain ⟨zzw3, cz0w3, cz1w3, cz2w3, cz3w3, fz0w3, fz1w3, fz2w3, fz3w3⟩ := kzw3.four; obtain ⟨ztw3, ct0w3, ct1w3, ct2w3, ft0w3, ft1w3, ft2w3⟩ := ktw3.three; clear kew2 ce0w2 fe0w2 ce1w2 fe1w2 ce2w2 fe2w2 kzw2 cz0w2 fz0w2 cz1w2 fz1w2 cz2w2 fz2w2 cz3w2 fz3w2 hqw2; clear hbw3))
  exact bodyPost_ret (v := .tuple #[.agg #[.int .i64 0, .int .i64 0, .bool false, .int .i64 0], errOf cc]) (by simp [results, Tryz.results14, go_sem, *]) rfl ⟨rfl, by repeat (first | (with_reducible first | exact Below.refl _ _ | assumption | refine Below.setCell ?_ (by first | simp <;> omega | omega) _ | refine Below.alloc ?_ (by first | simp <;> omega | omega) _) | refine bl_call ?_ (by assumption) (by first | simp <;> omega | omega) | (with_reducible first | refine bl_drewN ?_ | refine Below.drew ?_ | refine bl_grow ?_ (by first | simp <;> omega | omega)))⟩
set_option maxRecDepth 100000 in
set_option maxHeartbeats 8000000 in
theorem bclose_ok (h r k c s : Nat) (T E : Sn) (w : World) (r1 : r < 1013) (k0 : 1 ≤ k) (k1 : k < 1013) (hc : c < 1013) (hs : ∀ w, Calls Tryz.prog 49 #[] w fun e w' => e = .returned (.agg #[.int .i64 ((tM (4 * h)).1 : Int), .int .i64 ((tM (4 * h)).2.1 : Int), .bool (tM (4 * h)).2.2]) ∧ Below w.heap.size w w') (he : tM (4 * h * em (k : Int)) = T) (ha : ∀ w, Calls Tryz.prog 8 #[.agg #[.int .i64 ((T).1 : Int), .int .i64 ((T).2.1 : Int), .bool (T).2.2], .agg #[.int .i64 ((E).1 : Int), .int .i64 ((E).2.1 : Int), .bool (E).2.2]] w fun e w' => e = .returned (.tuple #[.int .i64 (c : Int), .nilIface]) ∧ Below w.heap.size w w') (hS : ((k : Int) + (c : Int) * (r : Int)) % 1013 = (s : Int)) : Calls Tryz.prog 14 #[.int .i64 (r : Int), .int .i64 (k : Int), .agg #[.int .i64 ((E).1 : Int), .int .i64 ((E).2.1 : Int), .bool (E).2.2]] w fun e w' => e = .returned (.tuple #[.agg #[.int .i64 ((T).1 : Int), .int .i64 ((T).2.1 : Int), .bool (T).2.2, .int .i64 (s : Int)], .nilIface]) ∧ Below w.heap.size w w' := by
  have H1 : Hid (∀ w, Calls Tryz.prog 47 #[.int .i64 (r : Int)] w fun e w' => e = .returned (.bool true) ∧ w' = w) := bisnum (decide_eq_true ⟨by omega, by omega⟩)
  have H2 : Hid (∀ w, Calls Tryz.prog 47 #[.int .i64 (k : Int)] w fun e w' => e = .returned (.bool true) ∧ w' = w) := bisnum (decide_eq_true ⟨by omega, by omega⟩)
  have hk0 : ((k : Int) == 0) = false := by rw [beq_eq_false_iff_ne]; omega
  have HS : Hid (∀ w, Calls Tryz.prog 49 #[] w fun e w' => e = .returned (.agg #[.int .i64 ((tM (4 * h)).1 : Int), .int .i64 ((tM (4 * h)).2.1 : Int), .bool (tM (4 * h)).2.2]) ∧ Below w.heap.size w w') := hs
  have ET : Hid (tM (4 * h * em (k : Int)) = T) := he
  have HA : Hid (∀ w, Calls Tryz.prog 8 #[.agg #[.int .i64 ((T).1 : Int), .int .i64 ((T).2.1 : Int), .bool (T).2.2], .agg #[.int .i64 ((E).1 : Int), .int .i64 ((E).2.1 : Int), .bool (E).2.2]] w fun e w' => e = .returned (.tuple #[.int .i64 (c : Int), .nilIface]) ∧ Below w.heap.size w w') := ha
  obtain ⟨b1, b2⟩ := sg_bd hc r1 k1
  clear hs he ha
  have m1 : True := trivial; have m2 : True := trivial; have m3 : True := trivial
  go_enter Tryz.func14, Tryz.ntmps14
  go_wp2_with (first | (go_at_call 47; refine (H1.out _).mono ?_; rintro e v1 ⟨rfl, hv1⟩; subst v1) | (go_at_call 47; refine (H2.out _).mono ?_; rintro e v1 ⟨rfl, hv1⟩; subst v1) | (go_at_call 49; clear m1; refine (HS.out _).mono ?_; rintro e w1 ⟨rfl, hbw1⟩; have kew1 : At w1 (w.heap.size) [.int .i64 ((E).1 : Int), .int .i64 ((E).2.1 : Int), .bool (E).2.2] := (by repeat (first | (with_reducible first | assumption | (refine at_new' _ _ _ _ ?_; first | rfl | (simp; done)) | refine At.alloc ?_ _ | refine At.drew ?_ | refine At.drewN ?_ | refine At.set ?_ (by omega) | apply At.store4 | apply At.store3 | apply At.store2 | apply At.put43) | refine At.below ?_ (by with_reducible assumption))); have kzw1 : At w1 (w.heap.size + 1) [.int .i64 0, .int .i64 0, .bool false, .int .i64 0] := (by repeat (first | (with_reducible first | assumption | (refine at_new' _ _ _ _ ?_; first | rfl | (simp; done)) | refine At.alloc ?_ _ | refine At.drew ?_ | refine At.drewN ?_ | refine At.set ?_ (by omega) | apply At.store4 | apply At.store3 | apply At.store2 | apply At.put43) | refine At.below ?_ (by with_reducible assumption))); have hqw1 : Below w.heap.size w w1 := (by repeat (first | (with_reducible first | exact Below.refl _ _ | assumption | refine Below.setCell ?_ (by first | simp <;> omega | omega) _ | refine Below.alloc ?_ (by first | simp <;> omega | omega) _) | refine bl_call ?_ (by assumption) (by first | simp <;> omega | omega) | (with_reducible first | refine bl_drewN ?_ | refine Below.drew ?_ | refine bl_grow ?_ (by first | simp <;> omega | omega)))); have hzw1 := hqw1.size; obtain ⟨zew1, ce0w1, ce1w1, ce2w1, fe0w1, fe1w1, fe2w1⟩ := kew1.three; obtain ⟨zzw1, cz0w1, cz1w1, cz2w1, cz3w1, fz0w1, fz1w1, fz2w1, fz3w1⟩ := kzw1.four; clear hbw1) | (go_at_call 48; clear m2; refine (times_eq ET.out _).mono ?_; rintro e w2 ⟨rfl, hbw2⟩; have kew2 : At w2 (w.heap.size) [.int .i64 ((E).1 : Int), .int .i64 ((E).2.1 : Int), .bool (E).2.2] := (by repeat (first | (with_reducible first | assumption | (refine at_new' _ _ _ _ ?_; first | rfl | (simp; done)) | refine At.alloc ?_ _ | refine At.drew ?_ | refine At.drewN ?_ | refine At.set ?_ (by omega) | apply At.store4 | apply At.store3 | apply At.store2 | apply At.put43) | refine At.below ?_ (by with_reducible assumption))); have kzw2 : At w2 (w.heap.size + 1) [.int .i64 0, .int .i64 0, .bool false, .int .i64 0] := (by repeat (first | (with_reducible first | assumption | (refine at_new' _ _ _ _ ?_; first | rfl | (simp; done)) | refine At.alloc ?_ _ | refine At.drew ?_ | refine At.drewN ?_ | refine At.set ?_ (by omega) | apply At.store4 | apply At.store3 | apply At.store2 | apply At.put43) | refine At.below ?_ (by with_reducible assumption))); have hqw2 : Below w.heap.size w w2 := (by repeat (first | (with_reducible first | exact Below.refl _ _ | assumption | refine Below.setCell ?_ (by first | simp <;> omega | omega) _ | refine Below.alloc ?_ (by first | simp <;> omega | omega) _) | refine bl_call ?_ (by assumption) (by first | simp <;> omega | omega) | (with_reducible first | refine bl_drewN ?_ | refine Below.drew ?_ | refine bl_grow ?_ (by first | simp <;> omega | omega)))); have hzw2 := hqw2.size; obtain ⟨zew2, ce0w2, ce1w2, ce2w2, fe0w2, fe1w2, fe2w2⟩ := kew2.three; obtain ⟨zzw2, cz0w2, cz1w2, cz2w2, cz3w2, fz0w2, fz1w2, fz2w2, fz3w2⟩ := kzw2.four; clear kew1 ce0w1 fe0w1 ce1w1 fe1w1 ce2w1 fe2w1 kzw1 cz0w1 fz0w1 cz1w1 fz1w1 cz2w1 fz2w1 cz3w1 fz3w1 hqw1; clear hbw2) | (go_at_call 8; clear m3; refine (HA.out _).mono ?_; rintro e w3 ⟨rfl, hbw3⟩; have kew3 : At w3 (w.heap.size) [.int .i64 ((E).1 : Int), .int .i64 ((E).2.1 : Int), .bool (E).2.2] := (by repeat (first | (with_reducible first | assumption | (refine at_new' _ _ _ _ ?_; first | rfl | (simp; done)) | refine At.alloc ?_ _ | refine At.drew ?_ | refine At.drewN ?_ | refine At.set ?_ (by omega) | apply At.store4 | apply At.store3 | apply At.store2 | apply At.put43) | refine At.below ?_ (by with_reducible assumption))); have kzw3 : At w3 (w.heap.size + 1) [.int .i64 0, .int .i64 0, .bool false, .int .i64 0] := (by repeat (first | (with_reducible first | assumption | (refine at_new' _ _ _ _ ?_; first | rfl | (simp; done)) | refine At.alloc ?_ _ | refine At.drew ?_ | refine At.drewN ?_ | refine At.set ?_ (by omega) | apply At.store4 | apply At.store3 | apply At.store2 | apply At.put43) | refine At.below ?_ (by with_reducible assumption))); have ktw3 : At w3 (w2.heap.size) [.int .i64 ((T).1 : Int), .int .i64 ((T).2.1 : Int), .bool (T).2.2] := (by repeat (first | (with_reducible first | assumption | (refine at_new' _ _ _ _ ?_; first | rfl | (simp; done)) | refine At.alloc ?_ _ | refine At.drew ?_ | refine At.drewN ?_ | refine At.set ?_ (by omega) | apply At.store4 | apply At.store3 | apply At.store2 | apply At.put43) | refine At.below ?_ (by with_reducible assumption))); have hqw3 : Below w.heap.size w w3 := (by repeat (first | (with_reducible first | exact Below.refl _ _ | assumption | refine Below.setCell ?_ (by first | simp <;> omega | omega) _ | refine Below.alloc ?_ (by first | simp <;> omega | omega) _) | refine bl_call ?_ (by assumption) (by first | simp <;> omega | omega) | (with_reducible first | refine bl_drewN ?_ | refine Below.drew ?_ | refine bl_grow ?_ (by first | simp <;> omega | omega)))); have hzw3 := hqw3.size; obtain ⟨zew3, ce0w3, ce1w3, ce2w3, fe0w3, fe1w3, fe2w3⟩ := kew3.three; obtain ⟨zzw3, cz0w3, cz1w3, cz2w3, cz3w3, fz0w3, fz1w3, fz2w3, fz3w3⟩ := kzw3.four; obtain ⟨ztw3, ct0w3, ct1w3, ct2w3, ft0w3, ft1w3, ft2w3⟩ := ktw3.three; clear kew2 ce0w2 fe0w2 ce1w2 fe1w2 ce2w2 fe2w2 kzw2 cz0w2 fz0w2 cz1w2 fz1w2 cz2w2 fz2w2 cz3w2 fz3w2 hqw2; clear hbw3))
  exact bodyPost_ret (v := .tuple #[.agg #[.int .i64 ((T).1 : Int), .int .i64 ((T).2.1 : Int), .bool (T).2.2, .int .i64 (s : Int)], .nilIface]) (by simp [results, Tryz.results14, go_sem, *]) rfl ⟨rfl, by repeat (first | (with_reducible first | exact Below.refl _ _ | assumption | refine Below.setCell ?_ (by first | simp <;> omega | omega) _ | refine Below.alloc ?_ (by first | simp <;> omega | omega) _) | refine bl_call ?_ (by assumption) (by first | simp <;> omega | omega) | (with_reducible first | refine bl_drewN ?_ | refine Below.drew ?_ | refine bl_grow ?_ (by first | simp <;> omega | omega)))⟩
theorem cl_em {k : Nat} (hk : k < 1013) : tM (4 * h2N * em (k : Int)) = tM (4 * clR k) := by
  rw [em_nat hk, clR_is, Nat.mul_assoc]
theorem bclose_is : BCloseIs := by
  refine ⟨fun r k x1 y1 f1 w _ _ h => bclose_no r k x1 y1 f1 w h, fun r k x1 y1 f1 w hrk h => ?_, fun r k a w r1 k0 k1 => ?_⟩
  · rw [Bool.and_eq_true] at hrk
    have a := of_decide_eq_true (p := 0 ≤ r ∧ r < 1013) hrk.1
    have b := of_decide_eq_true (p := 1 ≤ k ∧ k < 1013) hrk.2
    obtain ⟨r', rfl⟩ := Int.eq_ofNat_of_zero_le a.1
    obtain ⟨k', rfl⟩ := Int.eq_ofNat_of_zero_le (show 0 ≤ k by omega)
    have k1 : k' < 1013 := by omega
    exact bclose_e h2N r' k' (tM (4 * clR k')) x1 y1 _ f1 w (by omega) (by omega) k1 second_w (cl_em k1) (fun w => bask_2 (4 * clR k') x1 y1 f1 w h)
  · exact bclose_ok h2N r k (baN (4 * clR k) a) (clS r k a) (tM (4 * clR k)) (tM a) w r1 k0 k1 (baN_lt _ _) second_w (cl_em k1) (fun w => bask_ok (4 * clR k) a w) (by unfold clS; rw [Int.natCast_emod, Int.natCast_add, Int.natCast_mul]; rfl)
theorem bcc_many (sl : Option Addr) (n d : Nat) (w : World) (h : 12 < n) : Calls Tryz.prog 51 #[.slice sl n d] w fun e w' => e = .returned (errOf 4) ∧ Below w.heap.size w w' := by
  have h1 : (n : Int) > 12 := by omega
  go_enter Tryz.func51, Tryz.ntmps51
  go_wp2_with fail
  go_ret
  exact ⟨rfl, by repeat (first | (with_reducible first | exact Below.refl _ _ | assumption | refine Below.setCell ?_ (by first | simp <;> omega | omega) _ | refine Below.alloc ?_ (by first | simp <;> omega | omega) _) | refine bl_call ?_ (by assumption) (by first | simp <;> omega | omega) | (with_reducible first | refine bl_drewN ?_ | refine Below.drew ?_ | refine bl_grow ?_ (by first | simp <;> omega | omega)))⟩
set_option maxRecDepth 100000 in
set_option maxHeartbeats 8000000 in
theorem bcc_any (sl : Option Addr) (n d m : Nat) (X Y : Nat → Int) (F : Nat → Bool) (c : Value) (w : World) (hn : n ≤ 12) (hr : (n = 0 ∨ ∃ b o : Nat, sl = some ⟨b, o, none⟩ ∧ RowO w b o n X Y F)) (hm : m ≤ n) (hok : ∀ j, j < m → goodC (X j) (Y j) (F j)) (hc : (m = n ∧ c = .nilIface) ∨ (m < n ∧ badC (X m) (Y m) (F m) ∧ c = errOf 3)) : Calls Tryz.prog 51 #[.slice sl n d] w fun e w' => e = .returned (c) ∧ Below w.heap.size w w' := by
  have h1 : ¬ (n : Int) > 12 := by omega
  have HR : Hid ((n = 0 ∨ ∃ b o : Nat, sl = some ⟨b, o, none⟩ ∧ RowO w b o n X Y F)) := hr
  have HO : Hid (∀ j, j < m → goodC (X j) (Y j) (F j)) := hok
  have HC : Hid ((m = n ∧ c = .nilIface) ∨ (m < n ∧ badC (X m) (Y m) (F m) ∧ c = errOf 3)) := hc
  clear hr hok hc
  go_enter Tryz.func51, Tryz.ntmps51
  go_wp2_with fail
  go_loopw [13] (fun ti wl => ∃ k : Nat, k ≤ m ∧ ti = .int .i64 k ∧ Below w.heap.size w wl) (fun ti _ => n - (intOf ti).toNat)
  case atStart => exact ⟨0, by omega, rfl, by repeat (first | (with_reducible first | exact Below.refl _ _ | assumption | refine Below.setCell ?_ (by first | simp <;> omega | omega) _ | refine Below.alloc ?_ (by first | simp <;> omega | omega) _) | refine bl_call ?_ (by assumption) (by first | simp <;> omega | omega) | (with_reducible first | refine bl_drewN ?_ | refine Below.drew ?_ | refine bl_grow ?_ (by first | simp <;> omega | omega)))⟩
  case round =>
    obtain ⟨k, hk, rfl, hqV⟩ := hrel
    rename World => V
    have hzV := hqV.size
    by_cases hlt : k < n
    · have hlt' : (k : Int) < n := by omega
      obtain ⟨b, o, rfl, hz⟩ : ∃ b o : Nat, sl = some ⟨b, o, none⟩ ∧ RowO w b o n X Y F := HR.out.resolve_left (by omega)
      have hbV := Nat.lt_of_lt_of_le hz.1 hzV
      obtain ⟨c0, c1, c2⟩ := (hz.below hz.1 hqV).2 k hlt
      by_cases hkm : k < m
      · obtain ⟨j, e0, e1, e2⟩ := HO.out k hkm
        rw [e0] at c0
        rw [e1] at c1
        rw [e2] at c2
        clear e0 e1 e2 hz
        have HI : Hid (∀ w, Calls Tryz.prog 81 #[.agg #[.int .i64 ((tM (4 * j)).1 : Int), .int .i64 ((tM (4 * j)).2.1 : Int), .bool (tM (4 * j)).2.2]] w fun e w' => e = .returned (.tuple #[.bool true, .nilIface]) ∧ Below w.heap.size w w') := fun w => in_eq (far_four j) w
        obtain ⟨T, hT⟩ : ∃ T, tM (4 * j) = T := ⟨_, rfl⟩
        rw [hT] at c0 c1 c2 HI
        clear hT
        have m1 : True := trivial
        go_wp2_with (go_at_call 81; clear m1; refine (HI.out _).mono ?_; rintro e w2 ⟨rfl, hbw2⟩; have hqw2 : Below w.heap.size w w2 := (by repeat (first | (with_reducible first | exact Below.refl _ _ | assumption | refine Below.setCell ?_ (by first | simp <;> omega | omega) _ | refine Below.alloc ?_ (by first | simp <;> omega | omega) _) | refine bl_call ?_ (by assumption) (by first | simp <;> omega | omega) | (with_reducible first | refine bl_drewN ?_ | refine Below.drew ?_ | refine bl_grow ?_ (by first | simp <;> omega | omega)))); have hzw2 := hqw2.size; clear hbw2)
        go_roundw
        case rel => exact ⟨k + 1, by omega, by simp, by repeat (first | (with_reducible first | exact Below.refl _ _ | assumption | refine Below.setCell ?_ (by first | simp <;> omega | omega) _ | refine Below.alloc ?_ (by first | simp <;> omega | omega) _) | refine bl_call ?_ (by assumption) (by first | simp <;> omega | omega) | (with_reducible first | refine bl_drewN ?_ | refine Below.drew ?_ | refine bl_grow ?_ (by first | simp <;> omega | omega)))⟩
        case measure => simp [intOf]; omega
      · obtain rfl : k = m := by omega
        obtain ⟨g1, g2, rfl⟩ : k < n ∧ badC (X k) (Y k) (F k) ∧ c = errOf 3 := HC.out.resolve_left fun g => by omega
        rcases g2 with g2 | ⟨j, e0, e1, e2, g2⟩
        · have HI : Hid (∀ w, Calls Tryz.prog 81 #[.agg #[.int .i64 (X k), .int .i64 (Y k), .bool (F k)]] w fun e w' => e = .returned (.tuple #[.bool false, errOf (ckI (X k) (Y k) (F k))]) ∧ Below w.heap.size w w') := fun w => in_no _ _ _ w g2
          generalize ckI (X k) (Y k) (F k) = q at HI g2
          clear hz
          have m1 : True := trivial
          go_wp2_with (go_at_call 81; clear m1; refine (HI.out _).mono ?_; rintro e w2 ⟨rfl, hbw2⟩; have hqw2 : Below w.heap.size w w2 := (by repeat (first | (with_reducible first | exact Below.refl _ _ | assumption | refine Below.setCell ?_ (by first | simp <;> omega | omega) _ | refine Below.alloc ?_ (by first | simp <;> omega | omega) _) | refine bl_call ?_ (by assumption) (by first | simp <;> omega | omega) | (with_reducible first | refine bl_drewN ?_ | refine Below.drew ?_ | refine bl_grow ?_ (by first | simp <;> omega | omega)))); have hzw2 := hqw2.size; clear hbw2)
          go_ret
          exact ⟨rfl, by repeat (first | (with_reducible first | exact Below.refl _ _ | assumption | refine Below.setCell ?_ (by first | simp <;> omega | omega) _ | refine Below.alloc ?_ (by first | simp <;> omega | omega) _) | refine bl_call ?_ (by assumption) (by first | simp <;> omega | omega) | (with_reducible first | refine bl_drewN ?_ | refine Below.drew ?_ | refine bl_grow ?_ (by first | simp <;> omega | omega)))⟩
        · rw [e0] at c0
          rw [e1] at c1
          rw [e2] at c2
          clear e0 e1 e2 hz
          have HI : Hid (∀ w, Calls Tryz.prog 81 #[.agg #[.int .i64 ((tM j).1 : Int), .int .i64 ((tM j).2.1 : Int), .bool (tM j).2.2]] w fun e w' => e = .returned (.tuple #[.bool false, .nilIface]) ∧ Below w.heap.size w w') := fun w => in_eq g2 w
          clear g2
          have m1 : True := trivial
          go_wp2_with (go_at_call 81; clear m1; refine (HI.out _).mono ?_; rintro e w2 ⟨rfl, hbw2⟩; have hqw2 : Below w.heap.size w w2 := (by repeat (first | (with_reducible first | exact Below.refl _ _ | assumption | refine Below.setCell ?_ (by first | simp <;> omega | omega) _ | refine Below.alloc ?_ (by first | simp <;> omega | omega) _) | refine bl_call ?_ (by assumption) (by first | simp <;> omega | omega) | (with_reducible first | refine bl_drewN ?_ | refine Below.drew ?_ | refine bl_grow ?_ (by first | simp <;> omega | omega)))); have hzw2 := hqw2.size; clear hbw2)
          go_ret
          exact ⟨rfl, by repeat (first | (with_reducible first | exact Below.refl _ _ | assumption | refine Below.setCell ?_ (by first | simp <;> omega | omega) _ | refine Below.alloc ?_ (by first | simp <;> omega | omega) _) | refine bl_call ?_ (by assumption) (by first | simp <;> omega | omega) | (with_reducible first | refine bl_drewN ?_ | refine Below.drew ?_ | refine bl_grow ?_ (by first | simp <;> omega | omega)))⟩
    · have hlt' : ¬ (k : Int) < n := by omega
      obtain ⟨g1, rfl⟩ : m = n ∧ c = .nilIface := HC.out.resolve_right fun g => by omega
      go_wp2_with fail
      go_ret
      exact ⟨rfl, by repeat (first | (with_reducible first | exact Below.refl _ _ | assumption | refine Below.setCell ?_ (by first | simp <;> omega | omega) _ | refine Below.alloc ?_ (by first | simp <;> omega | omega) _) | refine bl_call ?_ (by assumption) (by first | simp <;> omega | omega) | (with_reducible first | refine bl_drewN ?_ | refine Below.drew ?_ | refine bl_grow ?_ (by first | simp <;> omega | omega)))⟩
theorem bcc_no (sl : Option Addr) (n d : Nat) (X Y : Nat → Int) (F : Nat → Bool) (q : Int) (w : World) (hr : (n = 0 ∨ ∃ b o : Nat, sl = some ⟨b, o, none⟩ ∧ RowO w b o n X Y F)) (hc : ComeIs X Y F n q) (hq : (q == 0) = false) : Calls Tryz.prog 51 #[.slice sl n d] w fun e w' => e = .returned (errOf q) ∧ Below w.heap.size w w' := by
  rcases hc with ⟨h1, rfl⟩ | ⟨h1, ⟨m, m1, m2, m3⟩, rfl⟩ | ⟨_, _, rfl⟩
  · exact bcc_many sl n d w h1
  · exact bcc_any sl n d m X Y F _ w h1 hr (by omega) m2 (Or.inr ⟨m1, m3, rfl⟩)
  · exact absurd hq (by decide)
theorem bcc_yes (sl : Option Addr) (n d : Nat) (X Y : Nat → Int) (F : Nat → Bool) (K : Nat → Nat) (w : World) (hn : n ≤ 12) (hr : (n = 0 ∨ ∃ b o : Nat, sl = some ⟨b, o, none⟩ ∧ RowO w b o n X Y F)) (hK : isC X Y F K n) : Calls Tryz.prog 51 #[.slice sl n d] w fun e w' => e = .returned (.nilIface) ∧ Below w.heap.size w w' :=
  bcc_any sl n d n X Y F _ w hn hr (Nat.le_refl _) (fun j hj => ⟨K j, hK j hj⟩) (Or.inl ⟨rfl, rfl⟩)
set_option maxRecDepth 100000 in
set_option maxHeartbeats 8000000 in
theorem bsum (sl : Option Addr) (n d : Nat) (X Y : Nat → Int) (F : Nat → Bool) (J : Nat → Nat) (w : World) (hn : n ≤ 1000000) (hr : (n = 0 ∨ ∃ b o : Nat, sl = some ⟨b, o, none⟩ ∧ RowO w b o n X Y F)) (hK : isC X Y F J n) : Calls Tryz.prog 56 #[.slice sl n d] w fun e w' => e = .returned (.tuple #[.agg #[.int .i64 ((tM (4 * jsN J n)).1 : Int), .int .i64 ((tM (4 * jsN J n)).2.1 : Int), .bool (tM (4 * jsN J n)).2.2], .nilIface]) ∧ Below w.heap.size w w' := by
  have HR : Hid ((n = 0 ∨ ∃ b o : Nat, sl = some ⟨b, o, none⟩ ∧ RowO w b o n X Y F)) := hr
  have HK : Hid (isC X Y F J n) := hK
  clear hr hK
  go_enter Tryz.func56, Tryz.ntmps56
  go_wp2_with fail
  go_loopw [12] (fun ti wl => ∃ k : Nat, k ≤ n ∧ ti = .int .i64 k ∧ At wl (w.heap.size) [.int .i64 0, .int .i64 0, .bool false] ∧ At wl (w.heap.size + 1) [.int .i64 ((tM (4 * jsN J k)).1 : Int), .int .i64 ((tM (4 * jsN J k)).2.1 : Int), .bool (tM (4 * jsN J k)).2.2] ∧ Below w.heap.size w wl) (fun ti _ => n - (intOf ti).toNat)
  case atStart => exact ⟨0, by omega, rfl, by repeat (first | (with_reducible first | assumption | (refine at_new' _ _ _ _ ?_; first | rfl | (simp; done)) | refine At.alloc ?_ _ | refine At.drew ?_ | refine At.drewN ?_ | refine At.set ?_ (by omega) | apply At.store4 | apply At.store3 | apply At.store2 | apply At.put43) | refine At.below ?_ (by with_reducible assumption)), by show At _ _ [.int .i64 0, .int .i64 0, .bool true]; exact (by repeat (first | (with_reducible first | assumption | (refine at_new' _ _ _ _ ?_; first | rfl | (simp; done)) | refine At.alloc ?_ _ | refine At.drew ?_ | refine At.drewN ?_ | refine At.set ?_ (by omega) | apply At.store4 | apply At.store3 | apply At.store2 | apply At.put43) | refine At.below ?_ (by with_reducible assumption))), by repeat (first | (with_reducible first | exact Below.refl _ _ | assumption | refine Below.setCell ?_ (by first | simp <;> omega | omega) _ | refine Below.alloc ?_ (by first | simp <;> omega | omega) _) | refine bl_call ?_ (by assumption) (by first | simp <;> omega | omega) | (with_reducible first | refine bl_drewN ?_ | refine Below.drew ?_ | refine bl_grow ?_ (by first | simp <;> omega | omega)))⟩
  case round =>
    obtain ⟨k, hk, rfl, krV, ktV, hqV⟩ := hrel
    rename World => V
    have hzV := hqV.size
    obtain ⟨zrV, cr0V, cr1V, cr2V, fr0V, fr1V, fr2V⟩ := krV.three
    obtain ⟨ztV, ct0V, ct1V, ct2V, ft0V, ft1V, ft2V⟩ := ktV.three
    by_cases hlt : k < n
    · have hlt' : (k : Int) < n := by omega
      obtain ⟨b, o, rfl, hz⟩ : ∃ b o : Nat, sl = some ⟨b, o, none⟩ ∧ RowO w b o n X Y F := HR.out.resolve_left (by omega)
      have hbV := Nat.lt_of_lt_of_le hz.1 hzV
      obtain ⟨c0, c1, c2⟩ := (hz.below hz.1 hqV).2 k hlt
      obtain ⟨e0, e1, e2⟩ := HK.out k hlt
      rw [e0] at c0
      rw [e1] at c1
      rw [e2] at c2
      clear e0 e1 e2 hz
      have E : Hid (tM (4 * jsN J k + 4 * J k) = tM (4 * jsN J (k + 1))) := by unfold Hid; rw [← Nat.mul_add]; rfl
      have m1 : True := trivial
      go_wp2_with (go_at_call 59; clear m1; refine (cadd_eq E.out _).mono ?_; rintro e W1 ⟨rfl, hbW1⟩; have krW1 : At W1 (w.heap.size) [.int .i64 0, .int .i64 0, .bool false] := (by repeat (first | (with_reducible first | assumption | (refine at_new' _ _ _ _ ?_; first | rfl | (simp; done)) | refine At.alloc ?_ _ | refine At.drew ?_ | refine At.drewN ?_ | refine At.set ?_ (by omega) | apply At.store4 | apply At.store3 | apply At.store2 | apply At.put43) | refine At.below ?_ (by with_reducible assumption))); have ktW1 : At W1 (w.heap.size + 1) [.int .i64 ((tM (4 * jsN J k)).1 : Int), .int .i64 ((tM (4 * jsN J k)).2.1 : Int), .bool (tM (4 * jsN J k)).2.2] := (by repeat (first | (with_reducible first | assumption | (refine at_new' _ _ _ _ ?_; first | rfl | (simp; done)) | refine At.alloc ?_ _ | refine At.drew ?_ | refine At.drewN ?_ | refine At.set ?_ (by omega) | apply At.store4 | apply At.store3 | apply At.store2 | apply At.put43) | refine At.below ?_ (by with_reducible assumption))); have hqW1 : Below w.heap.size w W1 := (by repeat (first | (with_reducible first | exact Below.refl _ _ | assumption | refine Below.setCell ?_ (by first | simp <;> omega | omega) _ | refine Below.alloc ?_ (by first | simp <;> omega | omega) _) | refine bl_call ?_ (by assumption) (by first | simp <;> omega | omega) | (with_reducible first | refine bl_drewN ?_ | refine Below.drew ?_ | refine bl_grow ?_ (by first | simp <;> omega | omega)))); have hzW1 := hqW1.size; obtain ⟨zrW1, cr0W1, cr1W1, cr2W1, fr0W1, fr1W1, fr2W1⟩ := krW1.three; obtain ⟨ztW1, ct0W1, ct1W1, ct2W1, ft0W1, ft1W1, ft2W1⟩ := ktW1.three; clear krV cr0V fr0V cr1V fr1V cr2V fr2V ktV ct0V ft0V ct1V ft1V ct2V ft2V hqV; clear hbW1)
      go_roundw
      case rel => exact ⟨k + 1, by omega, by simp, by repeat (first | (with_reducible first | assumption | (refine at_new' _ _ _ _ ?_; first | rfl | (simp; done)) | refine At.alloc ?_ _ | refine At.drew ?_ | refine At.drewN ?_ | refine At.set ?_ (by omega) | apply At.store4 | apply At.store3 | apply At.store2 | apply At.put43) | refine At.below ?_ (by with_reducible assumption)), by repeat (first | (with_reducible first | assumption | (refine at_new' _ _ _ _ ?_; first | rfl | (simp; done)) | refine At.alloc ?_ _ | refine At.drew ?_ | refine At.drewN ?_ | refine At.set ?_ (by omega) | apply At.store4 | apply At.store3 | apply At.store2 | apply At.put43) | refine At.below ?_ (by with_reducible assumption)), by repeat (first | (with_reducible first | exact Below.refl _ _ | assumption | refine Below.setCell ?_ (by first | simp <;> omega | omega) _ | refine Below.alloc ?_ (by first | simp <;> omega | omega) _) | refine bl_call ?_ (by assumption) (by first | simp <;> omega | omega) | (with_reducible first | refine bl_drewN ?_ | refine Below.drew ?_ | refine bl_grow ?_ (by first | simp <;> omega | omega)))⟩
      case measure => simp [intOf]; omega
    · have hlt' : ¬ (k : Int) < n := by omega
      obtain rfl : k = n := by omega
      go_wp2_with fail
      exact bodyPost_ret (v := .tuple #[.agg #[.int .i64 ((tM (4 * jsN J k)).1 : Int), .int .i64 ((tM (4 * jsN J k)).2.1 : Int), .bool (tM (4 * jsN J k)).2.2], .nilIface]) (by simp [results, Tryz.results56, go_sem, *]) rfl ⟨rfl, by repeat (first | (with_reducible first | exact Below.refl _ _ | assumption | refine Below.setCell ?_ (by first | simp <;> omega | omega) _ | refine Below.alloc ?_ (by first | simp <;> omega | omega) _) | refine bl_call ?_ (by assumption) (by first | simp <;> omega | omega) | (with_reducible first | refine bl_drewN ?_ | refine Below.drew ?_ | refine bl_grow ?_ (by first | simp <;> omega | omega)))⟩
theorem bcinfo : (Tryz.prog.info? 98).map (fun i => (i.zero, i.size, i.bytes)) = some (some (.agg #[.int .i64 0, .int .i64 0, .bool false, .bool false]), 4, 32) := by kernel_rfl
set_option maxRecDepth 100000 in
set_option maxHeartbeats 8000000 in
theorem bminted (sl : Option Addr) (n d : Nat) (X Y : Nat → Int) (F : Nat → Bool) (J : Nat → Nat) (w : World) (hn : n ≤ 12) (hr : (n = 0 ∨ ∃ b o : Nat, sl = some ⟨b, o, none⟩ ∧ RowO w b o n X Y F)) (hK : isC X Y F J n) : Calls Tryz.prog 52 #[.slice sl n d] w fun ex w' => ∃ q, ex = .returned q ∧ w'.ownsRow w.heap.size 98 4 q n (cellsC J (fun _ => false) n) ∧ Below w.heap.size w w' := by
  have HR : Hid ((n = 0 ∨ ∃ b o : Nat, sl = some ⟨b, o, none⟩ ∧ RowO w b o n X Y F)) := hr
  have HK : Hid (isC X Y F J n) := hK
  clear hr hK
  obtain ⟨i0, hi, hv0, hv1, hv2⟩ := info_parts bcinfo
  go_enter Tryz.func52, Tryz.ntmps52
  go_wp2_with (at_make; refine wpList_make_own _ rfl _ _ 85 rfl w.heap.size 98 i0 (.agg #[.int .i64 0, .int .i64 0, .bool false, .bool false]) 4 Tryz.underlying85 hi hv0 hv1 _ _ _ n rfl rfl rfl ?b2 ?b3 ?b4 ?_)
  case b2 => rw [hv2]; omega
  case b3 => unfold maxLen; omega
  case b4 => omega
  intro w2 hown0 hgrow
  have hq2 : Below w.heap.size w w2 := (Below.refl _ _ : Below w.heap.size w _).grown hgrow (Nat.le_refl _) (fun k hk => by cases hk)
  clear hgrow
  go_wp2_with fail
  go_loopw [3, 11] (fun tv ti wl => ∃ k : Nat, k ≤ n ∧ ti = .int .i64 k ∧ wl.ownsRow w.heap.size 98 4 tv k (cellsC J (fun _ => false) k) ∧ Below w.heap.size w wl) (fun _ ti _ => n - (intOf ti).toNat)
  case atStart => exact ⟨0, by omega, rfl, hown0, by repeat (first | (with_reducible first | exact Below.refl _ _ | assumption | refine Below.setCell ?_ (by first | simp <;> omega | omega) _ | refine Below.alloc ?_ (by first | simp <;> omega | omega) _) | refine bl_call ?_ (by assumption) (by first | simp <;> omega | omega) | (with_reducible first | refine bl_drewN ?_ | refine Below.drew ?_ | refine bl_grow ?_ (by first | simp <;> omega | omega)))⟩
  case round =>
    clear hown0 hq2
    obtain ⟨k, hk, rfl, hown, hqV⟩ := hrel
    rename World => V
    have hzV := hqV.size
    by_cases hlt : k < n
    · have hlt' : (k : Int) < n := by omega
      obtain ⟨b, o, rfl, hz⟩ : ∃ b o : Nat, sl = some ⟨b, o, none⟩ ∧ RowO w b o n X Y F := HR.out.resolve_left (by omega)
      have hbV := Nat.lt_of_lt_of_le hz.1 hzV
      obtain ⟨c0, c1, c2⟩ := (hz.below hz.1 hqV).2 k hlt
      obtain ⟨e0, e1, e2⟩ := HK.out k hlt
      rw [e0] at c0
      rw [e1] at c1
      rw [e2] at c2
      clear e0 e1 e2 hz
      have HOW : Hid (V.ownsRow w.heap.size 98 4 _ k (cellsC J (fun _ => false) k)) := hown
      go_wp2_with (at_builtin; refine wpList_append_own_at _ rfl _ _ 85 rfl w.heap.size 98 i0 (.agg #[.int .i64 0, .int .i64 0, .bool false, .bool false]) 4 32 Tryz.underlying85 hi hv0 hv1 hv2 rfl (by decide) _ _ _ rfl (own_stay hown (by repeat (first | (with_reducible first | exact Below.refl _ _ | assumption | refine Below.setCell ?_ (by first | simp <;> omega | omega) _ | refine Below.alloc ?_ (by first | simp <;> omega | omega) _) | refine bl_call ?_ (by assumption) (by first | simp <;> omega | omega) | (with_reducible first | refine bl_drewN ?_ | refine Below.drew ?_ | refine bl_grow ?_ (by first | simp <;> omega | omega))))) ⟨_, 0, none⟩ 1 1 [.int .i64 ((tM (4 * J k)).1 : Int), .int .i64 ((tM (4 * J k)).2.1 : Int), .bool (tM (4 * J k)).2.2, .bool true] rfl rfl ?c1 ?c2 ?c3 ?c4 ?c5 ?_)
      case c1 => exact bfour_at (by simp) _ _ _ _ _
      case c2 => intro u hu; simp at hu; rcases hu with rfl | rfl | rfl | rfl <;> rfl
      case c3 => unfold maxLen; omega
      case c4 => omega
      case c5 => simp; omega
      · intro v' w13 hown' hgrow _ hat
        have hq13 : Below w.heap.size w w13 := grown_under (B := w.heap.size) (by repeat (first | (with_reducible first | exact Below.refl _ _ | assumption | refine Below.setCell ?_ (by first | simp <;> omega | omega) _ | refine Below.alloc ?_ (by first | simp <;> omega | omega) _) | refine bl_call ?_ (by assumption) (by first | simp <;> omega | omega) | (with_reducible first | refine bl_drewN ?_ | refine Below.drew ?_ | refine bl_grow ?_ (by first | simp <;> omega | omega)))) (own_stay hown (by repeat (first | (with_reducible first | exact Below.refl _ _ | assumption | refine Below.setCell ?_ (by first | simp <;> omega | omega) _ | refine Below.alloc ?_ (by first | simp <;> omega | omega) _) | refine bl_call ?_ (by assumption) (by first | simp <;> omega | omega) | (with_reducible first | refine bl_drewN ?_ | refine Below.drew ?_ | refine bl_grow ?_ (by first | simp <;> omega | omega))))) hgrow (by simp; omega) (Nat.le_refl _)
        have hown2 : w13.ownsRow w.heap.size 98 4 v' (k + 1) (cellsC J (fun _ => false) (k + 1)) := by rw [cellsC_succ]; exact hown'
        clear hgrow hat hown hown'
        go_wp2_with fail
        go_roundw
        case rel => exact ⟨k + 1, by omega, by simp, hown2, hq13⟩
        case measure => simp [intOf]; omega
    · have hlt' : ¬ (k : Int) < n := by omega
      obtain rfl : k = n := by omega
      go_wp2_with fail
      go_ret
      exact ⟨_, rfl, hown, by repeat (first | (with_reducible first | exact Below.refl _ _ | assumption | refine Below.setCell ?_ (by first | simp <;> omega | omega) _ | refine Below.alloc ?_ (by first | simp <;> omega | omega) _) | refine bl_call ?_ (by assumption) (by first | simp <;> omega | omega) | (with_reducible first | refine bl_drewN ?_ | refine Below.drew ?_ | refine bl_grow ?_ (by first | simp <;> omega | omega)))⟩
set_option maxRecDepth 100000 in
set_option maxHeartbeats 8000000 in
theorem bat (p n m dz : Nat) (sz : Option Addr) (u : Value) (K : Nat → Nat) (G : Nat → Bool) (Z : Nat → Int) (w : World) (hn : n ≤ 1000) (hm : m ≤ 1000) (h : CoinsAt 98 w p u n K G) (hz : (m = 0 ∨ ∃ b o : Nat, sz = some ⟨b, o, none⟩ ∧ RowI w b o m Z)) (hok : ∀ i, i < m → 0 ≤ Z i ∧ Z i < (n : Int)) : Calls Tryz.prog 57 #[.pointer (some ⟨p, 0, none⟩), .slice sz m dz] w fun ex w' => ∃ q, ex = .returned q ∧ w'.ownsRow w.heap.size 25 3 q m (cellsK (fun i => K (Z i).toNat) m) ∧ Below w.heap.size w w' := by
  obtain ⟨su, cu, rfl, hrow⟩ := h.slice
  have HP : Hid (At w p [.slice su n cu]) := h.cells
  have HR : Hid (n = 0 ∨ ∃ g, su = some ⟨g, 0, none⟩ ∧ RowC w g 0 n K G) := hrow
  have hpw := h.cells.1
  clear hrow h
  have HZ : Hid ((m = 0 ∨ ∃ b o : Nat, sz = some ⟨b, o, none⟩ ∧ RowI w b o m Z)) := hz
  have HO : Hid (∀ i, i < m → 0 ≤ Z i ∧ Z i < (n : Int)) := hok
  clear hz hok
  obtain ⟨i0, hi, hv0, hv1, hv2⟩ := info_parts beinfo
  go_enter Tryz.func57, Tryz.ntmps57
  go_wp2_with (at_make; refine wpList_make_own _ rfl _ _ 22 rfl w.heap.size 25 i0 (.agg #[.int .i64 0, .int .i64 0, .bool false]) 3 Tryz.underlying22 hi hv0 hv1 _ _ _ m rfl rfl rfl ?b2 ?b3 ?b4 ?_)
  case b2 => rw [hv2]; omega
  case b3 => unfold maxLen; omega
  case b4 => omega
  intro w2 hown0 hgrow
  have hq2 : Below w.heap.size w w2 := (Below.refl _ _ : Below w.heap.size w _).grown hgrow (Nat.le_refl _) (fun k hk => by cases hk)
  clear hgrow
  go_wp2_with fail
  go_loopw [5, 13] (fun tv ti wl => ∃ k : Nat, k ≤ m ∧ ti = .int .i64 k ∧ wl.ownsRow w.heap.size 25 3 tv k (cellsK (fun i => K (Z i).toNat) k) ∧ Below w.heap.size w wl) (fun _ ti _ => m - (intOf ti).toNat)
  case atStart => exact ⟨0, by omega, rfl, hown0, by repeat (first | (with_reducible first | exact Below.refl _ _ | assumption | refine Below.setCell ?_ (by first | simp <;> omega | omega) _ | refine Below.alloc ?_ (by first | simp <;> omega | omega) _) | refine bl_call ?_ (by assumption) (by first | simp <;> omega | omega) | (with_reducible first | refine bl_drewN ?_ | refine Below.drew ?_ | refine bl_grow ?_ (by first | simp <;> omega | omega)))⟩
  case round =>
    clear hown0 hq2
    obtain ⟨k, hk, rfl, hown, hqV⟩ := hrel
    rename World => V
    have hzV := hqV.size
    have kpV := HP.out.below hqV
    obtain ⟨zpV, cp0V, fp0V⟩ := kpV.one
    by_cases hlt : k < m
    · have hlt' : (k : Int) < m := by omega
      obtain ⟨b, o, rfl, hzr⟩ : ∃ b o : Nat, sz = some ⟨b, o, none⟩ ∧ RowI w b o m Z := HZ.out.resolve_left (by omega)
      have hbV := Nat.lt_of_lt_of_le hzr.1 hzV
      have d0 := (hzr.below hzr.1 hqV).2 k hlt
      obtain ⟨z, hz⟩ : ∃ z : Nat, Z k = (z : Int) := ⟨(Z k).toNat, by have := (HO.out k hlt).1; omega⟩
      have hzn : z < n := by have := (HO.out k hlt).2; omega
      have HZz : Hid (Z k = (z : Int)) := hz
      rw [hz] at d0
      clear hz hzr
      have t1 : 0 ≤ (z : Int) := by omega
      have t2 : (z : Int) < n := by omega
      obtain ⟨g, rfl, r1⟩ := HR.out.resolve_left (by omega)
      have hgV := Nat.lt_of_lt_of_le r1.1 hzV
      obtain ⟨c0, c1, c2, _⟩ := (r1.below r1.1 hqV).2 z hzn
      rw [Nat.zero_add] at c0 c1 c2
      clear r1
      go_wp2_with (at_builtin; refine wpList_append_own_at _ rfl _ _ 22 rfl w.heap.size 25 i0 (.agg #[.int .i64 0, .int .i64 0, .bool false]) 3 24 Tryz.underlying22 hi hv0 hv1 hv2 rfl (by decide) _ _ _ rfl (own_stay hown (by repeat (first | (with_reducible first | exact Below.refl _ _ | assumption | refine Below.setCell ?_ (by first | simp <;> omega | omega) _ | refine Below.alloc ?_ (by first | simp <;> omega | omega) _) | refine bl_call ?_ (by assumption) (by first | simp <;> omega | omega) | (with_reducible first | refine bl_drewN ?_ | refine Below.drew ?_ | refine bl_grow ?_ (by first | simp <;> omega | omega))))) ⟨_, 0, none⟩ 1 1 [.int .i64 ((tM (4 * K z)).1 : Int), .int .i64 ((tM (4 * K z)).2.1 : Int), .bool (tM (4 * K z)).2.2] rfl rfl ?c1 ?c2 ?c3 ?c4 ?c5 ?_)
      case c1 => exact three_at (by simp) _ _ _ _
      case c2 => intro u hu; simp at hu; rcases hu with rfl | rfl | rfl <;> rfl
      case c3 => unfold maxLen; omega
      case c4 => omega
      case c5 => simp; omega
      · intro v' w13 hown' hgrow _ hat
        have hq13 : Below w.heap.size w w13 := grown_under (B := w.heap.size) (by repeat (first | (with_reducible first | exact Below.refl _ _ | assumption | refine Below.setCell ?_ (by first | simp <;> omega | omega) _ | refine Below.alloc ?_ (by first | simp <;> omega | omega) _) | refine bl_call ?_ (by assumption) (by first | simp <;> omega | omega) | (with_reducible first | refine bl_drewN ?_ | refine Below.drew ?_ | refine bl_grow ?_ (by first | simp <;> omega | omega)))) (own_stay hown (by repeat (first | (with_reducible first | exact Below.refl _ _ | assumption | refine Below.setCell ?_ (by first | simp <;> omega | omega) _ | refine Below.alloc ?_ (by first | simp <;> omega | omega) _) | refine bl_call ?_ (by assumption) (by first | simp <;> omega | omega) | (with_reducible first | refine bl_drewN ?_ | refine Below.drew ?_ | refine bl_grow ?_ (by first | simp <;> omega | omega))))) hgrow (by simp; omega) (Nat.le_refl _)
        have hown2 : w13.ownsRow w.heap.size 25 3 v' (k + 1) (cellsK (fun i => K (Z i).toNat) (k + 1)) := by
          rw [cellsK_succ, HZz.out, Int.toNat_natCast]; exact hown'
        clear hgrow hat hown hown'
        go_wp2_with fail
        go_roundw
        case rel => exact ⟨k + 1, by omega, by simp, hown2, hq13⟩
        case measure => simp [intOf]; omega
    · have hlt' : ¬ (k : Int) < m := by omega
      obtain rfl : k = m := by omega
      go_wp2_with fail
      go_ret
      exact ⟨_, rfl, hown, by repeat (first | (with_reducible first | exact Below.refl _ _ | assumption | refine Below.setCell ?_ (by first | simp <;> omega | omega) _ | refine Below.alloc ?_ (by first | simp <;> omega | omega) _) | refine bl_call ?_ (by assumption) (by first | simp <;> omega | omega) | (with_reducible first | refine bl_drewN ?_ | refine Below.drew ?_ | refine bl_grow ?_ (by first | simp <;> omega | omega)))⟩
/-- Of any row of coins. -/
theorem own_isC {W : World} {B : Nat} {q : Value} {m : Nat} {K : Nat → Nat} (h : W.ownsRow B 25 3 q m (cellsK K m)) : ∃ (sa : Option Addr) (c : Nat), q = .slice sa m c ∧ (m = 0 ∨ ∃ b o : Nat, sa = some ⟨b, o, none⟩ ∧ RowO W b o m (fun i => ((tM (4 * K i)).1 : Int)) (fun i => ((tM (4 * K i)).2.1 : Int)) (fun i => (tM (4 * K i)).2.2)) := by
  obtain ⟨sa, c, e, k⟩ := own_spots h
  exact ⟨sa, c, e, k.imp_right fun ⟨g, a, _, _, r⟩ => ⟨g, 0, a, r⟩⟩
theorem bbinfo : (Tryz.prog.info? 4).map (fun i => (i.zero, i.size, i.bytes)) = some (some (.bool false), 1, 1) := by kernel_rfl
set_option maxRecDepth 100000 in
set_option maxHeartbeats 8000000 in
theorem bgone (p n m dz t : Nat) (sz : Option Addr) (u : Value) (K : Nat → Nat) (G : Nat → Bool) (Z : Nat → Int) (c : Value) (w : World) (hn : n ≤ 1000) (hm : m ≤ 9223372036854775807) (h : CoinsAt 98 w p u n K G) (hz : (m = 0 ∨ ∃ b o : Nat, sz = some ⟨b, o, none⟩ ∧ RowI w b o m Z)) (ht : t ≤ m) (hok : ∀ i, i < t → goE n G Z i = 0) (hc : (t = m ∧ c = .nilIface) ∨ (t < m ∧ (goE n G Z t == 0) = false ∧ c = errOf (goE n G Z t))) : Calls Tryz.prog 55 #[.pointer (some ⟨p, 0, none⟩), .slice sz m dz] w fun e w' => e = .returned (c) ∧ Below w.heap.size w w' := by
  obtain ⟨su, cu, rfl, hrow⟩ := h.slice
  have HP : Hid (At w p [.slice su n cu]) := h.cells
  have HR : Hid (n = 0 ∨ ∃ g, su = some ⟨g, 0, none⟩ ∧ RowC w g 0 n K G) := hrow
  have hpw := h.cells.1
  clear hrow h
  have HZ : Hid ((m = 0 ∨ ∃ b o : Nat, sz = some ⟨b, o, none⟩ ∧ RowI w b o m Z)) := hz
  have HO : Hid (∀ i, i < t → goE n G Z i = 0) := hok
  have HC : Hid ((t = m ∧ c = .nilIface) ∨ (t < m ∧ (goE n G Z t == 0) = false ∧ c = errOf (goE n G Z t))) := hc
  clear hz hok hc
  obtain ⟨j0, hj, hu0, hu1, hu2⟩ := info_parts bbinfo
  have kpw := HP.out
  obtain ⟨zpw, cp0w, fp0w⟩ := kpw.one
  go_enter Tryz.func55, Tryz.ntmps55
  go_wp2_with (at_make; refine wpList_make_full _ rfl _ _ 59 rfl w.heap.size 4 j0 (.bool false) 1 Tryz.underlying59 hj hu0 hu1 _ _ _ _ n rfl rfl rfl rfl ?b2 ?b3 ?b4 ?_)
  case b2 => rw [hu2]; omega
  case b3 => unfold maxLen; omega
  case b4 => omega
  intro w1 hown1 hgrow1
  rw [bmade] at hown1
  have hq1 : Below w.heap.size w w1 := (Below.refl _ _ : Below w.heap.size w _).grown hgrow1 (Nat.le_refl _) (fun k hk => by cases hk)
  clear hgrow1 kpw cp0w fp0w
  go_wp2_with fail
  go_loopw [16] (fun ti wl => ∃ k : Nat, k ≤ t ∧ ti = .int .i64 k ∧ wl.ownsRow w.heap.size 4 1 (.slice (some ⟨w.heap.size, 0, none⟩) n n) n (cellsB (mkG (fun _ => false) Z k) n) ∧ Below w.heap.size w wl) (fun ti _ => m - (intOf ti).toNat)
  case atStart => exact ⟨0, by omega, rfl, hown1, by repeat (first | (with_reducible first | exact Below.refl _ _ | assumption | refine Below.setCell ?_ (by first | simp <;> omega | omega) _ | refine Below.alloc ?_ (by first | simp <;> omega | omega) _) | refine bl_call ?_ (by assumption) (by first | simp <;> omega | omega) | (with_reducible first | refine bl_drewN ?_ | refine Below.drew ?_ | refine bl_grow ?_ (by first | simp <;> omega | omega)))⟩
  case round =>
    clear hown1 hq1
    obtain ⟨k, hk, rfl, hown, hqV⟩ := hrel
    rename World => V
    have hzV := hqV.size
    have kpV := HP.out.below hqV
    obtain ⟨zpV, cp0V, fp0V⟩ := kpV.one
    by_cases hlt : k < m
    · have hlt' : (k : Int) < m := by omega
      obtain ⟨b, o, rfl, hzr⟩ : ∃ b o : Nat, sz = some ⟨b, o, none⟩ ∧ RowI w b o m Z := HZ.out.resolve_left (by omega)
      have hbV := Nat.lt_of_lt_of_le hzr.1 hzV
      have d0 := (hzr.below hzr.1 hqV).2 k hlt
      clear hzr
      have HN : Hid (∀ i, i < k → 0 ≤ Z i) := go_nonneg fun i hi => HO.out i (by omega)
      rcases goE_way n G Z k with ⟨a1, e⟩ | ⟨a1, a2, e⟩ | ⟨a1, a2, a3, e⟩ | ⟨a1, a2, a3, e⟩
      · have hkt : ¬ k < t := fun g => by have := HO.out k g; omega
        obtain rfl : k = t := by omega
        obtain rfl : c = errOf 1 := (HC.out.resolve_left fun g => by omega).2.2.trans (by rw [e])
        clear e hkt
        have a2 := inN_no a1
        clear a1
        by_cases a3 : Z k < 0
        · go_wp2_with fail
          go_ret
          exact ⟨rfl, by repeat (first | (with_reducible first | exact Below.refl _ _ | assumption | refine Below.setCell ?_ (by first | simp <;> omega | omega) _ | refine Below.alloc ?_ (by first | simp <;> omega | omega) _) | refine bl_call ?_ (by assumption) (by first | simp <;> omega | omega) | (with_reducible first | refine bl_drewN ?_ | refine Below.drew ?_ | refine bl_grow ?_ (by first | simp <;> omega | omega)))⟩
        · have a4 : Z k ≥ n := by omega
          clear a2
          go_wp2_with fail
          go_ret
          exact ⟨rfl, by repeat (first | (with_reducible first | exact Below.refl _ _ | assumption | refine Below.setCell ?_ (by first | simp <;> omega | omega) _ | refine Below.alloc ?_ (by first | simp <;> omega | omega) _) | refine bl_call ?_ (by assumption) (by first | simp <;> omega | omega) | (with_reducible first | refine bl_drewN ?_ | refine Below.drew ?_ | refine bl_grow ?_ (by first | simp <;> omega | omega)))⟩
      · have hkt : ¬ k < t := fun g => by have := HO.out k g; omega
        obtain rfl : k = t := by omega
        obtain rfl : c = errOf 6 := (HC.out.resolve_left fun g => by omega).2.2.trans (by rw [e])
        clear e hkt
        obtain ⟨z, hz⟩ : ∃ z : Nat, Z k = (z : Int) := ⟨(Z k).toNat, by have := inN_yes a1; omega⟩
        have hzn : z < n := by have := inN_yes a1; omega
        have HZz : Hid (Z k = (z : Int)) := hz
        rw [hz] at d0
        rw [hz, Int.toNat_natCast] at a2
        clear a1 hz
        have t0 : ¬ (z : Int) < 0 := by omega
        have t1 : 0 ≤ (z : Int) := by omega
        have t2 : (z : Int) < n := by omega
        have t3 : ¬ (z : Int) ≥ n := by omega
        obtain ⟨g, rfl, r1⟩ := HR.out.resolve_left (by omega)
        have hgV := Nat.lt_of_lt_of_le r1.1 hzV
        obtain ⟨_, _, _, c3⟩ := (r1.below r1.1 hqV).2 z hzn
        rw [Nat.zero_add, a2] at c3
        clear r1 a2
        change V.cell? _ = some (.bool false) at c3
        go_wp2_with fail
        go_ret
        exact ⟨rfl, by repeat (first | (with_reducible first | exact Below.refl _ _ | assumption | refine Below.setCell ?_ (by first | simp <;> omega | omega) _ | refine Below.alloc ?_ (by first | simp <;> omega | omega) _) | refine bl_call ?_ (by assumption) (by first | simp <;> omega | omega) | (with_reducible first | refine bl_drewN ?_ | refine Below.drew ?_ | refine bl_grow ?_ (by first | simp <;> omega | omega)))⟩
      · have hkt : ¬ k < t := fun g => by have := HO.out k g; omega
        obtain rfl : k = t := by omega
        obtain rfl : c = errOf 7 := (HC.out.resolve_left fun g => by omega).2.2.trans (by rw [e])
        clear e hkt
        obtain ⟨z, hz⟩ : ∃ z : Nat, Z k = (z : Int) := ⟨(Z k).toNat, by have := inN_yes a1; omega⟩
        have hzn : z < n := by have := inN_yes a1; omega
        have HZz : Hid (Z k = (z : Int)) := hz
        rw [hz] at d0
        rw [hz, Int.toNat_natCast] at a2
        clear a1 hz
        have t0 : ¬ (z : Int) < 0 := by omega
        have t1 : 0 ≤ (z : Int) := by omega
        have t2 : (z : Int) < n := by omega
        have t3 : ¬ (z : Int) ≥ n := by omega
        obtain ⟨g, rfl, r1⟩ := HR.out.resolve_left (by omega)
        have hgV := Nat.lt_of_lt_of_le r1.1 hzV
        obtain ⟨_, _, _, c3⟩ := (r1.below r1.1 hqV).2 z hzn
        rw [Nat.zero_add, a2] at c3
        clear r1 a2
        change V.cell? _ = some (.bool true) at c3
        have zfV : w.heap.size < V.heap.size := (hown.lt w.heap.size rfl).2
        have f0 := hown.cellAt z (by omega)
        rw [cellsB_at _ hzn, mk_dup HN.out, ← HZz.out, a3] at f0
        have f1 := hown.frozenAt z
        clear a3
        go_wp2_with fail
        go_ret
        exact ⟨rfl, by repeat (first | (with_reducible first | exact Below.refl _ _ | assumption | refine Below.setCell ?_ (by first | simp <;> omega | omega) _ | refine Below.alloc ?_ (by first | simp <;> omega | omega) _) | refine bl_call ?_ (by assumption) (by first | simp <;> omega | omega) | (with_reducible first | refine bl_drewN ?_ | refine Below.drew ?_ | refine bl_grow ?_ (by first | simp <;> omega | omega)))⟩
      · have hkt : k < t := by
          rcases Nat.lt_or_ge k t with g | g
          · exact g
          · obtain rfl : k = t := by omega
            obtain ⟨_, g2, _⟩ := HC.out.resolve_left fun g => by omega
            rw [e] at g2
            exact absurd g2 (by decide)
        clear e
        obtain ⟨z, hz⟩ : ∃ z : Nat, Z k = (z : Int) := ⟨(Z k).toNat, by have := inN_yes a1; omega⟩
        have hzn : z < n := by have := inN_yes a1; omega
        have HZz : Hid (Z k = (z : Int)) := hz
        rw [hz] at d0
        rw [hz, Int.toNat_natCast] at a2
        clear a1 hz
        have t0 : ¬ (z : Int) < 0 := by omega
        have t1 : 0 ≤ (z : Int) := by omega
        have t2 : (z : Int) < n := by omega
        have t3 : ¬ (z : Int) ≥ n := by omega
        obtain ⟨g, rfl, r1⟩ := HR.out.resolve_left (by omega)
        have hgV := Nat.lt_of_lt_of_le r1.1 hzV
        obtain ⟨_, _, _, c3⟩ := (r1.below r1.1 hqV).2 z hzn
        rw [Nat.zero_add, a2] at c3
        clear r1 a2
        change V.cell? _ = some (.bool true) at c3
        have zfV : w.heap.size < V.heap.size := (hown.lt w.heap.size rfl).2
        have f0 := hown.cellAt z (by omega)
        rw [cellsB_at _ hzn, mk_dup HN.out, ← HZz.out, a3] at f0
        have f1 := hown.frozenAt z
        clear a3
        have HS : Hid ((V.setCell ⟨w.heap.size, z, none⟩ (.bool true)).ownsRow w.heap.size 4 1 (.slice (some ⟨w.heap.size, 0, none⟩) n n) n (cellsB (mkG (fun _ => false) Z (k + 1)) n)) := by
          unfold Hid
          show World.ownsRow _ _ _ _ _ _ (cellsB (setB (mkG (fun _ => false) Z k) (Z k).toNat) n)
          rw [HZz.out, Int.toNat_natCast, ← cellsB_set _ hzn]
          exact (hown.stored z _).1
        have hqS : Below w.heap.size w (V.setCell ⟨w.heap.size, z, none⟩ (.bool true)) := hqV.setCell (Nat.le_refl _) _
        go_wp2_with fail
        go_roundw
        case rel => exact ⟨k + 1, by omega, by simp, HS.out, hqS⟩
        case measure => simp [intOf]; omega
    · have hlt' : ¬ (k : Int) < m := by omega
      obtain ⟨g1, rfl⟩ : t = m ∧ c = .nilIface := HC.out.resolve_right fun g => by omega
      go_wp2_with fail
      go_ret
      exact ⟨rfl, by repeat (first | (with_reducible first | exact Below.refl _ _ | assumption | refine Below.setCell ?_ (by first | simp <;> omega | omega) _ | refine Below.alloc ?_ (by first | simp <;> omega | omega) _) | refine bl_call ?_ (by assumption) (by first | simp <;> omega | omega) | (with_reducible first | refine bl_drewN ?_ | refine Below.drew ?_ | refine bl_grow ?_ (by first | simp <;> omega | omega)))⟩
theorem bgone_no (p n m dz : Nat) (sz : Option Addr) (u : Value) (K : Nat → Nat) (G : Nat → Bool) (Z : Nat → Int) (w : World) (hn : n ≤ 1000) (hm : m ≤ 9223372036854775807) (h : CoinsAt 98 w p u n K G) (hz : (m = 0 ∨ ∃ b o : Nat, sz = some ⟨b, o, none⟩ ∧ RowI w b o m Z)) (hq : (gnE n G Z m == 0) = false) : Calls Tryz.prog 55 #[.pointer (some ⟨p, 0, none⟩), .slice sz m dz] w fun e w' => e = .returned (errOf (gnE n G Z m)) ∧ Below w.heap.size w w' := by
  obtain ⟨t, t1, t2, t3, t4⟩ := gnE_first hq
  rw [t4]
  exact bgone p n m dz t sz u K G Z _ w hn hm h hz (by omega) t2 (Or.inr ⟨t1, t3, rfl⟩)
theorem bgone_yes (p n m dz : Nat) (sz : Option Addr) (u : Value) (K : Nat → Nat) (G : Nat → Bool) (Z : Nat → Int) (w : World) (hn : n ≤ 1000) (hm : m ≤ 9223372036854775807) (h : CoinsAt 98 w p u n K G) (hz : (m = 0 ∨ ∃ b o : Nat, sz = some ⟨b, o, none⟩ ∧ RowI w b o m Z)) (hok : ∀ i, i < m → goE n G Z i = 0) : Calls Tryz.prog 55 #[.pointer (some ⟨p, 0, none⟩), .slice sz m dz] w fun e w' => e = .returned (.nilIface) ∧ Below w.heap.size w w' :=
  bgone p n m dz m sz u K G Z _ w hn hm h hz (Nat.le_refl _) hok (Or.inl ⟨rfl, rfl⟩)
set_option maxRecDepth 100000 in
set_option maxHeartbeats 8000000 in
theorem banswered (a x c : Nat) (R : Sn) (w : World) (ha : ∀ w, Calls Tryz.prog 8 #[.agg #[.int .i64 ((tM a).1 : Int), .int .i64 ((tM a).2.1 : Int), .bool (tM a).2.2], .agg #[.int .i64 ((tM x).1 : Int), .int .i64 ((tM x).2.1 : Int), .bool (tM x).2.2]] w fun e w' => e = .returned (.tuple #[.int .i64 (c : Int), .nilIface]) ∧ Below w.heap.size w w') (he : tM (a + x * em (c : Int)) = R) : Calls Tryz.prog 85 #[.agg #[.int .i64 ((tM a).1 : Int), .int .i64 ((tM a).2.1 : Int), .bool (tM a).2.2], .agg #[.int .i64 ((tM x).1 : Int), .int .i64 ((tM x).2.1 : Int), .bool (tM x).2.2]] w fun e w' => e = .returned (.tuple #[.agg #[.int .i64 ((R).1 : Int), .int .i64 ((R).2.1 : Int), .bool (R).2.2], .nilIface]) ∧ Below w.heap.size w w' := by
  have HA : Hid (∀ w, Calls Tryz.prog 8 #[.agg #[.int .i64 ((tM a).1 : Int), .int .i64 ((tM a).2.1 : Int), .bool (tM a).2.2], .agg #[.int .i64 ((tM x).1 : Int), .int .i64 ((tM x).2.1 : Int), .bool (tM x).2.2]] w fun e w' => e = .returned (.tuple #[.int .i64 (c : Int), .nilIface]) ∧ Below w.heap.size w w') := ha
  have E : Hid (tM (a + x * em (c : Int)) = R) := he
  clear ha he
  have m1 : True := trivial; have m2 : True := trivial; have m3 : True := trivial
  go_enter Tryz.func85, Tryz.ntmps85
  go_wp2_with (first | (go_at_call 8; clear m1; refine (HA.out _).mono ?_; rintro e w1 ⟨rfl, hbw1⟩; have kaw1 : At w1 (w.heap.size) [.int .i64 ((tM a).1 : Int), .int .i64 ((tM a).2.1 : Int), .bool (tM a).2.2] := (by repeat (first | (with_reducible first | assumption | (refine at_new' _ _ _ _ ?_; first | rfl | (simp; done)) | refine At.alloc ?_ _ | refine At.drew ?_ | refine At.drewN ?_ | refine At.set ?_ (by omega) | apply At.store4 | apply At.store3 | apply At.store2 | apply At.put43) | refine At.below ?_ (by with_reducible assumption))); have kxw1 : At w1 (w.heap.size + 1) [.int .i64 ((tM x).1 : Int), .int .i64 ((tM x).2.1 : Int), .bool (tM x).2.2] := (by repeat (first | (with_reducible first | assumption | (refine at_new' _ _ _ _ ?_; first | rfl | (simp; done)) | refine At.alloc ?_ _ | refine At.drew ?_ | refine At.drewN ?_ | refine At.set ?_ (by omega) | apply At.store4 | apply At.store3 | apply At.store2 | apply At.put43) | refine At.below ?_ (by with_reducible assumption))); have kzw1 : At w1 (w.heap.size + 2) [.int .i64 0, .int .i64 0, .bool false] := (by repeat (first | (with_reducible first | assumption | (refine at_new' _ _ _ _ ?_; first | rfl | (simp; done)) | refine At.alloc ?_ _ | refine At.drew ?_ | refine At.drewN ?_ | refine At.set ?_ (by omega) | apply At.store4 | apply At.store3 | apply At.store2 | apply At.put43) | refine At.below ?_ (by with_reducible assumption))); have hqw1 : Below w.heap.size w w1 := (by repeat (first | (with_reducible first | exact Below.refl _ _ | assumption | refine Below.setCell ?_ (by first | simp <;> omega | omega) _ | refine Below.alloc ?_ (by first | simp <;> omega | omega) _) | refine bl_call ?_ (by assumption) (by first | simp <;> omega | omega) | (with_reducible first | refine bl_drewN ?_ | refine Below.drew ?_ | refine bl_grow ?_ (by first | simp <;> omega | omega)))); have hzw1 := hqw1.size; obtain ⟨zaw1, ca0w1, ca1w1, ca2w1, fa0w1, fa1w1, fa2w1⟩ := kaw1.three; obtain ⟨zxw1, cx0w1, cx1w1, cx2w1, fx0w1, fx1w1, fx2w1⟩ := kxw1.three; obtain ⟨zzw1, cz0w1, cz1w1, cz2w1, fz0w1, fz1w1, fz2w1⟩ := kzw1.three; clear hbw1) | (go_at_call 48; clear m2; refine (times_tM x (c : Int) _).mono ?_; rintro e w2 ⟨rfl, hbw2⟩; have kaw2 : At w2 (w.heap.size) [.int .i64 ((tM a).1 : Int), .int .i64 ((tM a).2.1 : Int), .bool (tM a).2.2] := (by repeat (first | (with_reducible first | assumption | (refine at_new' _ _ _ _ ?_; first | rfl | (simp; done)) | refine At.alloc ?_ _ | refine At.drew ?_ | refine At.drewN ?_ | refine At.set ?_ (by omega) | apply At.store4 | apply At.store3 | apply At.store2 | apply At.put43) | refine At.below ?_ (by with_reducible assumption))); have kxw2 : At w2 (w.heap.size + 1) [.int .i64 ((tM x).1 : Int), .int .i64 ((tM x).2.1 : Int), .bool (tM x).2.2] := (by repeat (first | (with_reducible first | assumption | (refine at_new' _ _ _ _ ?_; first | rfl | (simp; done)) | refine At.alloc ?_ _ | refine At.drew ?_ | refine At.drewN ?_ | refine At.set ?_ (by omega) | apply At.store4 | apply At.store3 | apply At.store2 | apply At.put43) | refine At.below ?_ (by with_reducible assumption))); have kzw2 : At w2 (w.heap.size + 2) [.int .i64 0, .int .i64 0, .bool false] := (by repeat (first | (with_reducible first | assumption | (refine at_new' _ _ _ _ ?_; first | rfl | (simp; done)) | refine At.alloc ?_ _ | refine At.drew ?_ | refine At.drewN ?_ | refine At.set ?_ (by omega) | apply At.store4 | apply At.store3 | apply At.store2 | apply At.put43) | refine At.below ?_ (by with_reducible assumption))); have hqw2 : Below w.heap.size w w2 := (by repeat (first | (with_reducible first | exact Below.refl _ _ | assumption | refine Below.setCell ?_ (by first | simp <;> omega | omega) _ | refine Below.alloc ?_ (by first | simp <;> omega | omega) _) | refine bl_call ?_ (by assumption) (by first | simp <;> omega | omega) | (with_reducible first | refine bl_drewN ?_ | refine Below.drew ?_ | refine bl_grow ?_ (by first | simp <;> omega | omega)))); have hzw2 := hqw2.size; obtain ⟨zaw2, ca0w2, ca1w2, ca2w2, fa0w2, fa1w2, fa2w2⟩ := kaw2.three; obtain ⟨zxw2, cx0w2, cx1w2, cx2w2, fx0w2, fx1w2, fx2w2⟩ := kxw2.three; obtain ⟨zzw2, cz0w2, cz1w2, cz2w2, fz0w2, fz1w2, fz2w2⟩ := kzw2.three; clear kaw1 ca0w1 fa0w1 ca1w1 fa1w1 ca2w1 fa2w1 kxw1 cx0w1 fx0w1 cx1w1 fx1w1 cx2w1 fx2w1 kzw1 cz0w1 fz0w1 cz1w1 fz1w1 cz2w1 fz2w1 hqw1; clear hbw2) | (go_at_call 59; clear m3; refine (cadd_eq E.out _).mono ?_; rintro e w3 ⟨rfl, hbw3⟩; have kaw3 : At w3 (w.heap.size) [.int .i64 ((tM a).1 : Int), .int .i64 ((tM a).2.1 : Int), .bool (tM a).2.2] := (by repeat (first | (with_reducible first | assumption | (refine at_new' _ _ _ _ ?_; first | rfl | (simp; done)) | refine At.alloc ?_ _ | refine At.drew ?_ | refine At.drewN ?_ | refine At.set ?_ (by omega) | apply At.store4 | apply At.store3 | apply At.store2 | apply At.put43) | refine At.below ?_ (by with_reducible assumption))); have kxw3 : At w3 (w.heap.size + 1) [.int .i64 ((tM x).1 : Int), .int .i64 ((tM x).2.1 : Int), .bool (tM x).2.2] := (by repeat (first | (with_reducible first | assumption | (refine at_new' _ _ _ _ ?_; first | rfl | (simp; done)) | refine At.alloc ?_ _ | refine At.drew ?_ | refine At.drewN ?_ | refine At.set ?_ (by omega) | apply At.store4 | apply At.store3 | apply At.store2 | apply At.put43) | refine At.below ?_ (by with_reducible assumption))); have kzw3 : At w3 (w.heap.size + 2) [.int .i64 0, .int .i64 0, .bool false] := (by repeat (first | (with_reducible first | assumption | (refine at_new' _ _ _ _ ?_; first | rfl | (simp; done)) | refine At.alloc ?_ _ | refine At.drew ?_ | refine At.drewN ?_ | refine At.set ?_ (by omega) | apply At.store4 | apply At.store3 | apply At.store2 | apply At.put43) | refine At.below ?_ (by with_reducible assumption))); have ktw3 : At w3 (w2.heap.size) [.int .i64 ((tM (x * em (c : Int))).1 : Int), .int .i64 ((tM (x * em (c : Int))).2.1 : Int), .bool (tM (x * em (c : Int))).2.2] := (by repeat (first | (with_reducible first | assumption | (refine at_new' _ _ _ _ ?_; first | rfl | (simp; done)) | refine At.alloc ?_ _ | refine At.drew ?_ | refine At.drewN ?_ | refine At.set ?_ (by omega) | apply At.store4 | apply At.store3 | apply At.store2 | apply At.put43) | refine At.below ?_ (by with_reducible assumption))); have hqw3 : Below w.heap.size w w3 := (by repeat (first | (with_reducible first | exact Below.refl _ _ | assumption | refine Below.setCell ?_ (by first | simp <;> omega | omega) _ | refine Below.alloc ?_ (by first | simp <;> omega | omega) _) | refine bl_call ?_ (by assumption) (by first | simp <;> omega | omega) | (with_reducible first | refine bl_drewN ?_ | refine Below.drew ?_ | refine bl_grow ?_ (by first | simp <;> omega | omega)))); have hzw3 := hqw3.size; obtain ⟨zaw3, ca0w3, ca1w3, ca2w3, fa0w3, fa1w3, fa2w3⟩ := kaw3.three; obtain ⟨zxw3, cx0w3, cx1w3, cx2w3, fx0w3, fx1w3, fx2w3⟩ := kxw3.three; obtain ⟨zzw3, cz0w3, cz1w3, cz2w3, fz0w3, fz1w3, fz2w3⟩ := kzw3.three; obtain ⟨ztw3, ct0w3, ct1w3, ct2w3, ft0w3, ft1w3, ft2w3⟩ := ktw3.three; clear kaw2 ca0w2 fa0w2 ca1w2 fa1w2 ca2w2 fa2w2 kxw2 cx0w2 fx0w2 cx1w2 fx1w2 cx2w2 fx2w2 kzw2 cz0w2 fz0w2 cz1w2 fz1w2 cz2w2 fz2w2 hqw2; clear hbw3))
  exact bodyPost_ret (v := .tuple #[.agg #[.int .i64 ((R).1 : Int), .int .i64 ((R).2.1 : Int), .bool (R).2.2], .nilIface]) (by simp [results, Tryz.results85, go_sem, *]) rfl ⟨rfl, by repeat (first | (with_reducible first | exact Below.refl _ _ | assumption | refine Below.setCell ?_ (by first | simp <;> omega | omega) _ | refine Below.alloc ?_ (by first | simp <;> omega | omega) _) | refine bl_call ?_ (by assumption) (by first | simp <;> omega | omega) | (with_reducible first | refine bl_drewN ?_ | refine Below.drew ?_ | refine bl_grow ?_ (by first | simp <;> omega | omega)))⟩
set_option maxRecDepth 100000 in
set_option maxHeartbeats 8000000 in
theorem bcs_s (x : Nat) (x1 y1 S : Int) (f1 : Bool) (w : World) (h : resB S = false) : Calls Tryz.prog 60 #[.agg #[.int .i64 x1, .int .i64 y1, .bool f1, .int .i64 S], .agg #[.int .i64 ((tM x).1 : Int), .int .i64 ((tM x).2.1 : Int), .bool (tM x).2.2]] w fun e w' => e = .returned (errOf 1) ∧ Below w.heap.size w w' := by
  have H : Hid (∀ w, Calls Tryz.prog 47 #[.int .i64 S] w fun e w' => e = .returned (.bool false) ∧ w' = w) := bisnum h
  clear h
  go_enter Tryz.func60, Tryz.ntmps60
  go_wp2_with (go_at_call 47; refine (H.out _).mono ?_; rintro e v1 ⟨rfl, hv1⟩; subst v1)
  go_ret
  exact ⟨rfl, by repeat (first | (with_reducible first | exact Below.refl _ _ | assumption | refine Below.setCell ?_ (by first | simp <;> omega | omega) _ | refine Below.alloc ?_ (by first | simp <;> omega | omega) _) | refine bl_call ?_ (by assumption) (by first | simp <;> omega | omega) | (with_reducible first | refine bl_drewN ?_ | refine Below.drew ?_ | refine bl_grow ?_ (by first | simp <;> omega | omega)))⟩
set_option maxRecDepth 100000 in
set_option maxHeartbeats 8000000 in
theorem bcs_r (x : Nat) (x1 y1 S : Int) (f1 : Bool) (w : World) (h : resB S = true) (hr : (ckI x1 y1 f1 == 0) = false) : Calls Tryz.prog 60 #[.agg #[.int .i64 x1, .int .i64 y1, .bool f1, .int .i64 S], .agg #[.int .i64 ((tM x).1 : Int), .int .i64 ((tM x).2.1 : Int), .bool (tM x).2.2]] w fun e w' => e = .returned (errOf (ckI x1 y1 f1)) ∧ Below w.heap.size w w' := by
  have H : Hid (∀ w, Calls Tryz.prog 47 #[.int .i64 S] w fun e w' => e = .returned (.bool true) ∧ w' = w) := bisnum h
  clear h
  have m1 : True := trivial
  go_enter Tryz.func60, Tryz.ntmps60
  go_wp2_with (first | (go_at_call 47; refine (H.out _).mono ?_; rintro e v1 ⟨rfl, hv1⟩; subst v1) | (go_at_call 77; clear m1; refine (check_no _ _ _ _ hr).mono ?_; rintro e w1 ⟨rfl, hbw1⟩; have ksw1 : At w1 (w.heap.size) [.int .i64 x1, .int .i64 y1, .bool f1, .int .i64 S] := (by repeat (first | (with_reducible first | assumption | (refine at_new' _ _ _ _ ?_; first | rfl | (simp; done)) | refine At.alloc ?_ _ | refine At.drew ?_ | refine At.drewN ?_ | refine At.set ?_ (by omega) | apply At.store4 | apply At.store3 | apply At.store2 | apply At.put43) | refine At.below ?_ (by with_reducible assumption))); have kew1 : At w1 (w.heap.size + 1) [.int .i64 ((tM x).1 : Int), .int .i64 ((tM x).2.1 : Int), .bool (tM x).2.2] := (by repeat (first | (with_reducible first | assumption | (refine at_new' _ _ _ _ ?_; first | rfl | (simp; done)) | refine At.alloc ?_ _ | refine At.drew ?_ | refine At.drewN ?_ | refine At.set ?_ (by omega) | apply At.store4 | apply At.store3 | apply At.store2 | apply At.put43) | refine At.below ?_ (by with_reducible assumption))); have hqw1 : Below w.heap.size w w1 := (by repeat (first | (with_reducible first | exact Below.refl _ _ | assumption | refine Below.setCell ?_ (by first | simp <;> omega | omega) _ | refine Below.alloc ?_ (by first | simp <;> omega | omega) _) | refine bl_call ?_ (by assumption) (by first | simp <;> omega | omega) | (with_reducible first | refine bl_drewN ?_ | refine Below.drew ?_ | refine bl_grow ?_ (by first | simp <;> omega | omega)))); have hzw1 := hqw1.size; obtain ⟨zsw1, cs0w1, cs1w1, cs2w1, cs3w1, fs0w1, fs1w1, fs2w1, fs3w1⟩ := ksw1.four; obtain ⟨zew1, ce0w1, ce1w1, ce2w1, fe0w1, fe1w1, fe2w1⟩ := kew1.three; clear hbw1))
  go_ret
  exact ⟨rfl, by repeat (first | (with_reducible first | exact Below.refl _ _ | assumption | refine Below.setCell ?_ (by first | simp <;> omega | omega) _ | refine Below.alloc ?_ (by first | simp <;> omega | omega) _) | refine bl_call ?_ (by assumption) (by first | simp <;> omega | omega) | (with_reducible first | refine bl_drewN ?_ | refine Below.drew ?_ | refine bl_grow ?_ (by first | simp <;> omega | omega)))⟩
set_option maxRecDepth 100000 in
set_option maxHeartbeats 8000000 in
theorem bcs_any (a x s h : Nat) (L R : Sn) (t1 t2 t3 : Bool) (w : World) (hs : s < 1013) (hsc : ∀ w, Calls Tryz.prog 49 #[] w fun e w' => e = .returned (.agg #[.int .i64 ((tM (4 * h)).1 : Int), .int .i64 ((tM (4 * h)).2.1 : Int), .bool (tM (4 * h)).2.2]) ∧ Below w.heap.size w w') (hl : tM (4 * h * em (s : Int)) = L) (ha : ∀ w, Calls Tryz.prog 85 #[.agg #[.int .i64 ((tM a).1 : Int), .int .i64 ((tM a).2.1 : Int), .bool (tM a).2.2], .agg #[.int .i64 ((tM x).1 : Int), .int .i64 ((tM x).2.1 : Int), .bool (tM x).2.2]] w fun e w' => e = .returned (.tuple #[.agg #[.int .i64 ((R).1 : Int), .int .i64 ((R).2.1 : Int), .bool (R).2.2], .nilIface]) ∧ Below w.heap.size w w') (e1 : ((L.1 : Int) == (R.1 : Int)) = t1) (e2 : ((L.2.1 : Int) == (R.2.1 : Int)) = t2) (e3 : (L.2.2 == R.2.2) = t3) : Calls Tryz.prog 60 #[.agg #[.int .i64 ((tM a).1 : Int), .int .i64 ((tM a).2.1 : Int), .bool (tM a).2.2, .int .i64 (s : Int)], .agg #[.int .i64 ((tM x).1 : Int), .int .i64 ((tM x).2.1 : Int), .bool (tM x).2.2]] w fun e w' => e = .returned (bif (t1 && t2 && t3) then .nilIface else errOf 8) ∧ Below w.heap.size w w' := by
  have H : Hid (∀ w, Calls Tryz.prog 47 #[.int .i64 (s : Int)] w fun e w' => e = .returned (.bool true) ∧ w' = w) := bisnum (decide_eq_true ⟨by omega, by omega⟩)
  have HSC : Hid (∀ w, Calls Tryz.prog 49 #[] w fun e w' => e = .returned (.agg #[.int .i64 ((tM (4 * h)).1 : Int), .int .i64 ((tM (4 * h)).2.1 : Int), .bool (tM (4 * h)).2.2]) ∧ Below w.heap.size w w') := hsc
  have EL : Hid (tM (4 * h * em (s : Int)) = L) := hl
  have HA : Hid (∀ w, Calls Tryz.prog 85 #[.agg #[.int .i64 ((tM a).1 : Int), .int .i64 ((tM a).2.1 : Int), .bool (tM a).2.2], .agg #[.int .i64 ((tM x).1 : Int), .int .i64 ((tM x).2.1 : Int), .bool (tM x).2.2]] w fun e w' => e = .returned (.tuple #[.agg #[.int .i64 ((R).1 : Int), .int .i64 ((R).2.1 : Int), .bool (R).2.2], .nilIface]) ∧ Below w.heap.size w w') := ha
  clear hsc hl ha
  have m1 : True := trivial
  go_enter Tryz.func60, Tryz.ntmps60
  go_upto_region 6 with (first | (go_at_call 47; refine (H.out _).mono ?_; rintro e v1 ⟨rfl, hv1⟩; subst v1) | (go_at_call 77; clear m1; refine (check_tM _ _).mono ?_; rintro e w1 ⟨rfl, hbw1⟩; have ksw1 : At w1 (w.heap.size) [.int .i64 ((tM a).1 : Int), .int .i64 ((tM a).2.1 : Int), .bool (tM a).2.2, .int .i64 (s : Int)] := (by repeat (first | (with_reducible first | assumption | (refine at_new' _ _ _ _ ?_; first | rfl | (simp; done)) | refine At.alloc ?_ _ | refine At.drew ?_ | refine At.drewN ?_ | refine At.set ?_ (by omega) | apply At.store4 | apply At.store3 | apply At.store2 | apply At.put43) | refine At.below ?_ (by with_reducible assumption))); have kew1 : At w1 (w.heap.size + 1) [.int .i64 ((tM x).1 : Int), .int .i64 ((tM x).2.1 : Int), .bool (tM x).2.2] := (by repeat (first | (with_reducible first | assumption | (refine at_new' _ _ _ _ ?_; first | rfl | (simp; done)) | refine At.alloc ?_ _ | refine At.drew ?_ | refine At.drewN ?_ | refine At.set ?_ (by omega) | apply At.store4 | apply At.store3 | apply At.store2 | apply At.put43) | refine At.below ?_ (by with_reducible assumption))); have hqw1 : Below w.heap.size w w1 := (by repeat (first | (with_reducible first | exact Below.refl _ _ | assumption | refine Below.setCell ?_ (by first | simp <;> omega | omega) _ | refine Below.alloc ?_ (by first | simp <;> omega | omega) _) | refine bl_call ?_ (by assumption) (by first | simp <;> omega | omega) | (with_reducible first | refine bl_drewN ?_ | refine Below.drew ?_ | refine bl_grow ?_ (by first | simp <;> omega | omega)))); have hzw1 := hqw1.size; obtain ⟨zsw1, cs0w1, cs1w1, cs2w1, cs3w1, fs0w1, fs1w1, fs2w1, fs3w1⟩ := ksw1.four; obtain ⟨zew1, ce0w1, ce1w1, ce2w1, fe0w1, fe1w1, fe2w1⟩ := kew1.three; clear hbw1))
  go_cut [6, 7] from 9 to 43 (fun t6 t7 wx => ∃ bl : Nat, t6 = .pointer (some ⟨bl, 0, none⟩) ∧ t7 = .nilIface ∧ At wx (w.heap.size) [.int .i64 ((tM a).1 : Int), .int .i64 ((tM a).2.1 : Int), .bool (tM a).2.2, .int .i64 (s : Int)] ∧ At wx (w.heap.size + 1) [.int .i64 ((tM x).1 : Int), .int .i64 ((tM x).2.1 : Int), .bool (tM x).2.2] ∧ At wx bl [.int .i64 ((L).1 : Int), .int .i64 ((L).2.1 : Int), .bool (L).2.2] ∧ w.heap.size + 1 < bl ∧ Below w.heap.size w wx)
  case first =>
    go_region_held3 (fun W => ((w.heap.size) < W.heap.size ∧ W.cell? ⟨w.heap.size, 0, none⟩ = some (.int .i64 ((tM a).1 : Int)) ∧ W.cell? ⟨w.heap.size, 1, none⟩ = some (.int .i64 ((tM a).2.1 : Int)) ∧ W.cell? ⟨w.heap.size, 2, none⟩ = some (.bool (tM a).2.2) ∧ W.cell? ⟨w.heap.size, 3, none⟩ = some (.int .i64 (s : Int)) ∧ W.frozen? ⟨w.heap.size, 0, none⟩ = false ∧ W.frozen? ⟨w.heap.size, 1, none⟩ = false ∧ W.frozen? ⟨w.heap.size, 2, none⟩ = false ∧ W.frozen? ⟨w.heap.size, 3, none⟩ = false)) (exact At.four (by repeat (first | (with_reducible first | assumption | (refine at_new' _ _ _ _ ?_; first | rfl | (simp; done)) | refine At.alloc ?_ _ | refine At.drew ?_ | refine At.drewN ?_ | refine At.set ?_ (by omega) | apply At.store4 | apply At.store3 | apply At.store2 | apply At.put43) | refine At.below ?_ (by with_reducible assumption)))) (first | (go_at_call 49; refine (HSC.out _).mono ?_; rintro e w5 ⟨rfl, hb5⟩; obtain ⟨hc5, hf5⟩ := bcell hb5; have hl5 := bb_lt hb5; have hn5 := bb_ne hb5; have hm5 := bb_ne2 hb5; have hs5 := hb5.size; (try simp at hs5)) | (go_at_call 48; refine (times_eq EL.out _).mono ?_; rintro e w6 ⟨rfl, hb6⟩; obtain ⟨hc6, hf6⟩ := bcell hb6; have hl6 := bb_lt hb6; have hn6 := bb_ne hb6; have hm6 := bb_ne2 hb6; have hs6 := hb6.size; (try simp at hs6)))
    all_goals (go_wp2_with fail)
    all_goals go_meet
    all_goals (case rel => exact ⟨_, rfl, rfl, by repeat (first | (with_reducible first | assumption | (refine at_new' _ _ _ _ ?_; first | rfl | (simp; done)) | refine At.alloc ?_ _ | refine At.drew ?_ | refine At.drewN ?_ | refine At.set ?_ (by omega) | apply At.store4 | apply At.store3 | apply At.store2 | apply At.put43) | refine At.below ?_ (by with_reducible assumption)), by repeat (first | (with_reducible first | assumption | (refine at_new' _ _ _ _ ?_; first | rfl | (simp; done)) | refine At.alloc ?_ _ | refine At.drew ?_ | refine At.drewN ?_ | refine At.set ?_ (by omega) | apply At.store4 | apply At.store3 | apply At.store2 | apply At.put43) | refine At.below ?_ (by with_reducible assumption)), by repeat (first | (with_reducible first | assumption | (refine at_new' _ _ _ _ ?_; first | rfl | (simp; done)) | refine At.alloc ?_ _ | refine At.drew ?_ | refine At.drewN ?_ | refine At.set ?_ (by omega) | apply At.store4 | apply At.store3 | apply At.store2 | apply At.put43) | refine At.below ?_ (by with_reducible assumption)), by omega, by repeat (first | (with_reducible first | exact Below.refl _ _ | assumption | refine Below.setCell ?_ (by first | simp <;> omega | omega) _ | refine Below.alloc ?_ (by first | simp <;> omega | omega) _) | refine bl_call ?_ (by assumption) (by first | simp <;> omega | omega) | (with_reducible first | refine bl_drewN ?_ | refine Below.drew ?_ | refine bl_grow ?_ (by first | simp <;> omega | omega)))⟩)
  case rest =>
    clear ksw1 cs0w1 fs0w1 cs1w1 fs1w1 cs2w1 fs2w1 cs3w1 fs3w1 kew1 ce0w1 fe0w1 ce1w1 fe1w1 ce2w1 fe2w1 hqw1
    obtain ⟨bl, rfl, rfl, kswc, kewc, klwc, hbl, hqwc⟩ := hcut
    have hzwc := hqwc.size
    obtain ⟨zswc, cs0wc, cs1wc, cs2wc, cs3wc, fs0wc, fs1wc, fs2wc, fs3wc⟩ := kswc.four
    obtain ⟨zewc, ce0wc, ce1wc, ce2wc, fe0wc, fe1wc, fe2wc⟩ := kewc.three
    obtain ⟨zlwc, cl0wc, cl1wc, cl2wc, fl0wc, fl1wc, fl2wc⟩ := klwc.three
    cases t1 <;> cases t2 <;> cases t3
    all_goals (
    have m1 : True := trivial
    go_wp2_with (go_at_call 85; clear m1; refine (HA.out _).mono ?_; rintro e w7 ⟨rfl, hbw7⟩; have ksw7 : At w7 (w.heap.size) [.int .i64 ((tM a).1 : Int), .int .i64 ((tM a).2.1 : Int), .bool (tM a).2.2, .int .i64 (s : Int)] := (by repeat (first | (with_reducible first | assumption | (refine at_new' _ _ _ _ ?_; first | rfl | (simp; done)) | refine At.alloc ?_ _ | refine At.drew ?_ | refine At.drewN ?_ | refine At.set ?_ (by omega) | apply At.store4 | apply At.store3 | apply At.store2 | apply At.put43) | refine At.below ?_ (by with_reducible assumption))); have kew7 : At w7 (w.heap.size + 1) [.int .i64 ((tM x).1 : Int), .int .i64 ((tM x).2.1 : Int), .bool (tM x).2.2] := (by repeat (first | (with_reducible first | assumption | (refine at_new' _ _ _ _ ?_; first | rfl | (simp; done)) | refine At.alloc ?_ _ | refine At.drew ?_ | refine At.drewN ?_ | refine At.set ?_ (by omega) | apply At.store4 | apply At.store3 | apply At.store2 | apply At.put43) | refine At.below ?_ (by with_reducible assumption))); have klw7 : At w7 (bl) [.int .i64 ((L).1 : Int), .int .i64 ((L).2.1 : Int), .bool (L).2.2] := (by repeat (first | (with_reducible first | assumption | (refine at_new' _ _ _ _ ?_; first | rfl | (simp; done)) | refine At.alloc ?_ _ | refine At.drew ?_ | refine At.drewN ?_ | refine At.set ?_ (by omega) | apply At.store4 | apply At.store3 | apply At.store2 | apply At.put43) | refine At.below ?_ (by with_reducible assumption))); have hqw7 : Below w.heap.size w w7 := (by repeat (first | (with_reducible first | exact Below.refl _ _ | assumption | refine Below.setCell ?_ (by first | simp <;> omega | omega) _ | refine Below.alloc ?_ (by first | simp <;> omega | omega) _) | refine bl_call ?_ (by assumption) (by first | simp <;> omega | omega) | (with_reducible first | refine bl_drewN ?_ | refine Below.drew ?_ | refine bl_grow ?_ (by first | simp <;> omega | omega)))); have hzw7 := hqw7.size; obtain ⟨zsw7, cs0w7, cs1w7, cs2w7, cs3w7, fs0w7, fs1w7, fs2w7, fs3w7⟩ := ksw7.four; obtain ⟨zew7, ce0w7, ce1w7, ce2w7, fe0w7, fe1w7, fe2w7⟩ := kew7.three; obtain ⟨zlw7, cl0w7, cl1w7, cl2w7, fl0w7, fl1w7, fl2w7⟩ := klw7.three; clear kswc cs0wc fs0wc cs1wc fs1wc cs2wc fs2wc cs3wc fs3wc kewc ce0wc fe0wc ce1wc fe1wc ce2wc fe2wc klwc cl0wc fl0wc cl1wc fl1wc cl2wc fl2wc hqwc; clear hbw7)
    go_ret
    exact ⟨rfl, by repeat (first | (with_reducible first | exact Below.refl _ _ | assumption | refine Below.setCell ?_ (by first | simp <;> omega | omega) _ | refine Below.alloc ?_ (by first | simp <;> omega | omega) _) | refine bl_call ?_ (by assumption) (by first | simp <;> omega | omega) | (with_reducible first | refine bl_drewN ?_ | refine Below.drew ?_ | refine bl_grow ?_ (by first | simp <;> omega | omega)))⟩)
theorem bcs_same (a x s : Nat) (w : World) (hs : s < 1013) : Calls Tryz.prog 60 #[.agg #[.int .i64 ((tM a).1 : Int), .int .i64 ((tM a).2.1 : Int), .bool (tM a).2.2, .int .i64 (s : Int)], .agg #[.int .i64 ((tM (4 * x)).1 : Int), .int .i64 ((tM (4 * x)).2.1 : Int), .bool (tM (4 * x)).2.2]] w fun e w' => e = .returned (bif closeB a x s then .nilIface else errOf 8) ∧ Below w.heap.size w w' := by
  have hb := baN_lt a (4 * x)
  have := bcs_any a (4 * x) s h2N (tM (4 * clR s)) (tM (a + 4 * x * baN a (4 * x))) _ _ _ w hs second_w (cl_em hs) (fun w => banswered a (4 * x) (baN a (4 * x)) _ w (fun w => bask_ok a (4 * x) w) (by rw [em_nat hb])) rfl rfl rfl
  have e : closeB a x s = ((((tM (4 * clR s)).1 : Int) == ((tM (a + 4 * x * baN a (4 * x))).1 : Int)) && (((tM (4 * clR s)).2.1 : Int) == ((tM (a + 4 * x * baN a (4 * x))).2.1 : Int)) && ((tM (4 * clR s)).2.2 == (tM (a + 4 * x * baN a (4 * x))).2.2)) := by
    cases hc : closeB a x s with
    | true =>
      rw [close_iff] at hc
      rw [hc]; simp
    | false =>
      symm
      rw [Bool.eq_false_iff]
      intro k
      rw [Bool.and_eq_true, Bool.and_eq_true, beq_iff_eq, beq_iff_eq, beq_iff_eq] at k
      obtain ⟨⟨k1, k2⟩, k3⟩ := k
      have : closeB a x s = true := (close_iff a x s).2 (Prod.ext (by omega) (Prod.ext (by omega) k3))
      rw [hc] at this
      cases this
  rw [e]
  exact this
end Go.Proofs.YtpkkclcjiobgoajGreatDoor
