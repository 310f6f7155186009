/- What the plain reckoning of so many times the base (stoneref2.By) and of a share (stoneref2.Share) answers. -/
import Derived.Test.YtpkkclcjiobgoajGreatDoorKRefTimes
import Derived.Test.YtpkkclcjiobgoajGreatDoorKE
import Derived.Test.YtpkkclcjiobgoajGreatDoorKRefHash
import Derived.Test.YtpkkclcjiobgoajGreatDoorKRefBookB
import Derived.Test.YtpkkclcjiobgoajGreatDoorKRefBookC
import Derived.Deep.AppendLies
import Derived.Deep.Upon
import Derived.Deep.RegionLaw
import Derived.Test.YtpkkclcjiobgoajGreatDoorKA
import Derived.SizedLaws
import Derived.BigQuiet
import Derived.Test.YtpkkclcjiobgoajGreatDoorKC
import Derived.Lib.QuietBelow
import Derived.Deep.RegionHeld3
import Derived.Deep.RegionWith
import Derived.Deep.CutRange
import Derived.Deep.CutBlock
import Derived.Laws.OwnMore
namespace Go.Proofs.YtpkkclcjiobgoajGreatDoor
open Go.RowKit Go.Sort
set_option linter.unusedVariables false
set_option linter.unusedSimpArgs false
end Go.Proofs.YtpkkclcjiobgoajGreatDoor

/- What the plain reckoning of so many times the base and so many times another spot (stoneref1.Sum) answers. -/
namespace Go.Proofs.YtpkkclcjiobgoajGreatDoor
open Go.RowKit Go.Sort
set_option linter.unusedVariables false
set_option linter.unusedSimpArgs false
end Go.Proofs.YtpkkclcjiobgoajGreatDoor

/- What the plain reckoning of what is hidden (stoneref2: Second, Hide) answers. -/
namespace Go.Proofs.YtpkkclcjiobgoajGreatDoor
open Go.RowKit Go.Sort
set_option linter.unusedVariables false
set_option linter.unusedSimpArgs false
theorem rof_second (w : World) : Calls Tryz.prog 46 #[.string ⟨#[115, 101, 99, 111, 110, 100]⟩] w fun e w' => e = .returned (.agg #[.int .i64 ((tM (4 * h2N)).1 : Int), .int .i64 ((tM (4 * h2N)).2.1 : Int), .bool false]) ∧ Below w.heap.size w w' := by
  have := rof_any secT w (by decide)
  rw [uN_is, ← h2_is] at this
  exact this
set_option maxRecDepth 100000 in
set_option maxHeartbeats 4000000 in
theorem rsecond (w : World) : Calls Tryz.prog 13 #[] w fun e w' => e = .returned (.agg #[.int .i64 ((tM (4 * h2N)).1 : Int), .int .i64 ((tM (4 * h2N)).2.1 : Int), .bool false]) ∧ Below w.heap.size w w' := by
  have HO : Hid (∀ w, Calls Tryz.prog 46 #[.string ⟨#[115, 101, 99, 111, 110, 100]⟩] w fun e w' => e = .returned (.agg #[.int .i64 ((tM (4 * h2N)).1 : Int), .int .i64 ((tM (4 * h2N)).2.1 : Int), .bool false]) ∧ Below w.heap.size w w') := rof_second
  have m1 : True := trivial
  go_enter Tryz.func13, Tryz.ntmps13
  go_wp2_with (go_at_call 46; clear m1; refine (HO.out _).mono ?_; rintro e w1 ⟨rfl, hbw1⟩; have krw1 : At w1 (w.heap.size) [.int .i64 0, .int .i64 0, .bool false] := (by repeat (first | (with_reducible first | assumption | (refine at_new' _ _ _ _ ?_; first | rfl | (simp; done)) | refine At.alloc ?_ _ | refine At.drew ?_ | refine At.drewN ?_ | refine At.set ?_ (by omega) | apply At.store4 | apply At.store3 | apply At.store2 | apply At.put43) | refine At.below ?_ (by with_reducible assumption))); have hqw1 : Below w.heap.size w w1 := (by repeat (first | (with_reducible first | exact Below.refl _ _ | assumption | refine Below.setCell ?_ (by first | simp <;> omega | omega) _ | refine Below.alloc ?_ (by first | simp <;> omega | omega) _) | refine bl_call ?_ (by assumption) (by first | simp <;> omega | omega) | (with_reducible first | refine bl_drewN ?_ | refine Below.drew ?_ | refine bl_grow ?_ (by first | simp <;> omega | omega)))); have hzw1 := hqw1.size; obtain ⟨zrw1, cr0w1, cr1w1, cr2w1, fr0w1, fr1w1, fr2w1⟩ := krw1.three; clear hbw1)
  exact bodyPost_ret (v := .agg #[.int .i64 ((tM (4 * h2N)).1 : Int), .int .i64 ((tM (4 * h2N)).2.1 : Int), .bool false]) (by simp [results, Tryz.results13, go_sem, *]) rfl ⟨rfl, by repeat (first | (with_reducible first | exact Below.refl _ _ | assumption | refine Below.setCell ?_ (by first | simp <;> omega | omega) _ | refine Below.alloc ?_ (by first | simp <;> omega | omega) _) | refine bl_call ?_ (by assumption) (by first | simp <;> omega | omega) | (with_reducible first | refine bl_drewN ?_ | refine Below.drew ?_ | refine bl_grow ?_ (by first | simp <;> omega | omega)))⟩
theorem rsecond_w (w : World) : Calls Tryz.prog 13 #[] w fun e w' => e = .returned (.agg #[.int .i64 ((tM (4 * h2N)).1 : Int), .int .i64 ((tM (4 * h2N)).2.1 : Int), .bool (tM (4 * h2N)).2.2]) ∧ Below w.heap.size w w' := by
  rw [h2_f]; exact rsecond w
end Go.Proofs.YtpkkclcjiobgoajGreatDoor

/- The plain reckoning of books (stoneref2) in one word each: Coins, Excess, Do, by what is wrong. -/
namespace Go.Proofs.YtpkkclcjiobgoajGreatDoor
open Go.RowKit Go.Sort
set_option linter.unusedVariables false
set_option linter.unusedSimpArgs false
theorem rcoins_is (sl : Option Addr) (c d : Nat) (X Y : Nat → Int) (F : Nat → Bool) (q : Int) (w : World) (hr : (c = 0 ∨ ∃ b o : Nat, sl = some ⟨b, o, none⟩ ∧ RowO w b o c X Y F)) (h : ComeIs X Y F c q) : Calls Tryz.prog 15 #[.slice sl c d] w fun e w' => e = .returned (.int .i64 q) ∧ Below w.heap.size w w' := by
  rcases h with ⟨h1, rfl⟩ | ⟨h1, ⟨m, h2, h3, h4⟩, rfl⟩ | ⟨h1, ⟨J, h2⟩, rfl⟩
  · exact rcoins_many sl c d w h1
  · exact rcoins_any sl c d m X Y F 3 w h1 hr (Nat.le_of_lt h2) h3 (Or.inr ⟨h2, h4, rfl⟩)
  · exact rcoins_any sl c d c X Y F 0 w h1 hr (Nat.le_refl _) (fun j hj => ⟨J j, h2 j hj⟩) (Or.inl ⟨rfl, rfl⟩)
theorem or_ne {a : Nat} {P : Prop} (h : a ≠ 0 → P) : a = 0 ∨ P := by
  by_cases e : a = 0
  · exact Or.inl e
  · exact Or.inr (h e)
theorem xrow_up {w W : World} {sl : Option Addr} {c : Nat} {X Y : Nat → Int} {F : Nat → Bool} (hr : (c = 0 ∨ ∃ b o : Nat, sl = some ⟨b, o, none⟩ ∧ RowO w b o c X Y F)) (h : Below w.heap.size w W) : (c = 0 ∨ ∃ b o : Nat, sl = some ⟨b, o, none⟩ ∧ RowO W b o c X Y F) := hr.imp_right fun ⟨b, o, e, r⟩ => ⟨b, o, e, r.below r.1 h⟩
theorem zrow_up {w W : World} {sz : Option Addr} {m : Nat} {Z : Nat → Int} (hr : (m = 0 ∨ ∃ b o : Nat, sz = some ⟨b, o, none⟩ ∧ RowI w b o m Z)) (h : Below w.heap.size w W) : (m = 0 ∨ ∃ b o : Nat, sz = some ⟨b, o, none⟩ ∧ RowI W b o m Z) := hr.imp_right fun ⟨b, o, e, r⟩ => ⟨b, o, e, r.below r.1 h⟩
theorem rexc_no (B p n m c d dz : Nat) (sz sl : Option Addr) (u v : Value) (K : Nat → Nat) (G : Nat → Bool) (Z : Nat → Int) (X Y : Nat → Int) (F : Nat → Bool) (q : Int) (w : World) (hn : n ≤ 1000000) (hm : m ≤ 9223372036854775807) (h : BookAt 25 4 B w p u v n K G) (hz : (m = 0 ∨ ∃ b o : Nat, sz = some ⟨b, o, none⟩ ∧ RowI w b o m Z)) (hr : (c = 0 ∨ ∃ b o : Nat, sl = some ⟨b, o, none⟩ ∧ RowO w b o c X Y F)) (hc : ComeIs X Y F c q) (he : (exE n G Z m q == 0) = false) : Calls Tryz.prog 18 #[.pointer (some ⟨p, 0, none⟩), .slice sz m dz, .slice sl c d] w fun e w' => e = .returned (.tuple #[.agg #[.int .i64 0, .int .i64 0, .bool false], .int .i64 (exE n G Z m q)]) ∧ Below w.heap.size w w' := by
  unfold exE at he ⊢
  cases h1 : gnE n G Z m == 0 with
  | false =>
    simp only [cond_false] at he ⊢
    obtain ⟨t, h2, h3, h4, h5⟩ := gnE_first h1
    rw [h5]
    exact rexc_bad B p n m c d dz t sz sl u v K G Z w hn hm h hz h2 h3 h4
  | true =>
    rw [h1] at he
    simp only [cond_true] at he ⊢
    exact rexc_come B p n m c d dz sz sl u v K G Z q w hn hm h hz (gnE_zero (by simpa using h1)) he (fun W hW => rcoins_is sl c d X Y F q W (xrow_up hr hW) hc)
theorem rexc_yes (B p n m c d dz : Nat) (sz sl : Option Addr) (u v : Value) (K : Nat → Nat) (G : Nat → Bool) (Z : Nat → Int) (X Y : Nat → Int) (F : Nat → Bool) (J : Nat → Nat) (w : World) (hn : n ≤ 1000000) (hm : m ≤ 9223372036854775807) (h : BookAt 25 4 B w p u v n K G) (hz : (m = 0 ∨ ∃ b o : Nat, sz = some ⟨b, o, none⟩ ∧ RowI w b o m Z)) (hr : (c = 0 ∨ ∃ b o : Nat, sl = some ⟨b, o, none⟩ ∧ RowO w b o c X Y F)) (hok : ∀ i, i < m → goE n G Z i = 0) (hc : c ≤ 12) (hJ : isC X Y F J c) : Calls Tryz.prog 18 #[.pointer (some ⟨p, 0, none⟩), .slice sz m dz, .slice sl c d] w fun e w' => e = .returned (.tuple #[.agg #[.int .i64 ((tM (4 * exN K Z m J c)).1 : Int), .int .i64 ((tM (4 * exN K Z m J c)).2.1 : Int), .bool (tM (4 * exN K Z m J c)).2.2], .int .i64 0]) ∧ Below w.heap.size w w' :=
  rexc_ok B p n m c d dz sz sl u v K G Z J w hn hm h hz hok (fun W hW => rcoins_is sl c d X Y F 0 W (xrow_up hr hW) (Or.inr (Or.inr ⟨hc, ⟨J, hJ⟩, rfl⟩))) (fun W hW => bjoin sl c d X Y F J W (by omega) (xrow_up hr hW) hJ)
theorem rdo_no1 (B p n m c d dz : Nat) (sz sl : Option Addr) (u v : Value) (K : Nat → Nat) (G : Nat → Bool) (Z : Nat → Int) (X Y : Nat → Int) (F : Nat → Bool) (rx ry S q : Int) (rf : Bool) (w : World) (hn : n ≤ 1000000) (hm : m ≤ 9223372036854775807) (h : BookAt 25 4 B w p u v n K G) (hz : (m = 0 ∨ ∃ b o : Nat, sz = some ⟨b, o, none⟩ ∧ RowI w b o m Z)) (hr : (c = 0 ∨ ∃ b o : Nat, sl = some ⟨b, o, none⟩ ∧ RowO w b o c X Y F)) (hc : ComeIs X Y F c q) (he : (exE n G Z m q == 0) = false) : Calls Tryz.prog 20 #[.pointer (some ⟨p, 0, none⟩), .agg #[.slice sz m dz, .slice sl c d, .int .i64 rx, .int .i64 ry, .bool rf, .int .i64 S]] w fun e w' => e = .returned (.int .i64 (exE n G Z m q)) ∧ Below w.heap.size w w' :=
  rdo_exc B p n m c d dz sz sl rx ry S _ rf (0, 0, false) w he (fun W hW => rexc_no B p n m c d dz sz sl u v K G Z X Y F q W hn hm (h.below hW) (zrow_up hz hW) (xrow_up hr hW) hc he)
theorem rdo_no2 (B p n m c d dz : Nat) (sz sl : Option Addr) (u v : Value) (K : Nat → Nat) (G : Nat → Bool) (Z : Nat → Int) (X Y : Nat → Int) (F : Nat → Bool) (J : Nat → Nat) (rx ry S : Int) (rf : Bool) (w : World) (hn : n ≤ 1000) (hm : m ≤ 9223372036854775807) (h : BookAt 25 4 B w p u v n K G) (hz : (m = 0 ∨ ∃ b o : Nat, sz = some ⟨b, o, none⟩ ∧ RowI w b o m Z)) (hr : (c = 0 ∨ ∃ b o : Nat, sl = some ⟨b, o, none⟩ ∧ RowO w b o c X Y F)) (hok : ∀ i, i < m → goE n G Z i = 0) (hc : c ≤ 12) (hJ : isC X Y F J c) (hf : 1000 < n + c) : Calls Tryz.prog 20 #[.pointer (some ⟨p, 0, none⟩), .agg #[.slice sz m dz, .slice sl c d, .int .i64 rx, .int .i64 ry, .bool rf, .int .i64 S]] w fun e w' => e = .returned (.int .i64 4) ∧ Below w.heap.size w w' :=
  rdo_full B p n m c d dz sz sl u v K G (exN K Z m J c) rx ry S rf w hn hc hf h (fun W hW => rexc_yes B p n m c d dz sz sl u v K G Z X Y F J W (by omega) hm (h.below hW) (zrow_up hz hW) (xrow_up hr hW) hok hc hJ)
theorem rdo_no3 (B p n m c d dz : Nat) (sz sl : Option Addr) (u v : Value) (K : Nat → Nat) (G : Nat → Bool) (Z : Nat → Int) (X Y : Nat → Int) (F : Nat → Bool) (J : Nat → Nat) (rx ry S : Int) (rf : Bool) (w : World) (hn : n ≤ 1000) (hm : m ≤ 9223372036854775807) (h : BookAt 25 4 B w p u v n K G) (hz : (m = 0 ∨ ∃ b o : Nat, sz = some ⟨b, o, none⟩ ∧ RowI w b o m Z)) (hr : (c = 0 ∨ ∃ b o : Nat, sl = some ⟨b, o, none⟩ ∧ RowO w b o c X Y F)) (hok : ∀ i, i < m → goE n G Z i = 0) (hc : c ≤ 12) (hJ : isC X Y F J c) (hf : n + c ≤ 1000) (hS : resB S = false) : Calls Tryz.prog 20 #[.pointer (some ⟨p, 0, none⟩), .agg #[.slice sz m dz, .slice sl c d, .int .i64 rx, .int .i64 ry, .bool rf, .int .i64 S]] w fun e w' => e = .returned (.int .i64 1) ∧ Below w.heap.size w w' :=
  rdo_rest B p n m c d dz sz sl u v K G (exN K Z m J c) rx ry S rf w hn hc hf h (fun W hW => rexc_yes B p n m c d dz sz sl u v K G Z X Y F J W (by omega) hm (h.below hW) (zrow_up hz hW) (xrow_up hr hW) hok hc hJ) (fun w => by have := rrest S w; rwa [hS] at this)
theorem rdo_no4 (B p n m c d dz : Nat) (sz sl : Option Addr) (u v : Value) (K : Nat → Nat) (G : Nat → Bool) (Z : Nat → Int) (X Y : Nat → Int) (F : Nat → Bool) (J : Nat → Nat) (rx ry S : Int) (rf : Bool) (w : World) (hn : n ≤ 1000) (hm : m ≤ 9223372036854775807) (h : BookAt 25 4 B w p u v n K G) (hz : (m = 0 ∨ ∃ b o : Nat, sz = some ⟨b, o, none⟩ ∧ RowI w b o m Z)) (hr : (c = 0 ∨ ∃ b o : Nat, sl = some ⟨b, o, none⟩ ∧ RowO w b o c X Y F)) (hok : ∀ i, i < m → goE n G Z i = 0) (hc : c ≤ 12) (hJ : isC X Y F J c) (hf : n + c ≤ 1000) (hS : resB S = true) (hR : (ckI rx ry rf == 0) = false) : Calls Tryz.prog 20 #[.pointer (some ⟨p, 0, none⟩), .agg #[.slice sz m dz, .slice sl c d, .int .i64 rx, .int .i64 ry, .bool rf, .int .i64 S]] w fun e w' => e = .returned (.int .i64 (ckI rx ry rf)) ∧ Below w.heap.size w w' :=
  rdo_spot B p n m c d dz sz sl u v K G (exN K Z m J c) rx ry S _ rf w hn hc hf h (fun W hW => rexc_yes B p n m c d dz sz sl u v K G Z X Y F J W (by omega) hm (h.below hW) (zrow_up hz hW) (xrow_up hr hW) hok hc hJ) (fun w => by have := rrest S w; rwa [hS] at this) hR (fun w => rspot_any rx ry rf w)
theorem rdo_no5 (B p n m c d dz : Nat) (sz sl : Option Addr) (u v : Value) (K : Nat → Nat) (G : Nat → Bool) (Z : Nat → Int) (X Y : Nat → Int) (F : Nat → Bool) (J : Nat → Nat) (a s h2 : Nat) (w : World) (hn : n ≤ 1000) (hm : m ≤ 9223372036854775807) (h : BookAt 25 4 B w p u v n K G) (hz : (m = 0 ∨ ∃ b o : Nat, sz = some ⟨b, o, none⟩ ∧ RowI w b o m Z)) (hr : (c = 0 ∨ ∃ b o : Nat, sl = some ⟨b, o, none⟩ ∧ RowO w b o c X Y F)) (hok : ∀ i, i < m → goE n G Z i = 0) (hc : c ≤ 12) (hJ : isC X Y F J c) (hf : n + c ≤ 1000) (hs : s < 1013) (hse : ∀ w, Calls Tryz.prog 13 #[] w fun e w' => e = .returned (.agg #[.int .i64 ((tM (4 * h2)).1 : Int), .int .i64 ((tM (4 * h2)).2.1 : Int), .bool (tM (4 * h2)).2.2]) ∧ Below w.heap.size w w') (hw : closedB h2 a (exN K Z m J c) s = false) : Calls Tryz.prog 20 #[.pointer (some ⟨p, 0, none⟩), .agg #[.slice sz m dz, .slice sl c d, .int .i64 ((tM a).1 : Int), .int .i64 ((tM a).2.1 : Int), .bool (tM a).2.2, .int .i64 (s : Int)]] w fun e w' => e = .returned (.int .i64 8) ∧ Below w.heap.size w w' := by
  have hb := baN_lt a (4 * exN K Z m J c)
  exact rdo_wrong B p n m c d dz sz sl u v K G (exN K Z m J c) a s (baN a (4 * exN K Z m J c)) (tM (4 * h2)) (tM (4 * h2 * s)) (tM (4 * exN K Z m J c * baN a (4 * exN K Z m J c))) (tM (a + 4 * exN K Z m J c * baN a (4 * exN K Z m J c))) _ _ _ w hn hc hf h (fun W hW => rexc_yes B p n m c d dz sz sl u v K G Z X Y F J W (by omega) hm (h.below hW) (zrow_up hz hW) (xrow_up hr hW) hok hc hJ)
    (fun w => by have := rrest (s : Int) w; rwa [show resB (s : Int) = true from decide_eq_true ⟨by omega, by omega⟩] at this) (fun w => rspot_yes (ck_tM a) w) (fun w => rba_tM a _ w) hse (fun w => rtimes_eq (tM_em _ _) w) (fun w => rtimes_eq (tM_em _ _) w) (fun w => radd_tM _ _ w) rfl rfl rfl hw
theorem rdo_yes (B p n m c d dz : Nat) (sz sl : Option Addr) (u v : Value) (K : Nat → Nat) (G : Nat → Bool) (Z : Nat → Int) (X Y : Nat → Int) (F : Nat → Bool) (J : Nat → Nat) (a s h2 : Nat) (w : World) (hn : n ≤ 1000) (hm : m ≤ 9223372036854775807) (h : BookAt 25 4 B w p u v n K G) (hz : (m = 0 ∨ ∃ b o : Nat, sz = some ⟨b, o, none⟩ ∧ RowI w b o m Z)) (hr : (c = 0 ∨ ∃ b o : Nat, sl = some ⟨b, o, none⟩ ∧ RowO w b o c X Y F)) (az : m ≠ 0 → ∀ b o, sz = some ⟨b, o, none⟩ → ¬ ft p u v b) (ar : c ≠ 0 → ∀ b o, sl = some ⟨b, o, none⟩ → ¬ ft p u v b) (hok : ∀ i, i < m → goE n G Z i = 0) (hc : c ≤ 12) (hJ : isC X Y F J c) (hf : n + c ≤ 1000) (hs : s < 1013) (hse : ∀ w, Calls Tryz.prog 13 #[] w fun e w' => e = .returned (.agg #[.int .i64 ((tM (4 * h2)).1 : Int), .int .i64 ((tM (4 * h2)).2.1 : Int), .bool (tM (4 * h2)).2.2]) ∧ Below w.heap.size w w') (hw : closedB h2 a (exN K Z m J c) s = true) :
    Calls Tryz.prog 20 #[.pointer (some ⟨p, 0, none⟩), .agg #[.slice sz m dz, .slice sl c d, .int .i64 ((tM a).1 : Int), .int .i64 ((tM a).2.1 : Int), .bool (tM a).2.2, .int .i64 (s : Int)]] w fun e w' => e = .returned (.int .i64 0) ∧ BookDone 25 4 B w w' p u v (n + c) (appN K n J c) (appN (mkG G Z m) n (fun _ => false) c) := by
  have hb := baN_lt a (4 * exN K Z m J c)
  exact rdo_ok B p n m c d dz sz sl u v K G (exN K Z m J c) a s (baN a (4 * exN K Z m J c)) (tM (4 * h2)) (tM (4 * h2 * s)) (tM (4 * exN K Z m J c * baN a (4 * exN K Z m J c))) (tM (a + 4 * exN K Z m J c * baN a (4 * exN K Z m J c))) J Z X Y F w hn hc hf hm h (fun W hW => rexc_yes B p n m c d dz sz sl u v K G Z X Y F J W (by omega) hm (h.below hW) (zrow_up hz hW) (xrow_up hr hW) hok hc hJ)
    (fun w => by have := rrest (s : Int) w; rwa [show resB (s : Int) = true from decide_eq_true ⟨by omega, by omega⟩] at this) (fun w => rspot_yes (ck_tM a) w) (fun w => rba_tM a _ w) hse (fun w => rtimes_eq (tM_em _ _) w) (fun w => rtimes_eq (tM_em _ _) w) (fun w => radd_tM _ _ w) ((sameS_iff _ _).1 hw)
    (or_ne fun h0 => (hz.resolve_left h0).imp fun b ⟨o, e, r⟩ => ⟨o, e, r, az h0 b o e⟩) hok (or_ne fun h0 => (hr.resolve_left h0).imp fun b ⟨o, e, r⟩ => ⟨o, e, r, ar h0 b o e⟩) hJ
end Go.Proofs.YtpkkclcjiobgoajGreatDoor

/- The plain reckoning's Do (stoneref2) by what a deal does to a book, in one word; and a copy of a book. -/
namespace Go.Proofs.YtpkkclcjiobgoajGreatDoor
open Go.RowKit Go.Sort
set_option linter.unusedVariables false
set_option linter.unusedSimpArgs false
theorem bdone_same {eC eG : TypeId} {B p n : Nat} {w w' : World} {u v : Value} {K : Nat → Nat} {G : Nat → Bool} (h : BookAt eC eG B w p u v n K G) (hb : Below w.heap.size w w') : BookDone eC eG B w w' p u v n K G :=
  ⟨But.of_below _ hb, u, v, h.below hb, fun i hi => Or.inl hi⟩
theorem rdeal (B p n : Nat) (u v : Value) (K : Nat → Nat) (G : Nat → Bool) (D : DealN) (sz sl : Option Addr) (dz d : Nat) (e : Int) (n' : Nat) (K' : Nat → Nat) (G' : Nat → Bool) (w : World) (hn : n ≤ 1000) (hm : D.m ≤ 9223372036854775807) (hb : BookAt 25 4 B w p u v n K G) (hz : (D.m = 0 ∨ ∃ b o : Nat, sz = some ⟨b, o, none⟩ ∧ ¬ ft p u v b ∧ RowI w b o D.m D.Z)) (hr : (D.c = 0 ∨ ∃ b o : Nat, sl = some ⟨b, o, none⟩ ∧ ¬ ft p u v b ∧ RowO w b o D.c D.X D.Y D.F)) (h : DealIs n K G D e n' K' G') :
    Calls Tryz.prog 20 #[.pointer (some ⟨p, 0, none⟩), .agg #[.slice sz D.m dz, .slice sl D.c d, .int .i64 D.rx, .int .i64 D.ry, .bool D.rf, .int .i64 D.s]] w fun ex w' => ex = .returned (.int .i64 e) ∧ BookDone 25 4 B w w' p u v n' K' G' := by
  have hz' : D.m = 0 ∨ ∃ b o : Nat, sz = some ⟨b, o, none⟩ ∧ RowI w b o D.m D.Z := hz.imp_right fun ⟨b, o, e, _, r⟩ => ⟨b, o, e, r⟩
  have hr' : D.c = 0 ∨ ∃ b o : Nat, sl = some ⟨b, o, none⟩ ∧ RowO w b o D.c D.X D.Y D.F := hr.imp_right fun ⟨b, o, e, _, r⟩ => ⟨b, o, e, r⟩
  rcases h with ⟨q, hq, hx, rfl, rfl, rfl, rfl⟩ | ⟨J, hok, hc, hJ, ⟨hf, rfl, rfl, rfl, rfl⟩ | ⟨hf, hS, rfl, rfl, rfl, rfl⟩ | ⟨hf, hS, hR, rfl, rfl, rfl, rfl⟩ | ⟨a, s, hf, hs3, hs, r1, r2, r3, hw⟩⟩
  · exact (rdo_no1 B p _ D.m D.c d dz sz sl u v _ _ D.Z D.X D.Y D.F D.rx D.ry D.s q D.rf w (by omega) hm hb hz' hr' hq hx).mono fun _ _ h => ⟨h.1, bdone_same hb h.2⟩
  · exact (rdo_no2 B p _ D.m D.c d dz sz sl u v _ _ D.Z D.X D.Y D.F J D.rx D.ry D.s D.rf w hn hm hb hz' hr' hok hc hJ hf).mono fun _ _ h => ⟨h.1, bdone_same hb h.2⟩
  · exact (rdo_no3 B p _ D.m D.c d dz sz sl u v _ _ D.Z D.X D.Y D.F J D.rx D.ry D.s D.rf w hn hm hb hz' hr' hok hc hJ hf hS).mono fun _ _ h => ⟨h.1, bdone_same hb h.2⟩
  · exact (rdo_no4 B p _ D.m D.c d dz sz sl u v _ _ D.Z D.X D.Y D.F J D.rx D.ry D.s D.rf w hn hm hb hz' hr' hok hc hJ hf hS hR).mono fun _ _ h => ⟨h.1, bdone_same hb h.2⟩
  · rw [r1, r2, r3, hs]
    rcases hw with ⟨hw, rfl, rfl, rfl, rfl⟩ | ⟨hw, rfl, rfl, rfl, rfl⟩
    · exact (rdo_no5 B p _ D.m D.c d dz sz sl u v _ _ D.Z D.X D.Y D.F J a s h2N w hn hm hb hz' hr' hok hc hJ hf hs3 rsecond_w ((close_is _ _ _).symm.trans hw)).mono fun _ _ h => ⟨h.1, bdone_same hb h.2⟩
    · refine rdo_yes B p n D.m D.c d dz sz sl u v K G D.Z D.X D.Y D.F J a s h2N w hn hm hb hz' hr' (fun h0 b o e => ?_) (fun h0 b o e => ?_) hok hc hJ hf hs3 rsecond_w ((close_is _ _ _).symm.trans hw)
      · obtain ⟨b2, o2, e2, h1, _⟩ := hz.resolve_left h0
        rw [e2] at e
        injection e with e
        injection e with e
        exact e ▸ h1
      · obtain ⟨b2, o2, e2, h1, _⟩ := hr.resolve_left h0
        rw [e2] at e
        injection e with e
        injection e with e
        exact e ▸ h1
theorem cpinfo : (Tryz.prog.info? 25).map (fun i => (i.zero, i.size, i.bytes)) = some (some (.agg #[.int .i64 0, .int .i64 0, .bool false]), 3, 24) := by kernel_rfl
theorem cbinfo : (Tryz.prog.info? 4).map (fun i => (i.zero, i.size, i.bytes)) = some (some (.bool false), 1, 1) := by kernel_rfl
theorem cellsB_one (G : Nat → Bool) (n : Nat) : ∀ u ∈ cellsB G n, u.oneCell' = true := by
  intro u hu
  unfold cellsB at hu
  simp at hu
  obtain ⟨i, _, rfl⟩ := hu
  rfl
theorem copy_news {w W : World} {B : Nat} {e : TypeId} {size g n c : Nat} {xs : List Value} (h : w.ownsRow B e size (.slice (some ⟨g, 0, none⟩) n c) n xs) (hW : Below w.heap.size w W) : ∀ j u, xs[j]? = some u → W.cell? ((⟨g, 0, none⟩ : Addr).add j) = some u := (own_stay h hW).cells rfl
/-- Nothing is appended to nothing, in a region that draws. -/
theorem step_append_zip {P : Program} {w : World} {ops : Array Oper} {o : Oper} {a : Act} {K : Act → World → Prop} {Q : Exit → Act → World → Prop} {E : Prop} (hgd : o.guard = none) (s x : Operand) (t : TypeId)
    (ho : o.op = .call { callee := .builtin .append, args := #[s, x], argTypes := #[t, t] }) (e : TypeId) (i : TypeInfo) (ht : P.underlying t = some (.slice e)) (hi : P.info? e = some i)
    (so : Option Addr) (c : Nat) (hs : a.eval s = .slice none 0 0) (hx : a.eval x = .slice so 0 c) (h : K (a.put o.dst (.slice none 0 0)) w) :
    if Region.wanted o (yielded ops a.tmps) = true then Oper.wp P o a w K Q else E := by
  have hw : Region.wanted o (yielded ops a.tmps) = true := by simp [Region.wanted, hgd]
  rw [if_pos hw]
  have hsrc : Src P i.size t (.slice so 0 c) 0 [] w := by
    cases so with
    | none => exact Src.ofNil w ht c
    | some ad => exact Src.ofSlice w ht ad 0 c [] (by simp) (fun j u hj => by simp at hj) (fun u hu => by simp at hu)
  have hr := run_append_nothing (P := P) w t t o.type e i ht hi none 0 0 (Nat.le_refl _) (.slice so 0 c) hsrc
  unfold Oper.wp execOp
  simp only [ho, resolve, invoke, builtin, Sem.run_bind, Sem.run_pure, Result.andThen_ok, List.map_toArray, List.map_cons, List.map_nil, hs, hx, hr]
  exact h
set_option maxRecDepth 100000 in
set_option maxHeartbeats 8000000 in
theorem rcopy_nil (p : Nat) (su sv : Option Addr) (cu cv : Nat) (B : Nat) (K : Nat → Nat) (G : Nat → Bool) (w : World) (hb : At w p [.slice su 0 cu, .slice sv 0 cv]) :
    Calls Tryz.prog 37 #[.pointer (some ⟨p, 0, none⟩)] w fun ex w' => ∃ q, ex = .returned (.pointer (some ⟨q, 0, none⟩)) ∧ BookOf 25 4 w.heap.size w' q 0 K G ∧ Below w.heap.size w w' := by
  obtain ⟨i0, hi, hv0, hv1, hv2⟩ := info_parts cpinfo
  obtain ⟨j0, hj, hu0, hu1, hu2⟩ := info_parts cbinfo
  have hp := hb.1
  obtain ⟨zp, cp0, cp1, fp0, fp1⟩ := hb.two
  go_enter Tryz.func37, Tryz.ntmps37
  go_upto_region 2 with fail
  refine wp_gen (fun Y => At Y p [.slice su 0 cu, .slice sv 0 cv] ∧ At Y w.heap.size [.slice none 0 0, .slice none 0 0] ∧ Below w.heap.size w Y) ⟨by repeat (first | (with_reducible first | assumption | (refine at_new' _ _ _ _ ?_; first | rfl | (simp; done)) | refine At.alloc ?_ _ | refine At.drew ?_ | refine At.drewN ?_ | refine At.set ?_ (by omega) | apply At.store4 | apply At.store3 | apply At.store2 | apply At.put43) | refine At.below ?_ (by with_reducible assumption)), by repeat (first | (with_reducible first | assumption | (refine at_new' _ _ _ _ ?_; first | rfl | (simp; done)) | refine At.alloc ?_ _ | refine At.drew ?_ | refine At.drewN ?_ | refine At.set ?_ (by omega) | apply At.store4 | apply At.store3 | apply At.store2 | apply At.put43) | refine At.below ?_ (by with_reducible assumption)), by repeat (first | (with_reducible first | exact Below.refl _ _ | assumption | refine Below.setCell ?_ (by first | simp <;> omega | omega) _ | refine Below.alloc ?_ (by first | simp <;> omega | omega) _) | refine bl_call ?_ (by assumption) (by first | simp <;> omega | omega) | (with_reducible first | refine bl_drewN ?_ | refine Below.drew ?_ | refine bl_grow ?_ (by first | simp <;> omega | omega)))⟩ ?_
  rintro Y ⟨kpY, kqY, hqY⟩
  have hzY := hqY.size
  have hz1 := kqY.1
  obtain ⟨zpY, cp0Y, cp1Y, fp0Y, fp1Y⟩ := kpY.two
  obtain ⟨zqY, cq0Y, cq1Y, fq0Y, fq1Y⟩ := kqY.two
  clear cp0 cp1 fp0 fp1 hb
  go_region_law (refine step_append_zip (by rfl) _ _ 22 (by rfl) 25 i0 Tryz.underlying22 hi su cu (by rfl) (by rfl) ?_)
  all_goals (refine ethen_gen2 (fun O => At O p [.slice su 0 cu, .slice sv 0 cv] ∧ At O w.heap.size [.slice none 0 0, .slice none 0 0] ∧ Below w.heap.size w O) ⟨(At.set kpY (fun e => by omega)).drew, (At.fst kqY).drew, (hqY.setCell (Nat.le_refl _) _).drew⟩ ?_)
  all_goals (rintro O ⟨kpO, kqO, hqO⟩)
  all_goals (have hzO := hqO.size)
  all_goals (obtain ⟨zpO, cp0O, cp1O, fp0O, fp1O⟩ := kpO.two)
  all_goals (obtain ⟨zqO, cq0O, cq1O, fq0O, fq1O⟩ := kqO.two)
  all_goals (clear kpY kqY hqY cp0Y cp1Y fp0Y fp1Y cq0Y cq1Y fq0Y fq1Y)
  all_goals (go_wp2_with fail)
  all_goals (go_region_law (refine step_append_zip (by rfl) _ _ 59 (by rfl) 4 j0 Tryz.underlying59 hj sv cv (by rfl) (by rfl) ?_))
  all_goals (refine ethen_gen2 (fun O => At O w.heap.size [.slice none 0 0, .slice none 0 0] ∧ Below w.heap.size w O) ⟨(At.snd kqO).drew, (hqO.setCell (Nat.le_refl _) _).drew⟩ ?_)
  all_goals (rintro O2 ⟨kq2, hq2⟩)
  all_goals (go_wp2_with fail)
  all_goals (exact bodyPost_ret (v := .pointer (some ⟨w.heap.size, 0, none⟩)) (by simp [results, Tryz.results37, go_sem]) rfl ⟨_, rfl, ⟨_, _, kq2, World.ownsRow_nil _ _ _ _, World.ownsRow_nil _ _ _ _, Nat.le_refl _, (fun e => by cases e), (fun e => by cases e), Or.inl rfl⟩, hq2⟩)
set_option maxRecDepth 100000 in
set_option maxHeartbeats 8000000 in
theorem rcopy_row (p n gu gv cu cv B : Nat) (K : Nat → Nat) (G : Nat → Bool) (w : World) (hn : n ≤ 1000) (hn0 : 0 < n) (hp0 : p < w.heap.size) (hcp : At w p [.slice (some ⟨gu, 0, none⟩) n cu, .slice (some ⟨gv, 0, none⟩) n cv]) (hcu : w.ownsRow B 25 3 (.slice (some ⟨gu, 0, none⟩) n cu) n (cellsK K n)) (hcv : w.ownsRow B 4 1 (.slice (some ⟨gv, 0, none⟩) n cv) n (cellsB G n)) :
    Calls Tryz.prog 37 #[.pointer (some ⟨p, 0, none⟩)] w fun ex w' => ∃ q, ex = .returned (.pointer (some ⟨q, 0, none⟩)) ∧ BookOf 25 4 w.heap.size w' q n K G ∧ Below w.heap.size w w' := by
  obtain ⟨i0, hi, hv0, hv1, hv2⟩ := info_parts cpinfo
  obtain ⟨j0, hj, hu0, hu1, hu2⟩ := info_parts cbinfo
  have HCu : Hid (w.ownsRow B 25 3 (.slice (some ⟨gu, 0, none⟩) n cu) n (cellsK K n)) := hcu
  have HCv : Hid (w.ownsRow B 4 1 (.slice (some ⟨gv, 0, none⟩) n cv) n (cellsB G n)) := hcv
  obtain ⟨zp, cp0, cp1, fp0, fp1⟩ := hcp.two
  go_enter Tryz.func37, Tryz.ntmps37
  go_upto_region 2 with fail
  refine wp_gen (fun Y => At Y p [.slice (some ⟨gu, 0, none⟩) n cu, .slice (some ⟨gv, 0, none⟩) n cv] ∧ At Y w.heap.size [.slice none 0 0, .slice none 0 0] ∧ Below w.heap.size w Y) ⟨by repeat (first | (with_reducible first | assumption | (refine at_new' _ _ _ _ ?_; first | rfl | (simp; done)) | refine At.alloc ?_ _ | refine At.drew ?_ | refine At.drewN ?_ | refine At.set ?_ (by omega) | apply At.store4 | apply At.store3 | apply At.store2 | apply At.put43) | refine At.below ?_ (by with_reducible assumption)), by repeat (first | (with_reducible first | assumption | (refine at_new' _ _ _ _ ?_; first | rfl | (simp; done)) | refine At.alloc ?_ _ | refine At.drew ?_ | refine At.drewN ?_ | refine At.set ?_ (by omega) | apply At.store4 | apply At.store3 | apply At.store2 | apply At.put43) | refine At.below ?_ (by with_reducible assumption)), by repeat (first | (with_reducible first | exact Below.refl _ _ | assumption | refine Below.setCell ?_ (by first | simp <;> omega | omega) _ | refine Below.alloc ?_ (by first | simp <;> omega | omega) _) | refine bl_call ?_ (by assumption) (by first | simp <;> omega | omega) | (with_reducible first | refine bl_drewN ?_ | refine Below.drew ?_ | refine bl_grow ?_ (by first | simp <;> omega | omega)))⟩ ?_
  rintro Y ⟨kpY, kqY, hqY⟩
  have hzY := hqY.size
  have hz1 := kqY.1
  obtain ⟨zpY, cp0Y, cp1Y, fp0Y, fp1Y⟩ := kpY.two
  obtain ⟨zqY, cq0Y, cq1Y, fq0Y, fq1Y⟩ := kqY.two
  clear cp0 cp1 fp0 fp1 hcp hcu hcv
  go_region_law ((refine step_append_lies _ (by rfl) _ _ 22 (by rfl) w.heap.size 25 i0 (.agg #[.int .i64 0, .int .i64 0, .bool false]) 3 24 Tryz.underlying22 hi hv0 hv1 hv2 (by rfl) (by decide) _ 0 _ (by rfl) (World.ownsRow_nil _ _ _ _) ⟨gu, 0, none⟩ n cu (cellsK K n) (by rfl) (cellsK_len K n) (copy_news HCu.out hqY.drew) (cellsK_one K n) hn0 (by unfold maxLen; omega) (by omega) (by simp; omega) Y.heap.size (by simp) ?_); (intro g7 cap7 w7 hown7 hgrow7 hat7 hlt7); (have kq7 : At w7 w.heap.size [.slice none 0 0, .slice none 0 0] := At.grown kqY.drew hgrow7 (fun h => by cases h)); (obtain ⟨zq7, cq07, cq17, fq07, fq17⟩ := kq7.two))
  all_goals (
    have hg7 : g7 = Y.heap.size := hat7.resolve_left (fun e => by cases e)
    have hq7 : Below w.heap.size w w7 := hqY.drew.grown hgrow7 (by simp; omega) (fun k hk => by cases hk)
    have kp7 : At w7 p [.slice (some ⟨gu, 0, none⟩) n cu, .slice (some ⟨gv, 0, none⟩) n cv] := At.grown kpY.drew hgrow7 (fun h => by cases h)
    have hs7 := hgrow7.size
    have hown7' : w7.ownsRow w.heap.size 25 3 (.slice (some ⟨g7, 0, none⟩) n cap7) n (cellsK K n) := by rw [Nat.zero_add] at hown7; exact hown7
    have hne7 : (Value.slice (some ⟨g7, 0, none⟩) n cap7).ownBlock ≠ some w.heap.size := fun e => by injection e with e; dsimp only at e; omega
    refine ethen_gen2 (fun O => At O p [.slice (some ⟨gu, 0, none⟩) n cu, .slice (some ⟨gv, 0, none⟩) n cv] ∧ At O w.heap.size [.slice (some ⟨g7, 0, none⟩) n cap7, .slice none 0 0] ∧ O.ownsRow w.heap.size 25 3 (.slice (some ⟨g7, 0, none⟩) n cap7) n (cellsK K n) ∧ Below w.heap.size w O) (by first | exact ⟨(At.set kp7 (fun e => by omega)).drew, (At.fst kq7).drew, own_drew (own_set hown7' hne7 _), (hq7.setCell (Nat.le_refl _) _).drew⟩ | exact ⟨At.set kp7 (fun e => by omega), At.fst kq7, own_set hown7' hne7 _, hq7.setCell (Nat.le_refl _) _⟩) ?_
    rintro O ⟨kpO, kqO, hownO, hqO⟩
    have hzO := hqO.size
    have hg7O : g7 < O.heap.size := (hownO.lt g7 rfl).2
    have HOO : Hid (O.ownsRow w.heap.size 25 3 (.slice (some ⟨g7, 0, none⟩) n cap7) n (cellsK K n)) := hownO
    have HG7 : Hid (w.heap.size < g7) := by unfold Hid; omega
    obtain ⟨zpO, cp0O, cp1O, fp0O, fp1O⟩ := kpO.two
    obtain ⟨zqO, cq0O, cq1O, fq0O, fq1O⟩ := kqO.two
    clear kpY kqY hqY cp0Y cp1Y fp0Y fp1Y cq0Y cq1Y fq0Y fq1Y kq7 cq07 cq17 fq07 fq17 hown7 hgrow7 hat7 hlt7 hg7 hq7 kp7 hs7 hown7' hne7 hownO
    go_wp2_with fail
    go_region_law ((refine step_append_lies _ (by rfl) _ _ 59 (by rfl) w.heap.size 4 j0 (.bool false) 1 1 Tryz.underlying59 hj hu0 hu1 hu2 (by rfl) (by decide) _ 0 _ (by rfl) (World.ownsRow_nil _ _ _ _) ⟨gv, 0, none⟩ n cv (cellsB G n) (by rfl) (by rw [cellsB_len, Nat.mul_one]) (copy_news HCv.out hqO.drew) (cellsB_one G n) hn0 (by unfold maxLen; omega) (by omega) (by simp; omega) O.heap.size (by simp) ?_); (intro g8 cap8 w8 hown8 hgrow8 hat8 hlt8); (have kq8 : At w8 w.heap.size [.slice (some ⟨g7, 0, none⟩) n cap7, .slice none 0 0] := At.grown kqO.drew hgrow8 (fun h => by cases h)); (obtain ⟨zq8, cq08, cq18, fq08, fq18⟩ := kq8.two))
    all_goals (
      have hg8 : g8 = O.heap.size := hat8.resolve_left (fun e => by cases e)
      have hq8 : Below w.heap.size w w8 := hqO.drew.grown hgrow8 (by simp; omega) (fun k hk => by cases hk)
      have hown8' : w8.ownsRow w.heap.size 4 1 (.slice (some ⟨g8, 0, none⟩) n cap8) n (cellsB G n) := by rw [Nat.zero_add] at hown8; exact hown8
      have hownP : w8.ownsRow w.heap.size 25 3 (.slice (some ⟨g7, 0, none⟩) n cap7) n (cellsK K n) := own_but (own_drew HOO.out) (grown_but hgrow8) (fun g _ e => by cases e)
      have hne7 : (Value.slice (some ⟨g7, 0, none⟩) n cap7).ownBlock ≠ some w.heap.size := fun e => by injection e with e; dsimp only at e; have := HG7.out; omega
      have hne8 : (Value.slice (some ⟨g8, 0, none⟩) n cap8).ownBlock ≠ some w.heap.size := fun e => by injection e with e; dsimp only at e; omega
      have hap : Ap2 (.slice (some ⟨g7, 0, none⟩) n cap7) (.slice (some ⟨g8, 0, none⟩) n cap8) := Or.inr (fun e => by injection e with e; dsimp only at e; omega)
      refine ethen_gen2 (fun O => BookAt 25 4 w.heap.size O w.heap.size (.slice (some ⟨g7, 0, none⟩) n cap7) (.slice (some ⟨g8, 0, none⟩) n cap8) n K G ∧ Below w.heap.size w O) (by
        first
        | exact ⟨⟨(At.snd kq8).drew, own_drew (own_set hownP hne7 _), own_drew (own_set hown8' hne8 _), Nat.le_refl _, hne7, hne8, hap⟩, (hq8.setCell (Nat.le_refl _) _).drew⟩
        | exact ⟨⟨At.snd kq8, own_set hownP hne7 _, own_set hown8' hne8 _, Nat.le_refl _, hne7, hne8, hap⟩, hq8.setCell (Nat.le_refl _) _⟩) ?_
      rintro O2 ⟨hb2, hq2⟩
      have HB2 : Hid (BookAt 25 4 w.heap.size O2 w.heap.size (.slice (some ⟨g7, 0, none⟩) n cap7) (.slice (some ⟨g8, 0, none⟩) n cap8) n K G) := hb2
      clear hb2
      go_wp2_with fail
      exact bodyPost_ret (v := .pointer (some ⟨w.heap.size, 0, none⟩)) (by simp [results, Tryz.results37, go_sem]) rfl ⟨_, rfl, ⟨_, _, HB2.out⟩, hq2⟩))
theorem rcopy (B p n : Nat) (u v : Value) (K : Nat → Nat) (G : Nat → Bool) (w : World) (hn : n ≤ 1000) (h : BookAt 25 4 B w p u v n K G) :
    Calls Tryz.prog 37 #[.pointer (some ⟨p, 0, none⟩)] w fun ex w' => ∃ q, ex = .returned (.pointer (some ⟨q, 0, none⟩)) ∧ BookOf 25 4 w.heap.size w' q n K G ∧ Below w.heap.size w w' := by
  obtain ⟨su, cu, sv, cv, rfl, rfl, hr⟩ := h.slices
  rcases hr with h0 | ⟨gu, gv, rfl, rfl, _, _⟩
  · subst h0
    exact rcopy_nil p su sv cu cv B K G w h.cells
  · by_cases h0 : n = 0
    · subst h0
      exact rcopy_nil p _ _ cu cv B K G w h.cells
    · exact rcopy_row p n gu gv cu cv B K G w hn (by omega) h.cells.1 h.cells h.coins h.flags
end Go.Proofs.YtpkkclcjiobgoajGreatDoor

/- Slices of ints, of structs of two ints and of texts, opened at every place. -/
namespace Go.Proofs.YtpkkclcjiobgoajGreatDoor
open Go.ChangeShapes Go.WideShapes Go.ChangeAt Go.RowKit Go.Joins Go.Deep Go.WideElems
set_option linter.unusedVariables false
set_option linter.unusedSimpArgs false

section
variable {H : Type} {enc : TypeId × Value → H} {P : Program} {w : World} {held : Bool}

theorem weights_in {e : TypeId} {d : DataW H} {x : Nat} : ∀ {l : List (DataW H)}, d ∈ l → x ∈ d.weights P e → x ∈ DataW.weightsAll P e l
  | [], h, _ => by cases h
  | c :: r, h, hx => by
    show x ∈ c.weights P e ++ DataW.weightsAll P e r
    rcases List.mem_cons.1 h with rfl | h
    · exact List.mem_append_left _ hx
    · exact List.mem_append_right _ (weights_in h hx)
/-- A slice has room for what it holds. -/
theorem room_slice {t e : TypeId} {sa : Option Addr} {n c : Nat} {d : DataW H} {p : List MemPlace} (ht : P.underlying t = some (.slice e))
    (h : DataW.Trod enc P w 0 (fun _ => true) held t (.slice sa n c) d p) : n ≤ c := by
  obtain ⟨fuel, hf⟩ := h
  rcases open_slice ht hf with ⟨hc, _⟩ | ⟨a, len, cap, m, k, D, Pl, hc, _, hl, hm, hmm, hx, hall⟩
  · simp [Value.cells] at hc
    obtain ⟨rfl, rfl, rfl⟩ := hc
    exact Nat.le_refl _
  · simp [Value.cells] at hc
    obtain ⟨rfl, rfl, rfl⟩ := hc
    exact hl
/-- A slice of texts: how long each one is, too. -/
theorem open_texts {r : Reach} {b0 : Nat} {t e : TypeId} {v : Value} {d : DataW H} {p : List MemPlace} (ht : P.underlying t = some (.slice e)) (he : P.underlying e = some .string) (ce : P.cellsOf e = 1)
    (hv : Value.okWide P w r b0 t v) (h : DataW.Trod enc P w 0 (fun _ => true) held t v d p) (hw : ∀ x ∈ d.weights P t, x ≤ reachBytes) :
    ∃ (sa : Option Addr) (n c : Nat), v = .slice sa n c ∧ n ≤ maxLen ∧ (n = 0 ∨ ∃ (b o : Nat) (T : Nat → ByteArray), sa = some ⟨b, o, none⟩ ∧ RowZ w b o n T ∧ ∀ i, i < n → (T i).size ≤ reachBytes) := by
  obtain ⟨sa, n, c, rfl⟩ := okWide_slice ht hv
  obtain ⟨fuel, hf⟩ := h
  rcases open_slice ht hf with ⟨hc, _⟩ | ⟨a, len, cap, m, k, D, Pl, hc, _, hl, hm, hmm, hx, hall⟩
  · simp [Value.cells] at hc
    obtain ⟨rfl, rfl, rfl⟩ := hc
    exact ⟨none, 0, 0, rfl, by decide, Or.inl rfl⟩
  · simp [Value.cells] at hc
    obtain ⟨rfl, rfl, rfl⟩ := hc
    simp only [if_true] at hmm
    subst hmm
    refine ⟨some a, n, m, rfl, by omega, ?_⟩
    rcases Nat.eq_zero_or_pos n with h0 | hn
    · exact Or.inl h0
    right
    have each : ∀ i, i < n → ∃ q : ByteArray, w.cell? (a.add i) = some (.string q) ∧ q.size ≤ reachBytes := by
      intro i hi
      obtain ⟨cs, h1, h2⟩ := hall i (by omega)
      rw [ce] at h1
      obtain ⟨_, hlen, hcell⟩ := World.cells?_some h1
      obtain ⟨s, rfl, hs, _⟩ := DataW.trod_string he h2
      have e0 := hcell 0 (by omega)
      refine ⟨s, by simpa [Addr.add, Nat.mul_one] using e0, ?_⟩
      have hd : d = .slice ((List.range n).map D) ((List.range (m - n)).map fun j => D (n + j)) := congrArg Prod.fst hx
      have hD : D i = .lit (.string s.data.toList) := congrArg Prod.fst hs
      have hmem : s.data.toList.length ∈ d.weights P t := by
        rw [hd]
        unfold DataW.weights
        rw [ht]
        refine List.mem_cons_of_mem _ (List.mem_append_left _ (weights_in (d := D i) (List.mem_map.2 ⟨i, List.mem_range.2 hi, rfl⟩) ?_))
        rw [hD]
        unfold DataW.weights
        simp
      have := hw _ hmem
      rw [Array.length_toList] at this
      exact this
    obtain ⟨q, hq⟩ := choose_lt (α := ByteArray) each
    obtain ⟨b, o, spot⟩ := a
    have hspot : spot = none := by simpa [Addr.add] using World.cell?_spot (hq 0 hn).1
    subst hspot
    refine ⟨b, o, q, rfl, ⟨?_, fun i hi => ?_⟩, fun i hi => (hq i hi).2⟩
    · have h1 := (hq 0 hn).1
      rw [Addr.add_lit] at h1; exact World.block_lt_of_cell? _ _ h1
    · have h1 := (hq i hi).1
      rwa [Addr.add_lit] at h1
/-- A slice of ints. -/
theorem open_nums {r : Reach} {b0 : Nat} {t e : TypeId} {v : Value} {d : DataW H} {p : List MemPlace} (ht : P.underlying t = some (.slice e)) (he : P.underlying e = some (.int .i64)) (ce : P.cellsOf e = 1)
    (hv : Value.okWide P w r b0 t v) (h : DataW.Trod enc P w 0 (fun _ => true) held t v d p) :
    ∃ (sa : Option Addr) (n c : Nat), v = .slice sa n c ∧ n ≤ maxLen ∧ (n = 0 ∨ ∃ (b o : Nat) (X : Nat → Int), sa = some ⟨b, o, none⟩ ∧ RowI w b o n X ∧ ∀ i, i < n → (Lit.int .i64 (X i)).wf = true) := by
  obtain ⟨sa, n, c, rfl⟩ := okWide_slice ht hv
  obtain ⟨fuel, hf⟩ := h
  rcases open_slice ht hf with ⟨hc, _⟩ | ⟨a, len, cap, m, k, D, Pl, hc, _, hl, hm, hmm, hx, hall⟩
  · simp [Value.cells] at hc
    obtain ⟨rfl, rfl, rfl⟩ := hc
    exact ⟨none, 0, 0, rfl, by decide, Or.inl rfl⟩
  · simp [Value.cells] at hc
    obtain ⟨rfl, rfl, rfl⟩ := hc
    simp only [if_true] at hmm
    subst hmm
    refine ⟨some a, n, m, rfl, by omega, ?_⟩
    rcases Nat.eq_zero_or_pos n with h0 | hn
    · exact Or.inl h0
    right
    have each : ∀ i, i < n → ∃ q : Int, w.cell? (a.add i) = some (.int .i64 q) ∧ (Lit.int .i64 q).wf = true := by
      intro i hi
      obtain ⟨cs, h1, h2⟩ := hall i (by omega)
      rw [ce] at h1
      obtain ⟨_, hlen, hcell⟩ := World.cells?_some h1
      obtain ⟨s, rfl, hs, ws⟩ := DataW.trod_int he h2
      have e0 := hcell 0 (by omega)
      exact ⟨s, by simpa [Addr.add, Nat.mul_one] using e0, ws⟩
    obtain ⟨q, hq⟩ := choose_lt (α := Int) each
    obtain ⟨b, o, spot⟩ := a
    have hspot : spot = none := by simpa [Addr.add] using World.cell?_spot (hq 0 hn).1
    subst hspot
    refine ⟨b, o, q, rfl, ⟨?_, fun i hi => ?_⟩, fun i hi => (hq i hi).2⟩
    · have h1 := (hq 0 hn).1
      rw [Addr.add_lit] at h1; exact World.block_lt_of_cell? _ _ h1
    · have h1 := (hq i hi).1
      rwa [Addr.add_lit] at h1
end
end Go.Proofs.YtpkkclcjiobgoajGreatDoor

/- A struct of an int and a slice of ints, opened. -/
namespace Go.Proofs.YtpkkclcjiobgoajGreatDoor
open Go.ChangeShapes Go.WideShapes Go.ChangeAt Go.RowKit Go.Joins Go.Deep Go.WideElems
set_option linter.unusedVariables false
set_option linter.unusedSimpArgs false

section
variable {H : Type} {enc : TypeId × Value → H} {P : Program} {w : World} {held : Bool}

/-- Cells that hold a slice of ints. -/
theorem cells_nums {t e : TypeId} {fuel : Nat} {cs : List Value} {x : DataW H × List MemPlace} (ht : P.underlying t = some (.slice e)) (he : P.underlying e = some (.int .i64)) (ce : P.cellsOf e = 1)
    (hf : DataW.trod enc P w 0 (fun _ => true) held fuel t cs = some x) :
    ∃ (sa : Option Addr) (n c : Nat), cs = [.slice sa n c] ∧ n ≤ maxLen ∧ n ≤ c ∧ (n = 0 ∨ ∃ (b o : Nat) (X : Nat → Int), sa = some ⟨b, o, none⟩ ∧ RowI w b o n X ∧ ∀ i, i < n → (Lit.int .i64 (X i)).wf = true) := by
  rcases open_slice ht hf with ⟨hc, _⟩ | ⟨a, n, cap, m, k, D, Pl, hc, _, hl, hm, hmm, hx, hall⟩
  · exact ⟨none, 0, 0, hc, by decide, Nat.le_refl _, Or.inl rfl⟩
  · simp only [if_true] at hmm
    subst hmm
    refine ⟨some a, n, m, hc, by omega, hl, ?_⟩
    rcases Nat.eq_zero_or_pos n with h0 | hn
    · exact Or.inl h0
    right
    have each : ∀ i, i < n → ∃ q : Int, w.cell? (a.add i) = some (.int .i64 q) ∧ (Lit.int .i64 q).wf = true := by
      intro i hi
      obtain ⟨cs, h1, h2⟩ := hall i (by omega)
      rw [ce] at h1
      obtain ⟨_, hlen, hcell⟩ := World.cells?_some h1
      obtain ⟨s, rfl, hs, ws⟩ := DataW.trod_int he h2
      have e0 := hcell 0 (by omega)
      exact ⟨s, by simpa [Addr.add, Nat.mul_one] using e0, ws⟩
    obtain ⟨q, hq⟩ := choose_lt (α := Int) each
    obtain ⟨b, o, spot⟩ := a
    have hspot : spot = none := by simpa [Addr.add] using World.cell?_spot (hq 0 hn).1
    subst hspot
    refine ⟨b, o, q, rfl, ⟨?_, fun i hi => ?_⟩, fun i hi => (hq i hi).2⟩
    · have h1 := (hq 0 hn).1
      rw [Addr.add_lit] at h1; exact World.block_lt_of_cell? _ _ h1
    · have h1 := (hq i hi).1
      rwa [Addr.add_lit] at h1
end
end Go.Proofs.YtpkkclcjiobgoajGreatDoor

/- A slice of deals (two slices and a seal each), opened at every place. -/
namespace Go.Proofs.YtpkkclcjiobgoajGreatDoor
open Go.ChangeShapes Go.WideShapes Go.ChangeAt Go.RowKit Go.Joins Go.Deep Go.WideElems
set_option linter.unusedVariables false
set_option linter.unusedSimpArgs false

/-- A deal, as it lies: those that go, those that come, and the seal. -/
structure DealV where
  sz : Option Addr
  m : Nat
  dz : Nat
  sl : Option Addr
  c : Nat
  d : Nat
  rx : Int
  ry : Int
  rf : Bool
  s : Int
/-- What is known of a deal that came in. -/
structure DealOk (w : World) (D : DealV) : Prop where
  lm : D.m ≤ maxLen
  km : D.m ≤ D.dz
  um : D.m = 0 ∨ ∃ (b o : Nat) (Z : Nat → Int), D.sz = some ⟨b, o, none⟩ ∧ RowI w b o D.m Z ∧ ∀ i, i < D.m → (Lit.int .i64 (Z i)).wf = true
  lc : D.c ≤ maxLen
  kc : D.c ≤ D.d
  nc : D.sl = none → D.d = 0
  uc : D.c = 0 ∨ ∃ (b o : Nat) (X Y : Nat → Int) (F : Nat → Bool), D.sl = some ⟨b, o, none⟩ ∧ RowO w b o D.c X Y F
  wx : (Lit.int .i64 D.rx).wf = true
  wy : (Lit.int .i64 D.ry).wf = true
  ws : (Lit.int .i64 D.s).wf = true
/-- Its cells. -/
def DealV.cells (D : DealV) : List Value := [.slice D.sz D.m D.dz, .slice D.sl D.c D.d, .int .i64 D.rx, .int .i64 D.ry, .bool D.rf, .int .i64 D.s]
/-- In block b, from o on, lie so many deals in a row. -/
def RowD (w : World) (b o n : Nat) (D : Nat → DealV) : Prop :=
  b < w.heap.size ∧ ∀ i, i < n → (∀ j, j < 6 → w.cell? ⟨b, o + i * 6 + j, none⟩ = (D i).cells[j]?) ∧ DealOk w (D i)

section
variable {H : Type} {enc : TypeId × Value → H} {P : Program} {w : World} {held : Bool}
/-- A slice without a place has no room. -/
theorem nil_slice {t e : TypeId} {sa : Option Addr} {n c : Nat} {d : DataW H} {p : List MemPlace} (ht : P.underlying t = some (.slice e))
    (h : DataW.Trod enc P w 0 (fun _ => true) held t (.slice sa n c) d p) : sa = none → c = 0 := by
  obtain ⟨fuel, hf⟩ := h
  rcases open_slice ht hf with ⟨hc, _⟩ | ⟨a, len, cap, m, k, D, Pl, hc, _⟩
  · simp [Value.cells] at hc
    obtain ⟨rfl, rfl, rfl⟩ := hc
    exact fun _ => rfl
  · simp [Value.cells] at hc
    obtain ⟨rfl, rfl, rfl⟩ := hc
    intro e; cases e
/-- Cells that hold a slice of spots. -/
theorem cells_spots {t e : TypeId} {f0 f1 f2 : Field} {fuel : Nat} {cs : List Value} {x : DataW H × List MemPlace} (ht : P.underlying t = some (.slice e)) (he : P.underlying e = some (.struct #[f0, f1, f2])) (ce : P.cellsOf e = 3)
    (o0 : f0.offset = 0) (o1 : f1.offset = 1) (o2 : f2.offset = 2) (c0 : P.cellsOf f0.type = 1) (c1 : P.cellsOf f1.type = 1) (c2 : P.cellsOf f2.type = 1)
    (u0 : P.underlying f0.type = some (.int .i64)) (u1 : P.underlying f1.type = some (.int .i64)) (u2 : P.underlying f2.type = some .bool)
    (hf : DataW.trod enc P w 0 (fun _ => true) held fuel t cs = some x) :
    ∃ (sa : Option Addr) (n c : Nat), cs = [.slice sa n c] ∧ n ≤ maxLen ∧ n ≤ c ∧ (sa = none → c = 0) ∧ (n = 0 ∨ ∃ (b o : Nat) (X Y : Nat → Int) (F : Nat → Bool), sa = some ⟨b, o, none⟩ ∧ RowO w b o n X Y F) := by
  rcases open_slice ht hf with ⟨hc, _⟩ | ⟨a, n, cap, m, k, D, Pl, hc, _, hl, hm, hmm, hx, hall⟩
  · exact ⟨none, 0, 0, hc, by decide, Nat.le_refl _, fun _ => rfl, Or.inl rfl⟩
  · simp only [if_true] at hmm
    subst hmm
    refine ⟨some a, n, m, hc, by omega, hl, (fun e => by cases e), ?_⟩
    rcases Nat.eq_zero_or_pos n with h0 | hn
    · exact Or.inl h0
    right
    have each : ∀ i, i < n → ∃ q : Int × Int × Bool, w.cell? (a.add (i * 3)) = some (.int .i64 q.1) ∧ w.cell? (a.add (i * 3 + 1)) = some (.int .i64 q.2.1) ∧ w.cell? (a.add (i * 3 + 2)) = some (.bool q.2.2) := by
      intro i hi
      obtain ⟨cs, h1, h2⟩ := hall i (by omega)
      rw [ce] at h1
      obtain ⟨v0, v1, v2, rfl, g0, g1, g2⟩ := cells_three h1
      rw [add_add] at g1 g2
      obtain ⟨xs, k', hk, _, _, hxl, hfd⟩ := DataW.trod_struct he h2
      match xs, hxl with
      | [y0, y1, y2], _ =>
        have q0 := hfd 0 f0 rfl
        have q1 := hfd 1 f1 rfl
        have q2 := hfd 2 f2 rfl
        simp [o0, o1, o2, c0, c1, c2] at q0 q1 q2
        obtain ⟨x, e0, _, _⟩ := DataW.trod_int u0 q0
        obtain ⟨y, e1, _, _⟩ := DataW.trod_int u1 q1
        obtain ⟨z, e2, _⟩ := DataW.trod_bool u2 q2
        simp at e0 e1 e2
        subst e0 e1 e2
        exact ⟨(x, y, z), g0, g1, g2⟩
    obtain ⟨q, hq⟩ := choose_lt (α := Int × Int × Bool) each
    obtain ⟨b, o, spot⟩ := a
    have hspot : spot = none := by simpa [Addr.add] using World.cell?_spot (hq 0 hn).1
    subst hspot
    refine ⟨b, o, fun i => (q i).1, fun i => (q i).2.1, fun i => (q i).2.2, rfl, ?_, fun i hi => ?_⟩
    · have h1 := (hq 0 hn).1
      rw [Addr.add_lit] at h1; exact World.block_lt_of_cell? _ _ h1
    · obtain ⟨h1, h2, h3⟩ := hq i hi
      simp only [Addr.add_lit] at h1 h2 h3
      exact ⟨h1, by rw [Nat.add_assoc]; exact h2, by rw [Nat.add_assoc]; exact h3⟩
/-- Cells of a deal. -/
theorem cells_deal {t g sp : TypeId} {d0 d1 d2 f0 f1 f2 s0 s1 : Field} {fuel : Nat} {cs : List Value} {x : DataW H × List MemPlace} (hlen : cs.length = 6)
    (hs : P.underlying t = some (.struct #[d0, d1, d2])) (q0 : d0.offset = 0) (q1 : d1.offset = 1) (q2 : d2.offset = 2) (r0 : P.cellsOf d0.type = 1) (r1 : P.cellsOf d1.type = 1) (r2 : P.cellsOf d2.type = 4)
    (hz : P.underlying d0.type = some (.slice g)) (hg : P.underlying g = some (.int .i64)) (cg : P.cellsOf g = 1)
    (hl : P.underlying d1.type = some (.slice sp)) (he : P.underlying sp = some (.struct #[f0, f1, f2])) (ce : P.cellsOf sp = 3)
    (o0 : f0.offset = 0) (o1 : f1.offset = 1) (o2 : f2.offset = 2) (c0 : P.cellsOf f0.type = 1) (c1 : P.cellsOf f1.type = 1) (c2 : P.cellsOf f2.type = 1)
    (u0 : P.underlying f0.type = some (.int .i64)) (u1 : P.underlying f1.type = some (.int .i64)) (u2 : P.underlying f2.type = some .bool)
    (hS : P.underlying d2.type = some (.struct #[s0, s1])) (t0 : s0.offset = 0) (t1 : s1.offset = 3) (k0 : P.cellsOf s0.type = 3) (k1 : P.cellsOf s1.type = 1) (hR : P.underlying s0.type = some (.struct #[f0, f1, f2])) (u3 : P.underlying s1.type = some (.int .i64))
    (hf : DataW.trod enc P w 0 (fun _ => true) held fuel t cs = some x) : ∃ D : DealV, cs = D.cells ∧ DealOk w D := by
  match cs, hlen with
  | [v0, v1, v2, v3, v4, v5], _ =>
    obtain ⟨y0, y1, y2, n, _, _, h0, h1, h2⟩ := trod_struct3 hs hf
    simp [q0, q1, q2, r0, r1, r2] at h0 h1 h2
    obtain ⟨sz, m, dz, e0, a1, a2, a3⟩ := cells_nums hz hg cg h0
    obtain ⟨sl, c, d, e1, b1, b2, b3, b4⟩ := cells_spots hl he ce o0 o1 o2 c0 c1 c2 u0 u1 u2 h1
    obtain ⟨z0, z1, n2, _, _, h3, h4⟩ := trod_struct2 hS h2
    simp [t0, t1, k0, k1] at h3 h4
    obtain ⟨p0, p1, p2, n3, _, _, g0, g1, g2⟩ := trod_struct3 hR h3
    simp [o0, o1, o2, c0, c1, c2] at g0 g1 g2
    obtain ⟨rx, i0, _, wx⟩ := DataW.trod_int u0 g0
    obtain ⟨ry, i1, _, wy⟩ := DataW.trod_int u1 g1
    obtain ⟨rf, i2, _⟩ := DataW.trod_bool u2 g2
    obtain ⟨s, i3, _, ws⟩ := DataW.trod_int u3 h4
    simp at e0 e1 i0 i1 i2 i3
    subst e0 e1 i0 i1 i2 i3
    exact ⟨⟨sz, m, dz, sl, c, d, rx, ry, rf, s⟩, rfl, ⟨a1, a2, a3, b1, b2, b3, b4, wx, wy, ws⟩⟩
/-- A slice of deals. -/
theorem open_deals {r : Reach} {b0 : Nat} {t e g sp : TypeId} {d0 d1 d2 f0 f1 f2 s0 s1 : Field} {v : Value} {d : DataW H} {p : List MemPlace} (ht : P.underlying t = some (.slice e)) (cE : P.cellsOf e = 6)
    (hs : P.underlying e = some (.struct #[d0, d1, d2])) (q0 : d0.offset = 0) (q1 : d1.offset = 1) (q2 : d2.offset = 2) (r0 : P.cellsOf d0.type = 1) (r1 : P.cellsOf d1.type = 1) (r2 : P.cellsOf d2.type = 4)
    (hz : P.underlying d0.type = some (.slice g)) (hg : P.underlying g = some (.int .i64)) (cg : P.cellsOf g = 1)
    (hl : P.underlying d1.type = some (.slice sp)) (he : P.underlying sp = some (.struct #[f0, f1, f2])) (ce : P.cellsOf sp = 3)
    (o0 : f0.offset = 0) (o1 : f1.offset = 1) (o2 : f2.offset = 2) (c0 : P.cellsOf f0.type = 1) (c1 : P.cellsOf f1.type = 1) (c2 : P.cellsOf f2.type = 1)
    (u0 : P.underlying f0.type = some (.int .i64)) (u1 : P.underlying f1.type = some (.int .i64)) (u2 : P.underlying f2.type = some .bool)
    (hS : P.underlying d2.type = some (.struct #[s0, s1])) (t0 : s0.offset = 0) (t1 : s1.offset = 3) (k0 : P.cellsOf s0.type = 3) (k1 : P.cellsOf s1.type = 1) (hR : P.underlying s0.type = some (.struct #[f0, f1, f2])) (u3 : P.underlying s1.type = some (.int .i64))
    (hv : Value.okWide P w r b0 t v) (h : DataW.Trod enc P w 0 (fun _ => true) held t v d p) :
    ∃ (sa : Option Addr) (n c : Nat), v = .slice sa n c ∧ n ≤ maxLen ∧ (n = 0 ∨ ∃ (b o : Nat) (D : Nat → DealV), sa = some ⟨b, o, none⟩ ∧ RowD w b o n D) := by
  obtain ⟨sa, n, c, rfl⟩ := okWide_slice ht hv
  obtain ⟨fuel, hf⟩ := h
  rcases open_slice ht hf with ⟨hc, _⟩ | ⟨a, len, cap, m, k, D, Pl, hc, _, hl2, hm, hmm, hx, hall⟩
  · simp [Value.cells] at hc
    obtain ⟨rfl, rfl, rfl⟩ := hc
    exact ⟨none, 0, 0, rfl, by decide, Or.inl rfl⟩
  · simp [Value.cells] at hc
    obtain ⟨rfl, rfl, rfl⟩ := hc
    simp only [if_true] at hmm
    subst hmm
    refine ⟨some a, n, m, rfl, by omega, ?_⟩
    rcases Nat.eq_zero_or_pos n with h0 | hn
    · exact Or.inl h0
    right
    have each : ∀ i, i < n → ∃ q : DealV, (∀ j, j < 6 → w.cell? (a.add (i * 6 + j)) = q.cells[j]?) ∧ DealOk w q := by
      intro i hi
      obtain ⟨cs, h1, h2⟩ := hall i (by omega)
      rw [cE] at h1
      obtain ⟨_, hlen, hcell⟩ := World.cells?_some h1
      obtain ⟨q, rfl, hq⟩ := cells_deal hlen hs q0 q1 q2 r0 r1 r2 hz hg cg hl he ce o0 o1 o2 c0 c1 c2 u0 u1 u2 hS t0 t1 k0 k1 hR u3 h2
      refine ⟨q, fun j hj => ?_, hq⟩
      have := hcell j (by omega)
      rw [add_add] at this
      exact this
    haveI : Inhabited DealV := ⟨⟨none, 0, 0, none, 0, 0, 0, 0, false, 0⟩⟩
    obtain ⟨q, hq⟩ := choose_lt (α := DealV) each
    obtain ⟨b, o, spot⟩ := a
    have hspot : spot = none := by simpa [Addr.add] using World.cell?_spot ((hq 0 hn).1 0 (by omega))
    subst hspot
    refine ⟨b, o, q, rfl, ?_, fun i hi => ⟨fun j hj => ?_, (hq i hi).2⟩⟩
    · have h1 := (hq 0 hn).1 0 (by omega)
      rw [Addr.add_lit] at h1
      exact World.block_lt_of_cell? _ _ h1
    · have h1 := (hq i hi).1 j hj
      rw [Addr.add_lit] at h1
      rw [Nat.add_assoc]; exact h1
end
end Go.Proofs.YtpkkclcjiobgoajGreatDoor

/- One deal, of the plain reckoning's book and of package book's, side by side: both answer alike, and leave books alike. -/
namespace Go.Proofs.YtpkkclcjiobgoajGreatDoor
open Go.RowKit Go.Sort
set_option linter.unusedVariables false
set_option linter.unusedSimpArgs false
/-- What both books are, side by side, in a memory; w: where the law began. -/
structure Side (PB : World → Value → (Nat → Prop) → Nat → (Nat → Nat) → (Nat → Bool) → Prop) (w W : World) (vb : Value) (Q : Nat → Prop) (p B : Nat) (u v : Value) (n : Nat) (K : Nat → Nat) (G : Nat → Bool) : Prop where
  one : PB W vb Q n K G
  two : BookAt 25 4 B W p u v n K G
  le : n ≤ 1000
  q : ∀ i, Q i → w.heap.size ≤ i
  b : w.heap.size ≤ B
  ap : ∀ i, Q i → ¬ ft p u v i
def Sides (PB : World → Value → (Nat → Prop) → Nat → (Nat → Nat) → (Nat → Bool) → Prop) (w W : World) (vb : Value) (p : Nat) : Prop := ∃ Q B u v n K G, Side PB w W vb Q p B u v n K G
end Go.Proofs.YtpkkclcjiobgoajGreatDoor

/- stonesame.Ints, Shares, Spots of two lists that hold the same. -/
namespace Go.Proofs.YtpkkclcjiobgoajGreatDoor
open Go.RowKit Go.Sort
set_option linter.unusedVariables false
set_option linter.unusedSimpArgs false
set_option maxRecDepth 100000 in
set_option maxHeartbeats 2000000 in
theorem sints_nil (sa sb : Option Addr) (c d : Nat) (w : World) : Calls Tryz.prog 22 #[.slice sa 0 c, .slice sb 0 d] w fun e w' => e = .returned (.bool true) ∧ Below w.heap.size w w' := by
  go_enter Tryz.func22, Tryz.ntmps22
  go_wp2_with fail
  go_loopw [5] (fun ti wl => ti = .int .i64 0 ∧ Below w.heap.size w wl) (fun _ _ => 0)
  case atStart => exact ⟨rfl, by repeat (first | (with_reducible first | exact Below.refl _ _ | assumption | refine Below.setCell ?_ (by first | simp <;> omega | omega) _ | refine Below.alloc ?_ (by first | simp <;> omega | omega) _) | refine bl_call ?_ (by assumption) (by first | simp <;> omega | omega) | (with_reducible first | refine bl_drewN ?_ | refine Below.drew ?_ | refine bl_grow ?_ (by first | simp <;> omega | omega)))⟩
  case round =>
    obtain ⟨rfl, hqV⟩ := hrel
    go_wp2_with fail
    go_ret
    exact ⟨rfl, by repeat (first | (with_reducible first | exact Below.refl _ _ | assumption | refine Below.setCell ?_ (by first | simp <;> omega | omega) _ | refine Below.alloc ?_ (by first | simp <;> omega | omega) _) | refine bl_call ?_ (by assumption) (by first | simp <;> omega | omega) | (with_reducible first | refine bl_drewN ?_ | refine Below.drew ?_ | refine bl_grow ?_ (by first | simp <;> omega | omega)))⟩
set_option maxRecDepth 100000 in
set_option maxHeartbeats 2000000 in
theorem sints_row (b o b' o' n c c' : Nat) (X : Nat → Int) (w : World) (hn : n ≤ 1000000) (hr : RowI w b o n X) (hr' : RowI w b' o' n X) :
    Calls Tryz.prog 22 #[.slice (some ⟨b, o, none⟩) n c, .slice (some ⟨b', o', none⟩) n c'] w fun e w' => e = .returned (.bool true) ∧ Below w.heap.size w w' := by
  have HR : Hid (RowI w b o n X) := hr
  have HR' : Hid (RowI w b' o' n X) := hr'
  have hb := hr.1
  have hb' := hr'.1
  clear hr hr'
  go_enter Tryz.func22, Tryz.ntmps22
  go_wp2_with fail
  go_loopw [5] (fun ti wl => ∃ k : Nat, k ≤ n ∧ ti = .int .i64 k ∧ Below w.heap.size w wl) (fun ti _ => n - (intOf ti).toNat)
  case atStart => exact ⟨0, by omega, rfl, by repeat (first | (with_reducible first | exact Below.refl _ _ | assumption | refine Below.setCell ?_ (by first | simp <;> omega | omega) _ | refine Below.alloc ?_ (by first | simp <;> omega | omega) _) | refine bl_call ?_ (by assumption) (by first | simp <;> omega | omega) | (with_reducible first | refine bl_drewN ?_ | refine Below.drew ?_ | refine bl_grow ?_ (by first | simp <;> omega | omega)))⟩
  case round =>
    obtain ⟨k, hk, rfl, hqV⟩ := hrel
    have hzV := hqV.size
    by_cases hlt : k < n
    · have hlt' : (k : Int) < n := by omega
      have hbV := Nat.lt_of_lt_of_le hb hzV
      have hbV' := Nat.lt_of_lt_of_le hb' hzV
      have c0 := (HR.out.below hb hqV).2 k hlt
      have d0 := (HR'.out.below hb' hqV).2 k hlt
      go_wp2_with fail
      go_quiet (fail)
      go_wp2_with fail
      go_roundw
      case rel => exact ⟨k + 1, by omega, by simp, by repeat (first | (with_reducible first | exact Below.refl _ _ | assumption | refine Below.setCell ?_ (by first | simp <;> omega | omega) _ | refine Below.alloc ?_ (by first | simp <;> omega | omega) _) | refine bl_call ?_ (by assumption) (by first | simp <;> omega | omega) | (with_reducible first | refine bl_drewN ?_ | refine Below.drew ?_ | refine bl_grow ?_ (by first | simp <;> omega | omega)))⟩
      case measure => simp [intOf]; omega
    · have hlt' : ¬ (k : Int) < n := by omega
      go_wp2_with fail
      go_ret
      exact ⟨rfl, by repeat (first | (with_reducible first | exact Below.refl _ _ | assumption | refine Below.setCell ?_ (by first | simp <;> omega | omega) _ | refine Below.alloc ?_ (by first | simp <;> omega | omega) _) | refine bl_call ?_ (by assumption) (by first | simp <;> omega | omega) | (with_reducible first | refine bl_drewN ?_ | refine Below.drew ?_ | refine bl_grow ?_ (by first | simp <;> omega | omega)))⟩
end Go.Proofs.YtpkkclcjiobgoajGreatDoor

/- Both books behind a deal; rows that both tell. -/
namespace Go.Proofs.YtpkkclcjiobgoajGreatDoor
open Go.RowKit Go.Sort
set_option linter.unusedVariables false
set_option linter.unusedSimpArgs false
theorem Side.below {PB : World → Value → (Nat → Prop) → Nat → (Nat → Nat) → (Nat → Bool) → Prop} (ho : PBok PB) {w V W : World} {vb : Value} {Q : Nat → Prop} {p B : Nat} {u v : Value} {n : Nat} {K : Nat → Nat} {G : Nat → Bool} (h : Side PB w V vb Q p B u v n K G) (hb : Below V.heap.size V W) : Side PB w W vb Q p B u v n K G :=
  ⟨ho.stay h.one (But.of_below (fun _ => False) hb) fun _ _ e => e, h.two.below hb, h.le, h.q, h.b, h.ap⟩
theorem lvC_cells (G : Nat → Bool) (n : Nat) : lvC G n = cellsI (fun i => (((lvL G n).getD i 0 : Nat) : Int)) (lvL G n).length := by
  unfold lvC cellsI
  refine List.ext_getElem? fun i => ?_
  by_cases h : i < (lvL G n).length
  · simp [h, List.getD_eq_getElem?_getD]
  · simp [h]
theorem ints_own {W : World} {B1 B2 : Nat} {q1 q2 : Value} {G : Nat → Bool} {n : Nat} (hn : n ≤ 1000) (h1 : W.ownsRow B1 3 1 q1 (lvL G n).length (lvC G n)) (h2 : W.ownsRow B2 3 1 q2 (lvL G n).length (lvC G n)) : Calls Tryz.prog 22 #[q1, q2] W fun e w' => e = .returned (.bool true) ∧ Below W.heap.size W w' := by
  rw [lvC_cells] at h1 h2
  have hl := lvL_len G n
  generalize (lvL G n).length = N at h1 h2 hl
  obtain ⟨s1, c1, rfl, r1⟩ := own_ints h1
  obtain ⟨s2, c2, rfl, r2⟩ := own_ints h2
  rcases r1 with h | ⟨g1, rfl, _, _, r1⟩
  · subst h; exact sints_nil s1 s2 c1 c2 W
  · rcases r2 with h | ⟨g2, rfl, _, _, r2⟩
    · subst h; exact sints_nil _ s2 c1 c2 W
    · exact sints_row g1 0 g2 0 N c1 c2 _ W (by omega) r1 r2
end Go.Proofs.YtpkkclcjiobgoajGreatDoor

/- A thing's state in a memory, apart from two blocks of the law's own; what a method leaves of them. Of whatever program. -/
namespace Go.Proofs.YtpkkclcjiobgoajGreatDoor
open Go.RowKit Go.Sort
set_option linter.unusedVariables false
set_option linter.unusedSimpArgs false
/-- A thing's state in a memory, apart from two blocks. -/
def OnJ (S : World → Value → (Nat → Prop) → Prop) (W : World) (v : Value) (A bz bd : Nat) : Prop := ∃ Q, S W v Q ∧ (∀ j, Q j → A ≤ j ∧ j < W.heap.size) ∧ ¬ Q bz ∧ ¬ Q bd ∧ A ≤ W.heap.size ∧ bz < W.heap.size ∧ bd < W.heap.size
/-- These two blocks, and what is below, are as they were. -/
structure Keep (A bz bd : Nat) (W w' : World) : Prop where
  os : w'.os = W.os
  tape : w'.tape = W.tape
  output : w'.output = W.output
  size : W.heap.size ≤ w'.heap.size
  low : ∀ k, k < A → w'.heap[k]? = W.heap[k]?
  z : w'.heap[bz]? = W.heap[bz]?
  d : w'.heap[bd]? = W.heap[bd]?
theorem Keep.below {A bz bd : Nat} {w W w' : World} (h : Keep A bz bd W w') (k : Below A w W) : Below A w w' := k.trans ⟨h.os, h.tape, h.output, h.size, h.low⟩
theorem at_same {W w' : World} {b : Nat} {vs : List Value} (k : At W b vs) (h : w'.heap[b]? = W.heap[b]?) (hs : W.heap.size ≤ w'.heap.size) : At w' b vs :=
  ⟨Nat.lt_of_lt_of_le k.1 hs, fun i hi => (World.cell?_of_block (a := ⟨b, i, none⟩) h).trans (k.2.1 i hi), fun i hi => (World.frozen?_of_block (a := ⟨b, i, none⟩) h).trans (k.2.2 i hi)⟩
theorem Keep.atz {A bz bd : Nat} {W w' : World} {vs : List Value} (h : Keep A bz bd W w') (k : At W bz vs) : At w' bz vs := at_same k h.z h.size
end Go.Proofs.YtpkkclcjiobgoajGreatDoor

/- Methods of a log beside two blocks of the law's own. -/
namespace Go.Proofs.YtpkkclcjiobgoajGreatDoor
open Go.RowKit Go.Sort
set_option linter.unusedVariables false
set_option linter.unusedSimpArgs false
section
variable (PL : World → Value → (Nat → Prop) → LogS → Prop)
theorem onj_done {S' : World → Value → (Nat → Prop) → Prop} {W w' : World} {v : Value} {Q : Nat → Prop} {A bz bd : Nat} {s' : LogS} (hO : PLok PL) (hA : ∀ j, Q j → A ≤ j ∧ j < W.heap.size) (n1 : ¬ Q bz) (n2 : ¬ Q bd) (hw : A ≤ W.heap.size) (l1 : bz < W.heap.size) (l2 : bd < W.heap.size) (h : PLdone PL W w' v Q s') (hS : ∀ Q', PL w' v Q' s' → S' w' v Q') : OnJ S' w' v A bz bd ∧ Keep A bz bd W w' := by
  obtain ⟨hb, Q', hp, hq⟩ := h
  have hs := hb.size
  refine ⟨⟨Q', hS Q' hp, fun j hj => ⟨?_, hO.lt hp j hj⟩, ?_, ?_, by omega, by omega, by omega⟩, hb.os, hb.tape, hb.output, hs, fun k hk => hb.block k (by omega) (fun e => by have := hA k e; omega), hb.block bz l1 n1, hb.block bd l2 n2⟩
  · rcases hq j hj with e | e
    · exact (hA j e).1
    · omega
  · intro e
    rcases hq _ e with e | e
    · exact n1 e
    · omega
  · intro e
    rcases hq _ e with e | e
    · exact n2 e
    · omega
theorem onj_read {S : World → Value → (Nat → Prop) → Prop} {W w' : World} {v : Value} {A bz bd : Nat} (hst : ∀ Q, S W v Q → S w' v Q) (h : OnJ S W v A bz bd) (hb : Below W.heap.size W w') : OnJ S w' v A bz bd ∧ Keep A bz bd W w' := by
  obtain ⟨Q, hp, hA, n1, n2, hw, l1, l2⟩ := h
  have hs := hb.size
  exact ⟨⟨Q, hst Q hp, fun j hj => ⟨(hA j hj).1, by have := (hA j hj).2; omega⟩, n1, n2, by omega, by omega, by omega⟩, hb.os, hb.tape, hb.output, hs, fun k hk => hb.block k (by omega), hb.block bz l1, hb.block bd l2⟩
theorem pl_up (hO : PLok PL) {W W' : World} {v : Value} {Q : Nat → Prop} {s : LogS} (h : PL W v Q s) (hb : Below W.heap.size W W') : PL W' v Q s := hO.stay h (But.of_below (fun _ => False) hb) fun _ _ e => e
theorem lwf {v : Int} (h0 : 0 ≤ v) (h1 : v < 10000) : (Lit.int .i64 v).wf = true := by
  show (decide (_ ≤ v) && decide (v ≤ _)) = true
  rw [Bool.and_eq_true, decide_eq_true_eq, decide_eq_true_eq]
  exact ⟨Int.le_trans (by decide) h0, Int.le_trans (Int.le_of_lt h1) (by decide)⟩
theorem t_wf {T : Sn} (h : okS T = true) : (Lit.int .i64 (T.1 : Int)).wf = true ∧ (Lit.int .i64 (T.2.1 : Int)).wf = true := by
  obtain ⟨h1, h2⟩ := ok_small h
  exact ⟨lwf (by omega) (by omega), lwf (by omega) (by omega)⟩
theorem tz_wf {T : Sn} {z : Nat} (hT : T = tM (4 * clR 1)) (hz : z = clS 0 1 0) : (Lit.int .i64 (T.1 : Int)).wf = true ∧ (Lit.int .i64 (T.2.1 : Int)).wf = true ∧ (Lit.int .i64 (z : Int)).wf = true := by
  have h1 := tM_ok (4 * clR 1)
  rw [← hT] at h1
  have h2 := clS_lt 0 1 0
  rw [← hz] at h2
  exact ⟨(t_wf h1).1, (t_wf h1).2, lwf (by omega) (by omega)⟩
end
end Go.Proofs.YtpkkclcjiobgoajGreatDoor

/- The law LogKeeps' own state: a log, the books of its records, and marks; what one deal does to it. -/
namespace Go.Proofs.YtpkkclcjiobgoajGreatDoor
open Go.RowKit Go.Sort
set_option linter.unusedVariables false
set_option linter.unusedSimpArgs false
theorem PLok.mem {PL : World → Value → (Nat → Prop) → LogS → Prop} (h : PLok PL) : PLmem PL := ⟨fun a b c => h.lt a b c, fun a b c => h.stay a b c⟩
/-- The state between two deals. -/
def LKp (PL : World → Value → (Nat → Prop) → LogS → Prop) (A : Nat) (W : World) (vj vd vm : Value) (m : Nat) (b : Bool) : Prop := ∃ Q s P U V, LK PL 25 4 44 3 A W vj vd vm Q s s.r s.r s.n s.K s.G s.M P U V ∧ s.r ≤ m ∧ (b = true → s.stop = false)
theorem LKp.below {PL : World → Value → (Nat → Prop) → LogS → Prop} (hO : PLok PL) {A : Nat} {W W' : World} {vj vd vm : Value} {m : Nat} {b : Bool} (h : LKp PL A W vj vd vm m b) (k : Below W.heap.size W W') : LKp PL A W' vj vd vm m b := by
  obtain ⟨Q, s, P, U, V, h1, h2, h3⟩ := h
  exact ⟨Q, s, P, U, V, h1.below hO.mem k, h2, h3⟩
/-- Nothing but steps, bytes and what is safe has changed. -/
def SameR (s s' : LogS) : Prop := s'.r = s.r ∧ s'.n = s.n ∧ s'.K = s.K ∧ s'.G = s.G ∧ s'.M = s.M
section
variable {PL : World → Value → (Nat → Prop) → LogS → Prop} {A : Nat} {W W' : World} {vj vd vm : Value} {Q : Nat → Prop} {s s' : LogS} {P : Nat → Nat} {U V : Nat → Value}
theorem lk_same (hO : PLok PL) (h : LK PL 25 4 44 3 A W vj vd vm Q s s.r s.r s.n s.K s.G s.M P U V) (hA : A ≤ W.heap.size) (hd : PLdone PL W W' vj Q s') (hs : SameR s s') : ∃ Q', LK PL 25 4 44 3 A W' vj vd vm Q' s' s'.r s'.r s'.n s'.K s'.G s'.M P U V := by
  obtain ⟨hb, Q', hp, hq⟩ := hd
  obtain ⟨e1, e2, e3, e4, e5⟩ := hs
  have := h.step hO.mem hA hb hp hq
  rw [e1, e2, e3, e4, e5]
  exact ⟨Q', this⟩
theorem lk_under {w : World} (hq : Below A w W) (h : LK PL 25 4 44 3 A W vj vd vm Q s s.r s.r s.n s.K s.G s.M P U V) (hA : A ≤ W.heap.size) (hd : PLdone PL W W' vj Q s') : Below A w W' := But.under hq hd.1 (fun x hx => (h.q x hx).1) hA
theorem lkp_same (hO : PLok PL) {m : Nat} (h : LK PL 25 4 44 3 A W vj vd vm Q s s.r s.r s.n s.K s.G s.M P U V) (hm : s.r ≤ m) (hA : A ≤ W.heap.size) (hd : PLdone PL W W' vj Q s') (hs : SameR s s') (b : Bool) (hb : b = true → s'.stop = false) : LKp PL A W' vj vd vm m b := by
  obtain ⟨Q', h1⟩ := lk_same hO h hA hd hs
  exact ⟨Q', s', P, U, V, h1, by rw [hs.1]; exact hm, hb⟩
end
/-- What the log's Do leaves, whatever it says. -/
def JPost (PL : World → Value → (Nat → Prop) → LogS → Prop) (s : LogS) (n : Nat) (K : Nat → Nat) (G : Nat → Bool) (vj : Value) (Q : Nat → Prop) (ev : Value) (W w' : World) : Prop :=
  (ev = .nilIface ∧ ∃ a, s.all + 2 ≤ a ∧ PLdone PL W w' vj Q (s.add a n K G)) ∨ (∃ c s', ev = errOf c ∧ (c == 0) = false ∧ SameR s s' ∧ PLdone PL W w' vj Q s')
theorem jpost_but {PL : World → Value → (Nat → Prop) → LogS → Prop} {s : LogS} {n : Nat} {K : Nat → Nat} {G : Nat → Bool} {vj : Value} {Q : Nat → Prop} {ev : Value} {W w' : World} (h : JPost PL s n K G vj Q ev W w') : But Q W w' := by
  rcases h with ⟨_, a, _, h⟩ | ⟨c, s', _, _, _, h⟩
  · exact h.1
  · exact h.1
/-- The log's Do in one word. -/
theorem jdo_way {PL : World → Value → (Nat → Prop) → LogS → Prop} (hD : LDoIs PL) (s : LogS) (Q : Nat → Prop) (vj : Value) (D : DealN) (e : Int) (n : Nat) (K : Nat → Nat) (G : Nat → Bool) (hs : s.r ≤ 1000) (hm : D.m ≤ 9223372036854775807) (w1 : (Lit.int .i64 D.rx).wf = true) (w2 : (Lit.int .i64 D.ry).wf = true) (w3 : (Lit.int .i64 D.s).wf = true) (wz : ∀ i, i < D.m → (Lit.int .i64 (D.Z i)).wf = true) (h : DealIs (s.n s.r) (s.K s.r) (s.G s.r) D e n K G) :
    ∃ ev, IsErr ev ∧ ((toldI ev == 6) || (toldI ev == e)) = true ∧ ∀ (W : World) (sz sl : Option Addr) (dz d : Nat), D.m ≤ dz → D.c ≤ d → (sl = none → d = 0) → (D.m = 0 ∨ ∃ b o : Nat, sz = some ⟨b, o, none⟩ ∧ ¬ Q b ∧ RowI W b o D.m D.Z) → (D.c = 0 ∨ ∃ b o : Nat, sl = some ⟨b, o, none⟩ ∧ ¬ Q b ∧ RowO W b o D.c D.X D.Y D.F) → PL W vj Q s →
      Calls Tryz.prog 31 #[vj, .agg #[.slice sz D.m dz, .slice sl D.c d, .int .i64 D.rx, .int .i64 D.ry, .bool D.rf, .int .i64 D.s]] W fun ex w' => ex = .returned ev ∧ JPost PL s n K G vj Q ev W w' := by
  cases hst : s.stop with
  | true =>
    refine ⟨errOf 6, isErr_err 6, by rw [toldI_err]; rfl, fun W sz sl dz d a1 a2 a3 a4 a5 a6 => ?_⟩
    exact (hD.1 vj Q s D sz sl dz d e n K G W hs hm a1 a2 a3 wz w1 w2 w3 a4 a5 a6 h hst).mono fun ex w' ⟨h1, h2⟩ => ⟨h1, Or.inr ⟨6, s, rfl, rfl, ⟨rfl, rfl, rfl, rfl, rfl⟩, h2⟩⟩
  | false =>
    cases he : e == 0 with
    | false =>
      refine ⟨errOf e, isErr_err e, by rw [toldI_err, beq_self_eq_true, Bool.or_true], fun W sz sl dz d a1 a2 a3 a4 a5 a6 => ?_⟩
      exact (hD.2.1 vj Q s D sz sl dz d e n K G W hs hm a1 a2 a3 wz w1 w2 w3 a4 a5 a6 h hst he).mono fun ex w' ⟨h1, h2⟩ => ⟨h1, Or.inr ⟨e, s, rfl, he, ⟨rfl, rfl, rfl, rfl, rfl⟩, h2⟩⟩
    | true =>
      have h0 : e = 0 := by simpa using he
      by_cases hl : s.left = some 0
      · refine ⟨errOf 6, isErr_err 6, by rw [toldI_err]; rfl, fun W sz sl dz d a1 a2 a3 a4 a5 a6 => ?_⟩
        exact (hD.2.2.1 vj Q s D sz sl dz d e n K G W hs hm a1 a2 a3 wz w1 w2 w3 a4 a5 a6 h hst h0 hl).mono fun ex w' ⟨h1, a, _, h2⟩ => ⟨h1, Or.inr ⟨6, s.halt a, rfl, rfl, ⟨rfl, rfl, rfl, rfl, rfl⟩, h2⟩⟩
      · refine ⟨.nilIface, isErr_nil, by rw [toldI_nil, h0]; rfl, fun W sz sl dz d a1 a2 a3 a4 a5 a6 => ?_⟩
        exact (hD.2.2.2 vj Q s D sz sl dz d e n K G W hs hm a1 a2 a3 wz w1 w2 w3 a4 a5 a6 h hst h0 hl).mono fun ex w' ⟨h1, h2⟩ => ⟨h1, Or.inl ⟨rfl, h2⟩⟩
/-- Between the log's Do and the law's own rows: a book and a mark are still to be put behind the others, or nothing is. -/
def Mid (PL : World → Value → (Nat → Prop) → LogS → Prop) (A : Nat) (W : World) (vj vd vm : Value) (m : Nat) (p : Nat) (old : Nat) (ev : Value) : Prop :=
  (ev = .nilIface ∧ ∃ (Q : Nat → Prop) (s : LogS) (P : Nat → Nat) (U V : Nat → Value) (u v : Value) (n1 : Nat) (K1 : Nat → Nat) (G1 : Nat → Bool) (a : Nat), LK PL 25 4 44 3 A W vj vd vm Q (s.add a n1 K1 G1) s.r s.r s.n s.K s.G s.M P U V ∧ Next 25 4 A W vd vm Q s.r P U V p u v n1 K1 G1 ∧ old + 2 ≤ a ∧ s.r ≤ m) ∨ (∃ c, ev = errOf c ∧ (c == 0) = false ∧ LKp PL A W vj vd vm m false)
theorem Mid.below {PL : World → Value → (Nat → Prop) → LogS → Prop} (hO : PLok PL) {A : Nat} {W W' : World} {vj vd vm : Value} {m p old : Nat} {ev : Value} (h : Mid PL A W vj vd vm m p old ev) (k : Below W.heap.size W W') : Mid PL A W' vj vd vm m p old ev := by
  rcases h with ⟨e, Q, s, P, U, V, u, v, n1, K1, G1, a, h1, h2, h3, h4⟩ | ⟨c, e, h1, h2⟩
  · exact Or.inl ⟨e, Q, s, P, U, V, u, v, n1, K1, G1, a, h1.below hO.mem k, h2.below k, h3, h4⟩
  · exact Or.inr ⟨c, e, h1, h2.below hO k⟩
theorem mid_of {PL : World → Value → (Nat → Prop) → LogS → Prop} (hO : PLok PL) {A : Nat} {W W' : World} {vj vd vm : Value} {Q : Nat → Prop} {s : LogS} {P : Nat → Nat} {U V : Nat → Value} {m p : Nat} {u v : Value} {n1 : Nat} {K1 : Nat → Nat} {G1 : Nat → Bool} {ev : Value} (h : LK PL 25 4 44 3 A W vj vd vm Q s s.r s.r s.n s.K s.G s.M P U V) (hn : Next 25 4 A W vd vm Q s.r P U V p u v n1 K1 G1) (hA : A ≤ W.heap.size) (hm : s.r ≤ m) (hj : JPost PL s n1 K1 G1 vj Q ev W W') : Mid PL A W' vj vd vm m p s.all ev := by
  rcases hj with ⟨e, a, ha, hd⟩ | ⟨c, s', e, hc, hs, hd⟩
  · obtain ⟨hb, Q', hp, hq⟩ := hd
    exact Or.inl ⟨e, Q', s, P, U, V, u, v, n1, K1, G1, a, h.step hO.mem hA hb hp hq, next_step h hn hb hq, ha, hm⟩
  · exact Or.inr ⟨c, e, hc, lkp_same hO h hm hA hd hs false (fun e => by cases e)⟩
theorem zrow_ap {w W : World} {sz : Option Addr} {m : Nat} {Z : Nat → Int} (hz : m = 0 ∨ ∃ b o : Nat, sz = some ⟨b, o, none⟩ ∧ RowI w b o m Z) (hW : Below w.heap.size w W) {F : Nat → Prop} (hF : ∀ x, F x → w.heap.size ≤ x) : m = 0 ∨ ∃ b o : Nat, sz = some ⟨b, o, none⟩ ∧ ¬ F b ∧ RowI W b o m Z :=
  hz.imp_right fun ⟨b, o, e, r⟩ => ⟨b, o, e, fun f => by have h1 := hF b f; have h2 := r.1; omega, r.below r.1 hW⟩
theorem xrow_ap {w W : World} {sl : Option Addr} {c : Nat} {X Y : Nat → Int} {F' : Nat → Bool} (hz : c = 0 ∨ ∃ b o : Nat, sl = some ⟨b, o, none⟩ ∧ RowO w b o c X Y F') (hW : Below w.heap.size w W) {F : Nat → Prop} (hF : ∀ x, F x → w.heap.size ≤ x) : c = 0 ∨ ∃ b o : Nat, sl = some ⟨b, o, none⟩ ∧ ¬ F b ∧ RowO W b o c X Y F' :=
  hz.imp_right fun ⟨b, o, e, r⟩ => ⟨b, o, e, fun f => by have h1 := hF b f; have h2 := r.1; omega, r.below r.1 hW⟩
/-- A deal's numbers. -/
theorem deal_n {w : World} {E : DealV} (h : DealOk w E) : ∃ (Z X Y : Nat → Int) (F : Nat → Bool), (E.m = 0 ∨ ∃ b o : Nat, E.sz = some ⟨b, o, none⟩ ∧ RowI w b o E.m Z) ∧ (E.c = 0 ∨ ∃ b o : Nat, E.sl = some ⟨b, o, none⟩ ∧ RowO w b o E.c X Y F) ∧ ∀ i, i < E.m → (Lit.int .i64 (Z i)).wf = true := by
  obtain ⟨Z, hz, wz⟩ : ∃ Z : Nat → Int, (E.m = 0 ∨ ∃ b o : Nat, E.sz = some ⟨b, o, none⟩ ∧ RowI w b o E.m Z) ∧ ∀ i, i < E.m → (Lit.int .i64 (Z i)).wf = true := by
    rcases h.um with h | ⟨b, o, Z, e, r, wz⟩
    · exact ⟨fun _ => 0, Or.inl h, fun i hi => by omega⟩
    · exact ⟨Z, Or.inr ⟨b, o, e, r⟩, wz⟩
  obtain ⟨X, Y, F, hr⟩ : ∃ (X Y : Nat → Int) (F : Nat → Bool), E.c = 0 ∨ ∃ b o : Nat, E.sl = some ⟨b, o, none⟩ ∧ RowO w b o E.c X Y F := by
    rcases h.uc with h | ⟨b, o, X, Y, F, e, r⟩
    · exact ⟨fun _ => 0, fun _ => 0, fun _ => false, Or.inl h⟩
    · exact ⟨X, Y, F, Or.inr ⟨b, o, e, r⟩⟩
  exact ⟨Z, X, Y, F, hz, hr, wz⟩
theorem LKp.mono {PL : World → Value → (Nat → Prop) → LogS → Prop} {A : Nat} {W : World} {vj vd vm : Value} {m m' : Nat} {b : Bool} (h : LKp PL A W vj vd vm m b) (hm : m ≤ m') : LKp PL A W vj vd vm m' b := by
  obtain ⟨Q, s, P, U, V, h1, h2, h3⟩ := h
  exact ⟨Q, s, P, U, V, h1, by omega, h3⟩
/-- Is it nil? -/
theorem mid_nil {PL : World → Value → (Nat → Prop) → LogS → Prop} {A : Nat} {W : World} {vj vd vm : Value} {m p old : Nat} {ev : Value} (h : Mid PL A W vj vd vm m p old ev) : ∃ eb : Bool, (ev = .nilIface ∧ eb = true) ∨ (∃ c, ev = errOf c ∧ (c == 0) = false ∧ eb = false) := by
  rcases h with ⟨e, _⟩ | ⟨c, e, h1, _⟩
  · exact ⟨true, Or.inl ⟨e, rfl⟩⟩
  · exact ⟨false, Or.inr ⟨c, e, h1, rfl⟩⟩
theorem err_not {c : Int} : errOf c ≠ .nilIface := fun e => by unfold errOf at e; cases e
/-- Behind what was told. -/
theorem mid_yes {PL : World → Value → (Nat → Prop) → LogS → Prop} {A : Nat} {W : World} {vj vd vm : Value} {m p old : Nat} (h : Mid PL A W vj vd vm m p old .nilIface) : ∃ (Q : Nat → Prop) (s : LogS) (P : Nat → Nat) (U V : Nat → Value) (u v : Value) (n1 : Nat) (K1 : Nat → Nat) (G1 : Nat → Bool) (a : Nat), LK PL 25 4 44 3 A W vj vd vm Q (s.add a n1 K1 G1) s.r s.r s.n s.K s.G s.M P U V ∧ Next 25 4 A W vd vm Q s.r P U V p u v n1 K1 G1 ∧ old + 2 ≤ a ∧ s.r ≤ m := by
  rcases h with ⟨_, h⟩ | ⟨c, e, _⟩
  · exact h
  · exact absurd e.symm err_not
theorem mid_no {PL : World → Value → (Nat → Prop) → LogS → Prop} {A : Nat} {W : World} {vj vd vm : Value} {m p old : Nat} {c : Int} (h : Mid PL A W vj vd vm m p old (errOf c)) : LKp PL A W vj vd vm m false := by
  rcases h with ⟨e, _⟩ | ⟨c, e, _, h⟩
  · exact absurd e err_not
  · exact h
end Go.Proofs.YtpkkclcjiobgoajGreatDoor

/- For the walk of stonelaw3.LogKeeps. -/
namespace Go.Proofs.YtpkkclcjiobgoajGreatDoor
open Go.RowKit Go.Sort
set_option linter.unusedVariables false
set_option linter.unusedSimpArgs false
theorem kpinfo : (Tryz.prog.info? 44).map (fun i => (i.zero, i.size, i.bytes)) = some (some (.pointer none), 1, 8) := by kernel_rfl
theorem kiinfo : (Tryz.prog.info? 3).map (fun i => (i.zero, i.size, i.bytes)) = some (some (.int .i64 0), 1, 8) := by kernel_rfl
theorem cut_cells {C W : World} {g i h : Nat} {u v : Value} (c1 : C.cell? ⟨g, i, none⟩ = some u) (z1 : g < C.heap.size) (c2 : C.cell? ⟨h, i, none⟩ = some v) (z2 : h < C.heap.size) (k : Below C.heap.size C W) : (g < W.heap.size ∧ W.cell? ⟨g, i, none⟩ = some u) ∧ (h < W.heap.size ∧ W.cell? ⟨h, i, none⟩ = some v) :=
  ⟨⟨Nat.lt_of_lt_of_le z1 k.size, (k.cell (p := ⟨g, i, none⟩) z1).trans c1⟩, ⟨Nat.lt_of_lt_of_le z2 k.size, (k.cell (p := ⟨h, i, none⟩) z2).trans c2⟩⟩
theorem run_field_F (x y f : Value) (W : World) : (Instr.field 25 (.agg #[x, y, f]) 2).run Tryz.prog W = .ok f W := by
  simp [Instr.field, asAgg, go_sem]
attribute [go_sem] run_field_F
end Go.Proofs.YtpkkclcjiobgoajGreatDoor
