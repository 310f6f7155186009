/- What the plain reckoning of a deal (stoneref2: Book.Do) answers, and what it leaves. -/
import Derived.Test.YtpkkclcjiobgoajGreatDoorKRefBookA
import Derived.Test.YtpkkclcjiobgoajGreatDoorKC
import Derived.Test.YtpkkclcjiobgoajGreatDoorKE
import Derived.Test.YtpkkclcjiobgoajGreatDoorKNew
import Derived.Deep.RegionLaw
import Derived.Deep.AppendLies
namespace Go.Proofs.YtpkkclcjiobgoajGreatDoor
open Go.RowKit Go.Sort
set_option linter.unusedVariables false
set_option linter.unusedSimpArgs false
set_option maxRecDepth 100000 in
set_option maxHeartbeats 8000000 in
theorem rdo_exc (B p n m c d dz : Nat) (sz sl : Option Addr) (rx ry S q : Int) (rf : Bool) (X : Int × Int × Bool) (w : World) (hq : (q == 0) = false) (hx : ∀ W, Below w.heap.size w W → Calls Tryz.prog 18 #[.pointer (some ⟨p, 0, none⟩), .slice sz m dz, .slice sl c d] W fun e w' => e = .returned (.tuple #[.agg #[.int .i64 X.1, .int .i64 X.2.1, .bool X.2.2], .int .i64 q]) ∧ Below W.heap.size W w') : Calls Tryz.prog 20 #[.pointer (some ⟨p, 0, none⟩), .agg #[.slice sz m dz, .slice sl c d, .int .i64 rx, .int .i64 ry, .bool rf, .int .i64 S]] w fun e w' => e = .returned (.int .i64 q) ∧ Below w.heap.size w w' := by
  have HX : Hid (∀ W, Below w.heap.size w W → Calls Tryz.prog 18 #[.pointer (some ⟨p, 0, none⟩), .slice sz m dz, .slice sl c d] W fun e w' => e = .returned (.tuple #[.agg #[.int .i64 X.1, .int .i64 X.2.1, .bool X.2.2], .int .i64 q]) ∧ Below W.heap.size W w') := hx
  clear hx
  have m1 : True := trivial
  go_enter Tryz.func20, Tryz.ntmps20
  go_wp2_with (go_at_call 18; clear m1; refine (HX.out _ (by repeat (first | (with_reducible first | exact Below.refl _ _ | assumption | refine Below.setCell ?_ (by first | simp <;> omega | omega) _ | refine Below.alloc ?_ (by first | simp <;> omega | omega) _) | refine bl_call ?_ (by assumption) (by first | simp <;> omega | omega) | (with_reducible first | refine bl_drewN ?_ | refine Below.drew ?_ | refine bl_grow ?_ (by first | simp <;> omega | omega))))).mono ?_; rintro e w1 ⟨rfl, hbw1⟩; have kdw1 : At w1 (w.heap.size) [.slice sz m dz, .slice sl c d, .int .i64 rx, .int .i64 ry, .bool rf, .int .i64 S] := (by repeat (first | (with_reducible first | assumption | (refine at_new' _ _ _ _ ?_; first | rfl | (simp; done)) | refine At.alloc ?_ _ | refine At.drew ?_ | refine At.drewN ?_ | refine At.set ?_ (by omega) | apply At.store4 | apply At.store3 | apply At.store2 | apply At.put43) | refine At.below ?_ (by with_reducible assumption))); have hqw1 : Below w.heap.size w w1 := (by repeat (first | (with_reducible first | exact Below.refl _ _ | assumption | refine Below.setCell ?_ (by first | simp <;> omega | omega) _ | refine Below.alloc ?_ (by first | simp <;> omega | omega) _) | refine bl_call ?_ (by assumption) (by first | simp <;> omega | omega) | (with_reducible first | refine bl_drewN ?_ | refine Below.drew ?_ | refine bl_grow ?_ (by first | simp <;> omega | omega)))); have hzw1 := hqw1.size; obtain ⟨zdw1, cd0w1, cd1w1, cd2w1, cd3w1, cd4w1, cd5w1, fd0w1, fd1w1, fd2w1, fd3w1, fd4w1, fd5w1⟩ := kdw1.six; clear hbw1)
  go_ret
  exact ⟨rfl, by repeat (first | (with_reducible first | exact Below.refl _ _ | assumption | refine Below.setCell ?_ (by first | simp <;> omega | omega) _ | refine Below.alloc ?_ (by first | simp <;> omega | omega) _) | refine bl_call ?_ (by assumption) (by first | simp <;> omega | omega) | (with_reducible first | refine bl_drewN ?_ | refine Below.drew ?_ | refine bl_grow ?_ (by first | simp <;> omega | omega)))⟩
set_option maxRecDepth 100000 in
set_option maxHeartbeats 8000000 in
theorem rdo_full (B p n m c d dz : Nat) (sz sl : Option Addr) (u v : Value) (K : Nat → Nat) (G : Nat → Bool) (x : Nat) (rx ry S : Int) (rf : Bool) (w : World) (hn : n ≤ 1000) (hc : c ≤ 12) (hf : 1000 < n + c) (h : BookAt 25 4 B w p u v n K G) (hx : ∀ W, Below w.heap.size w W → Calls Tryz.prog 18 #[.pointer (some ⟨p, 0, none⟩), .slice sz m dz, .slice sl c d] W fun e w' => e = .returned (.tuple #[.agg #[.int .i64 ((tM (4 * x)).1 : Int), .int .i64 ((tM (4 * x)).2.1 : Int), .bool (tM (4 * x)).2.2], .int .i64 0]) ∧ Below W.heap.size W w') : Calls Tryz.prog 20 #[.pointer (some ⟨p, 0, none⟩), .agg #[.slice sz m dz, .slice sl c d, .int .i64 rx, .int .i64 ry, .bool rf, .int .i64 S]] w fun e w' => e = .returned (.int .i64 4) ∧ Below w.heap.size w w' := by
  have hf1 : (n : Int) + (c : Int) > 1000 := by omega
  obtain ⟨su, cu, sv, cv, rfl, rfl, _⟩ := h.slices
  have HP : Hid (At w p [.slice su n cu, .slice sv n cv]) := h.cells
  have HX : Hid (∀ W, Below w.heap.size w W → Calls Tryz.prog 18 #[.pointer (some ⟨p, 0, none⟩), .slice sz m dz, .slice sl c d] W fun e w' => e = .returned (.tuple #[.agg #[.int .i64 ((tM (4 * x)).1 : Int), .int .i64 ((tM (4 * x)).2.1 : Int), .bool (tM (4 * x)).2.2], .int .i64 0]) ∧ Below W.heap.size W w') := hx
  clear h hx
  have m1 : True := trivial; have m2 : True := trivial; have m3 : True := trivial; have m4 : True := trivial
  go_enter Tryz.func20, Tryz.ntmps20
  go_upto_region 4 with (go_at_call 18; clear m1; refine (HX.out _ (by repeat (first | (with_reducible first | exact Below.refl _ _ | assumption | refine Below.setCell ?_ (by first | simp <;> omega | omega) _ | refine Below.alloc ?_ (by first | simp <;> omega | omega) _) | refine bl_call ?_ (by assumption) (by first | simp <;> omega | omega) | (with_reducible first | refine bl_drewN ?_ | refine Below.drew ?_ | refine bl_grow ?_ (by first | simp <;> omega | omega))))).mono ?_; rintro e w1 ⟨rfl, hbw1⟩; have kdw1 : At w1 (w.heap.size) [.slice sz m dz, .slice sl c d, .int .i64 rx, .int .i64 ry, .bool rf, .int .i64 S] := (by repeat (first | (with_reducible first | assumption | (refine at_new' _ _ _ _ ?_; first | rfl | (simp; done)) | refine At.alloc ?_ _ | refine At.drew ?_ | refine At.drewN ?_ | refine At.set ?_ (by omega) | apply At.store4 | apply At.store3 | apply At.store2 | apply At.put43) | refine At.below ?_ (by with_reducible assumption))); have hqw1 : Below w.heap.size w w1 := (by repeat (first | (with_reducible first | exact Below.refl _ _ | assumption | refine Below.setCell ?_ (by first | simp <;> omega | omega) _ | refine Below.alloc ?_ (by first | simp <;> omega | omega) _) | refine bl_call ?_ (by assumption) (by first | simp <;> omega | omega) | (with_reducible first | refine bl_drewN ?_ | refine Below.drew ?_ | refine bl_grow ?_ (by first | simp <;> omega | omega)))); have hzw1 := hqw1.size; obtain ⟨zdw1, cd0w1, cd1w1, cd2w1, cd3w1, cd4w1, cd5w1, fd0w1, fd1w1, fd2w1, fd3w1, fd4w1, fd5w1⟩ := kdw1.six; clear hbw1)
  refine wp_gen (fun V => At V (w.heap.size) [.slice sz m dz, .slice sl c d, .int .i64 rx, .int .i64 ry, .bool rf, .int .i64 S] ∧ At V (w1.heap.size) [.int .i64 ((tM (4 * x)).1 : Int), .int .i64 ((tM (4 * x)).2.1 : Int), .bool (tM (4 * x)).2.2] ∧ Below w.heap.size w V) ⟨by repeat (first | (with_reducible first | assumption | (refine at_new' _ _ _ _ ?_; first | rfl | (simp; done)) | refine At.alloc ?_ _ | refine At.drew ?_ | refine At.drewN ?_ | refine At.set ?_ (by omega) | apply At.store4 | apply At.store3 | apply At.store2 | apply At.put43) | refine At.below ?_ (by with_reducible assumption)), by repeat (first | (with_reducible first | assumption | (refine at_new' _ _ _ _ ?_; first | rfl | (simp; done)) | refine At.alloc ?_ _ | refine At.drew ?_ | refine At.drewN ?_ | refine At.set ?_ (by omega) | apply At.store4 | apply At.store3 | apply At.store2 | apply At.put43) | refine At.below ?_ (by with_reducible assumption)), by repeat (first | (with_reducible first | exact Below.refl _ _ | assumption | refine Below.setCell ?_ (by first | simp <;> omega | omega) _ | refine Below.alloc ?_ (by first | simp <;> omega | omega) _) | refine bl_call ?_ (by assumption) (by first | simp <;> omega | omega) | (with_reducible first | refine bl_drewN ?_ | refine Below.drew ?_ | refine bl_grow ?_ (by first | simp <;> omega | omega)))⟩ ?_
  rintro V ⟨kdV, kxV, hqV⟩
  have hzV := hqV.size
  clear kdw1 cd0w1 fd0w1 cd1w1 fd1w1 cd2w1 fd2w1 cd3w1 fd3w1 cd4w1 fd4w1 cd5w1 fd5w1 hqw1
  obtain ⟨zdV, cd0V, cd1V, cd2V, cd3V, cd4V, cd5V, fd0V, fd1V, fd2V, fd3V, fd4V, fd5V⟩ := kdV.six
  obtain ⟨zxV, cx0V, cx1V, cx2V, fx0V, fx1V, fx2V⟩ := kxV.three
  have kpV := HP.out.below hqV
  obtain ⟨zpV, cp0V, cp1V, fp0V, fp1V⟩ := kpV.two
  refine wp_region_quiet_below (by kernel_rfl) (by kernel_rfl) ?_
  repeat (go_big_quiet_step (first | fail))
  refine wpQuiet_nil ?_
  intro U hw1
  have hrU := regrown_below hw1
  clear hw1
  have kdU := kdV.below hrU
  have kxU := kxV.below hrU
  have kpU := kpV.below hrU
  have hqU := bl_call hqV hrU (by omega)
  have hzU := hqU.size
  clear hrU kdV cd0V fd0V cd1V fd1V cd2V fd2V cd3V fd3V cd4V fd4V cd5V fd5V kxV cx0V fx0V cx1V fx1V cx2V fx2V kpV cp0V fp0V cp1V fp1V hqV
  obtain ⟨zdU, cd0U, cd1U, cd2U, cd3U, cd4U, cd5U, fd0U, fd1U, fd2U, fd3U, fd4U, fd5U⟩ := kdU.six
  obtain ⟨zxU, cx0U, cx1U, cx2U, fx0U, fx1U, fx2U⟩ := kxU.three
  obtain ⟨zpU, cp0U, cp1U, fp0U, fp1U⟩ := kpU.two
  go_wp2_with fail
  go_ret
  exact ⟨rfl, by repeat (first | (with_reducible first | exact Below.refl _ _ | assumption | refine Below.setCell ?_ (by first | simp <;> omega | omega) _ | refine Below.alloc ?_ (by first | simp <;> omega | omega) _) | refine bl_call ?_ (by assumption) (by first | simp <;> omega | omega) | (with_reducible first | refine bl_drewN ?_ | refine Below.drew ?_ | refine bl_grow ?_ (by first | simp <;> omega | omega)))⟩
set_option maxRecDepth 100000 in
set_option maxHeartbeats 8000000 in
theorem rdo_rest (B p n m c d dz : Nat) (sz sl : Option Addr) (u v : Value) (K : Nat → Nat) (G : Nat → Bool) (x : Nat) (rx ry S : Int) (rf : Bool) (w : World) (hn : n ≤ 1000) (hc : c ≤ 12) (hf : n + c ≤ 1000) (h : BookAt 25 4 B w p u v n K G) (hx : ∀ W, Below w.heap.size w W → Calls Tryz.prog 18 #[.pointer (some ⟨p, 0, none⟩), .slice sz m dz, .slice sl c d] W fun e w' => e = .returned (.tuple #[.agg #[.int .i64 ((tM (4 * x)).1 : Int), .int .i64 ((tM (4 * x)).2.1 : Int), .bool (tM (4 * x)).2.2], .int .i64 0]) ∧ Below W.heap.size W w') (hs : ∀ w, Calls Tryz.prog 10 #[.int .i64 S] w fun e w' => e = .returned (.bool false) ∧ Below w.heap.size w w') : Calls Tryz.prog 20 #[.pointer (some ⟨p, 0, none⟩), .agg #[.slice sz m dz, .slice sl c d, .int .i64 rx, .int .i64 ry, .bool rf, .int .i64 S]] w fun e w' => e = .returned (.int .i64 1) ∧ Below w.heap.size w w' := by
  have hf1 : ¬ (n : Int) + (c : Int) > 1000 := by omega
  have HS : Hid (∀ w, Calls Tryz.prog 10 #[.int .i64 S] w fun e w' => e = .returned (.bool false) ∧ Below w.heap.size w w') := hs
  clear hs
  obtain ⟨su, cu, sv, cv, rfl, rfl, _⟩ := h.slices
  have HP : Hid (At w p [.slice su n cu, .slice sv n cv]) := h.cells
  have HX : Hid (∀ W, Below w.heap.size w W → Calls Tryz.prog 18 #[.pointer (some ⟨p, 0, none⟩), .slice sz m dz, .slice sl c d] W fun e w' => e = .returned (.tuple #[.agg #[.int .i64 ((tM (4 * x)).1 : Int), .int .i64 ((tM (4 * x)).2.1 : Int), .bool (tM (4 * x)).2.2], .int .i64 0]) ∧ Below W.heap.size W w') := hx
  clear h hx
  have m1 : True := trivial; have m2 : True := trivial; have m3 : True := trivial; have m4 : True := trivial
  go_enter Tryz.func20, Tryz.ntmps20
  go_upto_region 4 with (go_at_call 18; clear m1; refine (HX.out _ (by repeat (first | (with_reducible first | exact Below.refl _ _ | assumption | refine Below.setCell ?_ (by first | simp <;> omega | omega) _ | refine Below.alloc ?_ (by first | simp <;> omega | omega) _) | refine bl_call ?_ (by assumption) (by first | simp <;> omega | omega) | (with_reducible first | refine bl_drewN ?_ | refine Below.drew ?_ | refine bl_grow ?_ (by first | simp <;> omega | omega))))).mono ?_; rintro e w1 ⟨rfl, hbw1⟩; have kdw1 : At w1 (w.heap.size) [.slice sz m dz, .slice sl c d, .int .i64 rx, .int .i64 ry, .bool rf, .int .i64 S] := (by repeat (first | (with_reducible first | assumption | (refine at_new' _ _ _ _ ?_; first | rfl | (simp; done)) | refine At.alloc ?_ _ | refine At.drew ?_ | refine At.drewN ?_ | refine At.set ?_ (by omega) | apply At.store4 | apply At.store3 | apply At.store2 | apply At.put43) | refine At.below ?_ (by with_reducible assumption))); have hqw1 : Below w.heap.size w w1 := (by repeat (first | (with_reducible first | exact Below.refl _ _ | assumption | refine Below.setCell ?_ (by first | simp <;> omega | omega) _ | refine Below.alloc ?_ (by first | simp <;> omega | omega) _) | refine bl_call ?_ (by assumption) (by first | simp <;> omega | omega) | (with_reducible first | refine bl_drewN ?_ | refine Below.drew ?_ | refine bl_grow ?_ (by first | simp <;> omega | omega)))); have hzw1 := hqw1.size; obtain ⟨zdw1, cd0w1, cd1w1, cd2w1, cd3w1, cd4w1, cd5w1, fd0w1, fd1w1, fd2w1, fd3w1, fd4w1, fd5w1⟩ := kdw1.six; clear hbw1)
  refine wp_gen (fun V => At V (w.heap.size) [.slice sz m dz, .slice sl c d, .int .i64 rx, .int .i64 ry, .bool rf, .int .i64 S] ∧ At V (w1.heap.size) [.int .i64 ((tM (4 * x)).1 : Int), .int .i64 ((tM (4 * x)).2.1 : Int), .bool (tM (4 * x)).2.2] ∧ Below w.heap.size w V) ⟨by repeat (first | (with_reducible first | assumption | (refine at_new' _ _ _ _ ?_; first | rfl | (simp; done)) | refine At.alloc ?_ _ | refine At.drew ?_ | refine At.drewN ?_ | refine At.set ?_ (by omega) | apply At.store4 | apply At.store3 | apply At.store2 | apply At.put43) | refine At.below ?_ (by with_reducible assumption)), by repeat (first | (with_reducible first | assumption | (refine at_new' _ _ _ _ ?_; first | rfl | (simp; done)) | refine At.alloc ?_ _ | refine At.drew ?_ | refine At.drewN ?_ | refine At.set ?_ (by omega) | apply At.store4 | apply At.store3 | apply At.store2 | apply At.put43) | refine At.below ?_ (by with_reducible assumption)), by repeat (first | (with_reducible first | exact Below.refl _ _ | assumption | refine Below.setCell ?_ (by first | simp <;> omega | omega) _ | refine Below.alloc ?_ (by first | simp <;> omega | omega) _) | refine bl_call ?_ (by assumption) (by first | simp <;> omega | omega) | (with_reducible first | refine bl_drewN ?_ | refine Below.drew ?_ | refine bl_grow ?_ (by first | simp <;> omega | omega)))⟩ ?_
  rintro V ⟨kdV, kxV, hqV⟩
  have hzV := hqV.size
  clear kdw1 cd0w1 fd0w1 cd1w1 fd1w1 cd2w1 fd2w1 cd3w1 fd3w1 cd4w1 fd4w1 cd5w1 fd5w1 hqw1
  obtain ⟨zdV, cd0V, cd1V, cd2V, cd3V, cd4V, cd5V, fd0V, fd1V, fd2V, fd3V, fd4V, fd5V⟩ := kdV.six
  obtain ⟨zxV, cx0V, cx1V, cx2V, fx0V, fx1V, fx2V⟩ := kxV.three
  have kpV := HP.out.below hqV
  obtain ⟨zpV, cp0V, cp1V, fp0V, fp1V⟩ := kpV.two
  refine wp_region_quiet_below (by kernel_rfl) (by kernel_rfl) ?_
  repeat (go_big_quiet_step (first | fail))
  refine wpQuiet_nil ?_
  intro U hw1
  have hrU := regrown_below hw1
  clear hw1
  have kdU := kdV.below hrU
  have kxU := kxV.below hrU
  have kpU := kpV.below hrU
  have hqU := bl_call hqV hrU (by omega)
  have hzU := hqU.size
  clear hrU kdV cd0V fd0V cd1V fd1V cd2V fd2V cd3V fd3V cd4V fd4V cd5V fd5V kxV cx0V fx0V cx1V fx1V cx2V fx2V kpV cp0V fp0V cp1V fp1V hqV
  obtain ⟨zdU, cd0U, cd1U, cd2U, cd3U, cd4U, cd5U, fd0U, fd1U, fd2U, fd3U, fd4U, fd5U⟩ := kdU.six
  obtain ⟨zxU, cx0U, cx1U, cx2U, fx0U, fx1U, fx2U⟩ := kxU.three
  obtain ⟨zpU, cp0U, cp1U, fp0U, fp1U⟩ := kpU.two
  go_wp2_with (go_at_call 10; clear m2; refine (HS.out _).mono ?_; rintro e w2 ⟨rfl, hbw2⟩; have kdw2 : At w2 (w.heap.size) [.slice sz m dz, .slice sl c d, .int .i64 rx, .int .i64 ry, .bool rf, .int .i64 S] := (by repeat (first | (with_reducible first | assumption | (refine at_new' _ _ _ _ ?_; first | rfl | (simp; done)) | refine At.alloc ?_ _ | refine At.drew ?_ | refine At.drewN ?_ | refine At.set ?_ (by omega) | apply At.store4 | apply At.store3 | apply At.store2 | apply At.put43) | refine At.below ?_ (by with_reducible assumption))); have kxw2 : At w2 (w1.heap.size) [.int .i64 ((tM (4 * x)).1 : Int), .int .i64 ((tM (4 * x)).2.1 : Int), .bool (tM (4 * x)).2.2] := (by repeat (first | (with_reducible first | assumption | (refine at_new' _ _ _ _ ?_; first | rfl | (simp; done)) | refine At.alloc ?_ _ | refine At.drew ?_ | refine At.drewN ?_ | refine At.set ?_ (by omega) | apply At.store4 | apply At.store3 | apply At.store2 | apply At.put43) | refine At.below ?_ (by with_reducible assumption))); have kpw2 : At w2 (p) [.slice su n cu, .slice sv n cv] := (by repeat (first | (with_reducible first | assumption | (refine at_new' _ _ _ _ ?_; first | rfl | (simp; done)) | refine At.alloc ?_ _ | refine At.drew ?_ | refine At.drewN ?_ | refine At.set ?_ (by omega) | apply At.store4 | apply At.store3 | apply At.store2 | apply At.put43) | refine At.below ?_ (by with_reducible assumption))); have hqw2 : Below w.heap.size w w2 := (by repeat (first | (with_reducible first | exact Below.refl _ _ | assumption | refine Below.setCell ?_ (by first | simp <;> omega | omega) _ | refine Below.alloc ?_ (by first | simp <;> omega | omega) _) | refine bl_call ?_ (by assumption) (by first | simp <;> omega | omega) | (with_reducible first | refine bl_drewN ?_ | refine Below.drew ?_ | refine bl_grow ?_ (by first | simp <;> omega | omega)))); have hzw2 := hqw2.size; obtain ⟨zdw2, cd0w2, cd1w2, cd2w2, cd3w2, cd4w2, cd5w2, fd0w2, fd1w2, fd2w2, fd3w2, fd4w2, fd5w2⟩ := kdw2.six; obtain ⟨zxw2, cx0w2, cx1w2, cx2w2, fx0w2, fx1w2, fx2w2⟩ := kxw2.three; obtain ⟨zpw2, cp0w2, cp1w2, fp0w2, fp1w2⟩ := kpw2.two; clear kdU cd0U fd0U cd1U fd1U cd2U fd2U cd3U fd3U cd4U fd4U cd5U fd5U kxU cx0U fx0U cx1U fx1U cx2U fx2U kpU cp0U fp0U cp1U fp1U hqU; clear hbw2)
  go_ret
  exact ⟨rfl, by repeat (first | (with_reducible first | exact Below.refl _ _ | assumption | refine Below.setCell ?_ (by first | simp <;> omega | omega) _ | refine Below.alloc ?_ (by first | simp <;> omega | omega) _) | refine bl_call ?_ (by assumption) (by first | simp <;> omega | omega) | (with_reducible first | refine bl_drewN ?_ | refine Below.drew ?_ | refine bl_grow ?_ (by first | simp <;> omega | omega)))⟩
set_option maxRecDepth 100000 in
set_option maxHeartbeats 8000000 in
theorem rdo_spot (B p n m c d dz : Nat) (sz sl : Option Addr) (u v : Value) (K : Nat → Nat) (G : Nat → Bool) (x : Nat) (rx ry S q : Int) (rf : Bool) (w : World) (hn : n ≤ 1000) (hc : c ≤ 12) (hf : n + c ≤ 1000) (h : BookAt 25 4 B w p u v n K G) (hx : ∀ W, Below w.heap.size w W → Calls Tryz.prog 18 #[.pointer (some ⟨p, 0, none⟩), .slice sz m dz, .slice sl c d] W fun e w' => e = .returned (.tuple #[.agg #[.int .i64 ((tM (4 * x)).1 : Int), .int .i64 ((tM (4 * x)).2.1 : Int), .bool (tM (4 * x)).2.2], .int .i64 0]) ∧ Below W.heap.size W w') (hs : ∀ w, Calls Tryz.prog 10 #[.int .i64 S] w fun e w' => e = .returned (.bool true) ∧ Below w.heap.size w w') (hq : (q == 0) = false) (hp : ∀ w, Calls Tryz.prog 6 #[.agg #[.int .i64 rx, .int .i64 ry, .bool rf]] w fun e w' => e = .returned (.int .i64 q) ∧ Below w.heap.size w w') : Calls Tryz.prog 20 #[.pointer (some ⟨p, 0, none⟩), .agg #[.slice sz m dz, .slice sl c d, .int .i64 rx, .int .i64 ry, .bool rf, .int .i64 S]] w fun e w' => e = .returned (.int .i64 q) ∧ Below w.heap.size w w' := by
  have hf1 : ¬ (n : Int) + (c : Int) > 1000 := by omega
  have HS : Hid (∀ w, Calls Tryz.prog 10 #[.int .i64 S] w fun e w' => e = .returned (.bool true) ∧ Below w.heap.size w w') := hs
  have HSP : Hid (∀ w, Calls Tryz.prog 6 #[.agg #[.int .i64 rx, .int .i64 ry, .bool rf]] w fun e w' => e = .returned (.int .i64 q) ∧ Below w.heap.size w w') := hp
  clear hs hp
  obtain ⟨su, cu, sv, cv, rfl, rfl, _⟩ := h.slices
  have HP : Hid (At w p [.slice su n cu, .slice sv n cv]) := h.cells
  have HX : Hid (∀ W, Below w.heap.size w W → Calls Tryz.prog 18 #[.pointer (some ⟨p, 0, none⟩), .slice sz m dz, .slice sl c d] W fun e w' => e = .returned (.tuple #[.agg #[.int .i64 ((tM (4 * x)).1 : Int), .int .i64 ((tM (4 * x)).2.1 : Int), .bool (tM (4 * x)).2.2], .int .i64 0]) ∧ Below W.heap.size W w') := hx
  clear h hx
  have m1 : True := trivial; have m2 : True := trivial; have m3 : True := trivial; have m4 : True := trivial
  go_enter Tryz.func20, Tryz.ntmps20
  go_upto_region 4 with (go_at_call 18; clear m1; refine (HX.out _ (by repeat (first | (with_reducible first | exact Below.refl _ _ | assumption | refine Below.setCell ?_ (by first | simp <;> omega | omega) _ | refine Below.alloc ?_ (by first | simp <;> omega | omega) _) | refine bl_call ?_ (by assumption) (by first | simp <;> omega | omega) | (with_reducible first | refine bl_drewN ?_ | refine Below.drew ?_ | refine bl_grow ?_ (by first | simp <;> omega | omega))))).mono ?_; rintro e w1 ⟨rfl, hbw1⟩; have kdw1 : At w1 (w.heap.size) [.slice sz m dz, .slice sl c d, .int .i64 rx, .int .i64 ry, .bool rf, .int .i64 S] := (by repeat (first | (with_reducible first | assumption | (refine at_new' _ _ _ _ ?_; first | rfl | (simp; done)) | refine At.alloc ?_ _ | refine At.drew ?_ | refine At.drewN ?_ | refine At.set ?_ (by omega) | apply At.store4 | apply At.store3 | apply At.store2 | apply At.put43) | refine At.below ?_ (by with_reducible assumption))); have hqw1 : Below w.heap.size w w1 := (by repeat (first | (with_reducible first | exact Below.refl _ _ | assumption | refine Below.setCell ?_ (by first | simp <;> omega | omega) _ | refine Below.alloc ?_ (by first | simp <;> omega | omega) _) | refine bl_call ?_ (by assumption) (by first | simp <;> omega | omega) | (with_reducible first | refine bl_drewN ?_ | refine Below.drew ?_ | refine bl_grow ?_ (by first | simp <;> omega | omega)))); have hzw1 := hqw1.size; obtain ⟨zdw1, cd0w1, cd1w1, cd2w1, cd3w1, cd4w1, cd5w1, fd0w1, fd1w1, fd2w1, fd3w1, fd4w1, fd5w1⟩ := kdw1.six; clear hbw1)
  refine wp_gen (fun V => At V (w.heap.size) [.slice sz m dz, .slice sl c d, .int .i64 rx, .int .i64 ry, .bool rf, .int .i64 S] ∧ At V (w1.heap.size) [.int .i64 ((tM (4 * x)).1 : Int), .int .i64 ((tM (4 * x)).2.1 : Int), .bool (tM (4 * x)).2.2] ∧ Below w.heap.size w V) ⟨by repeat (first | (with_reducible first | assumption | (refine at_new' _ _ _ _ ?_; first | rfl | (simp; done)) | refine At.alloc ?_ _ | refine At.drew ?_ | refine At.drewN ?_ | refine At.set ?_ (by omega) | apply At.store4 | apply At.store3 | apply At.store2 | apply At.put43) | refine At.below ?_ (by with_reducible assumption)), by repeat (first | (with_reducible first | assumption | (refine at_new' _ _ _ _ ?_; first | rfl | (simp; done)) | refine At.alloc ?_ _ | refine At.drew ?_ | refine At.drewN ?_ | refine At.set ?_ (by omega) | apply At.store4 | apply At.store3 | apply At.store2 | apply At.put43) | refine At.below ?_ (by with_reducible assumption)), by repeat (first | (with_reducible first | exact Below.refl _ _ | assumption | refine Below.setCell ?_ (by first | simp <;> omega | omega) _ | refine Below.alloc ?_ (by first | simp <;> omega | omega) _) | refine bl_call ?_ (by assumption) (by first | simp <;> omega | omega) | (with_reducible first | refine bl_drewN ?_ | refine Below.drew ?_ | refine bl_grow ?_ (by first | simp <;> omega | omega)))⟩ ?_
  rintro V ⟨kdV, kxV, hqV⟩
  have hzV := hqV.size
  clear kdw1 cd0w1 fd0w1 cd1w1 fd1w1 cd2w1 fd2w1 cd3w1 fd3w1 cd4w1 fd4w1 cd5w1 fd5w1 hqw1
  obtain ⟨zdV, cd0V, cd1V, cd2V, cd3V, cd4V, cd5V, fd0V, fd1V, fd2V, fd3V, fd4V, fd5V⟩ := kdV.six
  obtain ⟨zxV, cx0V, cx1V, cx2V, fx0V, fx1V, fx2V⟩ := kxV.three
  have kpV := HP.out.below hqV
  obtain ⟨zpV, cp0V, cp1V, fp0V, fp1V⟩ := kpV.two
  refine wp_region_quiet_below (by kernel_rfl) (by kernel_rfl) ?_
  repeat (go_big_quiet_step (first | fail))
  refine wpQuiet_nil ?_
  intro U hw1
  have hrU := regrown_below hw1
  clear hw1
  have kdU := kdV.below hrU
  have kxU := kxV.below hrU
  have kpU := kpV.below hrU
  have hqU := bl_call hqV hrU (by omega)
  have hzU := hqU.size
  clear hrU kdV cd0V fd0V cd1V fd1V cd2V fd2V cd3V fd3V cd4V fd4V cd5V fd5V kxV cx0V fx0V cx1V fx1V cx2V fx2V kpV cp0V fp0V cp1V fp1V hqV
  obtain ⟨zdU, cd0U, cd1U, cd2U, cd3U, cd4U, cd5U, fd0U, fd1U, fd2U, fd3U, fd4U, fd5U⟩ := kdU.six
  obtain ⟨zxU, cx0U, cx1U, cx2U, fx0U, fx1U, fx2U⟩ := kxU.three
  obtain ⟨zpU, cp0U, cp1U, fp0U, fp1U⟩ := kpU.two
  go_wp2_with (first | (go_at_call 10; clear m2; refine (HS.out _).mono ?_; rintro e w2 ⟨rfl, hbw2⟩; have kdw2 : At w2 (w.heap.size) [.slice sz m dz, .slice sl c d, .int .i64 rx, .int .i64 ry, .bool rf, .int .i64 S] := (by repeat (first | (with_reducible first | assumption | (refine at_new' _ _ _ _ ?_; first | rfl | (simp; done)) | refine At.alloc ?_ _ | refine At.drew ?_ | refine At.drewN ?_ | refine At.set ?_ (by omega) | apply At.store4 | apply At.store3 | apply At.store2 | apply At.put43) | refine At.below ?_ (by with_reducible assumption))); have kxw2 : At w2 (w1.heap.size) [.int .i64 ((tM (4 * x)).1 : Int), .int .i64 ((tM (4 * x)).2.1 : Int), .bool (tM (4 * x)).2.2] := (by repeat (first | (with_reducible first | assumption | (refine at_new' _ _ _ _ ?_; first | rfl | (simp; done)) | refine At.alloc ?_ _ | refine At.drew ?_ | refine At.drewN ?_ | refine At.set ?_ (by omega) | apply At.store4 | apply At.store3 | apply At.store2 | apply At.put43) | refine At.below ?_ (by with_reducible assumption))); have kpw2 : At w2 (p) [.slice su n cu, .slice sv n cv] := (by repeat (first | (with_reducible first | assumption | (refine at_new' _ _ _ _ ?_; first | rfl | (simp; done)) | refine At.alloc ?_ _ | refine At.drew ?_ | refine At.drewN ?_ | refine At.set ?_ (by omega) | apply At.store4 | apply At.store3 | apply At.store2 | apply At.put43) | refine At.below ?_ (by with_reducible assumption))); have hqw2 : Below w.heap.size w w2 := (by repeat (first | (with_reducible first | exact Below.refl _ _ | assumption | refine Below.setCell ?_ (by first | simp <;> omega | omega) _ | refine Below.alloc ?_ (by first | simp <;> omega | omega) _) | refine bl_call ?_ (by assumption) (by first | simp <;> omega | omega) | (with_reducible first | refine bl_drewN ?_ | refine Below.drew ?_ | refine bl_grow ?_ (by first | simp <;> omega | omega)))); have hzw2 := hqw2.size; obtain ⟨zdw2, cd0w2, cd1w2, cd2w2, cd3w2, cd4w2, cd5w2, fd0w2, fd1w2, fd2w2, fd3w2, fd4w2, fd5w2⟩ := kdw2.six; obtain ⟨zxw2, cx0w2, cx1w2, cx2w2, fx0w2, fx1w2, fx2w2⟩ := kxw2.three; obtain ⟨zpw2, cp0w2, cp1w2, fp0w2, fp1w2⟩ := kpw2.two; clear kdU cd0U fd0U cd1U fd1U cd2U fd2U cd3U fd3U cd4U fd4U cd5U fd5U kxU cx0U fx0U cx1U fx1U cx2U fx2U kpU cp0U fp0U cp1U fp1U hqU; clear hbw2) | (go_at_call 6; clear m3; refine (HSP.out _).mono ?_; rintro e w3 ⟨rfl, hbw3⟩; have kdw3 : At w3 (w.heap.size) [.slice sz m dz, .slice sl c d, .int .i64 rx, .int .i64 ry, .bool rf, .int .i64 S] := (by repeat (first | (with_reducible first | assumption | (refine at_new' _ _ _ _ ?_; first | rfl | (simp; done)) | refine At.alloc ?_ _ | refine At.drew ?_ | refine At.drewN ?_ | refine At.set ?_ (by omega) | apply At.store4 | apply At.store3 | apply At.store2 | apply At.put43) | refine At.below ?_ (by with_reducible assumption))); have kxw3 : At w3 (w1.heap.size) [.int .i64 ((tM (4 * x)).1 : Int), .int .i64 ((tM (4 * x)).2.1 : Int), .bool (tM (4 * x)).2.2] := (by repeat (first | (with_reducible first | assumption | (refine at_new' _ _ _ _ ?_; first | rfl | (simp; done)) | refine At.alloc ?_ _ | refine At.drew ?_ | refine At.drewN ?_ | refine At.set ?_ (by omega) | apply At.store4 | apply At.store3 | apply At.store2 | apply At.put43) | refine At.below ?_ (by with_reducible assumption))); have kpw3 : At w3 (p) [.slice su n cu, .slice sv n cv] := (by repeat (first | (with_reducible first | assumption | (refine at_new' _ _ _ _ ?_; first | rfl | (simp; done)) | refine At.alloc ?_ _ | refine At.drew ?_ | refine At.drewN ?_ | refine At.set ?_ (by omega) | apply At.store4 | apply At.store3 | apply At.store2 | apply At.put43) | refine At.below ?_ (by with_reducible assumption))); have hqw3 : Below w.heap.size w w3 := (by repeat (first | (with_reducible first | exact Below.refl _ _ | assumption | refine Below.setCell ?_ (by first | simp <;> omega | omega) _ | refine Below.alloc ?_ (by first | simp <;> omega | omega) _) | refine bl_call ?_ (by assumption) (by first | simp <;> omega | omega) | (with_reducible first | refine bl_drewN ?_ | refine Below.drew ?_ | refine bl_grow ?_ (by first | simp <;> omega | omega)))); have hzw3 := hqw3.size; obtain ⟨zdw3, cd0w3, cd1w3, cd2w3, cd3w3, cd4w3, cd5w3, fd0w3, fd1w3, fd2w3, fd3w3, fd4w3, fd5w3⟩ := kdw3.six; obtain ⟨zxw3, cx0w3, cx1w3, cx2w3, fx0w3, fx1w3, fx2w3⟩ := kxw3.three; obtain ⟨zpw3, cp0w3, cp1w3, fp0w3, fp1w3⟩ := kpw3.two; clear kdw2 cd0w2 fd0w2 cd1w2 fd1w2 cd2w2 fd2w2 cd3w2 fd3w2 cd4w2 fd4w2 cd5w2 fd5w2 kxw2 cx0w2 fx0w2 cx1w2 fx1w2 cx2w2 fx2w2 kpw2 cp0w2 fp0w2 cp1w2 fp1w2 hqw2; clear hbw3))
  go_ret
  exact ⟨rfl, by repeat (first | (with_reducible first | exact Below.refl _ _ | assumption | refine Below.setCell ?_ (by first | simp <;> omega | omega) _ | refine Below.alloc ?_ (by first | simp <;> omega | omega) _) | refine bl_call ?_ (by assumption) (by first | simp <;> omega | omega) | (with_reducible first | refine bl_drewN ?_ | refine Below.drew ?_ | refine bl_grow ?_ (by first | simp <;> omega | omega)))⟩
set_option maxRecDepth 100000 in
set_option maxHeartbeats 8000000 in
theorem rdo_wrong (B p n m c d dz : Nat) (sz sl : Option Addr) (u v : Value) (K : Nat → Nat) (G : Nat → Bool) (x a s b : Nat) (H L T R : Sn) (t1 t2 t3 : Bool) (w : World) (hn : n ≤ 1000) (hc : c ≤ 12) (hf : n + c ≤ 1000) (h : BookAt 25 4 B w p u v n K G) (hx : ∀ W, Below w.heap.size w W → Calls Tryz.prog 18 #[.pointer (some ⟨p, 0, none⟩), .slice sz m dz, .slice sl c d] W fun e w' => e = .returned (.tuple #[.agg #[.int .i64 ((tM (4 * x)).1 : Int), .int .i64 ((tM (4 * x)).2.1 : Int), .bool (tM (4 * x)).2.2], .int .i64 0]) ∧ Below W.heap.size W w') (hrs : ∀ w, Calls Tryz.prog 10 #[.int .i64 (s : Int)] w fun e w' => e = .returned (.bool true) ∧ Below w.heap.size w w') (hsp : ∀ w, Calls Tryz.prog 6 #[.agg #[.int .i64 ((tM a).1 : Int), .int .i64 ((tM a).2.1 : Int), .bool (tM a).2.2]] w fun e w' => e = .returned (.int .i64 0) ∧ Below w.heap.size w w') (hba : ∀ w, Calls Tryz.prog 7 #[.agg #[.int .i64 ((tM a).1 : Int), .int .i64 ((tM a).2.1 : Int), .bool (tM a).2.2], .agg #[.int .i64 ((tM (4 * x)).1 : Int), .int .i64 ((tM (4 * x)).2.1 : Int), .bool (tM (4 * x)).2.2]] w fun e w' => e = .returned (.int .i64 (b : Int)) ∧ Below w.heap.size w w') (hse : ∀ w, Calls Tryz.prog 13 #[] w fun e w' => e = .returned (.agg #[.int .i64 ((H).1 : Int), .int .i64 ((H).2.1 : Int), .bool (H).2.2]) ∧ Below w.heap.size w w') (htl : ∀ w, Calls Tryz.prog 12 #[.agg #[.int .i64 ((H).1 : Int), .int .i64 ((H).2.1 : Int), .bool (H).2.2], .int .i64 (s : Int)] w fun e w' => e = .returned (.agg #[.int .i64 ((L).1 : Int), .int .i64 ((L).2.1 : Int), .bool (L).2.2]) ∧ Below w.heap.size w w') (htx : ∀ w, Calls Tryz.prog 12 #[.agg #[.int .i64 ((tM (4 * x)).1 : Int), .int .i64 ((tM (4 * x)).2.1 : Int), .bool (tM (4 * x)).2.2], .int .i64 (b : Int)] w fun e w' => e = .returned (.agg #[.int .i64 ((T).1 : Int), .int .i64 ((T).2.1 : Int), .bool (T).2.2]) ∧ Below w.heap.size w w') (had : ∀ w, Calls Tryz.prog 45 #[.agg #[.int .i64 ((tM a).1 : Int), .int .i64 ((tM a).2.1 : Int), .bool (tM a).2.2], .agg #[.int .i64 ((T).1 : Int), .int .i64 ((T).2.1 : Int), .bool (T).2.2]] w fun e w' => e = .returned (.agg #[.int .i64 ((R).1 : Int), .int .i64 ((R).2.1 : Int), .bool (R).2.2]) ∧ Below w.heap.size w w') (e1 : ((L.1 : Int) == (R.1 : Int)) = t1) (e2 : ((L.2.1 : Int) == (R.2.1 : Int)) = t2) (e3 : (L.2.2 == R.2.2) = t3) (ht : (t1 && t2 && t3) = false) : Calls Tryz.prog 20 #[.pointer (some ⟨p, 0, none⟩), .agg #[.slice sz m dz, .slice sl c d, .int .i64 ((tM a).1 : Int), .int .i64 ((tM a).2.1 : Int), .bool (tM a).2.2, .int .i64 (s : Int)]] w fun e w' => e = .returned (.int .i64 8) ∧ Below w.heap.size w w' := by
  have hf1 : ¬ (n : Int) + (c : Int) > 1000 := by omega
  have Hrs : Hid (∀ w, Calls Tryz.prog 10 #[.int .i64 (s : Int)] w fun e w' => e = .returned (.bool true) ∧ Below w.heap.size w w') := hrs
  have Hsp : Hid (∀ w, Calls Tryz.prog 6 #[.agg #[.int .i64 ((tM a).1 : Int), .int .i64 ((tM a).2.1 : Int), .bool (tM a).2.2]] w fun e w' => e = .returned (.int .i64 0) ∧ Below w.heap.size w w') := hsp
  have Hba : Hid (∀ w, Calls Tryz.prog 7 #[.agg #[.int .i64 ((tM a).1 : Int), .int .i64 ((tM a).2.1 : Int), .bool (tM a).2.2], .agg #[.int .i64 ((tM (4 * x)).1 : Int), .int .i64 ((tM (4 * x)).2.1 : Int), .bool (tM (4 * x)).2.2]] w fun e w' => e = .returned (.int .i64 (b : Int)) ∧ Below w.heap.size w w') := hba
  have Hse : Hid (∀ w, Calls Tryz.prog 13 #[] w fun e w' => e = .returned (.agg #[.int .i64 ((H).1 : Int), .int .i64 ((H).2.1 : Int), .bool (H).2.2]) ∧ Below w.heap.size w w') := hse
  have Htl : Hid (∀ w, Calls Tryz.prog 12 #[.agg #[.int .i64 ((H).1 : Int), .int .i64 ((H).2.1 : Int), .bool (H).2.2], .int .i64 (s : Int)] w fun e w' => e = .returned (.agg #[.int .i64 ((L).1 : Int), .int .i64 ((L).2.1 : Int), .bool (L).2.2]) ∧ Below w.heap.size w w') := htl
  have Htx : Hid (∀ w, Calls Tryz.prog 12 #[.agg #[.int .i64 ((tM (4 * x)).1 : Int), .int .i64 ((tM (4 * x)).2.1 : Int), .bool (tM (4 * x)).2.2], .int .i64 (b : Int)] w fun e w' => e = .returned (.agg #[.int .i64 ((T).1 : Int), .int .i64 ((T).2.1 : Int), .bool (T).2.2]) ∧ Below w.heap.size w w') := htx
  have Had : Hid (∀ w, Calls Tryz.prog 45 #[.agg #[.int .i64 ((tM a).1 : Int), .int .i64 ((tM a).2.1 : Int), .bool (tM a).2.2], .agg #[.int .i64 ((T).1 : Int), .int .i64 ((T).2.1 : Int), .bool (T).2.2]] w fun e w' => e = .returned (.agg #[.int .i64 ((R).1 : Int), .int .i64 ((R).2.1 : Int), .bool (R).2.2]) ∧ Below w.heap.size w w') := had
  clear hrs hsp hba hse htl htx had
  obtain ⟨su, cu, sv, cv, rfl, rfl, _⟩ := h.slices
  have HP : Hid (At w p [.slice su n cu, .slice sv n cv]) := h.cells
  have HX : Hid (∀ W, Below w.heap.size w W → Calls Tryz.prog 18 #[.pointer (some ⟨p, 0, none⟩), .slice sz m dz, .slice sl c d] W fun e w' => e = .returned (.tuple #[.agg #[.int .i64 ((tM (4 * x)).1 : Int), .int .i64 ((tM (4 * x)).2.1 : Int), .bool (tM (4 * x)).2.2], .int .i64 0]) ∧ Below W.heap.size W w') := hx
  clear h hx
  have m1 : True := trivial; have m2 : True := trivial; have m3 : True := trivial; have m4 : True := trivial
  go_enter Tryz.func20, Tryz.ntmps20
  go_upto_region 4 with (go_at_call 18; clear m1; refine (HX.out _ (by repeat (first | (with_reducible first | exact Below.refl _ _ | assumption | refine Below.setCell ?_ (by first | simp <;> omega | omega) _ | refine Below.alloc ?_ (by first | simp <;> omega | omega) _) | refine bl_call ?_ (by assumption) (by first | simp <;> omega | omega) | (with_reducible first | refine bl_drewN ?_ | refine Below.drew ?_ | refine bl_grow ?_ (by first | simp <;> omega | omega))))).mono ?_; rintro e w1 ⟨rfl, hbw1⟩; have kdw1 : At w1 (w.heap.size) [.slice sz m dz, .slice sl c d, .int .i64 ((tM a).1 : Int), .int .i64 ((tM a).2.1 : Int), .bool (tM a).2.2, .int .i64 (s : Int)] := (by repeat (first | (with_reducible first | assumption | (refine at_new' _ _ _ _ ?_; first | rfl | (simp; done)) | refine At.alloc ?_ _ | refine At.drew ?_ | refine At.drewN ?_ | refine At.set ?_ (by omega) | apply At.store4 | apply At.store3 | apply At.store2 | apply At.put43) | refine At.below ?_ (by with_reducible assumption))); have hqw1 : Below w.heap.size w w1 := (by repeat (first | (with_reducible first | exact Below.refl _ _ | assumption | refine Below.setCell ?_ (by first | simp <;> omega | omega) _ | refine Below.alloc ?_ (by first | simp <;> omega | omega) _) | refine bl_call ?_ (by assumption) (by first | simp <;> omega | omega) | (with_reducible first | refine bl_drewN ?_ | refine Below.drew ?_ | refine bl_grow ?_ (by first | simp <;> omega | omega)))); have hzw1 := hqw1.size; obtain ⟨zdw1, cd0w1, cd1w1, cd2w1, cd3w1, cd4w1, cd5w1, fd0w1, fd1w1, fd2w1, fd3w1, fd4w1, fd5w1⟩ := kdw1.six; clear hbw1)
  refine wp_gen (fun V => At V (w.heap.size) [.slice sz m dz, .slice sl c d, .int .i64 ((tM a).1 : Int), .int .i64 ((tM a).2.1 : Int), .bool (tM a).2.2, .int .i64 (s : Int)] ∧ At V (w1.heap.size) [.int .i64 ((tM (4 * x)).1 : Int), .int .i64 ((tM (4 * x)).2.1 : Int), .bool (tM (4 * x)).2.2] ∧ Below w.heap.size w V) ⟨by repeat (first | (with_reducible first | assumption | (refine at_new' _ _ _ _ ?_; first | rfl | (simp; done)) | refine At.alloc ?_ _ | refine At.drew ?_ | refine At.drewN ?_ | refine At.set ?_ (by omega) | apply At.store4 | apply At.store3 | apply At.store2 | apply At.put43) | refine At.below ?_ (by with_reducible assumption)), by repeat (first | (with_reducible first | assumption | (refine at_new' _ _ _ _ ?_; first | rfl | (simp; done)) | refine At.alloc ?_ _ | refine At.drew ?_ | refine At.drewN ?_ | refine At.set ?_ (by omega) | apply At.store4 | apply At.store3 | apply At.store2 | apply At.put43) | refine At.below ?_ (by with_reducible assumption)), by repeat (first | (with_reducible first | exact Below.refl _ _ | assumption | refine Below.setCell ?_ (by first | simp <;> omega | omega) _ | refine Below.alloc ?_ (by first | simp <;> omega | omega) _) | refine bl_call ?_ (by assumption) (by first | simp <;> omega | omega) | (with_reducible first | refine bl_drewN ?_ | refine Below.drew ?_ | refine bl_grow ?_ (by first | simp <;> omega | omega)))⟩ ?_
  rintro V ⟨kdV, kxV, hqV⟩
  have hzV := hqV.size
  clear kdw1 cd0w1 fd0w1 cd1w1 fd1w1 cd2w1 fd2w1 cd3w1 fd3w1 cd4w1 fd4w1 cd5w1 fd5w1 hqw1
  obtain ⟨zdV, cd0V, cd1V, cd2V, cd3V, cd4V, cd5V, fd0V, fd1V, fd2V, fd3V, fd4V, fd5V⟩ := kdV.six
  obtain ⟨zxV, cx0V, cx1V, cx2V, fx0V, fx1V, fx2V⟩ := kxV.three
  have kpV := HP.out.below hqV
  obtain ⟨zpV, cp0V, cp1V, fp0V, fp1V⟩ := kpV.two
  refine wp_region_quiet_below (by kernel_rfl) (by kernel_rfl) ?_
  repeat (go_big_quiet_step (first | fail))
  refine wpQuiet_nil ?_
  intro U hw1
  have hrU := regrown_below hw1
  clear hw1
  have kdU := kdV.below hrU
  have kxU := kxV.below hrU
  have kpU := kpV.below hrU
  have hqU := bl_call hqV hrU (by omega)
  have hzU := hqU.size
  clear hrU kdV cd0V fd0V cd1V fd1V cd2V fd2V cd3V fd3V cd4V fd4V cd5V fd5V kxV cx0V fx0V cx1V fx1V cx2V fx2V kpV cp0V fp0V cp1V fp1V hqV
  obtain ⟨zdU, cd0U, cd1U, cd2U, cd3U, cd4U, cd5U, fd0U, fd1U, fd2U, fd3U, fd4U, fd5U⟩ := kdU.six
  obtain ⟨zxU, cx0U, cx1U, cx2U, fx0U, fx1U, fx2U⟩ := kxU.three
  obtain ⟨zpU, cp0U, cp1U, fp0U, fp1U⟩ := kpU.two
  go_upto_region 13 with (first | (go_at_call 10; clear m2; refine (Hrs.out _).mono ?_; rintro e w2 ⟨rfl, hbw2⟩; have kdw2 : At w2 (w.heap.size) [.slice sz m dz, .slice sl c d, .int .i64 ((tM a).1 : Int), .int .i64 ((tM a).2.1 : Int), .bool (tM a).2.2, .int .i64 (s : Int)] := (by repeat (first | (with_reducible first | assumption | (refine at_new' _ _ _ _ ?_; first | rfl | (simp; done)) | refine At.alloc ?_ _ | refine At.drew ?_ | refine At.drewN ?_ | refine At.set ?_ (by omega) | apply At.store4 | apply At.store3 | apply At.store2 | apply At.put43) | refine At.below ?_ (by with_reducible assumption))); have kxw2 : At w2 (w1.heap.size) [.int .i64 ((tM (4 * x)).1 : Int), .int .i64 ((tM (4 * x)).2.1 : Int), .bool (tM (4 * x)).2.2] := (by repeat (first | (with_reducible first | assumption | (refine at_new' _ _ _ _ ?_; first | rfl | (simp; done)) | refine At.alloc ?_ _ | refine At.drew ?_ | refine At.drewN ?_ | refine At.set ?_ (by omega) | apply At.store4 | apply At.store3 | apply At.store2 | apply At.put43) | refine At.below ?_ (by with_reducible assumption))); have kpw2 : At w2 (p) [.slice su n cu, .slice sv n cv] := (by repeat (first | (with_reducible first | assumption | (refine at_new' _ _ _ _ ?_; first | rfl | (simp; done)) | refine At.alloc ?_ _ | refine At.drew ?_ | refine At.drewN ?_ | refine At.set ?_ (by omega) | apply At.store4 | apply At.store3 | apply At.store2 | apply At.put43) | refine At.below ?_ (by with_reducible assumption))); have hqw2 : Below w.heap.size w w2 := (by repeat (first | (with_reducible first | exact Below.refl _ _ | assumption | refine Below.setCell ?_ (by first | simp <;> omega | omega) _ | refine Below.alloc ?_ (by first | simp <;> omega | omega) _) | refine bl_call ?_ (by assumption) (by first | simp <;> omega | omega) | (with_reducible first | refine bl_drewN ?_ | refine Below.drew ?_ | refine bl_grow ?_ (by first | simp <;> omega | omega)))); have hzw2 := hqw2.size; obtain ⟨zdw2, cd0w2, cd1w2, cd2w2, cd3w2, cd4w2, cd5w2, fd0w2, fd1w2, fd2w2, fd3w2, fd4w2, fd5w2⟩ := kdw2.six; obtain ⟨zxw2, cx0w2, cx1w2, cx2w2, fx0w2, fx1w2, fx2w2⟩ := kxw2.three; obtain ⟨zpw2, cp0w2, cp1w2, fp0w2, fp1w2⟩ := kpw2.two; clear kdU cd0U fd0U cd1U fd1U cd2U fd2U cd3U fd3U cd4U fd4U cd5U fd5U kxU cx0U fx0U cx1U fx1U cx2U fx2U kpU cp0U fp0U cp1U fp1U hqU; clear hbw2) | (go_at_call 6; clear m3; refine (Hsp.out _).mono ?_; rintro e w3 ⟨rfl, hbw3⟩; have kdw3 : At w3 (w.heap.size) [.slice sz m dz, .slice sl c d, .int .i64 ((tM a).1 : Int), .int .i64 ((tM a).2.1 : Int), .bool (tM a).2.2, .int .i64 (s : Int)] := (by repeat (first | (with_reducible first | assumption | (refine at_new' _ _ _ _ ?_; first | rfl | (simp; done)) | refine At.alloc ?_ _ | refine At.drew ?_ | refine At.drewN ?_ | refine At.set ?_ (by omega) | apply At.store4 | apply At.store3 | apply At.store2 | apply At.put43) | refine At.below ?_ (by with_reducible assumption))); have kxw3 : At w3 (w1.heap.size) [.int .i64 ((tM (4 * x)).1 : Int), .int .i64 ((tM (4 * x)).2.1 : Int), .bool (tM (4 * x)).2.2] := (by repeat (first | (with_reducible first | assumption | (refine at_new' _ _ _ _ ?_; first | rfl | (simp; done)) | refine At.alloc ?_ _ | refine At.drew ?_ | refine At.drewN ?_ | refine At.set ?_ (by omega) | apply At.store4 | apply At.store3 | apply At.store2 | apply At.put43) | refine At.below ?_ (by with_reducible assumption))); have kpw3 : At w3 (p) [.slice su n cu, .slice sv n cv] := (by repeat (first | (with_reducible first | assumption | (refine at_new' _ _ _ _ ?_; first | rfl | (simp; done)) | refine At.alloc ?_ _ | refine At.drew ?_ | refine At.drewN ?_ | refine At.set ?_ (by omega) | apply At.store4 | apply At.store3 | apply At.store2 | apply At.put43) | refine At.below ?_ (by with_reducible assumption))); have hqw3 : Below w.heap.size w w3 := (by repeat (first | (with_reducible first | exact Below.refl _ _ | assumption | refine Below.setCell ?_ (by first | simp <;> omega | omega) _ | refine Below.alloc ?_ (by first | simp <;> omega | omega) _) | refine bl_call ?_ (by assumption) (by first | simp <;> omega | omega) | (with_reducible first | refine bl_drewN ?_ | refine Below.drew ?_ | refine bl_grow ?_ (by first | simp <;> omega | omega)))); have hzw3 := hqw3.size; obtain ⟨zdw3, cd0w3, cd1w3, cd2w3, cd3w3, cd4w3, cd5w3, fd0w3, fd1w3, fd2w3, fd3w3, fd4w3, fd5w3⟩ := kdw3.six; obtain ⟨zxw3, cx0w3, cx1w3, cx2w3, fx0w3, fx1w3, fx2w3⟩ := kxw3.three; obtain ⟨zpw3, cp0w3, cp1w3, fp0w3, fp1w3⟩ := kpw3.two; clear kdw2 cd0w2 fd0w2 cd1w2 fd1w2 cd2w2 fd2w2 cd3w2 fd3w2 cd4w2 fd4w2 cd5w2 fd5w2 kxw2 cx0w2 fx0w2 cx1w2 fx1w2 cx2w2 fx2w2 kpw2 cp0w2 fp0w2 cp1w2 fp1w2 hqw2; clear hbw3) | (go_at_call 7; clear m4; refine (Hba.out _).mono ?_; rintro e w4 ⟨rfl, hbw4⟩; have kdw4 : At w4 (w.heap.size) [.slice sz m dz, .slice sl c d, .int .i64 ((tM a).1 : Int), .int .i64 ((tM a).2.1 : Int), .bool (tM a).2.2, .int .i64 (s : Int)] := (by repeat (first | (with_reducible first | assumption | (refine at_new' _ _ _ _ ?_; first | rfl | (simp; done)) | refine At.alloc ?_ _ | refine At.drew ?_ | refine At.drewN ?_ | refine At.set ?_ (by omega) | apply At.store4 | apply At.store3 | apply At.store2 | apply At.put43) | refine At.below ?_ (by with_reducible assumption))); have kxw4 : At w4 (w1.heap.size) [.int .i64 ((tM (4 * x)).1 : Int), .int .i64 ((tM (4 * x)).2.1 : Int), .bool (tM (4 * x)).2.2] := (by repeat (first | (with_reducible first | assumption | (refine at_new' _ _ _ _ ?_; first | rfl | (simp; done)) | refine At.alloc ?_ _ | refine At.drew ?_ | refine At.drewN ?_ | refine At.set ?_ (by omega) | apply At.store4 | apply At.store3 | apply At.store2 | apply At.put43) | refine At.below ?_ (by with_reducible assumption))); have kpw4 : At w4 (p) [.slice su n cu, .slice sv n cv] := (by repeat (first | (with_reducible first | assumption | (refine at_new' _ _ _ _ ?_; first | rfl | (simp; done)) | refine At.alloc ?_ _ | refine At.drew ?_ | refine At.drewN ?_ | refine At.set ?_ (by omega) | apply At.store4 | apply At.store3 | apply At.store2 | apply At.put43) | refine At.below ?_ (by with_reducible assumption))); have hqw4 : Below w.heap.size w w4 := (by repeat (first | (with_reducible first | exact Below.refl _ _ | assumption | refine Below.setCell ?_ (by first | simp <;> omega | omega) _ | refine Below.alloc ?_ (by first | simp <;> omega | omega) _) | refine bl_call ?_ (by assumption) (by first | simp <;> omega | omega) | (with_reducible first | refine bl_drewN ?_ | refine Below.drew ?_ | refine bl_grow ?_ (by first | simp <;> omega | omega)))); have hzw4 := hqw4.size; obtain ⟨zdw4, cd0w4, cd1w4, cd2w4, cd3w4, cd4w4, cd5w4, fd0w4, fd1w4, fd2w4, fd3w4, fd4w4, fd5w4⟩ := kdw4.six; obtain ⟨zxw4, cx0w4, cx1w4, cx2w4, fx0w4, fx1w4, fx2w4⟩ := kxw4.three; obtain ⟨zpw4, cp0w4, cp1w4, fp0w4, fp1w4⟩ := kpw4.two; clear kdw3 cd0w3 fd0w3 cd1w3 fd1w3 cd2w3 fd2w3 cd3w3 fd3w3 cd4w3 fd4w3 cd5w3 fd5w3 kxw3 cx0w3 fx0w3 cx1w3 fx1w3 cx2w3 fx2w3 kpw3 cp0w3 fp0w3 cp1w3 fp1w3 hqw3; clear hbw4))
  apply region_new 5 25 [.int .i64 0, .int .i64 0, .bool false] (by kernel_rfl) (by kernel_rfl) (fun b => by kernel_rfl) rfl rfl rfl
  case hal => intro e u; simp [go_sem]
  case h =>
    intro zl Y hrY
    have kdY := kdw4.below hrY
    have kxY := kxw4.below hrY
    have kpY := kpw4.below hrY
    obtain ⟨zdY, cd0Y, cd1Y, cd2Y, cd3Y, cd4Y, cd5Y, fd0Y, fd1Y, fd2Y, fd3Y, fd4Y, fd5Y⟩ := kdY.six
    obtain ⟨zxY, cx0Y, cx1Y, cx2Y, fx0Y, fx1Y, fx2Y⟩ := kxY.three
    obtain ⟨zpY, cp0Y, cp1Y, fp0Y, fp1Y⟩ := kpY.two
    dsimp only [List.dropLast, withPtr, ptrOp, Cls]
    repeat (go_big_quiet_step (first | (go_at_call 13; with_reducible exact Calls.regrown_of (Hse.out _)) | (go_at_call 12; with_reducible exact Calls.regrown_of (Htl.out _))))
    exact wpQuiet_nil rfl
  case hA => intro b; rfl
  case hend =>
  intro zl Y hrY kzlY hyzl
  have kdY := kdw4.below hrY
  have kxY := kxw4.below hrY
  have kpY := kpw4.below hrY
  have hqY := bl_call hqw4 hrY (by omega)
  have hzY := hqY.size
  clear hrY kdw4 cd0w4 fd0w4 cd1w4 fd1w4 cd2w4 fd2w4 cd3w4 fd3w4 cd4w4 fd4w4 cd5w4 fd5w4 kxw4 cx0w4 fx0w4 cx1w4 fx1w4 cx2w4 fx2w4 kpw4 cp0w4 fp0w4 cp1w4 fp1w4 hqw4
  obtain ⟨zdY, cd0Y, cd1Y, cd2Y, cd3Y, cd4Y, cd5Y, fd0Y, fd1Y, fd2Y, fd3Y, fd4Y, fd5Y⟩ := kdY.six
  obtain ⟨zxY, cx0Y, cx1Y, cx2Y, fx0Y, fx1Y, fx2Y⟩ := kxY.three
  obtain ⟨zpY, cp0Y, cp1Y, fp0Y, fp1Y⟩ := kpY.two
  obtain ⟨zzlY, czl0Y, czl1Y, czl2Y, fzl0Y, fzl1Y, fzl2Y⟩ := kzlY.three
  dsimp only [List.dropLast, List.length, List.drop]
  go_upto_region 14 with fail
  refine wp_gen (fun O => At O (w.heap.size) [.slice sz m dz, .slice sl c d, .int .i64 ((tM a).1 : Int), .int .i64 ((tM a).2.1 : Int), .bool (tM a).2.2, .int .i64 (s : Int)] ∧ At O (w1.heap.size) [.int .i64 ((tM (4 * x)).1 : Int), .int .i64 ((tM (4 * x)).2.1 : Int), .bool (tM (4 * x)).2.2] ∧ At O (p) [.slice su n cu, .slice sv n cv] ∧ At O (zl) [.int .i64 ((L).1 : Int), .int .i64 ((L).2.1 : Int), .bool (L).2.2] ∧ Below w.heap.size w O) ⟨by repeat (first | (with_reducible first | assumption | (refine at_new' _ _ _ _ ?_; first | rfl | (simp; done)) | refine At.alloc ?_ _ | refine At.drew ?_ | refine At.drewN ?_ | refine At.set ?_ (by omega) | apply At.store4 | apply At.store3 | apply At.store2 | apply At.put43) | refine At.below ?_ (by with_reducible assumption)), by repeat (first | (with_reducible first | assumption | (refine at_new' _ _ _ _ ?_; first | rfl | (simp; done)) | refine At.alloc ?_ _ | refine At.drew ?_ | refine At.drewN ?_ | refine At.set ?_ (by omega) | apply At.store4 | apply At.store3 | apply At.store2 | apply At.put43) | refine At.below ?_ (by with_reducible assumption)), by repeat (first | (with_reducible first | assumption | (refine at_new' _ _ _ _ ?_; first | rfl | (simp; done)) | refine At.alloc ?_ _ | refine At.drew ?_ | refine At.drewN ?_ | refine At.set ?_ (by omega) | apply At.store4 | apply At.store3 | apply At.store2 | apply At.put43) | refine At.below ?_ (by with_reducible assumption)), by repeat (first | (with_reducible first | assumption | (refine at_new' _ _ _ _ ?_; first | rfl | (simp; done)) | refine At.alloc ?_ _ | refine At.drew ?_ | refine At.drewN ?_ | refine At.set ?_ (by omega) | apply At.store4 | apply At.store3 | apply At.store2 | apply At.put43) | refine At.below ?_ (by with_reducible assumption)), by repeat (first | (with_reducible first | exact Below.refl _ _ | assumption | refine Below.setCell ?_ (by first | simp <;> omega | omega) _ | refine Below.alloc ?_ (by first | simp <;> omega | omega) _) | refine bl_call ?_ (by assumption) (by first | simp <;> omega | omega) | (with_reducible first | refine bl_drewN ?_ | refine Below.drew ?_ | refine bl_grow ?_ (by first | simp <;> omega | omega)))⟩ ?_
  rintro O ⟨kdO, kxO, kpO, klO, hqO⟩
  have hzO := hqO.size
  clear kdY cd0Y fd0Y cd1Y fd1Y cd2Y fd2Y cd3Y fd3Y cd4Y fd4Y cd5Y fd5Y kxY cx0Y fx0Y cx1Y fx1Y cx2Y fx2Y kpY cp0Y fp0Y cp1Y fp1Y hqY
  obtain ⟨zdO, cd0O, cd1O, cd2O, cd3O, cd4O, cd5O, fd0O, fd1O, fd2O, fd3O, fd4O, fd5O⟩ := kdO.six
  obtain ⟨zxO, cx0O, cx1O, cx2O, fx0O, fx1O, fx2O⟩ := kxO.three
  obtain ⟨zpO, cp0O, cp1O, fp0O, fp1O⟩ := kpO.two
  obtain ⟨zlO, cl0O, cl1O, cl2O, fl0O, fl1O, fl2O⟩ := klO.three
  apply region_new 7 25 [.int .i64 0, .int .i64 0, .bool false] (by kernel_rfl) (by kernel_rfl) (fun b => by kernel_rfl) rfl rfl rfl
  case hal => intro e u; simp [go_sem]
  case h =>
    intro zr Q hrQ
    have kdQ := kdO.below hrQ
    have kxQ := kxO.below hrQ
    have kpQ := kpO.below hrQ
    have klQ := klO.below hrQ
    obtain ⟨zdQ, cd0Q, cd1Q, cd2Q, cd3Q, cd4Q, cd5Q, fd0Q, fd1Q, fd2Q, fd3Q, fd4Q, fd5Q⟩ := kdQ.six
    obtain ⟨zxQ, cx0Q, cx1Q, cx2Q, fx0Q, fx1Q, fx2Q⟩ := kxQ.three
    obtain ⟨zpQ, cp0Q, cp1Q, fp0Q, fp1Q⟩ := kpQ.two
    obtain ⟨zlQ, cl0Q, cl1Q, cl2Q, fl0Q, fl1Q, fl2Q⟩ := klQ.three
    dsimp only [List.dropLast, withPtr, ptrOp, Cls]
    repeat (go_big_quiet_step (first | (go_at_call 12; with_reducible exact Calls.regrown_of (Htx.out _)) | (go_at_call 45; with_reducible exact Calls.regrown_of (Had.out _))))
    exact wpQuiet_nil rfl
  case hA => intro b; rfl
  case hend =>
  intro zr Q hrQ kzrQ hyzr
  have kdQ := kdO.below hrQ
  have kxQ := kxO.below hrQ
  have kpQ := kpO.below hrQ
  have klQ := klO.below hrQ
  have hqQ := bl_call hqO hrQ (by omega)
  have hzQ := hqQ.size
  clear hrQ kdO cd0O fd0O cd1O fd1O cd2O fd2O cd3O fd3O cd4O fd4O cd5O fd5O kxO cx0O fx0O cx1O fx1O cx2O fx2O kpO cp0O fp0O cp1O fp1O klO cl0O fl0O cl1O fl1O cl2O fl2O hqO
  obtain ⟨zdQ, cd0Q, cd1Q, cd2Q, cd3Q, cd4Q, cd5Q, fd0Q, fd1Q, fd2Q, fd3Q, fd4Q, fd5Q⟩ := kdQ.six
  obtain ⟨zxQ, cx0Q, cx1Q, cx2Q, fx0Q, fx1Q, fx2Q⟩ := kxQ.three
  obtain ⟨zpQ, cp0Q, cp1Q, fp0Q, fp1Q⟩ := kpQ.two
  obtain ⟨zlQ, cl0Q, cl1Q, cl2Q, fl0Q, fl1Q, fl2Q⟩ := klQ.three
  obtain ⟨zzrQ, czr0Q, czr1Q, czr2Q, fzr0Q, fzr1Q, fzr2Q⟩ := kzrQ.three
  dsimp only [List.dropLast, List.length, List.drop]
  go_upto_region 15 with fail
  refine wp_gen (fun M => At M (zl) [.int .i64 ((L).1 : Int), .int .i64 ((L).2.1 : Int), .bool (L).2.2] ∧ At M (zr) [.int .i64 ((R).1 : Int), .int .i64 ((R).2.1 : Int), .bool (R).2.2] ∧ Below w.heap.size w M) ⟨by repeat (first | (with_reducible first | assumption | (refine at_new' _ _ _ _ ?_; first | rfl | (simp; done)) | refine At.alloc ?_ _ | refine At.drew ?_ | refine At.drewN ?_ | refine At.set ?_ (by omega) | apply At.store4 | apply At.store3 | apply At.store2 | apply At.put43) | refine At.below ?_ (by with_reducible assumption)), by repeat (first | (with_reducible first | assumption | (refine at_new' _ _ _ _ ?_; first | rfl | (simp; done)) | refine At.alloc ?_ _ | refine At.drew ?_ | refine At.drewN ?_ | refine At.set ?_ (by omega) | apply At.store4 | apply At.store3 | apply At.store2 | apply At.put43) | refine At.below ?_ (by with_reducible assumption)), by repeat (first | (with_reducible first | exact Below.refl _ _ | assumption | refine Below.setCell ?_ (by first | simp <;> omega | omega) _ | refine Below.alloc ?_ (by first | simp <;> omega | omega) _) | refine bl_call ?_ (by assumption) (by first | simp <;> omega | omega) | (with_reducible first | refine bl_drewN ?_ | refine Below.drew ?_ | refine bl_grow ?_ (by first | simp <;> omega | omega)))⟩ ?_
  rintro M ⟨klM, krM, hqM⟩
  have hzM := hqM.size
  clear kzrQ kdQ cd0Q fd0Q cd1Q fd1Q cd2Q fd2Q cd3Q fd3Q cd4Q fd4Q cd5Q fd5Q kxQ cx0Q fx0Q cx1Q fx1Q cx2Q fx2Q kpQ cp0Q fp0Q cp1Q fp1Q klQ cl0Q fl0Q cl1Q fl1Q cl2Q fl2Q hqQ
  obtain ⟨zlM, cl0M, cl1M, cl2M, fl0M, fl1M, fl2M⟩ := klM.three
  obtain ⟨zrM, cr0M, cr1M, cr2M, fr0M, fr1M, fr2M⟩ := krM.three
  cases t1 <;> cases t2 <;> cases t3
  case true.true.true => exact absurd ht (by decide)
  all_goals (
  clear ht
  go_wp2_with fail
  go_ret
  exact ⟨rfl, by repeat (first | (with_reducible first | exact Below.refl _ _ | assumption | refine Below.setCell ?_ (by first | simp <;> omega | omega) _ | refine Below.alloc ?_ (by first | simp <;> omega | omega) _) | refine bl_call ?_ (by assumption) (by first | simp <;> omega | omega) | (with_reducible first | refine bl_drewN ?_ | refine Below.drew ?_ | refine bl_grow ?_ (by first | simp <;> omega | omega)))⟩)
theorem rcpinfo : (Tryz.prog.info? 25).map (fun i => (i.zero, i.size, i.bytes)) = some (some (.agg #[.int .i64 0, .int .i64 0, .bool false]), 3, 24) := by kernel_rfl
theorem rcbinfo : (Tryz.prog.info? 4).map (fun i => (i.zero, i.size, i.bytes)) = some (some (.bool false), 1, 1) := by kernel_rfl
theorem ethen_gen2 {K : Act → World → Prop} {Q : Exit → Act → World → Prop} {x : Exit} {a : Act} {w : World} (S : World → Prop) (h : S w) (k : ∀ W, S W → Exit.then K Q x a W) : Exit.then K Q x a w := k w h
set_option maxRecDepth 100000 in
set_option maxHeartbeats 8000000 in
theorem rdo_ok (B p n m c d dz : Nat) (sz sl : Option Addr) (u v : Value) (K : Nat → Nat) (G : Nat → Bool) (x a s b : Nat) (H L T R : Sn) (J : Nat → Nat) (Z : Nat → Int) (X Y : Nat → Int) (F : Nat → Bool) (w : World) (hn : n ≤ 1000) (hc : c ≤ 12) (hf : n + c ≤ 1000) (hm : m ≤ 9223372036854775807) (h : BookAt 25 4 B w p u v n K G) (hx : ∀ W, Below w.heap.size w W → Calls Tryz.prog 18 #[.pointer (some ⟨p, 0, none⟩), .slice sz m dz, .slice sl c d] W fun e w' => e = .returned (.tuple #[.agg #[.int .i64 ((tM (4 * x)).1 : Int), .int .i64 ((tM (4 * x)).2.1 : Int), .bool (tM (4 * x)).2.2], .int .i64 0]) ∧ Below W.heap.size W w') (hrs : ∀ w, Calls Tryz.prog 10 #[.int .i64 (s : Int)] w fun e w' => e = .returned (.bool true) ∧ Below w.heap.size w w') (hsp : ∀ w, Calls Tryz.prog 6 #[.agg #[.int .i64 ((tM a).1 : Int), .int .i64 ((tM a).2.1 : Int), .bool (tM a).2.2]] w fun e w' => e = .returned (.int .i64 0) ∧ Below w.heap.size w w') (hba : ∀ w, Calls Tryz.prog 7 #[.agg #[.int .i64 ((tM a).1 : Int), .int .i64 ((tM a).2.1 : Int), .bool (tM a).2.2], .agg #[.int .i64 ((tM (4 * x)).1 : Int), .int .i64 ((tM (4 * x)).2.1 : Int), .bool (tM (4 * x)).2.2]] w fun e w' => e = .returned (.int .i64 (b : Int)) ∧ Below w.heap.size w w') (hse : ∀ w, Calls Tryz.prog 13 #[] w fun e w' => e = .returned (.agg #[.int .i64 ((H).1 : Int), .int .i64 ((H).2.1 : Int), .bool (H).2.2]) ∧ Below w.heap.size w w') (htl : ∀ w, Calls Tryz.prog 12 #[.agg #[.int .i64 ((H).1 : Int), .int .i64 ((H).2.1 : Int), .bool (H).2.2], .int .i64 (s : Int)] w fun e w' => e = .returned (.agg #[.int .i64 ((L).1 : Int), .int .i64 ((L).2.1 : Int), .bool (L).2.2]) ∧ Below w.heap.size w w') (htx : ∀ w, Calls Tryz.prog 12 #[.agg #[.int .i64 ((tM (4 * x)).1 : Int), .int .i64 ((tM (4 * x)).2.1 : Int), .bool (tM (4 * x)).2.2], .int .i64 (b : Int)] w fun e w' => e = .returned (.agg #[.int .i64 ((T).1 : Int), .int .i64 ((T).2.1 : Int), .bool (T).2.2]) ∧ Below w.heap.size w w') (had : ∀ w, Calls Tryz.prog 45 #[.agg #[.int .i64 ((tM a).1 : Int), .int .i64 ((tM a).2.1 : Int), .bool (tM a).2.2], .agg #[.int .i64 ((T).1 : Int), .int .i64 ((T).2.1 : Int), .bool (T).2.2]] w fun e w' => e = .returned (.agg #[.int .i64 ((R).1 : Int), .int .i64 ((R).2.1 : Int), .bool (R).2.2]) ∧ Below w.heap.size w w') (he : L = R) (hz : (m = 0 ∨ ∃ g o : Nat, sz = some ⟨g, o, none⟩ ∧ RowI w g o m Z ∧ ¬ ft p u v g)) (hok : ∀ j, j < m → goE n G Z j = 0) (hr : (c = 0 ∨ ∃ g o : Nat, sl = some ⟨g, o, none⟩ ∧ RowO w g o c X Y F ∧ ¬ ft p u v g)) (hK : isC X Y F J c) :
    Calls Tryz.prog 20 #[.pointer (some ⟨p, 0, none⟩), .agg #[.slice sz m dz, .slice sl c d, .int .i64 ((tM a).1 : Int), .int .i64 ((tM a).2.1 : Int), .bool (tM a).2.2, .int .i64 (s : Int)]] w fun e w' => e = .returned (.int .i64 0) ∧ BookDone 25 4 B w w' p u v (n + c) (appN K n J c) (appN (mkG G Z m) n (fun _ => false) c) := by
  have hf1 : ¬ (n : Int) + (c : Int) > 1000 := by omega
  have HBK : Hid (BookAt 25 4 B w p u v n K G) := h
  have HZ : Hid ((m = 0 ∨ ∃ g o : Nat, sz = some ⟨g, o, none⟩ ∧ RowI w g o m Z ∧ ¬ ft p u v g)) := hz
  have HO : Hid (∀ j, j < m → goE n G Z j = 0) := hok
  have HR : Hid ((c = 0 ∨ ∃ g o : Nat, sl = some ⟨g, o, none⟩ ∧ RowO w g o c X Y F ∧ ¬ ft p u v g)) := hr
  have HK : Hid (isC X Y F J c) := hK
  clear hz hok hr hK
  have e1 : ((L.1 : Int) == (R.1 : Int)) = true := by rw [he]; exact beq_self_eq_true _
  have e2 : ((L.2.1 : Int) == (R.2.1 : Int)) = true := by rw [he]; exact beq_self_eq_true _
  have e3 : (L.2.2 == R.2.2) = true := by rw [he]; exact beq_self_eq_true _
  clear he
  have Hrs : Hid (∀ w, Calls Tryz.prog 10 #[.int .i64 (s : Int)] w fun e w' => e = .returned (.bool true) ∧ Below w.heap.size w w') := hrs
  have Hsp : Hid (∀ w, Calls Tryz.prog 6 #[.agg #[.int .i64 ((tM a).1 : Int), .int .i64 ((tM a).2.1 : Int), .bool (tM a).2.2]] w fun e w' => e = .returned (.int .i64 0) ∧ Below w.heap.size w w') := hsp
  have Hba : Hid (∀ w, Calls Tryz.prog 7 #[.agg #[.int .i64 ((tM a).1 : Int), .int .i64 ((tM a).2.1 : Int), .bool (tM a).2.2], .agg #[.int .i64 ((tM (4 * x)).1 : Int), .int .i64 ((tM (4 * x)).2.1 : Int), .bool (tM (4 * x)).2.2]] w fun e w' => e = .returned (.int .i64 (b : Int)) ∧ Below w.heap.size w w') := hba
  have Hse : Hid (∀ w, Calls Tryz.prog 13 #[] w fun e w' => e = .returned (.agg #[.int .i64 ((H).1 : Int), .int .i64 ((H).2.1 : Int), .bool (H).2.2]) ∧ Below w.heap.size w w') := hse
  have Htl : Hid (∀ w, Calls Tryz.prog 12 #[.agg #[.int .i64 ((H).1 : Int), .int .i64 ((H).2.1 : Int), .bool (H).2.2], .int .i64 (s : Int)] w fun e w' => e = .returned (.agg #[.int .i64 ((L).1 : Int), .int .i64 ((L).2.1 : Int), .bool (L).2.2]) ∧ Below w.heap.size w w') := htl
  have Htx : Hid (∀ w, Calls Tryz.prog 12 #[.agg #[.int .i64 ((tM (4 * x)).1 : Int), .int .i64 ((tM (4 * x)).2.1 : Int), .bool (tM (4 * x)).2.2], .int .i64 (b : Int)] w fun e w' => e = .returned (.agg #[.int .i64 ((T).1 : Int), .int .i64 ((T).2.1 : Int), .bool (T).2.2]) ∧ Below w.heap.size w w') := htx
  have Had : Hid (∀ w, Calls Tryz.prog 45 #[.agg #[.int .i64 ((tM a).1 : Int), .int .i64 ((tM a).2.1 : Int), .bool (tM a).2.2], .agg #[.int .i64 ((T).1 : Int), .int .i64 ((T).2.1 : Int), .bool (T).2.2]] w fun e w' => e = .returned (.agg #[.int .i64 ((R).1 : Int), .int .i64 ((R).2.1 : Int), .bool (R).2.2]) ∧ Below w.heap.size w w') := had
  clear hrs hsp hba hse htl htx had
  obtain ⟨su, cu, sv, cv, rfl, rfl, _⟩ := h.slices
  have HP : Hid (At w p [.slice su n cu, .slice sv n cv]) := h.cells
  have HX : Hid (∀ W, Below w.heap.size w W → Calls Tryz.prog 18 #[.pointer (some ⟨p, 0, none⟩), .slice sz m dz, .slice sl c d] W fun e w' => e = .returned (.tuple #[.agg #[.int .i64 ((tM (4 * x)).1 : Int), .int .i64 ((tM (4 * x)).2.1 : Int), .bool (tM (4 * x)).2.2], .int .i64 0]) ∧ Below W.heap.size W w') := hx
  clear h hx
  have m1 : True := trivial; have m2 : True := trivial; have m3 : True := trivial; have m4 : True := trivial
  go_enter Tryz.func20, Tryz.ntmps20
  go_upto_region 4 with (go_at_call 18; clear m1; refine (HX.out _ (by repeat (first | (with_reducible first | exact Below.refl _ _ | assumption | refine Below.setCell ?_ (by first | simp <;> omega | omega) _ | refine Below.alloc ?_ (by first | simp <;> omega | omega) _) | refine bl_call ?_ (by assumption) (by first | simp <;> omega | omega) | (with_reducible first | refine bl_drewN ?_ | refine Below.drew ?_ | refine bl_grow ?_ (by first | simp <;> omega | omega))))).mono ?_; rintro e w1 ⟨rfl, hbw1⟩; have kdw1 : At w1 (w.heap.size) [.slice sz m dz, .slice sl c d, .int .i64 ((tM a).1 : Int), .int .i64 ((tM a).2.1 : Int), .bool (tM a).2.2, .int .i64 (s : Int)] := (by repeat (first | (with_reducible first | assumption | (refine at_new' _ _ _ _ ?_; first | rfl | (simp; done)) | refine At.alloc ?_ _ | refine At.drew ?_ | refine At.drewN ?_ | refine At.set ?_ (by omega) | apply At.store4 | apply At.store3 | apply At.store2 | apply At.put43) | refine At.below ?_ (by with_reducible assumption))); have hqw1 : Below w.heap.size w w1 := (by repeat (first | (with_reducible first | exact Below.refl _ _ | assumption | refine Below.setCell ?_ (by first | simp <;> omega | omega) _ | refine Below.alloc ?_ (by first | simp <;> omega | omega) _) | refine bl_call ?_ (by assumption) (by first | simp <;> omega | omega) | (with_reducible first | refine bl_drewN ?_ | refine Below.drew ?_ | refine bl_grow ?_ (by first | simp <;> omega | omega)))); have hzw1 := hqw1.size; obtain ⟨zdw1, cd0w1, cd1w1, cd2w1, cd3w1, cd4w1, cd5w1, fd0w1, fd1w1, fd2w1, fd3w1, fd4w1, fd5w1⟩ := kdw1.six; clear hbw1)
  refine wp_gen (fun V => At V (w.heap.size) [.slice sz m dz, .slice sl c d, .int .i64 ((tM a).1 : Int), .int .i64 ((tM a).2.1 : Int), .bool (tM a).2.2, .int .i64 (s : Int)] ∧ At V (w1.heap.size) [.int .i64 ((tM (4 * x)).1 : Int), .int .i64 ((tM (4 * x)).2.1 : Int), .bool (tM (4 * x)).2.2] ∧ Below w.heap.size w V) ⟨by repeat (first | (with_reducible first | assumption | (refine at_new' _ _ _ _ ?_; first | rfl | (simp; done)) | refine At.alloc ?_ _ | refine At.drew ?_ | refine At.drewN ?_ | refine At.set ?_ (by omega) | apply At.store4 | apply At.store3 | apply At.store2 | apply At.put43) | refine At.below ?_ (by with_reducible assumption)), by repeat (first | (with_reducible first | assumption | (refine at_new' _ _ _ _ ?_; first | rfl | (simp; done)) | refine At.alloc ?_ _ | refine At.drew ?_ | refine At.drewN ?_ | refine At.set ?_ (by omega) | apply At.store4 | apply At.store3 | apply At.store2 | apply At.put43) | refine At.below ?_ (by with_reducible assumption)), by repeat (first | (with_reducible first | exact Below.refl _ _ | assumption | refine Below.setCell ?_ (by first | simp <;> omega | omega) _ | refine Below.alloc ?_ (by first | simp <;> omega | omega) _) | refine bl_call ?_ (by assumption) (by first | simp <;> omega | omega) | (with_reducible first | refine bl_drewN ?_ | refine Below.drew ?_ | refine bl_grow ?_ (by first | simp <;> omega | omega)))⟩ ?_
  rintro V ⟨kdV, kxV, hqV⟩
  have hzV := hqV.size
  clear kdw1 cd0w1 fd0w1 cd1w1 fd1w1 cd2w1 fd2w1 cd3w1 fd3w1 cd4w1 fd4w1 cd5w1 fd5w1 hqw1
  obtain ⟨zdV, cd0V, cd1V, cd2V, cd3V, cd4V, cd5V, fd0V, fd1V, fd2V, fd3V, fd4V, fd5V⟩ := kdV.six
  obtain ⟨zxV, cx0V, cx1V, cx2V, fx0V, fx1V, fx2V⟩ := kxV.three
  have kpV := HP.out.below hqV
  obtain ⟨zpV, cp0V, cp1V, fp0V, fp1V⟩ := kpV.two
  refine wp_region_quiet_below (by kernel_rfl) (by kernel_rfl) ?_
  repeat (go_big_quiet_step (first | fail))
  refine wpQuiet_nil ?_
  intro U hw1
  have hrU := regrown_below hw1
  clear hw1
  have kdU := kdV.below hrU
  have kxU := kxV.below hrU
  have kpU := kpV.below hrU
  have hqU := bl_call hqV hrU (by omega)
  have hzU := hqU.size
  clear hrU kdV cd0V fd0V cd1V fd1V cd2V fd2V cd3V fd3V cd4V fd4V cd5V fd5V kxV cx0V fx0V cx1V fx1V cx2V fx2V kpV cp0V fp0V cp1V fp1V hqV
  obtain ⟨zdU, cd0U, cd1U, cd2U, cd3U, cd4U, cd5U, fd0U, fd1U, fd2U, fd3U, fd4U, fd5U⟩ := kdU.six
  obtain ⟨zxU, cx0U, cx1U, cx2U, fx0U, fx1U, fx2U⟩ := kxU.three
  obtain ⟨zpU, cp0U, cp1U, fp0U, fp1U⟩ := kpU.two
  go_upto_region 13 with (first | (go_at_call 10; clear m2; refine (Hrs.out _).mono ?_; rintro e w2 ⟨rfl, hbw2⟩; have kdw2 : At w2 (w.heap.size) [.slice sz m dz, .slice sl c d, .int .i64 ((tM a).1 : Int), .int .i64 ((tM a).2.1 : Int), .bool (tM a).2.2, .int .i64 (s : Int)] := (by repeat (first | (with_reducible first | assumption | (refine at_new' _ _ _ _ ?_; first | rfl | (simp; done)) | refine At.alloc ?_ _ | refine At.drew ?_ | refine At.drewN ?_ | refine At.set ?_ (by omega) | apply At.store4 | apply At.store3 | apply At.store2 | apply At.put43) | refine At.below ?_ (by with_reducible assumption))); have kxw2 : At w2 (w1.heap.size) [.int .i64 ((tM (4 * x)).1 : Int), .int .i64 ((tM (4 * x)).2.1 : Int), .bool (tM (4 * x)).2.2] := (by repeat (first | (with_reducible first | assumption | (refine at_new' _ _ _ _ ?_; first | rfl | (simp; done)) | refine At.alloc ?_ _ | refine At.drew ?_ | refine At.drewN ?_ | refine At.set ?_ (by omega) | apply At.store4 | apply At.store3 | apply At.store2 | apply At.put43) | refine At.below ?_ (by with_reducible assumption))); have kpw2 : At w2 (p) [.slice su n cu, .slice sv n cv] := (by repeat (first | (with_reducible first | assumption | (refine at_new' _ _ _ _ ?_; first | rfl | (simp; done)) | refine At.alloc ?_ _ | refine At.drew ?_ | refine At.drewN ?_ | refine At.set ?_ (by omega) | apply At.store4 | apply At.store3 | apply At.store2 | apply At.put43) | refine At.below ?_ (by with_reducible assumption))); have hqw2 : Below w.heap.size w w2 := (by repeat (first | (with_reducible first | exact Below.refl _ _ | assumption | refine Below.setCell ?_ (by first | simp <;> omega | omega) _ | refine Below.alloc ?_ (by first | simp <;> omega | omega) _) | refine bl_call ?_ (by assumption) (by first | simp <;> omega | omega) | (with_reducible first | refine bl_drewN ?_ | refine Below.drew ?_ | refine bl_grow ?_ (by first | simp <;> omega | omega)))); have hzw2 := hqw2.size; obtain ⟨zdw2, cd0w2, cd1w2, cd2w2, cd3w2, cd4w2, cd5w2, fd0w2, fd1w2, fd2w2, fd3w2, fd4w2, fd5w2⟩ := kdw2.six; obtain ⟨zxw2, cx0w2, cx1w2, cx2w2, fx0w2, fx1w2, fx2w2⟩ := kxw2.three; obtain ⟨zpw2, cp0w2, cp1w2, fp0w2, fp1w2⟩ := kpw2.two; clear kdU cd0U fd0U cd1U fd1U cd2U fd2U cd3U fd3U cd4U fd4U cd5U fd5U kxU cx0U fx0U cx1U fx1U cx2U fx2U kpU cp0U fp0U cp1U fp1U hqU; clear hbw2) | (go_at_call 6; clear m3; refine (Hsp.out _).mono ?_; rintro e w3 ⟨rfl, hbw3⟩; have kdw3 : At w3 (w.heap.size) [.slice sz m dz, .slice sl c d, .int .i64 ((tM a).1 : Int), .int .i64 ((tM a).2.1 : Int), .bool (tM a).2.2, .int .i64 (s : Int)] := (by repeat (first | (with_reducible first | assumption | (refine at_new' _ _ _ _ ?_; first | rfl | (simp; done)) | refine At.alloc ?_ _ | refine At.drew ?_ | refine At.drewN ?_ | refine At.set ?_ (by omega) | apply At.store4 | apply At.store3 | apply At.store2 | apply At.put43) | refine At.below ?_ (by with_reducible assumption))); have kxw3 : At w3 (w1.heap.size) [.int .i64 ((tM (4 * x)).1 : Int), .int .i64 ((tM (4 * x)).2.1 : Int), .bool (tM (4 * x)).2.2] := (by repeat (first | (with_reducible first | assumption | (refine at_new' _ _ _ _ ?_; first | rfl | (simp; done)) | refine At.alloc ?_ _ | refine At.drew ?_ | refine At.drewN ?_ | refine At.set ?_ (by omega) | apply At.store4 | apply At.store3 | apply At.store2 | apply At.put43) | refine At.below ?_ (by with_reducible assumption))); have kpw3 : At w3 (p) [.slice su n cu, .slice sv n cv] := (by repeat (first | (with_reducible first | assumption | (refine at_new' _ _ _ _ ?_; first | rfl | (simp; done)) | refine At.alloc ?_ _ | refine At.drew ?_ | refine At.drewN ?_ | refine At.set ?_ (by omega) | apply At.store4 | apply At.store3 | apply At.store2 | apply At.put43) | refine At.below ?_ (by with_reducible assumption))); have hqw3 : Below w.heap.size w w3 := (by repeat (first | (with_reducible first | exact Below.refl _ _ | assumption | refine Below.setCell ?_ (by first | simp <;> omega | omega) _ | refine Below.alloc ?_ (by first | simp <;> omega | omega) _) | refine bl_call ?_ (by assumption) (by first | simp <;> omega | omega) | (with_reducible first | refine bl_drewN ?_ | refine Below.drew ?_ | refine bl_grow ?_ (by first | simp <;> omega | omega)))); have hzw3 := hqw3.size; obtain ⟨zdw3, cd0w3, cd1w3, cd2w3, cd3w3, cd4w3, cd5w3, fd0w3, fd1w3, fd2w3, fd3w3, fd4w3, fd5w3⟩ := kdw3.six; obtain ⟨zxw3, cx0w3, cx1w3, cx2w3, fx0w3, fx1w3, fx2w3⟩ := kxw3.three; obtain ⟨zpw3, cp0w3, cp1w3, fp0w3, fp1w3⟩ := kpw3.two; clear kdw2 cd0w2 fd0w2 cd1w2 fd1w2 cd2w2 fd2w2 cd3w2 fd3w2 cd4w2 fd4w2 cd5w2 fd5w2 kxw2 cx0w2 fx0w2 cx1w2 fx1w2 cx2w2 fx2w2 kpw2 cp0w2 fp0w2 cp1w2 fp1w2 hqw2; clear hbw3) | (go_at_call 7; clear m4; refine (Hba.out _).mono ?_; rintro e w4 ⟨rfl, hbw4⟩; have kdw4 : At w4 (w.heap.size) [.slice sz m dz, .slice sl c d, .int .i64 ((tM a).1 : Int), .int .i64 ((tM a).2.1 : Int), .bool (tM a).2.2, .int .i64 (s : Int)] := (by repeat (first | (with_reducible first | assumption | (refine at_new' _ _ _ _ ?_; first | rfl | (simp; done)) | refine At.alloc ?_ _ | refine At.drew ?_ | refine At.drewN ?_ | refine At.set ?_ (by omega) | apply At.store4 | apply At.store3 | apply At.store2 | apply At.put43) | refine At.below ?_ (by with_reducible assumption))); have kxw4 : At w4 (w1.heap.size) [.int .i64 ((tM (4 * x)).1 : Int), .int .i64 ((tM (4 * x)).2.1 : Int), .bool (tM (4 * x)).2.2] := (by repeat (first | (with_reducible first | assumption | (refine at_new' _ _ _ _ ?_; first | rfl | (simp; done)) | refine At.alloc ?_ _ | refine At.drew ?_ | refine At.drewN ?_ | refine At.set ?_ (by omega) | apply At.store4 | apply At.store3 | apply At.store2 | apply At.put43) | refine At.below ?_ (by with_reducible assumption))); have kpw4 : At w4 (p) [.slice su n cu, .slice sv n cv] := (by repeat (first | (with_reducible first | assumption | (refine at_new' _ _ _ _ ?_; first | rfl | (simp; done)) | refine At.alloc ?_ _ | refine At.drew ?_ | refine At.drewN ?_ | refine At.set ?_ (by omega) | apply At.store4 | apply At.store3 | apply At.store2 | apply At.put43) | refine At.below ?_ (by with_reducible assumption))); have hqw4 : Below w.heap.size w w4 := (by repeat (first | (with_reducible first | exact Below.refl _ _ | assumption | refine Below.setCell ?_ (by first | simp <;> omega | omega) _ | refine Below.alloc ?_ (by first | simp <;> omega | omega) _) | refine bl_call ?_ (by assumption) (by first | simp <;> omega | omega) | (with_reducible first | refine bl_drewN ?_ | refine Below.drew ?_ | refine bl_grow ?_ (by first | simp <;> omega | omega)))); have hzw4 := hqw4.size; obtain ⟨zdw4, cd0w4, cd1w4, cd2w4, cd3w4, cd4w4, cd5w4, fd0w4, fd1w4, fd2w4, fd3w4, fd4w4, fd5w4⟩ := kdw4.six; obtain ⟨zxw4, cx0w4, cx1w4, cx2w4, fx0w4, fx1w4, fx2w4⟩ := kxw4.three; obtain ⟨zpw4, cp0w4, cp1w4, fp0w4, fp1w4⟩ := kpw4.two; clear kdw3 cd0w3 fd0w3 cd1w3 fd1w3 cd2w3 fd2w3 cd3w3 fd3w3 cd4w3 fd4w3 cd5w3 fd5w3 kxw3 cx0w3 fx0w3 cx1w3 fx1w3 cx2w3 fx2w3 kpw3 cp0w3 fp0w3 cp1w3 fp1w3 hqw3; clear hbw4))
  apply region_new 5 25 [.int .i64 0, .int .i64 0, .bool false] (by kernel_rfl) (by kernel_rfl) (fun b => by kernel_rfl) rfl rfl rfl
  case hal => intro e u; simp [go_sem]
  case h =>
    intro zl Y hrY
    have kdY := kdw4.below hrY
    have kxY := kxw4.below hrY
    have kpY := kpw4.below hrY
    obtain ⟨zdY, cd0Y, cd1Y, cd2Y, cd3Y, cd4Y, cd5Y, fd0Y, fd1Y, fd2Y, fd3Y, fd4Y, fd5Y⟩ := kdY.six
    obtain ⟨zxY, cx0Y, cx1Y, cx2Y, fx0Y, fx1Y, fx2Y⟩ := kxY.three
    obtain ⟨zpY, cp0Y, cp1Y, fp0Y, fp1Y⟩ := kpY.two
    dsimp only [List.dropLast, withPtr, ptrOp, Cls]
    repeat (go_big_quiet_step (first | (go_at_call 13; with_reducible exact Calls.regrown_of (Hse.out _)) | (go_at_call 12; with_reducible exact Calls.regrown_of (Htl.out _))))
    exact wpQuiet_nil rfl
  case hA => intro b; rfl
  case hend =>
  intro zl Y hrY kzlY hyzl
  have kdY := kdw4.below hrY
  have kxY := kxw4.below hrY
  have kpY := kpw4.below hrY
  have hqY := bl_call hqw4 hrY (by omega)
  have hzY := hqY.size
  clear hrY kdw4 cd0w4 fd0w4 cd1w4 fd1w4 cd2w4 fd2w4 cd3w4 fd3w4 cd4w4 fd4w4 cd5w4 fd5w4 kxw4 cx0w4 fx0w4 cx1w4 fx1w4 cx2w4 fx2w4 kpw4 cp0w4 fp0w4 cp1w4 fp1w4 hqw4
  obtain ⟨zdY, cd0Y, cd1Y, cd2Y, cd3Y, cd4Y, cd5Y, fd0Y, fd1Y, fd2Y, fd3Y, fd4Y, fd5Y⟩ := kdY.six
  obtain ⟨zxY, cx0Y, cx1Y, cx2Y, fx0Y, fx1Y, fx2Y⟩ := kxY.three
  obtain ⟨zpY, cp0Y, cp1Y, fp0Y, fp1Y⟩ := kpY.two
  obtain ⟨zzlY, czl0Y, czl1Y, czl2Y, fzl0Y, fzl1Y, fzl2Y⟩ := kzlY.three
  dsimp only [List.dropLast, List.length, List.drop]
  go_upto_region 14 with fail
  refine wp_gen (fun O => At O (w.heap.size) [.slice sz m dz, .slice sl c d, .int .i64 ((tM a).1 : Int), .int .i64 ((tM a).2.1 : Int), .bool (tM a).2.2, .int .i64 (s : Int)] ∧ At O (w1.heap.size) [.int .i64 ((tM (4 * x)).1 : Int), .int .i64 ((tM (4 * x)).2.1 : Int), .bool (tM (4 * x)).2.2] ∧ At O (p) [.slice su n cu, .slice sv n cv] ∧ At O (zl) [.int .i64 ((L).1 : Int), .int .i64 ((L).2.1 : Int), .bool (L).2.2] ∧ Below w.heap.size w O) ⟨by repeat (first | (with_reducible first | assumption | (refine at_new' _ _ _ _ ?_; first | rfl | (simp; done)) | refine At.alloc ?_ _ | refine At.drew ?_ | refine At.drewN ?_ | refine At.set ?_ (by omega) | apply At.store4 | apply At.store3 | apply At.store2 | apply At.put43) | refine At.below ?_ (by with_reducible assumption)), by repeat (first | (with_reducible first | assumption | (refine at_new' _ _ _ _ ?_; first | rfl | (simp; done)) | refine At.alloc ?_ _ | refine At.drew ?_ | refine At.drewN ?_ | refine At.set ?_ (by omega) | apply At.store4 | apply At.store3 | apply At.store2 | apply At.put43) | refine At.below ?_ (by with_reducible assumption)), by repeat (first | (with_reducible first | assumption | (refine at_new' _ _ _ _ ?_; first | rfl | (simp; done)) | refine At.alloc ?_ _ | refine At.drew ?_ | refine At.drewN ?_ | refine At.set ?_ (by omega) | apply At.store4 | apply At.store3 | apply At.store2 | apply At.put43) | refine At.below ?_ (by with_reducible assumption)), by repeat (first | (with_reducible first | assumption | (refine at_new' _ _ _ _ ?_; first | rfl | (simp; done)) | refine At.alloc ?_ _ | refine At.drew ?_ | refine At.drewN ?_ | refine At.set ?_ (by omega) | apply At.store4 | apply At.store3 | apply At.store2 | apply At.put43) | refine At.below ?_ (by with_reducible assumption)), by repeat (first | (with_reducible first | exact Below.refl _ _ | assumption | refine Below.setCell ?_ (by first | simp <;> omega | omega) _ | refine Below.alloc ?_ (by first | simp <;> omega | omega) _) | refine bl_call ?_ (by assumption) (by first | simp <;> omega | omega) | (with_reducible first | refine bl_drewN ?_ | refine Below.drew ?_ | refine bl_grow ?_ (by first | simp <;> omega | omega)))⟩ ?_
  rintro O ⟨kdO, kxO, kpO, klO, hqO⟩
  have hzO := hqO.size
  clear kdY cd0Y fd0Y cd1Y fd1Y cd2Y fd2Y cd3Y fd3Y cd4Y fd4Y cd5Y fd5Y kxY cx0Y fx0Y cx1Y fx1Y cx2Y fx2Y kpY cp0Y fp0Y cp1Y fp1Y hqY
  obtain ⟨zdO, cd0O, cd1O, cd2O, cd3O, cd4O, cd5O, fd0O, fd1O, fd2O, fd3O, fd4O, fd5O⟩ := kdO.six
  obtain ⟨zxO, cx0O, cx1O, cx2O, fx0O, fx1O, fx2O⟩ := kxO.three
  obtain ⟨zpO, cp0O, cp1O, fp0O, fp1O⟩ := kpO.two
  obtain ⟨zlO, cl0O, cl1O, cl2O, fl0O, fl1O, fl2O⟩ := klO.three
  apply region_new 7 25 [.int .i64 0, .int .i64 0, .bool false] (by kernel_rfl) (by kernel_rfl) (fun b => by kernel_rfl) rfl rfl rfl
  case hal => intro e u; simp [go_sem]
  case h =>
    intro zr Q hrQ
    have kdQ := kdO.below hrQ
    have kxQ := kxO.below hrQ
    have kpQ := kpO.below hrQ
    have klQ := klO.below hrQ
    obtain ⟨zdQ, cd0Q, cd1Q, cd2Q, cd3Q, cd4Q, cd5Q, fd0Q, fd1Q, fd2Q, fd3Q, fd4Q, fd5Q⟩ := kdQ.six
    obtain ⟨zxQ, cx0Q, cx1Q, cx2Q, fx0Q, fx1Q, fx2Q⟩ := kxQ.three
    obtain ⟨zpQ, cp0Q, cp1Q, fp0Q, fp1Q⟩ := kpQ.two
    obtain ⟨zlQ, cl0Q, cl1Q, cl2Q, fl0Q, fl1Q, fl2Q⟩ := klQ.three
    dsimp only [List.dropLast, withPtr, ptrOp, Cls]
    repeat (go_big_quiet_step (first | (go_at_call 12; with_reducible exact Calls.regrown_of (Htx.out _)) | (go_at_call 45; with_reducible exact Calls.regrown_of (Had.out _))))
    exact wpQuiet_nil rfl
  case hA => intro b; rfl
  case hend =>
  intro zr Q hrQ kzrQ hyzr
  have kdQ := kdO.below hrQ
  have kxQ := kxO.below hrQ
  have kpQ := kpO.below hrQ
  have klQ := klO.below hrQ
  have hqQ := bl_call hqO hrQ (by omega)
  have hzQ := hqQ.size
  clear hrQ kdO cd0O fd0O cd1O fd1O cd2O fd2O cd3O fd3O cd4O fd4O cd5O fd5O kxO cx0O fx0O cx1O fx1O cx2O fx2O kpO cp0O fp0O cp1O fp1O klO cl0O fl0O cl1O fl1O cl2O fl2O hqO
  obtain ⟨zdQ, cd0Q, cd1Q, cd2Q, cd3Q, cd4Q, cd5Q, fd0Q, fd1Q, fd2Q, fd3Q, fd4Q, fd5Q⟩ := kdQ.six
  obtain ⟨zxQ, cx0Q, cx1Q, cx2Q, fx0Q, fx1Q, fx2Q⟩ := kxQ.three
  obtain ⟨zpQ, cp0Q, cp1Q, fp0Q, fp1Q⟩ := kpQ.two
  obtain ⟨zlQ, cl0Q, cl1Q, cl2Q, fl0Q, fl1Q, fl2Q⟩ := klQ.three
  obtain ⟨zzrQ, czr0Q, czr1Q, czr2Q, fzr0Q, fzr1Q, fzr2Q⟩ := kzrQ.three
  dsimp only [List.dropLast, List.length, List.drop]
  go_upto_region 15 with fail
  refine wp_gen (fun M => At M (w.heap.size) [.slice sz m dz, .slice sl c d, .int .i64 ((tM a).1 : Int), .int .i64 ((tM a).2.1 : Int), .bool (tM a).2.2, .int .i64 (s : Int)] ∧ At M (zl) [.int .i64 ((L).1 : Int), .int .i64 ((L).2.1 : Int), .bool (L).2.2] ∧ At M (zr) [.int .i64 ((R).1 : Int), .int .i64 ((R).2.1 : Int), .bool (R).2.2] ∧ Below w.heap.size w M) ⟨by repeat (first | (with_reducible first | assumption | (refine at_new' _ _ _ _ ?_; first | rfl | (simp; done)) | refine At.alloc ?_ _ | refine At.drew ?_ | refine At.drewN ?_ | refine At.set ?_ (by omega) | apply At.store4 | apply At.store3 | apply At.store2 | apply At.put43) | refine At.below ?_ (by with_reducible assumption)), by repeat (first | (with_reducible first | assumption | (refine at_new' _ _ _ _ ?_; first | rfl | (simp; done)) | refine At.alloc ?_ _ | refine At.drew ?_ | refine At.drewN ?_ | refine At.set ?_ (by omega) | apply At.store4 | apply At.store3 | apply At.store2 | apply At.put43) | refine At.below ?_ (by with_reducible assumption)), by repeat (first | (with_reducible first | assumption | (refine at_new' _ _ _ _ ?_; first | rfl | (simp; done)) | refine At.alloc ?_ _ | refine At.drew ?_ | refine At.drewN ?_ | refine At.set ?_ (by omega) | apply At.store4 | apply At.store3 | apply At.store2 | apply At.put43) | refine At.below ?_ (by with_reducible assumption)), by repeat (first | (with_reducible first | exact Below.refl _ _ | assumption | refine Below.setCell ?_ (by first | simp <;> omega | omega) _ | refine Below.alloc ?_ (by first | simp <;> omega | omega) _) | refine bl_call ?_ (by assumption) (by first | simp <;> omega | omega) | (with_reducible first | refine bl_drewN ?_ | refine Below.drew ?_ | refine bl_grow ?_ (by first | simp <;> omega | omega)))⟩ ?_
  rintro M ⟨kdM, klM, krM, hqM⟩
  have hzM := hqM.size
  clear kzrQ kdQ cd0Q fd0Q cd1Q fd1Q cd2Q fd2Q cd3Q fd3Q cd4Q fd4Q cd5Q fd5Q kxQ cx0Q fx0Q cx1Q fx1Q cx2Q fx2Q kpQ cp0Q fp0Q cp1Q fp1Q klQ cl0Q fl0Q cl1Q fl1Q cl2Q fl2Q hqQ
  obtain ⟨zdM, cd0M, cd1M, cd2M, cd3M, cd4M, cd5M, fd0M, fd1M, fd2M, fd3M, fd4M, fd5M⟩ := kdM.six
  obtain ⟨zlM, cl0M, cl1M, cl2M, fl0M, fl1M, fl2M⟩ := klM.three
  obtain ⟨zrM, cr0M, cr1M, cr2M, fr0M, fr1M, fr2M⟩ := krM.three
  have hpw := HBK.out.cells.1
  have hbw := HBK.out.base
  go_upto_if 67 with fail
  go_cut [] from 14 to 114 (fun wx => At wx (w.heap.size) [.slice sz m dz, .slice sl c d, .int .i64 ((tM a).1 : Int), .int .i64 ((tM a).2.1 : Int), .bool (tM a).2.2, .int .i64 (s : Int)] ∧ Below w.heap.size w wx)
  case first =>
    go_wp2_with fail
    go_meet
    case rel => exact ⟨kdM, hqM⟩
  case rest =>
  clear kdM cd0M fd0M cd1M fd1M cd2M fd2M cd3M fd3M cd4M fd4M cd5M fd5M klM cl0M fl0M cl1M fl1M cl2M fl2M krM cr0M fr0M cr1M fr1M cr2M fr2M hqM e1 e2 e3
  obtain ⟨kdN, hqN⟩ := hcut
  go_wp2_with fail
  go_loopw [11] (fun ti wl => ∃ k : Nat, k ≤ m ∧ ti = .int .i64 k ∧ BookAt 25 4 B wl p (.slice su n cu) (.slice sv n cv) n K (mkG G Z k) ∧ At wl (w.heap.size) [.slice sz m dz, .slice sl c d, .int .i64 ((tM a).1 : Int), .int .i64 ((tM a).2.1 : Int), .bool (tM a).2.2, .int .i64 (s : Int)] ∧ But (ft p (.slice su n cu) (.slice sv n cv)) w wl) (fun ti _ => m - (intOf ti).toNat)
  case atStart => exact ⟨0, by omega, rfl, HBK.out.below hqN, kdN, But.of_below _ hqN⟩
  case round =>
    clear kdN hqN
    obtain ⟨k, hk, rfl, hBV, kdV, hqV⟩ := hrel
    rename World => V
    have hzV := hqV.size
    have kpV := hBV.cells
    obtain ⟨zdV, cd0V, cd1V, cd2V, cd3V, cd4V, cd5V, fd0V, fd1V, fd2V, fd3V, fd4V, fd5V⟩ := kdV.six
    obtain ⟨zpV, cp0V, cp1V, fp0V, fp1V⟩ := kpV.two
    by_cases hlt : k < m
    · have hlt' : (k : Int) < m := by omega
      obtain ⟨b1, o1, rfl, hzr, hnf⟩ := HZ.out.resolve_left (by omega)
      obtain ⟨a1, a2, a3⟩ := goE_ok (HO.out k hlt)
      obtain ⟨z, hz⟩ : ∃ z : Nat, Z k = (z : Int) := ⟨(Z k).toNat, by have := inN_yes a1; omega⟩
      have hzn : z < n := by have := inN_yes a1; omega
      have c0 := (hzr.but hqV hnf).2 k hlt
      have hb1 : b1 < V.heap.size := (hzr.but hqV hnf).1
      have HZz : Hid (Z k = (z : Int)) := hz
      rw [hz] at c0
      clear a1 a2 a3 hz hzr hnf
      have t1 : 0 ≤ (z : Int) := by omega
      have t2 : (z : Int) < n := by omega
      obtain ⟨_, _, sv2, cv2, _, e5, hrow⟩ := hBV.slices
      obtain ⟨g2, h2, _, e6, _, _⟩ := hrow.resolve_left (by omega)
      injection e5 with e5
      rw [← e5] at e6
      subst e6
      clear hrow e5
      have hh2 : h2 < w.heap.size := (HBK.out.flags.lt h2 rfl).2
      go_wp2_with fail
      refine below_gate 10 1 #[true, true, true, true, true, true, true, true, true, true, false] (by kernel_rfl) (by kernel_rfl) rfl rfl ?_
      dsimp only [List.take]
      repeat (go_big_quiet_step (first | fail))
      refine wpQuiet_nil ?_
      intro W hw1
      have hrW := regrown_below hw1
      clear hw1
      have kdW := kdV.below hrW
      have kpW := kpV.below hrW
      have hqW := hqV.call hrW
      have hzW := hqW.size
      have hBW := hBV.below hrW
      clear hrW kdV cd0V fd0V cd1V fd1V cd2V fd2V cd3V fd3V cd4V fd4V cd5V fd5V kpV cp0V fp0V cp1V fp1V hqV
      obtain ⟨zdW, cd0W, cd1W, cd2W, cd3W, cd4W, cd5W, fd0W, fd1W, fd2W, fd3W, fd4W, fd5W⟩ := kdW.six
      obtain ⟨zpW, cp0W, cp1W, fp0W, fp1W⟩ := kpW.two
      have zhW : h2 < W.heap.size := (hBW.flags.lt h2 rfl).2
      have czW := hBW.flags.cellAt z (by omega)
      rw [cellsB_at _ hzn] at czW
      have fzW := hBW.flags.frozenAt z
      refine wpAny_ready (rs := [10]) (by kernel_rfl) (by simp) (AllReady.cons rfl (fun K hK => ?_) AllReady.nil)
      go_simp
      refine hK _ _ ?_
      clear hK K
      refine wpAny_done (by kernel_rfl) ?_ _
      go_wp2_with fail
      go_roundw
      case rel => exact ⟨k + 1, by omega, by simp, by
          show BookAt _ _ _ _ _ _ _ _ _ (setB (mkG G Z k) (Z k).toNat)
          rw [HZz.out, Int.toNat_natCast]
          exact hBW.flag hzn, At.set kdW (by omega), hqW.setCell (Or.inl (Or.inr (Or.inr rfl))) _⟩
      case measure => simp [intOf]; omega
    · have hlt' : ¬ (k : Int) < m := by omega
      obtain rfl : k = m := by omega
      obtain ⟨i0, hi, hv0, hv1, hv2⟩ := info_parts rcpinfo
      obtain ⟨j0, hj, hu0, hu1, hu2⟩ := info_parts rcbinfo
      go_wp2_with fail
      go_loopw [12] (fun ti wl => ∃ j : Nat, j ≤ c ∧ ti = .int .i64 j ∧ BookGrown 25 4 B w wl p (.slice su n cu) (.slice sv n cv) (n + j) (appN K n J j) (appN (mkG G Z k) n (fun _ => false) j) ∧ At wl (w.heap.size) [.slice sz k dz, .slice sl c d, .int .i64 ((tM a).1 : Int), .int .i64 ((tM a).2.1 : Int), .bool (tM a).2.2, .int .i64 (s : Int)] ∧ But (ft p (.slice su n cu) (.slice sv n cv)) w wl) (fun ti _ => c - (intOf ti).toNat)
      case atStart => exact ⟨0, by omega, rfl, ⟨_, _, hBV, fun i hi => Or.inl hi⟩, kdV, hqV⟩
      case round =>
        clear hBV kdV cd0V fd0V cd1V fd1V cd2V fd2V cd3V fd3V cd4V fd4V cd5V fd5V kpV cp0V fp0V cp1V fp1V hqV
        obtain ⟨j, hj2, rfl, hGr, kdU, hqU⟩ := hrel
        rename World => U
        have hzU := hqU.size
        obtain ⟨u1, v1, hB1, hft⟩ := hGr
        obtain ⟨su1, cu1, sv1, cv1, rfl, rfl, _⟩ := hB1.slices
        have HFT : Hid (∀ i, ft p (.slice su1 (n + j) cu1) (.slice sv1 (n + j) cv1) i → ft p (.slice su n cu) (.slice sv n cv) i ∨ w.heap.size < i) := hft
        have HB1 : Hid (BookAt 25 4 B U p (.slice su1 (n + j) cu1) (.slice sv1 (n + j) cv1) (n + j) (appN K n J j) (appN (mkG G Z k) n (fun _ => false) j)) := hB1
        have kpU := hB1.cells
        clear hft hB1
        obtain ⟨zdU, cd0U, cd1U, cd2U, cd3U, cd4U, cd5U, fd0U, fd1U, fd2U, fd3U, fd4U, fd5U⟩ := kdU.six
        obtain ⟨zpU, cp0U, cp1U, fp0U, fp1U⟩ := kpU.two
        by_cases hlt : j < c
        · have hlt' : (j : Int) < c := by omega
          obtain ⟨b1, o1, rfl, hxr, hnf⟩ := HR.out.resolve_left (by omega)
          obtain ⟨c0, c1, c2⟩ := (hxr.but hqU hnf).2 j hlt
          have hb1 : b1 < U.heap.size := (hxr.but hqU hnf).1
          obtain ⟨e0, e1, e2⟩ := HK.out j hlt
          rw [e0] at c0
          rw [e1] at c1
          rw [e2] at c2
          clear e0 e1 e2 hxr hnf
          have HCo : Hid (U.ownsRow B 25 3 (.slice su1 (n + j) cu1) (n + j) (cellsK (appN K n J j) (n + j))) := HB1.out.coins
          have HCe : Hid (At U p [.slice su1 (n + j) cu1, .slice sv1 (n + j) cv1]) := kpU
          have HAu : Hid ((Value.slice su1 (n + j) cu1).ownBlock ≠ some p) := HB1.out.au
          go_wp2_with fail
          go_region_law ((refine step_append_lies _ (by rfl) _ _ 22 (by rfl) B 25 i0 (.agg #[.int .i64 0, .int .i64 0, .bool false]) 3 24 Tryz.underlying22 hi hv0 hv1 hv2 (by rfl) (by decide) _ (n + j) _ (by rfl) ((own_drew HCo.out).alloc _) ⟨U.heap.size, 0, none⟩ 1 1 [.int .i64 ((tM (4 * J j)).1 : Int), .int .i64 ((tM (4 * J j)).2.1 : Int), .bool (tM (4 * J j)).2.2] (by rfl) (by rfl) (three_at rfl _ _ _ _) (by simp [Value.oneCell']) (by omega) (by unfold maxLen; omega) (by omega) (by simp; omega) (U.heap.size + 1) (by simp) ?_); (intro g7 cap7 w7 hown7 hgrow7 hat7 hlt7); (have kp7 := At.grown (At.alloc (At.drew HCe.out) _) hgrow7 HAu.out); (obtain ⟨zp7, cp07, cp17, fp07, fp17⟩ := kp7.two))
          all_goals (
          have hWa := (show Below U.heap.size U (U.alloc (.cells #[.int .i64 ((tM (4 * J j)).1 : Int), .int .i64 ((tM (4 * J j)).2.1 : Int), .bool (tM (4 * J j)).2.2] 25)).drew from ((Below.refl _ _).alloc (Nat.le_refl _) _).drew)
          rw [← cellsK_app] at hown7
          have hat8 : (Value.slice (some ⟨g7, 0, none⟩) (n + j + 1) cap7).ownBlock = (Value.slice su1 (n + j) cu1).ownBlock ∨ (Value.slice (some ⟨g7, 0, none⟩) (n + j + 1) cap7).ownBlock = some (U.alloc (.cells #[.int .i64 ((tM (4 * J j)).1 : Int), .int .i64 ((tM (4 * J j)).2.1 : Int), .bool (tM (4 * J j)).2.2] 25)).drew.heap.size := by
            rcases hat7 with e | e
            · exact Or.inl e.symm
            · exact Or.inr (by rw [e]; simp [Value.ownBlock])
          have hG7 := grow_coin (w := w) HB1.out.duo hWa hgrow7 hown7 hat8 HFT.out (fun i hi => HBK.out.lt hi) (Or.inl rfl) hqU kdU
          clear hWa hat8 hown7 hgrow7 hat7 kp7 cp07 cp17 fp07 fp17 zp7
          refine ethen_gen2 (fun O => Duo 25 4 3 1 B O p (.slice (some ⟨g7, 0, none⟩) (n + j + 1) cap7) (n + j + 1) (cellsK (appN K n J (j + 1)) (n + j + 1)) (.slice sv1 (n + j) cv1) (n + j) (cellsB (appN (mkG G Z k) n (fun _ => false) j) (n + j)) ∧ At O (w.heap.size) [.slice sz k dz, .slice (some ⟨b1, o1, none⟩) c d, .int .i64 ((tM a).1 : Int), .int .i64 ((tM a).2.1 : Int), .bool (tM a).2.2, .int .i64 (s : Int)] ∧ But (ft p (.slice su n cu) (.slice sv n cv)) w O ∧ ∀ i, ft p (.slice (some ⟨g7, 0, none⟩) (n + j + 1) cap7) (.slice sv1 (n + j) cv1) i → (ft p (.slice su n cu) (.slice sv n cv)) i ∨ w.heap.size < i) hG7 ?_
          clear hG7
          rintro O ⟨hDO, kdO, hqO, hftO⟩
          clear kdU cd0U fd0U cd1U fd1U cd2U fd2U cd3U fd3U cd4U fd4U cd5U fd5U kpU cp0U fp0U cp1U fp1U hqU c0 c1 c2 hb1 HCo HCe HAu hlt7
          have HDO : Hid (Duo 25 4 3 1 B O p (.slice (some ⟨g7, 0, none⟩) (n + j + 1) cap7) (n + j + 1) (cellsK (appN K n J (j + 1)) (n + j + 1)) (.slice sv1 (n + j) cv1) (n + j) (cellsB (appN (mkG G Z k) n (fun _ => false) j) (n + j))) := hDO
          have HFO : Hid (∀ i, ft p (.slice (some ⟨g7, 0, none⟩) (n + j + 1) cap7) (.slice sv1 (n + j) cv1) i → (ft p (.slice su n cu) (.slice sv n cv)) i ∨ w.heap.size < i) := hftO
          have kpO := hDO.cells
          clear hDO hftO
          have hzO := hqO.size
          obtain ⟨zdO, cd0O, cd1O, cd2O, cd3O, cd4O, cd5O, fd0O, fd1O, fd2O, fd3O, fd4O, fd5O⟩ := kdO.six
          obtain ⟨zpO, cp0O, cp1O, fp0O, fp1O⟩ := kpO.two
          go_wp2_with (at_builtin; refine wpList_append_own_at _ rfl _ _ 59 rfl B 4 j0 (.bool false) 1 1 Tryz.underlying59 hj hu0 hu1 hu2 rfl (by decide) _ _ _ rfl (HDO.out.snd.alloc _) ⟨O.heap.size, 0, none⟩ 1 1 [.bool false] rfl rfl ?c1 ?c2 ?c3 ?c4 ?c5 ?_)
          case c1 => exact one_at rfl _ _
          case c2 => intro u hu; simp at hu; subst hu; rfl
          case c3 => unfold maxLen; omega
          case c4 => omega
          case c5 => simp; omega
          intro v9 w9 hown9 hgrow9 _ hat9
          have hown10 : w9.ownsRow B 4 1 v9 (n + j + 1) (cellsB (appN (mkG G Z k) n (fun _ => false) (j + 1)) (n + j + 1)) := by rw [cellsB_app]; exact hown9
          obtain ⟨sa9, c9, rfl, _⟩ := own_slice hown10
          have hG9 := grow_flag (w := w) HDO.out ((Below.refl _ _).alloc (Nat.le_refl _) _) hgrow9 hown10 (by simpa using hat9) HFO.out (fun i hi => HBK.out.lt hi) (Or.inl rfl) hqO kdO
          have kp9 := At.grown (At.alloc kpO _) hgrow9 HDO.out.av
          obtain ⟨zp9, cp09, cp19, fp09, fp19⟩ := kp9.two
          have HG9 := (show Hid _ from hG9)
          clear hG9 hown9 hown10 hgrow9 hat9 kp9
          go_wp2_with fail
          go_roundw
          case rel => exact ⟨j + 1, by omega, by simp, ⟨_, _, HG9.out.1.book, HG9.out.2.2.2⟩, HG9.out.2.1, HG9.out.2.2.1⟩
          case measure => simp [intOf]; omega)
        · have hlt' : ¬ (j : Int) < c := by omega
          obtain rfl : j = c := by omega
          go_wp2_with fail
          go_ret
          exact ⟨rfl, BookGrown.done ⟨_, _, HB1.out, HFT.out⟩ hqU⟩
end Go.Proofs.YtpkkclcjiobgoajGreatDoor
