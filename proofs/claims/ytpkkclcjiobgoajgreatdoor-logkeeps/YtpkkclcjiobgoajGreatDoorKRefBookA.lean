/- What the plain reckoning of books (stoneref2: BookAsk, Coins, NewBook, Live, Total) answers. -/
import Derived.Test.YtpkkclcjiobgoajGreatDoorKC
import Derived.Test.YtpkkclcjiobgoajGreatDoorKE
import Derived.Test.YtpkkclcjiobgoajGreatDoorKRefTimes
import Derived.Test.YtpkkclcjiobgoajGreatDoorKRefBytes
import Derived.Test.YtpkkclcjiobgoajGreatDoorKRefHash
import Derived.Test.YtpkkclcjiobgoajGreatDoorKGate
import Derived.Laws.AppendOwnNone
import Derived.Deep.RegionHeld3
import Derived.Deep.CutRange
namespace Go.Proofs.YtpkkclcjiobgoajGreatDoor
open Go.RowKit Go.Sort
set_option linter.unusedVariables false
set_option linter.unusedSimpArgs false
/-- A book's rows, as slices that can be read. -/
theorem BookAt.slices {eC eG : TypeId} {B : Nat} {w : World} {p : Nat} {u v : Value} {n : Nat} {K : Nat → Nat} {G : Nat → Bool} (h : BookAt eC eG B w p u v n K G) :
    ∃ (su : Option Addr) (cu : Nat) (sv : Option Addr) (cv : Nat), u = .slice su n cu ∧ v = .slice sv n cv ∧ (n = 0 ∨ ∃ g h, su = some ⟨g, 0, none⟩ ∧ sv = some ⟨h, 0, none⟩ ∧ RowO w g 0 n (fun i => ((tM (4 * K i)).1 : Int)) (fun i => ((tM (4 * K i)).2.1 : Int)) (fun i => (tM (4 * K i)).2.2) ∧ RowB w h 0 n G) := by
  obtain ⟨su, cu, rfl, hu⟩ := own_spots h.coins
  obtain ⟨sv, cv, rfl, hv⟩ := own_flags h.flags
  refine ⟨su, cu, sv, cv, rfl, rfl, ?_⟩
  rcases hu with h0 | ⟨g, e1, _, _, r1⟩
  · exact Or.inl h0
  · rcases hv with h0 | ⟨h, e2, _, _, r2⟩
    · exact Or.inl h0
    · exact Or.inr ⟨g, h, e1, e2, r1, r2⟩
set_option maxRecDepth 100000 in
set_option maxHeartbeats 4000000 in
theorem rba_tM (a b : Nat) (w : World) : Calls Tryz.prog 7 #[.agg #[.int .i64 ((tM a).1 : Int), .int .i64 ((tM a).2.1 : Int), .bool (tM a).2.2], .agg #[.int .i64 ((tM b).1 : Int), .int .i64 ((tM b).2.1 : Int), .bool (tM b).2.2]] w fun e w' => e = .returned (.int .i64 (baN a b : Int)) ∧ Below w.heap.size w w' := by
  have HL : Hid (∀ W j, RowO W j 0 2 (twoR ((tM a).1 : Int) ((tM b).1 : Int)) (twoR ((tM a).2.1 : Int) ((tM b).2.1 : Int)) (twoR (tM a).2.2 (tM b).2.2) → Calls Tryz.prog 40 #[.slice (some ⟨j, 0, none⟩) 2 2] W fun e w' => e = .returned (.string (lsB (twoR a b) 2)) ∧ Below W.heap.size W w') := fun W j hr => rlist_row j 0 2 2 _ _ _ (twoR a b) W (by omega) hr (fun i hi => by rcases lt_two hi with rfl | rfl <;> exact ⟨rfl, rfl, rfl⟩)
  have HN : Hid (∀ w, Calls Tryz.prog 39 #[.string (lsB (twoR a b) 2)] w fun e w' => e = .returned (.int .i64 (baN a b : Int)) ∧ Below w.heap.size w w') := fun w => by
    have := below_of_same (rnumber_any (lsB (twoR a b) 2) w (by have := ls_size (twoR a b) (n := 2) (by omega); omega))
    rwa [baI] at this
  go_enter Tryz.func7, Tryz.ntmps7
  go_upto_region 1 with fail
  refine wp_gen (fun V => At V (w.heap.size) [.int .i64 ((tM a).1 : Int), .int .i64 ((tM a).2.1 : Int), .bool (tM a).2.2] ∧ At V (w.heap.size + 1) [.int .i64 ((tM b).1 : Int), .int .i64 ((tM b).2.1 : Int), .bool (tM b).2.2] ∧ Below w.heap.size w V) ⟨by repeat (first | (with_reducible first | assumption | (refine at_new' _ _ _ _ ?_; first | rfl | (simp; done)) | refine At.alloc ?_ _ | refine At.drew ?_ | refine At.drewN ?_ | refine At.set ?_ (by omega) | apply At.store4 | apply At.store3 | apply At.store2 | apply At.put43) | refine At.below ?_ (by with_reducible assumption)), by repeat (first | (with_reducible first | assumption | (refine at_new' _ _ _ _ ?_; first | rfl | (simp; done)) | refine At.alloc ?_ _ | refine At.drew ?_ | refine At.drewN ?_ | refine At.set ?_ (by omega) | apply At.store4 | apply At.store3 | apply At.store2 | apply At.put43) | refine At.below ?_ (by with_reducible assumption)), by repeat (first | (with_reducible first | exact Below.refl _ _ | assumption | refine Below.setCell ?_ (by first | simp <;> omega | omega) _ | refine Below.alloc ?_ (by first | simp <;> omega | omega) _) | refine bl_call ?_ (by assumption) (by first | simp <;> omega | omega) | (with_reducible first | refine bl_drewN ?_ | refine Below.drew ?_ | refine bl_grow ?_ (by first | simp <;> omega | omega)))⟩ ?_
  rintro V ⟨kaV, kbV, hqV⟩
  have hzV := hqV.size
  obtain ⟨zaV, ca0V, ca1V, ca2V, fa0V, fa1V, fa2V⟩ := kaV.three
  obtain ⟨zbV, cb0V, cb1V, cb2V, fb0V, fb1V, fb2V⟩ := kbV.three
  go_wp2_with (first | (go_at_call 40; refine (HL.out _ V.heap.size ⟨by simp, fun i hi => by rcases lt_two hi with rfl | rfl <;> exact ⟨by simp [two_0, two_1], by simp [two_0, two_1], by simp [two_0, two_1]⟩⟩).mono ?_; rintro e w1 ⟨rfl, hb1⟩; have hq1 : Below w.heap.size w w1 := (by repeat (first | (with_reducible first | exact Below.refl _ _ | assumption | refine Below.setCell ?_ (by first | simp <;> omega | omega) _ | refine Below.alloc ?_ (by first | simp <;> omega | omega) _) | refine bl_call ?_ (by assumption) (by first | simp <;> omega | omega) | (with_reducible first | refine bl_drewN ?_ | refine Below.drew ?_ | refine bl_grow ?_ (by first | simp <;> omega | omega)))); have hz1 := hq1.size; clear hb1) | (go_at_call 39; refine (HN.out _).mono ?_; rintro e w2 ⟨rfl, hb2⟩; have hq2 : Below w.heap.size w w2 := (by repeat (first | (with_reducible first | exact Below.refl _ _ | assumption | refine Below.setCell ?_ (by first | simp <;> omega | omega) _ | refine Below.alloc ?_ (by first | simp <;> omega | omega) _) | refine bl_call ?_ (by assumption) (by first | simp <;> omega | omega) | (with_reducible first | refine bl_drewN ?_ | refine Below.drew ?_ | refine bl_grow ?_ (by first | simp <;> omega | omega)))); clear hb2))
  go_ret
  exact ⟨rfl, by repeat (first | (with_reducible first | exact Below.refl _ _ | assumption | refine Below.setCell ?_ (by first | simp <;> omega | omega) _ | refine Below.alloc ?_ (by first | simp <;> omega | omega) _) | refine bl_call ?_ (by assumption) (by first | simp <;> omega | omega) | (with_reducible first | refine bl_drewN ?_ | refine Below.drew ?_ | refine bl_grow ?_ (by first | simp <;> omega | omega)))⟩
theorem rcoins_many (sl : Option Addr) (n d : Nat) (w : World) (h : 12 < n) : Calls Tryz.prog 15 #[.slice sl n d] w fun e w' => e = .returned (.int .i64 4) ∧ Below w.heap.size w w' := by
  have h1 : (n : Int) > 12 := by omega
  go_enter Tryz.func15, Tryz.ntmps15
  go_wp2_with fail
  go_ret
  exact ⟨rfl, by repeat (first | (with_reducible first | exact Below.refl _ _ | assumption | refine Below.setCell ?_ (by first | simp <;> omega | omega) _ | refine Below.alloc ?_ (by first | simp <;> omega | omega) _) | refine bl_call ?_ (by assumption) (by first | simp <;> omega | omega) | (with_reducible first | refine bl_drewN ?_ | refine Below.drew ?_ | refine bl_grow ?_ (by first | simp <;> omega | omega)))⟩
set_option maxRecDepth 100000 in
set_option maxHeartbeats 4000000 in
theorem rcoins_any (sl : Option Addr) (n d m : Nat) (X Y : Nat → Int) (F : Nat → Bool) (c : Int) (w : World) (hn : n ≤ 12) (hr : (n = 0 ∨ ∃ b o : Nat, sl = some ⟨b, o, none⟩ ∧ RowO w b o n X Y F)) (hm : m ≤ n) (hok : ∀ j, j < m → goodC (X j) (Y j) (F j)) (hc : (m = n ∧ c = 0) ∨ (m < n ∧ badC (X m) (Y m) (F m) ∧ c = 3)) : Calls Tryz.prog 15 #[.slice sl n d] w fun e w' => e = .returned (.int .i64 c) ∧ Below w.heap.size w w' := by
  have h1 : ¬ (n : Int) > 12 := by omega
  have HR : Hid ((n = 0 ∨ ∃ b o : Nat, sl = some ⟨b, o, none⟩ ∧ RowO w b o n X Y F)) := hr
  have HO : Hid (∀ j, j < m → goodC (X j) (Y j) (F j)) := hok
  have HC : Hid ((m = n ∧ c = 0) ∨ (m < n ∧ badC (X m) (Y m) (F m) ∧ c = 3)) := hc
  clear hr hok hc
  go_enter Tryz.func15, Tryz.ntmps15
  go_wp2_with fail
  go_loopw [3] (fun ti wl => ∃ k : Nat, k ≤ m ∧ ti = .int .i64 k ∧ Below w.heap.size w wl) (fun ti _ => n - (intOf ti).toNat)
  case atStart => exact ⟨0, by omega, rfl, by repeat (first | (with_reducible first | exact Below.refl _ _ | assumption | refine Below.setCell ?_ (by first | simp <;> omega | omega) _ | refine Below.alloc ?_ (by first | simp <;> omega | omega) _) | refine bl_call ?_ (by assumption) (by first | simp <;> omega | omega) | (with_reducible first | refine bl_drewN ?_ | refine Below.drew ?_ | refine bl_grow ?_ (by first | simp <;> omega | omega)))⟩
  case round =>
    obtain ⟨k, hk, rfl, hqV⟩ := hrel
    rename World => V
    have hzV := hqV.size
    by_cases hlt : k < n
    · have hlt' : (k : Int) < n := by omega
      obtain ⟨b, o, rfl, hz⟩ : ∃ b o : Nat, sl = some ⟨b, o, none⟩ ∧ RowO w b o n X Y F := HR.out.resolve_left (by omega)
      have hbV := Nat.lt_of_lt_of_le hz.1 hzV
      obtain ⟨c0, c1, c2⟩ := (hz.below hz.1 hqV).2 k hlt
      by_cases hkm : k < m
      · obtain ⟨j, e0, e1, e2⟩ := HO.out k hkm
        rw [e0] at c0
        rw [e1] at c1
        rw [e2] at c2
        clear e0 e1 e2 hz
        have HS : Hid (∀ w, Calls Tryz.prog 6 #[.agg #[.int .i64 ((tM (4 * j)).1 : Int), .int .i64 ((tM (4 * j)).2.1 : Int), .bool (tM (4 * j)).2.2]] w fun e w' => e = .returned (.int .i64 0) ∧ Below w.heap.size w w') := fun w => rspot_yes (ck_tM (4 * j)) w
        have HI : Hid (∀ w, Calls Tryz.prog 50 #[.agg #[.int .i64 ((tM (4 * j)).1 : Int), .int .i64 ((tM (4 * j)).2.1 : Int), .bool (tM (4 * j)).2.2]] w fun e w' => e = .returned (.bool true) ∧ Below w.heap.size w w') := fun w => by have := rin_tM (4 * j) w; rwa [far_four] at this
        obtain ⟨T, hT⟩ : ∃ T, tM (4 * j) = T := ⟨_, rfl⟩
        rw [hT] at c0 c1 c2 HS HI
        clear hT
        have m1 : True := trivial; have m2 : True := trivial
        go_wp2_with (first | (go_at_call 6; clear m1; refine (HS.out _).mono ?_; rintro e w1 ⟨rfl, hbw1⟩; have hqw1 : Below w.heap.size w w1 := (by repeat (first | (with_reducible first | exact Below.refl _ _ | assumption | refine Below.setCell ?_ (by first | simp <;> omega | omega) _ | refine Below.alloc ?_ (by first | simp <;> omega | omega) _) | refine bl_call ?_ (by assumption) (by first | simp <;> omega | omega) | (with_reducible first | refine bl_drewN ?_ | refine Below.drew ?_ | refine bl_grow ?_ (by first | simp <;> omega | omega)))); have hzw1 := hqw1.size; have d0 := (hbw1.cell (p := ⟨b, o + k * 3, none⟩) hbV).trans c0; have d1 := (hbw1.cell (p := ⟨b, o + k * 3 + 1, none⟩) hbV).trans c1; have d2 := (hbw1.cell (p := ⟨b, o + k * 3 + 2, none⟩) hbV).trans c2; have hbW : b < w1.heap.size := Nat.lt_of_lt_of_le hbV hbw1.size; clear hbw1 c0 c1 c2) | (go_at_call 50; clear m2; refine (HI.out _).mono ?_; rintro e w2 ⟨rfl, hbw2⟩; have hqw2 : Below w.heap.size w w2 := (by repeat (first | (with_reducible first | exact Below.refl _ _ | assumption | refine Below.setCell ?_ (by first | simp <;> omega | omega) _ | refine Below.alloc ?_ (by first | simp <;> omega | omega) _) | refine bl_call ?_ (by assumption) (by first | simp <;> omega | omega) | (with_reducible first | refine bl_drewN ?_ | refine Below.drew ?_ | refine bl_grow ?_ (by first | simp <;> omega | omega)))); have hzw2 := hqw2.size; clear  hqw1; clear hbw2))
        go_roundw
        case rel => exact ⟨k + 1, by omega, by simp, by repeat (first | (with_reducible first | exact Below.refl _ _ | assumption | refine Below.setCell ?_ (by first | simp <;> omega | omega) _ | refine Below.alloc ?_ (by first | simp <;> omega | omega) _) | refine bl_call ?_ (by assumption) (by first | simp <;> omega | omega) | (with_reducible first | refine bl_drewN ?_ | refine Below.drew ?_ | refine bl_grow ?_ (by first | simp <;> omega | omega)))⟩
        case measure => simp [intOf]; omega
      · obtain rfl : k = m := by omega
        obtain ⟨g1, g2, rfl⟩ : k < n ∧ badC (X k) (Y k) (F k) ∧ c = 3 := HC.out.resolve_left fun g => by omega
        rcases g2 with g2 | ⟨j, e0, e1, e2, g2⟩
        · have g3 := rspot_any (X k) (Y k) (F k)
          generalize ckI (X k) (Y k) (F k) = q at g2 g3
          have HS : Hid (∀ w, Calls Tryz.prog 6 #[.agg #[.int .i64 (X k), .int .i64 (Y k), .bool (F k)]] w fun e w' => e = .returned (.int .i64 q) ∧ Below w.heap.size w w') := g3
          clear g3 hz
          have m1 : True := trivial
          go_wp2_with (go_at_call 6; clear m1; refine (HS.out _).mono ?_; rintro e w1 ⟨rfl, hbw1⟩; have hqw1 : Below w.heap.size w w1 := (by repeat (first | (with_reducible first | exact Below.refl _ _ | assumption | refine Below.setCell ?_ (by first | simp <;> omega | omega) _ | refine Below.alloc ?_ (by first | simp <;> omega | omega) _) | refine bl_call ?_ (by assumption) (by first | simp <;> omega | omega) | (with_reducible first | refine bl_drewN ?_ | refine Below.drew ?_ | refine bl_grow ?_ (by first | simp <;> omega | omega)))); have hzw1 := hqw1.size; clear hbw1)
          go_ret
          exact ⟨rfl, by repeat (first | (with_reducible first | exact Below.refl _ _ | assumption | refine Below.setCell ?_ (by first | simp <;> omega | omega) _ | refine Below.alloc ?_ (by first | simp <;> omega | omega) _) | refine bl_call ?_ (by assumption) (by first | simp <;> omega | omega) | (with_reducible first | refine bl_drewN ?_ | refine Below.drew ?_ | refine bl_grow ?_ (by first | simp <;> omega | omega)))⟩
        · rw [e0] at c0
          rw [e1] at c1
          rw [e2] at c2
          clear e0 e1 e2 hz
          have HS : Hid (∀ w, Calls Tryz.prog 6 #[.agg #[.int .i64 ((tM j).1 : Int), .int .i64 ((tM j).2.1 : Int), .bool (tM j).2.2]] w fun e w' => e = .returned (.int .i64 0) ∧ Below w.heap.size w w') := fun w => rspot_yes (ck_tM j) w
          have HI : Hid (∀ w, Calls Tryz.prog 50 #[.agg #[.int .i64 ((tM j).1 : Int), .int .i64 ((tM j).2.1 : Int), .bool (tM j).2.2]] w fun e w' => e = .returned (.bool false) ∧ Below w.heap.size w w') := fun w => by have := rin_tM j w; rwa [g2] at this
          clear g2
          have m1 : True := trivial; have m2 : True := trivial
          go_wp2_with (first | (go_at_call 6; clear m1; refine (HS.out _).mono ?_; rintro e w1 ⟨rfl, hbw1⟩; have hqw1 : Below w.heap.size w w1 := (by repeat (first | (with_reducible first | exact Below.refl _ _ | assumption | refine Below.setCell ?_ (by first | simp <;> omega | omega) _ | refine Below.alloc ?_ (by first | simp <;> omega | omega) _) | refine bl_call ?_ (by assumption) (by first | simp <;> omega | omega) | (with_reducible first | refine bl_drewN ?_ | refine Below.drew ?_ | refine bl_grow ?_ (by first | simp <;> omega | omega)))); have hzw1 := hqw1.size; have d0 := (hbw1.cell (p := ⟨b, o + k * 3, none⟩) hbV).trans c0; have d1 := (hbw1.cell (p := ⟨b, o + k * 3 + 1, none⟩) hbV).trans c1; have d2 := (hbw1.cell (p := ⟨b, o + k * 3 + 2, none⟩) hbV).trans c2; have hbW : b < w1.heap.size := Nat.lt_of_lt_of_le hbV hbw1.size; clear hbw1 c0 c1 c2) | (go_at_call 50; clear m2; refine (HI.out _).mono ?_; rintro e w2 ⟨rfl, hbw2⟩; have hqw2 : Below w.heap.size w w2 := (by repeat (first | (with_reducible first | exact Below.refl _ _ | assumption | refine Below.setCell ?_ (by first | simp <;> omega | omega) _ | refine Below.alloc ?_ (by first | simp <;> omega | omega) _) | refine bl_call ?_ (by assumption) (by first | simp <;> omega | omega) | (with_reducible first | refine bl_drewN ?_ | refine Below.drew ?_ | refine bl_grow ?_ (by first | simp <;> omega | omega)))); have hzw2 := hqw2.size; clear  hqw1; clear hbw2))
          go_ret
          exact ⟨rfl, by repeat (first | (with_reducible first | exact Below.refl _ _ | assumption | refine Below.setCell ?_ (by first | simp <;> omega | omega) _ | refine Below.alloc ?_ (by first | simp <;> omega | omega) _) | refine bl_call ?_ (by assumption) (by first | simp <;> omega | omega) | (with_reducible first | refine bl_drewN ?_ | refine Below.drew ?_ | refine bl_grow ?_ (by first | simp <;> omega | omega)))⟩
    · have hlt' : ¬ (k : Int) < n := by omega
      obtain ⟨g1, rfl⟩ : m = n ∧ c = 0 := HC.out.resolve_right fun g => by omega
      go_wp2_with fail
      go_ret
      exact ⟨rfl, by repeat (first | (with_reducible first | exact Below.refl _ _ | assumption | refine Below.setCell ?_ (by first | simp <;> omega | omega) _ | refine Below.alloc ?_ (by first | simp <;> omega | omega) _) | refine bl_call ?_ (by assumption) (by first | simp <;> omega | omega) | (with_reducible first | refine bl_drewN ?_ | refine Below.drew ?_ | refine bl_grow ?_ (by first | simp <;> omega | omega)))⟩
set_option maxRecDepth 100000 in
set_option maxHeartbeats 4000000 in
theorem rtotal (B p n : Nat) (u v : Value) (K : Nat → Nat) (G : Nat → Bool) (w : World) (hn : n ≤ 1000000) (h : BookAt 25 4 B w p u v n K G) : Calls Tryz.prog 28 #[.pointer (some ⟨p, 0, none⟩)] w fun e w' => e = .returned (.agg #[.int .i64 ((tM (4 * ttN K G n)).1 : Int), .int .i64 ((tM (4 * ttN K G n)).2.1 : Int), .bool (tM (4 * ttN K G n)).2.2]) ∧ Below w.heap.size w w' := by
  obtain ⟨su, cu, sv, cv, rfl, rfl, hrow⟩ := h.slices
  have kpw := h.cells
  have hpw := kpw.1
  have HP : Hid (At w p [.slice su n cu, .slice sv n cv]) := kpw
  have HR : Hid (n = 0 ∨ ∃ g h, su = some ⟨g, 0, none⟩ ∧ sv = some ⟨h, 0, none⟩ ∧ RowO w g 0 n (fun i => ((tM (4 * K i)).1 : Int)) (fun i => ((tM (4 * K i)).2.1 : Int)) (fun i => (tM (4 * K i)).2.2) ∧ RowB w h 0 n G) := hrow
  clear hrow h kpw
  go_enter Tryz.func28, Tryz.ntmps28
  go_wp2_with fail
  go_loopw [4] (fun ti wl => ∃ k : Nat, k ≤ n ∧ ti = .int .i64 k ∧ At wl (w.heap.size) [.int .i64 0, .int .i64 0, .bool false] ∧ At wl (w.heap.size + 1) [.int .i64 ((tM (4 * ttN K G k)).1 : Int), .int .i64 ((tM (4 * ttN K G k)).2.1 : Int), .bool (tM (4 * ttN K G k)).2.2] ∧ Below w.heap.size w wl) (fun ti _ => n - (intOf ti).toNat)
  case atStart => exact ⟨0, by omega, rfl, by repeat (first | (with_reducible first | assumption | (refine at_new' _ _ _ _ ?_; first | rfl | (simp; done)) | refine At.alloc ?_ _ | refine At.drew ?_ | refine At.drewN ?_ | refine At.set ?_ (by omega) | apply At.store4 | apply At.store3 | apply At.store2 | apply At.put43) | refine At.below ?_ (by with_reducible assumption)), by show At _ _ [.int .i64 0, .int .i64 0, .bool true]; exact (by repeat (first | (with_reducible first | assumption | (refine at_new' _ _ _ _ ?_; first | rfl | (simp; done)) | refine At.alloc ?_ _ | refine At.drew ?_ | refine At.drewN ?_ | refine At.set ?_ (by omega) | apply At.store4 | apply At.store3 | apply At.store2 | apply At.put43) | refine At.below ?_ (by with_reducible assumption))), by repeat (first | (with_reducible first | exact Below.refl _ _ | assumption | refine Below.setCell ?_ (by first | simp <;> omega | omega) _ | refine Below.alloc ?_ (by first | simp <;> omega | omega) _) | refine bl_call ?_ (by assumption) (by first | simp <;> omega | omega) | (with_reducible first | refine bl_drewN ?_ | refine Below.drew ?_ | refine bl_grow ?_ (by first | simp <;> omega | omega)))⟩
  case round =>
    obtain ⟨k, hk, rfl, krV, ksV, hqV⟩ := hrel
    rename World => V
    have hzV := hqV.size
    obtain ⟨zrV, cr0V, cr1V, cr2V, fr0V, fr1V, fr2V⟩ := krV.three
    obtain ⟨zsV, cs0V, cs1V, cs2V, fs0V, fs1V, fs2V⟩ := ksV.three
    have kpV := HP.out.below hqV
    obtain ⟨zpV, cp0V, cp1V, fp0V, fp1V⟩ := kpV.two
    by_cases hlt : k < n
    · have hlt' : (k : Int) < n := by omega
      obtain ⟨g, h, rfl, rfl, r1, r2⟩ := HR.out.resolve_left (by omega)
      have hgV := Nat.lt_of_lt_of_le r1.1 hzV
      have hhV := Nat.lt_of_lt_of_le r2.1 hzV
      obtain ⟨c0, c1, c2⟩ := (r1.below r1.1 hqV).2 k hlt
      have d0 := (r2.below r2.1 hqV).2 k hlt
      rw [Nat.zero_add] at c0 c1 c2 d0
      clear r1 r2
      cases hG : G k with
      | true =>
        rw [hG] at d0
        have E := ttN_gone (K := K) hG
        clear hG
        go_wp2_with fail
        go_roundw
        case rel => exact ⟨k + 1, by omega, by simp, by repeat (first | (with_reducible first | assumption | (refine at_new' _ _ _ _ ?_; first | rfl | (simp; done)) | refine At.alloc ?_ _ | refine At.drew ?_ | refine At.drewN ?_ | refine At.set ?_ (by omega) | apply At.store4 | apply At.store3 | apply At.store2 | apply At.put43) | refine At.below ?_ (by with_reducible assumption)), by rw [E]; exact (by repeat (first | (with_reducible first | assumption | (refine at_new' _ _ _ _ ?_; first | rfl | (simp; done)) | refine At.alloc ?_ _ | refine At.drew ?_ | refine At.drewN ?_ | refine At.set ?_ (by omega) | apply At.store4 | apply At.store3 | apply At.store2 | apply At.put43) | refine At.below ?_ (by with_reducible assumption))), by repeat (first | (with_reducible first | exact Below.refl _ _ | assumption | refine Below.setCell ?_ (by first | simp <;> omega | omega) _ | refine Below.alloc ?_ (by first | simp <;> omega | omega) _) | refine bl_call ?_ (by assumption) (by first | simp <;> omega | omega) | (with_reducible first | refine bl_drewN ?_ | refine Below.drew ?_ | refine bl_grow ?_ (by first | simp <;> omega | omega)))⟩
        case measure => simp [intOf]; omega
      | false =>
        rw [hG] at d0
        have E := ttN_live (K := K) hG
        clear hG
        have E2 : Hid (tM (4 * ttN K G (k + 1)) = tM (4 * ttN K G k + 4 * K k)) := by unfold Hid; rw [E, Nat.mul_add]
        clear E
        go_wp2_with fail
        refine below_gate 9 1 #[true, true, true, true, true, true, true, true, true, false] (by kernel_rfl) (by kernel_rfl) rfl rfl ?_
        dsimp only [List.take]
        repeat (go_big_quiet_step (first | (go_at_call 45; with_reducible exact Calls.regrown_of (radd_tM _ _ _))))
        refine wpQuiet_nil ?_
        intro W1 hw1
        have hrW1 := regrown_below hw1
        clear hw1
        have krW1 := krV.below hrW1
        have ksW1 := ksV.below hrW1
        have kpW1 := kpV.below hrW1
        have hqW1 := bl_call hqV hrW1 (by omega)
        have hzW1 := hqW1.size
        clear hrW1 krV cr0V fr0V cr1V fr1V cr2V fr2V ksV cs0V fs0V cs1V fs1V cs2V fs2V kpV cp0V fp0V cp1V fp1V hqV
        obtain ⟨zrW1, cr0W1, cr1W1, cr2W1, fr0W1, fr1W1, fr2W1⟩ := krW1.three
        obtain ⟨zsW1, cs0W1, cs1W1, cs2W1, fs0W1, fs1W1, fs2W1⟩ := ksW1.three
        obtain ⟨zpW1, cp0W1, cp1W1, fp0W1, fp1W1⟩ := kpW1.two
        refine wpAny_ready (rs := [9]) (by kernel_rfl) (by simp) (AllReady.cons rfl (fun K hK => ?_) AllReady.nil)
        go_simp
        refine hK _ _ ?_
        clear hK K
        refine wpAny_done (by kernel_rfl) ?_ _
        go_wp2_with fail
        go_roundw
        case rel => exact ⟨k + 1, by omega, by simp, by repeat (first | (with_reducible first | assumption | (refine at_new' _ _ _ _ ?_; first | rfl | (simp; done)) | refine At.alloc ?_ _ | refine At.drew ?_ | refine At.drewN ?_ | refine At.set ?_ (by omega) | apply At.store4 | apply At.store3 | apply At.store2 | apply At.put43) | refine At.below ?_ (by with_reducible assumption)), by rw [E2.out]; exact (show At _ _ [.int .i64 ((tM (4 * ttN K G k + 4 * K k)).1 : Int), .int .i64 ((tM (4 * ttN K G k + 4 * K k)).2.1 : Int), .bool (tM (4 * ttN K G k + 4 * K k)).2.2] from by repeat (first | (with_reducible first | assumption | (refine at_new' _ _ _ _ ?_; first | rfl | (simp; done)) | refine At.alloc ?_ _ | refine At.drew ?_ | refine At.drewN ?_ | refine At.set ?_ (by omega) | apply At.store4 | apply At.store3 | apply At.store2 | apply At.put43) | refine At.below ?_ (by with_reducible assumption))), by repeat (first | (with_reducible first | exact Below.refl _ _ | assumption | refine Below.setCell ?_ (by first | simp <;> omega | omega) _ | refine Below.alloc ?_ (by first | simp <;> omega | omega) _) | refine bl_call ?_ (by assumption) (by first | simp <;> omega | omega) | (with_reducible first | refine bl_drewN ?_ | refine Below.drew ?_ | refine bl_grow ?_ (by first | simp <;> omega | omega)))⟩
        case measure => simp [intOf]; omega
    · have hlt' : ¬ (k : Int) < n := by omega
      obtain rfl : k = n := by omega
      go_wp2_with fail
      exact bodyPost_ret (v := .agg #[.int .i64 ((tM (4 * ttN K G k)).1 : Int), .int .i64 ((tM (4 * ttN K G k)).2.1 : Int), .bool (tM (4 * ttN K G k)).2.2]) (by simp [results, Tryz.results28, go_sem, *]) rfl ⟨rfl, by repeat (first | (with_reducible first | exact Below.refl _ _ | assumption | refine Below.setCell ?_ (by first | simp <;> omega | omega) _ | refine Below.alloc ?_ (by first | simp <;> omega | omega) _) | refine bl_call ?_ (by assumption) (by first | simp <;> omega | omega) | (with_reducible first | refine bl_drewN ?_ | refine Below.drew ?_ | refine bl_grow ?_ (by first | simp <;> omega | omega)))⟩
theorem rbiinfo : (Tryz.prog.info? 3).map (fun i => (i.zero, i.size, i.bytes)) = some (some (.int .i64 0), 1, 8) := by kernel_rfl
theorem rone_new (w : World) (x : Value) (t : TypeId) : ∀ j u, [x][j]? = some u → (w.alloc (.cells #[x] t)).cell? ((⟨w.heap.size, 0, none⟩ : Addr).add j) = some u := by
  intro j u hj
  rw [addr_add]
  match j, hj with
  | 0, hj => simp at hj; subst hj; simp
set_option maxRecDepth 100000 in
set_option maxHeartbeats 4000000 in
theorem rlive (B p n : Nat) (u v : Value) (K : Nat → Nat) (G : Nat → Bool) (w : World) (hn : n ≤ 1000000) (h : BookAt 25 4 B w p u v n K G) : Calls Tryz.prog 24 #[.pointer (some ⟨p, 0, none⟩)] w fun ex w' => ∃ q, ex = .returned q ∧ w'.ownsRow w.heap.size 3 1 q (lvL G n).length (lvC G n) ∧ Below w.heap.size w w' := by
  obtain ⟨su, cu, sv, cv, rfl, rfl, hrow⟩ := h.slices
  have kpw := h.cells
  have hpw := kpw.1
  have HP : Hid (At w p [.slice su n cu, .slice sv n cv]) := kpw
  have HR : Hid (n = 0 ∨ ∃ h, sv = some ⟨h, 0, none⟩ ∧ RowB w h 0 n G) := hrow.imp_right fun ⟨g, h, _, e, _, r⟩ => ⟨h, e, r⟩
  clear hrow h kpw
  obtain ⟨i0, hi, hv0, hv1, hv2⟩ := info_parts rbiinfo
  go_enter Tryz.func24, Tryz.ntmps24
  go_wp2_with fail
  go_loopw [3, 4] (fun tv ti wl => ∃ k : Nat, k ≤ n ∧ ti = .int .i64 k ∧ wl.ownsRow w.heap.size 3 1 tv (lvL G k).length (lvC G k) ∧ Below w.heap.size w wl) (fun _ ti _ => n - (intOf ti).toNat)
  case atStart => exact ⟨0, by omega, rfl, by show World.ownsRow _ _ _ _ _ 0 []; exact World.ownsRow_nil _ _ _ _, by repeat (first | (with_reducible first | exact Below.refl _ _ | assumption | refine Below.setCell ?_ (by first | simp <;> omega | omega) _ | refine Below.alloc ?_ (by first | simp <;> omega | omega) _) | refine bl_call ?_ (by assumption) (by first | simp <;> omega | omega) | (with_reducible first | refine bl_drewN ?_ | refine Below.drew ?_ | refine bl_grow ?_ (by first | simp <;> omega | omega)))⟩
  case round =>
    obtain ⟨k, hk, rfl, hown, hqV⟩ := hrel
    rename World => V
    have hzV := hqV.size
    have kpV := HP.out.below hqV
    obtain ⟨zpV, cp0V, cp1V, fp0V, fp1V⟩ := kpV.two
    by_cases hlt : k < n
    · have hlt' : (k : Int) < n := by omega
      obtain ⟨h, rfl, r2⟩ := HR.out.resolve_left (by omega)
      have hhV := Nat.lt_of_lt_of_le r2.1 hzV
      have d0 := (r2.below r2.1 hqV).2 k hlt
      rw [Nat.zero_add] at d0
      clear r2
      have hle := lvL_len G k
      cases hG : G k with
      | true =>
        rw [hG] at d0
        have E := lvC_gone hG
        have E3 := congrArg List.length (lvL_gone hG)
        clear hG
        have HE : Hid (lvC G (k + 1) = lvC G k) := E
        have HE3 : Hid ((lvL G (k + 1)).length = (lvL G k).length) := E3
        clear E E3
        go_wp2_with fail
        go_roundw
        case rel => exact ⟨k + 1, by omega, by simp, by rw [HE.out, HE3.out]; exact hown, by repeat (first | (with_reducible first | exact Below.refl _ _ | assumption | refine Below.setCell ?_ (by first | simp <;> omega | omega) _ | refine Below.alloc ?_ (by first | simp <;> omega | omega) _) | refine bl_call ?_ (by assumption) (by first | simp <;> omega | omega) | (with_reducible first | refine bl_drewN ?_ | refine Below.drew ?_ | refine bl_grow ?_ (by first | simp <;> omega | omega)))⟩
        case measure => simp [intOf]; omega
      | false =>
        rw [hG] at d0
        have E := lvC_live hG
        have E3 : (lvL G (k + 1)).length = (lvL G k).length + 1 := by rw [lvL_live hG]; simp
        have HE : Hid (lvC G (k + 1) = lvC G k ++ [.int .i64 (k : Int)]) := E
        have HE3 : Hid ((lvL G (k + 1)).length = (lvL G k).length + 1) := E3
        clear hG E E3
        go_wp2_with (at_builtin; refine wpList_append_own_at _ rfl _ _ 48 rfl w.heap.size 3 i0 (.int .i64 0) 1 8 Tryz.underlying48 hi hv0 hv1 hv2 rfl (by decide) _ _ _ rfl (hown.alloc _) ⟨V.heap.size, 0, none⟩ 1 1 [.int .i64 (k : Int)] rfl rfl ?c1 ?c2 ?c3 ?c4 ?c5 ?_)
        case c1 => exact rone_new _ _ _
        case c2 => intro u hu; simp at hu; subst hu; rfl
        case c3 => unfold maxLen; omega
        case c4 => omega
        case c5 => simp; omega
        · intro v' w13 hown' hgrow _ hat
          have hq13 : Below w.heap.size w w13 := grown_under (B := w.heap.size) (by repeat (first | (with_reducible first | exact Below.refl _ _ | assumption | refine Below.setCell ?_ (by first | simp <;> omega | omega) _ | refine Below.alloc ?_ (by first | simp <;> omega | omega) _) | refine bl_call ?_ (by assumption) (by first | simp <;> omega | omega) | (with_reducible first | refine bl_drewN ?_ | refine Below.drew ?_ | refine bl_grow ?_ (by first | simp <;> omega | omega)))) (hown.alloc _) hgrow (by simp; omega) (Nat.le_refl _)
          rw [← HE.out, ← HE3.out] at hown'
          clear hgrow hat hown
          go_wp2_with fail
          go_roundw
          case rel => exact ⟨k + 1, by omega, by simp, hown', hq13⟩
          case measure => simp [intOf]; omega
    · have hlt' : ¬ (k : Int) < n := by omega
      obtain rfl : k = n := by omega
      go_wp2_with fail
      go_ret
      exact ⟨_, rfl, hown, by repeat (first | (with_reducible first | exact Below.refl _ _ | assumption | refine Below.setCell ?_ (by first | simp <;> omega | omega) _ | refine Below.alloc ?_ (by first | simp <;> omega | omega) _) | refine bl_call ?_ (by assumption) (by first | simp <;> omega | omega) | (with_reducible first | refine bl_drewN ?_ | refine Below.drew ?_ | refine bl_grow ?_ (by first | simp <;> omega | omega)))⟩
theorem rbpinfo : (Tryz.prog.info? 25).map (fun i => (i.zero, i.size, i.bytes)) = some (some (.agg #[.int .i64 0, .int .i64 0, .bool false]), 3, 24) := by kernel_rfl
theorem rbbinfo : (Tryz.prog.info? 4).map (fun i => (i.zero, i.size, i.bytes)) = some (some (.bool false), 1, 1) := by kernel_rfl
theorem made_flags (n : Nat) : (madeCells #[Value.bool false] n).toList = cellsB (fun _ => false) n := by
  unfold madeCells cellsB
  refine List.ext_getElem? fun i => ?_
  simp [Value.cells, Nat.mod_one]
theorem cellsT_row {w W : World} {b o n : Nat} {X Y : Nat → Int} {F : Nat → Bool} (h : RowO w b o n X Y F) (hW : Below w.heap.size w W) : ∀ j u, (cellsT X Y F n)[j]? = some u → W.cell? ((⟨b, o, none⟩ : Addr).add j) = some u := by
  intro j u hj
  have hl : (cellsT X Y F n).length = n * 3 := by
    clear h hj
    induction n with
    | zero => rfl
    | succ n ih => rw [cellsT_succ, List.length_append, ih]; simp; omega
  have hjl : j < n * 3 := by have := (List.getElem?_eq_some_iff.1 hj).1; omega
  have hi : j / 3 < n := by omega
  obtain ⟨h1, h2, h3⟩ := (h.below h.1 hW).2 (j / 3) hi
  have f := fun k hk => flat_at 3 (fun i => [Value.int .i64 (X i), .int .i64 (Y i), .bool (F i)]) (fun _ => rfl) n (j / 3) k hi hk
  rw [Addr.add_lit]
  have hc : j % 3 = 0 ∨ j % 3 = 1 ∨ j % 3 = 2 := by omega
  unfold cellsT at hj
  rcases hc with hc | hc | hc
  · rw [show j = j / 3 * 3 + 0 by omega, f 0 (by omega)] at hj
    rw [show o + j = o + j / 3 * 3 by omega, h1]; exact hj
  · rw [show j = j / 3 * 3 + 1 by omega, f 1 (by omega)] at hj
    rw [show o + j = o + j / 3 * 3 + 1 by omega, h2]; exact hj
  · rw [show j = j / 3 * 3 + 2 by omega, f 2 (by omega)] at hj
    rw [show o + j = o + j / 3 * 3 + 2 by omega, h3]; exact hj
theorem cellsK_one (K : Nat → Nat) (n : Nat) : ∀ u ∈ cellsK K n, u.oneCell' = true := by
  intro u hu
  unfold cellsK cellsT at hu
  simp at hu
  obtain ⟨i, _, hu⟩ := hu
  rcases hu with rfl | rfl | rfl <;> rfl
theorem cellsK_len (K : Nat → Nat) (n : Nat) : (cellsK K n).length = n * 3 := by
  induction n with
  | zero => rfl
  | succ n ih => rw [cellsK_succ, List.length_append, ih]; simp; omega
theorem newbook_at {w w1 w2 : World} {n : Nat} {v' : Value} {K : Nat → Nat} (hz : w.heap.size < w1.heap.size) (hown1 : w1.ownsRow w.heap.size 4 1 (.slice (some ⟨w.heap.size, 0, none⟩) n n) n (cellsB (fun _ => false) n))
    (hown' : w2.ownsRow w.heap.size 25 3 v' n (cellsK K n)) (hgrow : (w1.alloc (.cells #[.slice none 0 0, .slice (some ⟨w.heap.size, 0, none⟩) n n] 61)).grownBy w2 none) (hat : v'.ownBlock = none ∨ v'.ownBlock = some (w1.heap.size + 1)) :
    BookAt 25 4 w.heap.size (w2.setCell ⟨w1.heap.size, 0, none⟩ v') w1.heap.size v' (.slice (some ⟨w.heap.size, 0, none⟩) n n) n K (fun _ => false) := by
  have kp2 : At w2 w1.heap.size [.slice none 0 0, .slice (some ⟨w.heap.size, 0, none⟩) n n] := At.grown (at_new w1 [.slice none 0 0, .slice (some ⟨w.heap.size, 0, none⟩) n n] 61) hgrow (fun h => by cases h)
  have hf : w2.ownsRow w.heap.size 4 1 (.slice (some ⟨w.heap.size, 0, none⟩) n n) n (cellsB (fun _ => false) n) := own_but (F := fun _ => False) (hown1.alloc _) ⟨hgrow.os, hgrow.tape, hgrow.output, hgrow.size, fun k hk _ => hgrow.block k hk (fun e => by cases e)⟩ (fun _ _ h => h)
  have e1 : v'.ownBlock ≠ some w1.heap.size := by
    rcases hat with h | h
    · rw [h]; intro e; cases e
    · rw [h]; intro e; injection e with e; omega
  have e2 : (Value.slice (some ⟨w.heap.size, 0, none⟩) n n).ownBlock ≠ some w1.heap.size := by intro e; injection e with e; dsimp only at e; omega
  refine ⟨At.fst kp2, own_set hown' e1 _, own_set hf e2 _, Nat.le_of_lt hz, e1, e2, ?_⟩
  rcases hat with h | h
  · exact Or.inl h
  · refine Or.inr ?_
    rw [h]
    intro e
    injection e with e
    dsimp only at e
    omega
set_option maxRecDepth 100000 in
set_option maxHeartbeats 4000000 in
theorem rnew (sl : Option Addr) (n d : Nat) (X Y : Nat → Int) (F : Nat → Bool) (K : Nat → Nat) (w : World) (hn : n ≤ 12) (h0 : sl = none → d = 0) (hr : (n = 0 ∨ ∃ b o : Nat, sl = some ⟨b, o, none⟩ ∧ RowO w b o n X Y F)) (hK : isC X Y F K n) :
    Calls Tryz.prog 17 #[.slice sl n d] w fun ex w' => ∃ p, ex = .returned (.pointer (some ⟨p, 0, none⟩)) ∧ BookOf 25 4 w.heap.size w' p n K (fun _ => false) ∧ Below w.heap.size w w' := by
  have HR : Hid ((n = 0 ∨ ∃ b o : Nat, sl = some ⟨b, o, none⟩ ∧ RowO w b o n X Y F)) := hr
  have HK : Hid (isC X Y F K n) := hK
  have H0 : Hid (sl = none → d = 0) := h0
  clear hr hK h0
  obtain ⟨i0, hi, hv0, hv1, hv2⟩ := info_parts rbpinfo
  obtain ⟨j0, hj, hu0, hu1, hu2⟩ := info_parts rbbinfo
  go_enter Tryz.func17, Tryz.ntmps17
  go_wp2_with (at_make; refine wpList_make_full _ rfl _ _ 59 rfl w.heap.size 4 j0 (.bool false) 1 Tryz.underlying59 hj hu0 hu1 _ _ _ _ n rfl rfl rfl rfl ?b2 ?b3 ?b4 ?_)
  case b2 => rw [hu2]; omega
  case b3 => unfold maxLen; omega
  case b4 => omega
  intro w1 hown1 hgrow1
  rw [made_flags] at hown1
  have hq1 : Below w.heap.size w w1 := (Below.refl _ _ : Below w.heap.size w _).grown hgrow1 (Nat.le_refl _) (fun k hk => by cases hk)
  have hz1 : w.heap.size < w1.heap.size := (hown1.lt w.heap.size rfl).2
  clear hgrow1
  have HO : Hid (w1.ownsRow w.heap.size 4 1 (.slice (some ⟨w.heap.size, 0, none⟩) n n) n (cellsB (fun _ => false) n)) := hown1
  clear hown1
  cases sl with
  | none =>
    obtain rfl : d = 0 := H0.out rfl
    obtain rfl : n = 0 := HR.out.resolve_right fun ⟨_, _, e, _⟩ => by cases e
    go_wp2_with (at_builtin; refine wpList_append_own_none rfl _ _ 22 rfl w.heap.size 25 i0 3 Tryz.underlying22 hi _ _ _ rfl (World.ownsRow_nil _ _ _ _) rfl ?_)
    have hb : BookAt 25 4 w.heap.size (w1.alloc (.cells #[.slice none 0 0, .slice (some ⟨w.heap.size, 0, none⟩) 0 0] 61)) w1.heap.size (.slice none 0 0) (.slice (some ⟨w.heap.size, 0, none⟩) 0 0) 0 K (fun _ => false) :=
      ⟨at_new w1 [.slice none 0 0, .slice (some ⟨w.heap.size, 0, none⟩) 0 0] 61, World.ownsRow_nil _ _ _ _, HO.out.alloc _, Nat.le_of_lt hz1, (fun e => by cases e), (fun e => by injection e with e; dsimp only at e; omega), Or.inl rfl⟩
    have HB : Hid (BookAt 25 4 w.heap.size (w1.alloc (.cells #[.slice none 0 0, .slice (some ⟨w.heap.size, 0, none⟩) 0 0] 61)) w1.heap.size (.slice none 0 0) (.slice (some ⟨w.heap.size, 0, none⟩) 0 0) 0 K (fun _ => false)) := hb
    clear hb
    go_wp2_with fail
    refine bodyPost_ret (v := .pointer (some ⟨w1.heap.size, 0, none⟩)) (by simp [results, Tryz.results17, go_sem]) rfl ?_
    exact ⟨_, rfl, ⟨_, _, HB.out⟩, by repeat (first | (with_reducible first | exact Below.refl _ _ | assumption | refine Below.setCell ?_ (by first | simp <;> omega | omega) _ | refine Below.alloc ?_ (by first | simp <;> omega | omega) _) | refine bl_call ?_ (by assumption) (by first | simp <;> omega | omega) | (with_reducible first | refine bl_drewN ?_ | refine Below.drew ?_ | refine bl_grow ?_ (by first | simp <;> omega | omega)))⟩
  | some ad =>
    have hnews : ∀ j u, (cellsK K n)[j]? = some u → (w1.alloc (.cells #[.slice none 0 0, .slice (some ⟨w.heap.size, 0, none⟩) n n] 61)).cell? (ad.add j) = some u := by
      rcases HR.out with h | ⟨b, o, e, hz⟩
      · subst h; intro j u h; cases h
      · injection e with e
        subst e
        rw [← isC_cells HK.out]
        exact cellsT_row hz (hq1.alloc (by omega) _)
    have HNW : Hid (∀ j u, (cellsK K n)[j]? = some u → (w1.alloc (.cells #[.slice none 0 0, .slice (some ⟨w.heap.size, 0, none⟩) n n] 61)).cell? (ad.add j) = some u) := hnews
    clear hnews
    go_wp2_with (at_builtin; refine wpList_append_own_at _ rfl _ _ 22 rfl w.heap.size 25 i0 (.agg #[.int .i64 0, .int .i64 0, .bool false]) 3 24 Tryz.underlying22 hi hv0 hv1 hv2 rfl (by decide) _ _ _ rfl (World.ownsRow_nil _ _ _ _) ad n d (cellsK K n) rfl ?c0 ?c1 ?c2 ?c3 ?c4 ?c5 ?_)
    case c0 => exact cellsK_len K n
    case c1 => exact HNW.out
    case c2 => exact cellsK_one K n
    case c3 => unfold maxLen; omega
    case c4 => omega
    case c5 => simp; omega
    intro v' w2 hown' hgrow _ hat
    have hown2 : w2.ownsRow w.heap.size 25 3 v' n (cellsK K n) := by simpa using hown'
    obtain ⟨sa, cc, rfl, _⟩ := own_slice hown2
    have hat2 : (Value.slice sa n cc).ownBlock = none ∨ (Value.slice sa n cc).ownBlock = some (w1.heap.size + 1) := by
      rcases hat with h | h
      · exact Or.inl h
      · exact Or.inr (by rw [h])
    have hb2 := newbook_at hz1 HO.out hown2 hgrow hat2
    have kp2 : At w2 w1.heap.size [.slice none 0 0, .slice (some ⟨w.heap.size, 0, none⟩) n n] := At.grown (at_new w1 [.slice none 0 0, .slice (some ⟨w.heap.size, 0, none⟩) n n] 61) hgrow (fun h => by cases h)
    have hq2 : Below w.heap.size w w2 := (hq1.alloc (by omega) _).grown hgrow (by simp; omega) (fun k h => by cases h)
    have hz2 := hq2.size
    obtain ⟨zp2, cp02, cp12, fp02, fp12⟩ := kp2.two
    clear hgrow hat hat2 hown' hown2 HNW
    have HB2 : Hid (BookAt 25 4 w.heap.size (w2.setCell ⟨w1.heap.size, 0, none⟩ (.slice sa n cc)) w1.heap.size (.slice sa n cc) (.slice (some ⟨w.heap.size, 0, none⟩) n n) n K (fun _ => false)) := hb2
    clear hb2
    go_wp2_with fail
    exact bodyPost_ret (v := .pointer (some ⟨w1.heap.size, 0, none⟩)) (by simp [results, Tryz.results17, go_sem]) rfl ⟨_, rfl, ⟨_, _, HB2.out⟩, by repeat (first | (with_reducible first | exact Below.refl _ _ | assumption | refine Below.setCell ?_ (by first | simp <;> omega | omega) _ | refine Below.alloc ?_ (by first | simp <;> omega | omega) _) | refine bl_call ?_ (by assumption) (by first | simp <;> omega | omega) | (with_reducible first | refine bl_drewN ?_ | refine Below.drew ?_ | refine bl_grow ?_ (by first | simp <;> omega | omega)))⟩
end Go.Proofs.YtpkkclcjiobgoajGreatDoor
