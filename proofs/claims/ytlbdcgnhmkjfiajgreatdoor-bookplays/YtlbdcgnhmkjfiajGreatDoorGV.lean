/- Texts joined: RefBookA RefBookB New RefBookC RefBookD. What the plain reckoning of books (stoneref2: BookAsk, Coins, NewBook, Live, Total) answers. What the plain reckoning of a deal's excess (stoneref2: Book.Excess) answers. A region that draws its order and lays one block ('x := T{.. f(y) ..}'): its other operations only read, its callees turn nothing that was there, its last operation stores into the block: one walk in the order of the text, the block's place a letter; then the store. Of whatever program. What the plain reckoning of a deal (stoneref2: Book.Do) answers, and what it leaves. The plain reckoning of books (stoneref2) in one word each: Coins, Excess, Do, by what is wrong. -/
import Derived.Test.YtlbdcgnhmkjfiajGreatDoorBookMem
import Derived.Test.YtlbdcgnhmkjfiajGreatDoorBookMath
import Derived.Test.YtlbdcgnhmkjfiajGreatDoorComeIs
import Derived.Test.YtlbdcgnhmkjfiajGreatDoorRefTimes
import Derived.Test.YtlbdcgnhmkjfiajGreatDoorRefBytes
import Derived.Test.YtlbdcgnhmkjfiajGreatDoorRefHash
import Derived.Test.YtlbdcgnhmkjfiajGreatDoorGate
import Derived.Test.YtlbdcgnhmkjfiajGreatDoorRowE
import Derived.Laws.AppendOwnNone
import Derived.Deep.RegionHeld3
import Derived.Deep.CutRange
import Derived.Test.YtlbdcgnhmkjfiajGreatDoorMem
import Derived.Test.YtlbdcgnhmkjfiajGreatDoorBookRows
import Derived.Test.YtlbdcgnhmkjfiajGreatDoorRefSec
import Derived.Deep.RegionLaw
import Derived.Deep.AppendLies
import Derived.Test.YtlbdcgnhmkjfiajGreatDoorGU
/- RefBookA -/
namespace Go.Proofs.YtlbdcgnhmkjfiajGreatDoor
open Go.RowKit Go.Sort
set_option linter.unusedVariables false
set_option linter.unusedSimpArgs false
/-- A book's rows, as slices that can be read. -/
theorem BookAt.slices {eC eG : TypeId} {B : Nat} {w : World} {p : Nat} {u v : Value} {n : Nat} {K : Nat → Nat} {G : Nat → Bool} (h : BookAt eC eG B w p u v n K G) :
    ∃ (su : Option Addr) (cu : Nat) (sv : Option Addr) (cv : Nat), u = .slice su n cu ∧ v = .slice sv n cv ∧ (n = 0 ∨ ∃ g h, su = some ⟨g, 0, none⟩ ∧ sv = some ⟨h, 0, none⟩ ∧ RowO w g 0 n (fun i => ((tM (4 * K i)).1 : Int)) (fun i => ((tM (4 * K i)).2.1 : Int)) (fun i => (tM (4 * K i)).2.2) ∧ RowB w h 0 n G) := by
  obtain ⟨su, cu, rfl, hu⟩ := own_spots h.coins
  obtain ⟨sv, cv, rfl, hv⟩ := own_flags h.flags
  refine ⟨su, cu, sv, cv, rfl, rfl, ?_⟩
  rcases hu with h0 | ⟨g, e1, _, _, r1⟩
  · exact Or.inl h0
  · rcases hv with h0 | ⟨h, e2, _, _, r2⟩
    · exact Or.inl h0
    · exact Or.inr ⟨g, h, e1, e2, r1, r2⟩
set_option maxRecDepth 100000 in
set_option maxHeartbeats 4000000 in
theorem rba_tM (a b : Nat) (w : World) : Calls Tryz.prog 5 #[.agg #[.int .i64 ((tM a).1 : Int), .int .i64 ((tM a).2.1 : Int), .bool (tM a).2.2], .agg #[.int .i64 ((tM b).1 : Int), .int .i64 ((tM b).2.1 : Int), .bool (tM b).2.2]] w fun e w' => e = .returned (.int .i64 (baN a b : Int)) ∧ Below w.heap.size w w' := by
  have HL : Hid (∀ W j, RowO W j 0 2 (twoR ((tM a).1 : Int) ((tM b).1 : Int)) (twoR ((tM a).2.1 : Int) ((tM b).2.1 : Int)) (twoR (tM a).2.2 (tM b).2.2) → Calls Tryz.prog 28 #[.slice (some ⟨j, 0, none⟩) 2 2] W fun e w' => e = .returned (.string (lsB (twoR a b) 2)) ∧ Below W.heap.size W w') := fun W j hr => rlist_row j 0 2 2 _ _ _ (twoR a b) W (by omega) hr (fun i hi => by rcases lt_two hi with rfl | rfl <;> exact ⟨rfl, rfl, rfl⟩)
  have HN : Hid (∀ w, Calls Tryz.prog 27 #[.string (lsB (twoR a b) 2)] w fun e w' => e = .returned (.int .i64 (baN a b : Int)) ∧ Below w.heap.size w w') := fun w => by
    have := below_of_same (rnumber_any (lsB (twoR a b) 2) w (by have := ls_size (twoR a b) (n := 2) (by omega); omega))
    rwa [baI] at this
  go_enter Tryz.func5, Tryz.ntmps5
  go_upto_region 1 with fail
  refine wp_gen (fun V => At V (w.heap.size) [.int .i64 ((tM a).1 : Int), .int .i64 ((tM a).2.1 : Int), .bool (tM a).2.2] ∧ At V (w.heap.size + 1) [.int .i64 ((tM b).1 : Int), .int .i64 ((tM b).2.1 : Int), .bool (tM b).2.2] ∧ Below w.heap.size w V) ⟨by repeat (first | (with_reducible assumption) | ((with_reducible refine at_new' _ _ _ _ ?_); (first | rfl | (simp; done))) | (with_reducible refine At.alloc ?_ _) | (with_reducible refine At.drew ?_) | (with_reducible refine At.drewN ?_) | (with_reducible refine At.set ?_ (by omega)) | (with_reducible apply At.store4) | (with_reducible apply At.store3) | (with_reducible apply At.store2) | (with_reducible apply At.put43) | (refine At.below ?_ (by with_reducible assumption))), by repeat (first | (with_reducible assumption) | ((with_reducible refine at_new' _ _ _ _ ?_); (first | rfl | (simp; done))) | (with_reducible refine At.alloc ?_ _) | (with_reducible refine At.drew ?_) | (with_reducible refine At.drewN ?_) | (with_reducible refine At.set ?_ (by omega)) | (with_reducible apply At.store4) | (with_reducible apply At.store3) | (with_reducible apply At.store2) | (with_reducible apply At.put43) | (refine At.below ?_ (by with_reducible assumption))), by repeat (first | (with_reducible exact Below.refl _ _) | (with_reducible assumption) | (with_reducible refine Below.setCell ?_ (by first | (simp; done) | (simp; omega) | omega) _) | (with_reducible refine Below.alloc ?_ (by first | (simp; done) | (simp; omega) | omega) _) | (refine bl_call ?_ (by assumption) (by first | (simp; done) | (simp; omega) | omega)) | (with_reducible refine bl_drewN ?_) | (with_reducible refine Below.drew ?_) | (with_reducible refine bl_grow ?_ (by first | (simp; done) | (simp; omega) | omega)))⟩ ?_
  rintro V ⟨kaV, kbV, hqV⟩
  have hzV := hqV.size
  obtain ⟨zaV, ca0V, ca1V, ca2V, fa0V, fa1V, fa2V⟩ := kaV.three
  obtain ⟨zbV, cb0V, cb1V, cb2V, fb0V, fb1V, fb2V⟩ := kbV.three
  go_wp2_with (first | (go_at_call 28; refine (HL.out _ V.heap.size ⟨by simp, fun i hi => by rcases lt_two hi with rfl | rfl <;> exact ⟨by simp [two_0, two_1], by simp [two_0, two_1], by simp [two_0, two_1]⟩⟩).mono ?_; rintro e w1 ⟨rfl, hb1⟩; have hq1 : Below w.heap.size w w1 := (by repeat (first | (with_reducible exact Below.refl _ _) | (with_reducible assumption) | (with_reducible refine Below.setCell ?_ (by first | (simp; done) | (simp; omega) | omega) _) | (with_reducible refine Below.alloc ?_ (by first | (simp; done) | (simp; omega) | omega) _) | (refine bl_call ?_ (by assumption) (by first | (simp; done) | (simp; omega) | omega)) | (with_reducible refine bl_drewN ?_) | (with_reducible refine Below.drew ?_) | (with_reducible refine bl_grow ?_ (by first | (simp; done) | (simp; omega) | omega)))); have hz1 := hq1.size; clear hb1) | (go_at_call 27; refine (HN.out _).mono ?_; rintro e w2 ⟨rfl, hb2⟩; have hq2 : Below w.heap.size w w2 := (by repeat (first | (with_reducible exact Below.refl _ _) | (with_reducible assumption) | (with_reducible refine Below.setCell ?_ (by first | (simp; done) | (simp; omega) | omega) _) | (with_reducible refine Below.alloc ?_ (by first | (simp; done) | (simp; omega) | omega) _) | (refine bl_call ?_ (by assumption) (by first | (simp; done) | (simp; omega) | omega)) | (with_reducible refine bl_drewN ?_) | (with_reducible refine Below.drew ?_) | (with_reducible refine bl_grow ?_ (by first | (simp; done) | (simp; omega) | omega)))); clear hb2))
  go_ret
  exact ⟨rfl, by repeat (first | (with_reducible exact Below.refl _ _) | (with_reducible assumption) | (with_reducible refine Below.setCell ?_ (by first | (simp; done) | (simp; omega) | omega) _) | (with_reducible refine Below.alloc ?_ (by first | (simp; done) | (simp; omega) | omega) _) | (refine bl_call ?_ (by assumption) (by first | (simp; done) | (simp; omega) | omega)) | (with_reducible refine bl_drewN ?_) | (with_reducible refine Below.drew ?_) | (with_reducible refine bl_grow ?_ (by first | (simp; done) | (simp; omega) | omega)))⟩
theorem rcoins_many (sl : Option Addr) (n d : Nat) (w : World) (h : 12 < n) : Calls Tryz.prog 13 #[.slice sl n d] w fun e w' => e = .returned (.int .i64 4) ∧ Below w.heap.size w w' := by
  have h1 : (n : Int) > 12 := by omega
  go_enter Tryz.func13, Tryz.ntmps13
  go_wp2_with fail
  go_ret
  exact ⟨rfl, by repeat (first | (with_reducible exact Below.refl _ _) | (with_reducible assumption) | (with_reducible refine Below.setCell ?_ (by first | (simp; done) | (simp; omega) | omega) _) | (with_reducible refine Below.alloc ?_ (by first | (simp; done) | (simp; omega) | omega) _) | (refine bl_call ?_ (by assumption) (by first | (simp; done) | (simp; omega) | omega)) | (with_reducible refine bl_drewN ?_) | (with_reducible refine Below.drew ?_) | (with_reducible refine bl_grow ?_ (by first | (simp; done) | (simp; omega) | omega)))⟩
set_option maxRecDepth 100000 in
set_option maxHeartbeats 4000000 in
theorem rcoins_any (sl : Option Addr) (n d m : Nat) (X Y : Nat → Int) (F : Nat → Bool) (c : Int) (w : World) (hn : n ≤ 12) (hr : (n = 0 ∨ ∃ b o : Nat, sl = some ⟨b, o, none⟩ ∧ RowO w b o n X Y F)) (hm : m ≤ n) (hok : ∀ j, j < m → goodC (X j) (Y j) (F j)) (hc : (m = n ∧ c = 0) ∨ (m < n ∧ badC (X m) (Y m) (F m) ∧ c = 3)) : Calls Tryz.prog 13 #[.slice sl n d] w fun e w' => e = .returned (.int .i64 c) ∧ Below w.heap.size w w' := by
  have h1 : ¬ (n : Int) > 12 := by omega
  have HR : Hid ((n = 0 ∨ ∃ b o : Nat, sl = some ⟨b, o, none⟩ ∧ RowO w b o n X Y F)) := hr
  have HO : Hid (∀ j, j < m → goodC (X j) (Y j) (F j)) := hok
  have HC : Hid ((m = n ∧ c = 0) ∨ (m < n ∧ badC (X m) (Y m) (F m) ∧ c = 3)) := hc
  clear hr hok hc
  go_enter Tryz.func13, Tryz.ntmps13
  go_wp2_with fail
  go_loopw [3] (fun ti wl => ∃ k : Nat, k ≤ m ∧ ti = .int .i64 k ∧ Below w.heap.size w wl) (fun ti _ => n - (intOf ti).toNat)
  case atStart => exact ⟨0, by omega, rfl, by repeat (first | (with_reducible exact Below.refl _ _) | (with_reducible assumption) | (with_reducible refine Below.setCell ?_ (by first | (simp; done) | (simp; omega) | omega) _) | (with_reducible refine Below.alloc ?_ (by first | (simp; done) | (simp; omega) | omega) _) | (refine bl_call ?_ (by assumption) (by first | (simp; done) | (simp; omega) | omega)) | (with_reducible refine bl_drewN ?_) | (with_reducible refine Below.drew ?_) | (with_reducible refine bl_grow ?_ (by first | (simp; done) | (simp; omega) | omega)))⟩
  case round =>
    obtain ⟨k, hk, rfl, hqV⟩ := hrel
    rename World => V
    have hzV := hqV.size
    by_cases hlt : k < n
    · have hlt' : (k : Int) < n := by omega
      obtain ⟨b, o, rfl, hz⟩ : ∃ b o : Nat, sl = some ⟨b, o, none⟩ ∧ RowO w b o n X Y F := HR.out.resolve_left (by omega)
      have hbV := Nat.lt_of_lt_of_le hz.1 hzV
      obtain ⟨c0, c1, c2⟩ := (hz.below hz.1 hqV).2 k hlt
      by_cases hkm : k < m
      · obtain ⟨j, e0, e1, e2⟩ := HO.out k hkm
        rw [e0] at c0
        rw [e1] at c1
        rw [e2] at c2
        clear e0 e1 e2 hz
        have HS : Hid (∀ w, Calls Tryz.prog 4 #[.agg #[.int .i64 ((tM (4 * j)).1 : Int), .int .i64 ((tM (4 * j)).2.1 : Int), .bool (tM (4 * j)).2.2]] w fun e w' => e = .returned (.int .i64 0) ∧ Below w.heap.size w w') := fun w => rspot_yes (ck_tM (4 * j)) w
        have HI : Hid (∀ w, Calls Tryz.prog 38 #[.agg #[.int .i64 ((tM (4 * j)).1 : Int), .int .i64 ((tM (4 * j)).2.1 : Int), .bool (tM (4 * j)).2.2]] w fun e w' => e = .returned (.bool true) ∧ Below w.heap.size w w') := fun w => by have := rin_tM (4 * j) w; rwa [far_four] at this
        obtain ⟨T, hT⟩ : ∃ T, tM (4 * j) = T := ⟨_, rfl⟩
        rw [hT] at c0 c1 c2 HS HI
        clear hT
        have m1 : True := trivial; have m2 : True := trivial
        go_wp2_with (first | (go_at_call 4; clear m1; refine (HS.out _).mono ?_; rintro e w1 ⟨rfl, hbw1⟩; have hqw1 : Below w.heap.size w w1 := (by repeat (first | (with_reducible exact Below.refl _ _) | (with_reducible assumption) | (with_reducible refine Below.setCell ?_ (by first | (simp; done) | (simp; omega) | omega) _) | (with_reducible refine Below.alloc ?_ (by first | (simp; done) | (simp; omega) | omega) _) | (refine bl_call ?_ (by assumption) (by first | (simp; done) | (simp; omega) | omega)) | (with_reducible refine bl_drewN ?_) | (with_reducible refine Below.drew ?_) | (with_reducible refine bl_grow ?_ (by first | (simp; done) | (simp; omega) | omega)))); have hzw1 := hqw1.size; have d0 := (hbw1.cell (p := ⟨b, o + k * 3, none⟩) hbV).trans c0; have d1 := (hbw1.cell (p := ⟨b, o + k * 3 + 1, none⟩) hbV).trans c1; have d2 := (hbw1.cell (p := ⟨b, o + k * 3 + 2, none⟩) hbV).trans c2; have hbW : b < w1.heap.size := Nat.lt_of_lt_of_le hbV hbw1.size; clear hbw1 c0 c1 c2) | (go_at_call 38; clear m2; refine (HI.out _).mono ?_; rintro e w2 ⟨rfl, hbw2⟩; have hqw2 : Below w.heap.size w w2 := (by repeat (first | (with_reducible exact Below.refl _ _) | (with_reducible assumption) | (with_reducible refine Below.setCell ?_ (by first | (simp; done) | (simp; omega) | omega) _) | (with_reducible refine Below.alloc ?_ (by first | (simp; done) | (simp; omega) | omega) _) | (refine bl_call ?_ (by assumption) (by first | (simp; done) | (simp; omega) | omega)) | (with_reducible refine bl_drewN ?_) | (with_reducible refine Below.drew ?_) | (with_reducible refine bl_grow ?_ (by first | (simp; done) | (simp; omega) | omega)))); have hzw2 := hqw2.size; clear  hqw1; clear hbw2))
        go_roundw
        case rel => exact ⟨k + 1, by omega, by simp, by repeat (first | (with_reducible exact Below.refl _ _) | (with_reducible assumption) | (with_reducible refine Below.setCell ?_ (by first | (simp; done) | (simp; omega) | omega) _) | (with_reducible refine Below.alloc ?_ (by first | (simp; done) | (simp; omega) | omega) _) | (refine bl_call ?_ (by assumption) (by first | (simp; done) | (simp; omega) | omega)) | (with_reducible refine bl_drewN ?_) | (with_reducible refine Below.drew ?_) | (with_reducible refine bl_grow ?_ (by first | (simp; done) | (simp; omega) | omega)))⟩
        case measure => simp [intOf]; omega
      · obtain rfl : k = m := by omega
        obtain ⟨g1, g2, rfl⟩ : k < n ∧ badC (X k) (Y k) (F k) ∧ c = 3 := HC.out.resolve_left fun g => by omega
        rcases g2 with g2 | ⟨j, e0, e1, e2, g2⟩
        · have g3 := rspot_any (X k) (Y k) (F k)
          generalize ckI (X k) (Y k) (F k) = q at g2 g3
          have HS : Hid (∀ w, Calls Tryz.prog 4 #[.agg #[.int .i64 (X k), .int .i64 (Y k), .bool (F k)]] w fun e w' => e = .returned (.int .i64 q) ∧ Below w.heap.size w w') := g3
          clear g3 hz
          have m1 : True := trivial
          go_wp2_with (go_at_call 4; clear m1; refine (HS.out _).mono ?_; rintro e w1 ⟨rfl, hbw1⟩; have hqw1 : Below w.heap.size w w1 := (by repeat (first | (with_reducible exact Below.refl _ _) | (with_reducible assumption) | (with_reducible refine Below.setCell ?_ (by first | (simp; done) | (simp; omega) | omega) _) | (with_reducible refine Below.alloc ?_ (by first | (simp; done) | (simp; omega) | omega) _) | (refine bl_call ?_ (by assumption) (by first | (simp; done) | (simp; omega) | omega)) | (with_reducible refine bl_drewN ?_) | (with_reducible refine Below.drew ?_) | (with_reducible refine bl_grow ?_ (by first | (simp; done) | (simp; omega) | omega)))); have hzw1 := hqw1.size; clear hbw1)
          go_ret
          exact ⟨rfl, by repeat (first | (with_reducible exact Below.refl _ _) | (with_reducible assumption) | (with_reducible refine Below.setCell ?_ (by first | (simp; done) | (simp; omega) | omega) _) | (with_reducible refine Below.alloc ?_ (by first | (simp; done) | (simp; omega) | omega) _) | (refine bl_call ?_ (by assumption) (by first | (simp; done) | (simp; omega) | omega)) | (with_reducible refine bl_drewN ?_) | (with_reducible refine Below.drew ?_) | (with_reducible refine bl_grow ?_ (by first | (simp; done) | (simp; omega) | omega)))⟩
        · rw [e0] at c0
          rw [e1] at c1
          rw [e2] at c2
          clear e0 e1 e2 hz
          have HS : Hid (∀ w, Calls Tryz.prog 4 #[.agg #[.int .i64 ((tM j).1 : Int), .int .i64 ((tM j).2.1 : Int), .bool (tM j).2.2]] w fun e w' => e = .returned (.int .i64 0) ∧ Below w.heap.size w w') := fun w => rspot_yes (ck_tM j) w
          have HI : Hid (∀ w, Calls Tryz.prog 38 #[.agg #[.int .i64 ((tM j).1 : Int), .int .i64 ((tM j).2.1 : Int), .bool (tM j).2.2]] w fun e w' => e = .returned (.bool false) ∧ Below w.heap.size w w') := fun w => by have := rin_tM j w; rwa [g2] at this
          clear g2
          have m1 : True := trivial; have m2 : True := trivial
          go_wp2_with (first | (go_at_call 4; clear m1; refine (HS.out _).mono ?_; rintro e w1 ⟨rfl, hbw1⟩; have hqw1 : Below w.heap.size w w1 := (by repeat (first | (with_reducible exact Below.refl _ _) | (with_reducible assumption) | (with_reducible refine Below.setCell ?_ (by first | (simp; done) | (simp; omega) | omega) _) | (with_reducible refine Below.alloc ?_ (by first | (simp; done) | (simp; omega) | omega) _) | (refine bl_call ?_ (by assumption) (by first | (simp; done) | (simp; omega) | omega)) | (with_reducible refine bl_drewN ?_) | (with_reducible refine Below.drew ?_) | (with_reducible refine bl_grow ?_ (by first | (simp; done) | (simp; omega) | omega)))); have hzw1 := hqw1.size; have d0 := (hbw1.cell (p := ⟨b, o + k * 3, none⟩) hbV).trans c0; have d1 := (hbw1.cell (p := ⟨b, o + k * 3 + 1, none⟩) hbV).trans c1; have d2 := (hbw1.cell (p := ⟨b, o + k * 3 + 2, none⟩) hbV).trans c2; have hbW : b < w1.heap.size := Nat.lt_of_lt_of_le hbV hbw1.size; clear hbw1 c0 c1 c2) | (go_at_call 38; clear m2; refine (HI.out _).mono ?_; rintro e w2 ⟨rfl, hbw2⟩; have hqw2 : Below w.heap.size w w2 := (by repeat (first | (with_reducible exact Below.refl _ _) | (with_reducible assumption) | (with_reducible refine Below.setCell ?_ (by first | (simp; done) | (simp; omega) | omega) _) | (with_reducible refine Below.alloc ?_ (by first | (simp; done) | (simp; omega) | omega) _) | (refine bl_call ?_ (by assumption) (by first | (simp; done) | (simp; omega) | omega)) | (with_reducible refine bl_drewN ?_) | (with_reducible refine Below.drew ?_) | (with_reducible refine bl_grow ?_ (by first | (simp; done) | (simp; omega) | omega)))); have hzw2 := hqw2.size; clear  hqw1; clear hbw2))
          go_ret
          exact ⟨rfl, by repeat (first | (with_reducible exact Below.refl _ _) | (with_reducible assumption) | (with_reducible refine Below.setCell ?_ (by first | (simp; done) | (simp; omega) | omega) _) | (with_reducible refine Below.alloc ?_ (by first | (simp; done) | (simp; omega) | omega) _) | (refine bl_call ?_ (by assumption) (by first | (simp; done) | (simp; omega) | omega)) | (with_reducible refine bl_drewN ?_) | (with_reducible refine Below.drew ?_) | (with_reducible refine bl_grow ?_ (by first | (simp; done) | (simp; omega) | omega)))⟩
    · have hlt' : ¬ (k : Int) < n := by omega
      obtain ⟨g1, rfl⟩ : m = n ∧ c = 0 := HC.out.resolve_right fun g => by omega
      go_wp2_with fail
      go_ret
      exact ⟨rfl, by repeat (first | (with_reducible exact Below.refl _ _) | (with_reducible assumption) | (with_reducible refine Below.setCell ?_ (by first | (simp; done) | (simp; omega) | omega) _) | (with_reducible refine Below.alloc ?_ (by first | (simp; done) | (simp; omega) | omega) _) | (refine bl_call ?_ (by assumption) (by first | (simp; done) | (simp; omega) | omega)) | (with_reducible refine bl_drewN ?_) | (with_reducible refine Below.drew ?_) | (with_reducible refine bl_grow ?_ (by first | (simp; done) | (simp; omega) | omega)))⟩
set_option maxRecDepth 100000 in
set_option maxHeartbeats 4000000 in
theorem rtotal (B p n : Nat) (u v : Value) (K : Nat → Nat) (G : Nat → Bool) (w : World) (hn : n ≤ 1000000) (h : BookAt 25 4 B w p u v n K G) : Calls Tryz.prog 26 #[.pointer (some ⟨p, 0, none⟩)] w fun e w' => e = .returned (.agg #[.int .i64 ((tM (4 * ttN K G n)).1 : Int), .int .i64 ((tM (4 * ttN K G n)).2.1 : Int), .bool (tM (4 * ttN K G n)).2.2]) ∧ Below w.heap.size w w' := by
  obtain ⟨su, cu, sv, cv, rfl, rfl, hrow⟩ := h.slices
  have kpw := h.cells
  have hpw := kpw.1
  have HP : Hid (At w p [.slice su n cu, .slice sv n cv]) := kpw
  have HR : Hid (n = 0 ∨ ∃ g h, su = some ⟨g, 0, none⟩ ∧ sv = some ⟨h, 0, none⟩ ∧ RowO w g 0 n (fun i => ((tM (4 * K i)).1 : Int)) (fun i => ((tM (4 * K i)).2.1 : Int)) (fun i => (tM (4 * K i)).2.2) ∧ RowB w h 0 n G) := hrow
  clear hrow h kpw
  go_enter Tryz.func26, Tryz.ntmps26
  go_wp2_with fail
  go_loopw [4] (fun ti wl => ∃ k : Nat, k ≤ n ∧ ti = .int .i64 k ∧ At wl (w.heap.size) [.int .i64 0, .int .i64 0, .bool false] ∧ At wl (w.heap.size + 1) [.int .i64 ((tM (4 * ttN K G k)).1 : Int), .int .i64 ((tM (4 * ttN K G k)).2.1 : Int), .bool (tM (4 * ttN K G k)).2.2] ∧ Below w.heap.size w wl) (fun ti _ => n - (intOf ti).toNat)
  case atStart => exact ⟨0, by omega, rfl, by repeat (first | (with_reducible assumption) | ((with_reducible refine at_new' _ _ _ _ ?_); (first | rfl | (simp; done))) | (with_reducible refine At.alloc ?_ _) | (with_reducible refine At.drew ?_) | (with_reducible refine At.drewN ?_) | (with_reducible refine At.set ?_ (by omega)) | (with_reducible apply At.store4) | (with_reducible apply At.store3) | (with_reducible apply At.store2) | (with_reducible apply At.put43) | (refine At.below ?_ (by with_reducible assumption))), by show At _ _ [.int .i64 0, .int .i64 0, .bool true]; exact (by repeat (first | (with_reducible assumption) | ((with_reducible refine at_new' _ _ _ _ ?_); (first | rfl | (simp; done))) | (with_reducible refine At.alloc ?_ _) | (with_reducible refine At.drew ?_) | (with_reducible refine At.drewN ?_) | (with_reducible refine At.set ?_ (by omega)) | (with_reducible apply At.store4) | (with_reducible apply At.store3) | (with_reducible apply At.store2) | (with_reducible apply At.put43) | (refine At.below ?_ (by with_reducible assumption)))), by repeat (first | (with_reducible exact Below.refl _ _) | (with_reducible assumption) | (with_reducible refine Below.setCell ?_ (by first | (simp; done) | (simp; omega) | omega) _) | (with_reducible refine Below.alloc ?_ (by first | (simp; done) | (simp; omega) | omega) _) | (refine bl_call ?_ (by assumption) (by first | (simp; done) | (simp; omega) | omega)) | (with_reducible refine bl_drewN ?_) | (with_reducible refine Below.drew ?_) | (with_reducible refine bl_grow ?_ (by first | (simp; done) | (simp; omega) | omega)))⟩
  case round =>
    obtain ⟨k, hk, rfl, krV, ksV, hqV⟩ := hrel
    rename World => V
    have hzV := hqV.size
    obtain ⟨zrV, cr0V, cr1V, cr2V, fr0V, fr1V, fr2V⟩ := krV.three
    obtain ⟨zsV, cs0V, cs1V, cs2V, fs0V, fs1V, fs2V⟩ := ksV.three
    have kpV := HP.out.below hqV
    obtain ⟨zpV, cp0V, cp1V, fp0V, fp1V⟩ := kpV.two
    by_cases hlt : k < n
    · have hlt' : (k : Int) < n := by omega
      obtain ⟨g, h, rfl, rfl, r1, r2⟩ := HR.out.resolve_left (by omega)
      have hgV := Nat.lt_of_lt_of_le r1.1 hzV
      have hhV := Nat.lt_of_lt_of_le r2.1 hzV
      obtain ⟨c0, c1, c2⟩ := (r1.below r1.1 hqV).2 k hlt
      have d0 := (r2.below r2.1 hqV).2 k hlt
      rw [Nat.zero_add] at c0 c1 c2 d0
      clear r1 r2
      cases hG : G k with
      | true =>
        rw [hG] at d0
        have E := ttN_gone (K := K) hG
        clear hG
        go_wp2_with fail
        go_roundw
        case rel => exact ⟨k + 1, by omega, by simp, by repeat (first | (with_reducible assumption) | ((with_reducible refine at_new' _ _ _ _ ?_); (first | rfl | (simp; done))) | (with_reducible refine At.alloc ?_ _) | (with_reducible refine At.drew ?_) | (with_reducible refine At.drewN ?_) | (with_reducible refine At.set ?_ (by omega)) | (with_reducible apply At.store4) | (with_reducible apply At.store3) | (with_reducible apply At.store2) | (with_reducible apply At.put43) | (refine At.below ?_ (by with_reducible assumption))), by rw [E]; exact (by repeat (first | (with_reducible assumption) | ((with_reducible refine at_new' _ _ _ _ ?_); (first | rfl | (simp; done))) | (with_reducible refine At.alloc ?_ _) | (with_reducible refine At.drew ?_) | (with_reducible refine At.drewN ?_) | (with_reducible refine At.set ?_ (by omega)) | (with_reducible apply At.store4) | (with_reducible apply At.store3) | (with_reducible apply At.store2) | (with_reducible apply At.put43) | (refine At.below ?_ (by with_reducible assumption)))), by repeat (first | (with_reducible exact Below.refl _ _) | (with_reducible assumption) | (with_reducible refine Below.setCell ?_ (by first | (simp; done) | (simp; omega) | omega) _) | (with_reducible refine Below.alloc ?_ (by first | (simp; done) | (simp; omega) | omega) _) | (refine bl_call ?_ (by assumption) (by first | (simp; done) | (simp; omega) | omega)) | (with_reducible refine bl_drewN ?_) | (with_reducible refine Below.drew ?_) | (with_reducible refine bl_grow ?_ (by first | (simp; done) | (simp; omega) | omega)))⟩
        case measure => simp [intOf]; omega
      | false =>
        rw [hG] at d0
        have E := ttN_live (K := K) hG
        clear hG
        have E2 : Hid (tM (4 * ttN K G (k + 1)) = tM (4 * ttN K G k + 4 * K k)) := by unfold Hid; rw [E, Nat.mul_add]
        clear E
        go_wp2_with fail
        refine below_gate 9 1 #[true, true, true, true, true, true, true, true, true, false] (by kernel_rfl) (by kernel_rfl) rfl rfl ?_
        dsimp only [List.take]
        repeat (go_big_quiet_step (first | (go_at_call 33; with_reducible exact Calls.regrown_of (radd_tM _ _ _))))
        refine wpQuiet_nil ?_
        intro W1 hw1
        have hrW1 := regrown_below hw1
        clear hw1
        have krW1 := krV.below hrW1
        have ksW1 := ksV.below hrW1
        have kpW1 := kpV.below hrW1
        have hqW1 := bl_call hqV hrW1 (by omega)
        have hzW1 := hqW1.size
        clear hrW1 krV cr0V fr0V cr1V fr1V cr2V fr2V ksV cs0V fs0V cs1V fs1V cs2V fs2V kpV cp0V fp0V cp1V fp1V hqV
        obtain ⟨zrW1, cr0W1, cr1W1, cr2W1, fr0W1, fr1W1, fr2W1⟩ := krW1.three
        obtain ⟨zsW1, cs0W1, cs1W1, cs2W1, fs0W1, fs1W1, fs2W1⟩ := ksW1.three
        obtain ⟨zpW1, cp0W1, cp1W1, fp0W1, fp1W1⟩ := kpW1.two
        refine wpAny_ready (rs := [9]) (by kernel_rfl) (by simp) (AllReady.cons rfl (fun K hK => ?_) AllReady.nil)
        go_simp
        refine hK _ _ ?_
        clear hK K
        refine wpAny_done (by kernel_rfl) ?_ _
        go_wp2_with fail
        go_roundw
        case rel => exact ⟨k + 1, by omega, by simp, by repeat (first | (with_reducible assumption) | ((with_reducible refine at_new' _ _ _ _ ?_); (first | rfl | (simp; done))) | (with_reducible refine At.alloc ?_ _) | (with_reducible refine At.drew ?_) | (with_reducible refine At.drewN ?_) | (with_reducible refine At.set ?_ (by omega)) | (with_reducible apply At.store4) | (with_reducible apply At.store3) | (with_reducible apply At.store2) | (with_reducible apply At.put43) | (refine At.below ?_ (by with_reducible assumption))), by rw [E2.out]; exact (show At _ _ [.int .i64 ((tM (4 * ttN K G k + 4 * K k)).1 : Int), .int .i64 ((tM (4 * ttN K G k + 4 * K k)).2.1 : Int), .bool (tM (4 * ttN K G k + 4 * K k)).2.2] from by repeat (first | (with_reducible assumption) | ((with_reducible refine at_new' _ _ _ _ ?_); (first | rfl | (simp; done))) | (with_reducible refine At.alloc ?_ _) | (with_reducible refine At.drew ?_) | (with_reducible refine At.drewN ?_) | (with_reducible refine At.set ?_ (by omega)) | (with_reducible apply At.store4) | (with_reducible apply At.store3) | (with_reducible apply At.store2) | (with_reducible apply At.put43) | (refine At.below ?_ (by with_reducible assumption)))), by repeat (first | (with_reducible exact Below.refl _ _) | (with_reducible assumption) | (with_reducible refine Below.setCell ?_ (by first | (simp; done) | (simp; omega) | omega) _) | (with_reducible refine Below.alloc ?_ (by first | (simp; done) | (simp; omega) | omega) _) | (refine bl_call ?_ (by assumption) (by first | (simp; done) | (simp; omega) | omega)) | (with_reducible refine bl_drewN ?_) | (with_reducible refine Below.drew ?_) | (with_reducible refine bl_grow ?_ (by first | (simp; done) | (simp; omega) | omega)))⟩
        case measure => simp [intOf]; omega
    · have hlt' : ¬ (k : Int) < n := by omega
      obtain rfl : k = n := by omega
      go_wp2_with fail
      exact bodyPost_ret (v := .agg #[.int .i64 ((tM (4 * ttN K G k)).1 : Int), .int .i64 ((tM (4 * ttN K G k)).2.1 : Int), .bool (tM (4 * ttN K G k)).2.2]) (by simp [results, Tryz.results26, go_sem, *]) rfl ⟨rfl, by repeat (first | (with_reducible exact Below.refl _ _) | (with_reducible assumption) | (with_reducible refine Below.setCell ?_ (by first | (simp; done) | (simp; omega) | omega) _) | (with_reducible refine Below.alloc ?_ (by first | (simp; done) | (simp; omega) | omega) _) | (refine bl_call ?_ (by assumption) (by first | (simp; done) | (simp; omega) | omega)) | (with_reducible refine bl_drewN ?_) | (with_reducible refine Below.drew ?_) | (with_reducible refine bl_grow ?_ (by first | (simp; done) | (simp; omega) | omega)))⟩
theorem rbiinfo : (Tryz.prog.info? 3).map (fun i => (i.zero, i.size, i.bytes)) = some (some (.int .i64 0), 1, 8) := by kernel_rfl
theorem rone_new (w : World) (x : Value) (t : TypeId) : ∀ j u, [x][j]? = some u → (w.alloc (.cells #[x] t)).cell? ((⟨w.heap.size, 0, none⟩ : Addr).add j) = some u := by
  intro j u hj
  rw [addr_add]
  match j, hj with
  | 0, hj => simp at hj; subst hj; simp
set_option maxRecDepth 100000 in
set_option maxHeartbeats 4000000 in
theorem rlive (B p n : Nat) (u v : Value) (K : Nat → Nat) (G : Nat → Bool) (w : World) (hn : n ≤ 1000000) (h : BookAt 25 4 B w p u v n K G) : Calls Tryz.prog 22 #[.pointer (some ⟨p, 0, none⟩)] w fun ex w' => ∃ q, ex = .returned q ∧ w'.ownsRow w.heap.size 3 1 q (lvL G n).length (lvC G n) ∧ Below w.heap.size w w' := by
  obtain ⟨su, cu, sv, cv, rfl, rfl, hrow⟩ := h.slices
  have kpw := h.cells
  have hpw := kpw.1
  have HP : Hid (At w p [.slice su n cu, .slice sv n cv]) := kpw
  have HR : Hid (n = 0 ∨ ∃ h, sv = some ⟨h, 0, none⟩ ∧ RowB w h 0 n G) := hrow.imp_right fun ⟨g, h, _, e, _, r⟩ => ⟨h, e, r⟩
  clear hrow h kpw
  obtain ⟨i0, hi, hv0, hv1, hv2⟩ := info_parts rbiinfo
  go_enter Tryz.func22, Tryz.ntmps22
  go_wp2_with fail
  go_loopw [3, 4] (fun tv ti wl => ∃ k : Nat, k ≤ n ∧ ti = .int .i64 k ∧ wl.ownsRow w.heap.size 3 1 tv (lvL G k).length (lvC G k) ∧ Below w.heap.size w wl) (fun _ ti _ => n - (intOf ti).toNat)
  case atStart => exact ⟨0, by omega, rfl, by show World.ownsRow _ _ _ _ _ 0 []; exact World.ownsRow_nil _ _ _ _, by repeat (first | (with_reducible exact Below.refl _ _) | (with_reducible assumption) | (with_reducible refine Below.setCell ?_ (by first | (simp; done) | (simp; omega) | omega) _) | (with_reducible refine Below.alloc ?_ (by first | (simp; done) | (simp; omega) | omega) _) | (refine bl_call ?_ (by assumption) (by first | (simp; done) | (simp; omega) | omega)) | (with_reducible refine bl_drewN ?_) | (with_reducible refine Below.drew ?_) | (with_reducible refine bl_grow ?_ (by first | (simp; done) | (simp; omega) | omega)))⟩
  case round =>
    obtain ⟨k, hk, rfl, hown, hqV⟩ := hrel
    rename World => V
    have hzV := hqV.size
    have kpV := HP.out.below hqV
    obtain ⟨zpV, cp0V, cp1V, fp0V, fp1V⟩ := kpV.two
    by_cases hlt : k < n
    · have hlt' : (k : Int) < n := by omega
      obtain ⟨h, rfl, r2⟩ := HR.out.resolve_left (by omega)
      have hhV := Nat.lt_of_lt_of_le r2.1 hzV
      have d0 := (r2.below r2.1 hqV).2 k hlt
      rw [Nat.zero_add] at d0
      clear r2
      have hle := lvL_len G k
      cases hG : G k with
      | true =>
        rw [hG] at d0
        have E := lvC_gone hG
        have E3 := congrArg List.length (lvL_gone hG)
        clear hG
        have HE : Hid (lvC G (k + 1) = lvC G k) := E
        have HE3 : Hid ((lvL G (k + 1)).length = (lvL G k).length) := E3
        clear E E3
        go_wp2_with fail
        go_roundw
        case rel => exact ⟨k + 1, by omega, by simp, by rw [HE.out, HE3.out]; exact hown, by repeat (first | (with_reducible exact Below.refl _ _) | (with_reducible assumption) | (with_reducible refine Below.setCell ?_ (by first | (simp; done) | (simp; omega) | omega) _) | (with_reducible refine Below.alloc ?_ (by first | (simp; done) | (simp; omega) | omega) _) | (refine bl_call ?_ (by assumption) (by first | (simp; done) | (simp; omega) | omega)) | (with_reducible refine bl_drewN ?_) | (with_reducible refine Below.drew ?_) | (with_reducible refine bl_grow ?_ (by first | (simp; done) | (simp; omega) | omega)))⟩
        case measure => simp [intOf]; omega
      | false =>
        rw [hG] at d0
        have E := lvC_live hG
        have E3 : (lvL G (k + 1)).length = (lvL G k).length + 1 := by rw [lvL_live hG]; simp
        have HE : Hid (lvC G (k + 1) = lvC G k ++ [.int .i64 (k : Int)]) := E
        have HE3 : Hid ((lvL G (k + 1)).length = (lvL G k).length + 1) := E3
        clear hG E E3
        go_wp2_with (at_builtin; refine wpList_append_own_at _ rfl _ _ 48 rfl w.heap.size 3 i0 (.int .i64 0) 1 8 Tryz.underlying48 hi hv0 hv1 hv2 rfl (by decide) _ _ _ rfl (hown.alloc _) ⟨V.heap.size, 0, none⟩ 1 1 [.int .i64 (k : Int)] rfl rfl ?c1 ?c2 ?c3 ?c4 ?c5 ?_)
        case c1 => exact rone_new _ _ _
        case c2 => intro u hu; simp at hu; subst hu; rfl
        case c3 => unfold maxLen; omega
        case c4 => omega
        case c5 => simp; omega
        · intro v' w13 hown' hgrow _ hat
          have hq13 : Below w.heap.size w w13 := grown_under (B := w.heap.size) (by repeat (first | (with_reducible exact Below.refl _ _) | (with_reducible assumption) | (with_reducible refine Below.setCell ?_ (by first | (simp; done) | (simp; omega) | omega) _) | (with_reducible refine Below.alloc ?_ (by first | (simp; done) | (simp; omega) | omega) _) | (refine bl_call ?_ (by assumption) (by first | (simp; done) | (simp; omega) | omega)) | (with_reducible refine bl_drewN ?_) | (with_reducible refine Below.drew ?_) | (with_reducible refine bl_grow ?_ (by first | (simp; done) | (simp; omega) | omega)))) (hown.alloc _) hgrow (by simp; omega) (Nat.le_refl _)
          rw [← HE.out, ← HE3.out] at hown'
          clear hgrow hat hown
          go_wp2_with fail
          go_roundw
          case rel => exact ⟨k + 1, by omega, by simp, hown', hq13⟩
          case measure => simp [intOf]; omega
    · have hlt' : ¬ (k : Int) < n := by omega
      obtain rfl : k = n := by omega
      go_wp2_with fail
      go_ret
      exact ⟨_, rfl, hown, by repeat (first | (with_reducible exact Below.refl _ _) | (with_reducible assumption) | (with_reducible refine Below.setCell ?_ (by first | (simp; done) | (simp; omega) | omega) _) | (with_reducible refine Below.alloc ?_ (by first | (simp; done) | (simp; omega) | omega) _) | (refine bl_call ?_ (by assumption) (by first | (simp; done) | (simp; omega) | omega)) | (with_reducible refine bl_drewN ?_) | (with_reducible refine Below.drew ?_) | (with_reducible refine bl_grow ?_ (by first | (simp; done) | (simp; omega) | omega)))⟩
theorem rbpinfo : (Tryz.prog.info? 25).map (fun i => (i.zero, i.size, i.bytes)) = some (some (.agg #[.int .i64 0, .int .i64 0, .bool false]), 3, 24) := by kernel_rfl
theorem rbbinfo : (Tryz.prog.info? 4).map (fun i => (i.zero, i.size, i.bytes)) = some (some (.bool false), 1, 1) := by kernel_rfl
theorem made_flags (n : Nat) : (madeCells #[Value.bool false] n).toList = cellsB (fun _ => false) n := by
  unfold madeCells cellsB
  refine List.ext_getElem? fun i => ?_
  simp [Value.cells, Nat.mod_one]
theorem cellsT_row {w W : World} {b o n : Nat} {X Y : Nat → Int} {F : Nat → Bool} (h : RowO w b o n X Y F) (hW : Below w.heap.size w W) : ∀ j u, (cellsT X Y F n)[j]? = some u → W.cell? ((⟨b, o, none⟩ : Addr).add j) = some u := by
  intro j u hj
  have hl : (cellsT X Y F n).length = n * 3 := by
    clear h hj
    induction n with
    | zero => rfl
    | succ n ih => rw [cellsT_succ, List.length_append, ih]; simp; omega
  have hjl : j < n * 3 := by have := (List.getElem?_eq_some_iff.1 hj).1; omega
  have hi : j / 3 < n := by omega
  obtain ⟨h1, h2, h3⟩ := (h.below h.1 hW).2 (j / 3) hi
  have f := fun k hk => flat_at 3 (fun i => [Value.int .i64 (X i), .int .i64 (Y i), .bool (F i)]) (fun _ => rfl) n (j / 3) k hi hk
  rw [Addr.add_lit]
  have hc : j % 3 = 0 ∨ j % 3 = 1 ∨ j % 3 = 2 := by omega
  unfold cellsT at hj
  rcases hc with hc | hc | hc
  · rw [show j = j / 3 * 3 + 0 by omega, f 0 (by omega)] at hj
    rw [show o + j = o + j / 3 * 3 by omega, h1]; exact hj
  · rw [show j = j / 3 * 3 + 1 by omega, f 1 (by omega)] at hj
    rw [show o + j = o + j / 3 * 3 + 1 by omega, h2]; exact hj
  · rw [show j = j / 3 * 3 + 2 by omega, f 2 (by omega)] at hj
    rw [show o + j = o + j / 3 * 3 + 2 by omega, h3]; exact hj
theorem cellsK_one (K : Nat → Nat) (n : Nat) : ∀ u ∈ cellsK K n, u.oneCell' = true := by
  intro u hu
  unfold cellsK cellsT at hu
  simp at hu
  obtain ⟨i, _, hu⟩ := hu
  rcases hu with rfl | rfl | rfl <;> rfl
theorem cellsK_len (K : Nat → Nat) (n : Nat) : (cellsK K n).length = n * 3 := by
  induction n with
  | zero => rfl
  | succ n ih => rw [cellsK_succ, List.length_append, ih]; simp; omega
theorem newbook_at {w w1 w2 : World} {n : Nat} {v' : Value} {K : Nat → Nat} (hz : w.heap.size < w1.heap.size) (hown1 : w1.ownsRow w.heap.size 4 1 (.slice (some ⟨w.heap.size, 0, none⟩) n n) n (cellsB (fun _ => false) n))
    (hown' : w2.ownsRow w.heap.size 25 3 v' n (cellsK K n)) (hgrow : (w1.alloc (.cells #[.slice none 0 0, .slice (some ⟨w.heap.size, 0, none⟩) n n] 61)).grownBy w2 none) (hat : v'.ownBlock = none ∨ v'.ownBlock = some (w1.heap.size + 1)) :
    BookAt 25 4 w.heap.size (w2.setCell ⟨w1.heap.size, 0, none⟩ v') w1.heap.size v' (.slice (some ⟨w.heap.size, 0, none⟩) n n) n K (fun _ => false) := by
  have kp2 : At w2 w1.heap.size [.slice none 0 0, .slice (some ⟨w.heap.size, 0, none⟩) n n] := At.grown (at_new w1 [.slice none 0 0, .slice (some ⟨w.heap.size, 0, none⟩) n n] 61) hgrow (fun h => by cases h)
  have hf : w2.ownsRow w.heap.size 4 1 (.slice (some ⟨w.heap.size, 0, none⟩) n n) n (cellsB (fun _ => false) n) := own_but (F := fun _ => False) (hown1.alloc _) ⟨hgrow.os, hgrow.tape, hgrow.output, hgrow.size, fun k hk _ => hgrow.block k hk (fun e => by cases e)⟩ (fun _ _ h => h)
  have e1 : v'.ownBlock ≠ some w1.heap.size := by
    rcases hat with h | h
    · rw [h]; intro e; cases e
    · rw [h]; intro e; injection e with e; omega
  have e2 : (Value.slice (some ⟨w.heap.size, 0, none⟩) n n).ownBlock ≠ some w1.heap.size := by intro e; injection e with e; dsimp only at e; omega
  refine ⟨At.fst kp2, own_set hown' e1 _, own_set hf e2 _, Nat.le_of_lt hz, e1, e2, ?_⟩
  rcases hat with h | h
  · exact Or.inl h
  · refine Or.inr ?_
    rw [h]
    intro e
    injection e with e
    dsimp only at e
    omega
set_option maxRecDepth 100000 in
set_option maxHeartbeats 4000000 in
theorem rnew (sl : Option Addr) (n d : Nat) (X Y : Nat → Int) (F : Nat → Bool) (K : Nat → Nat) (w : World) (hn : n ≤ 12) (h0 : sl = none → d = 0) (hr : (n = 0 ∨ ∃ b o : Nat, sl = some ⟨b, o, none⟩ ∧ RowO w b o n X Y F)) (hK : isC X Y F K n) :
    Calls Tryz.prog 15 #[.slice sl n d] w fun ex w' => ∃ p, ex = .returned (.pointer (some ⟨p, 0, none⟩)) ∧ BookOf 25 4 w.heap.size w' p n K (fun _ => false) ∧ Below w.heap.size w w' := by
  have HR : Hid ((n = 0 ∨ ∃ b o : Nat, sl = some ⟨b, o, none⟩ ∧ RowO w b o n X Y F)) := hr
  have HK : Hid (isC X Y F K n) := hK
  have H0 : Hid (sl = none → d = 0) := h0
  clear hr hK h0
  obtain ⟨i0, hi, hv0, hv1, hv2⟩ := info_parts rbpinfo
  obtain ⟨j0, hj, hu0, hu1, hu2⟩ := info_parts rbbinfo
  go_enter Tryz.func15, Tryz.ntmps15
  go_wp2_with (at_make; refine wpList_make_full _ rfl _ _ 59 rfl w.heap.size 4 j0 (.bool false) 1 Tryz.underlying59 hj hu0 hu1 _ _ _ _ n rfl rfl rfl rfl ?b2 ?b3 ?b4 ?_)
  case b2 => rw [hu2]; omega
  case b3 => unfold maxLen; omega
  case b4 => omega
  intro w1 hown1 hgrow1
  rw [made_flags] at hown1
  have hq1 : Below w.heap.size w w1 := (Below.refl _ _ : Below w.heap.size w _).grown hgrow1 (Nat.le_refl _) (fun k hk => by cases hk)
  have hz1 : w.heap.size < w1.heap.size := (hown1.lt w.heap.size rfl).2
  clear hgrow1
  have HO : Hid (w1.ownsRow w.heap.size 4 1 (.slice (some ⟨w.heap.size, 0, none⟩) n n) n (cellsB (fun _ => false) n)) := hown1
  clear hown1
  cases sl with
  | none =>
    obtain rfl : d = 0 := H0.out rfl
    obtain rfl : n = 0 := HR.out.resolve_right fun ⟨_, _, e, _⟩ => by cases e
    go_wp2_with (at_builtin; refine wpList_append_own_none rfl _ _ 22 rfl w.heap.size 25 i0 3 Tryz.underlying22 hi _ _ _ rfl (World.ownsRow_nil _ _ _ _) rfl ?_)
    have hb : BookAt 25 4 w.heap.size (w1.alloc (.cells #[.slice none 0 0, .slice (some ⟨w.heap.size, 0, none⟩) 0 0] 61)) w1.heap.size (.slice none 0 0) (.slice (some ⟨w.heap.size, 0, none⟩) 0 0) 0 K (fun _ => false) :=
      ⟨at_new w1 [.slice none 0 0, .slice (some ⟨w.heap.size, 0, none⟩) 0 0] 61, World.ownsRow_nil _ _ _ _, HO.out.alloc _, Nat.le_of_lt hz1, (fun e => by cases e), (fun e => by injection e with e; dsimp only at e; omega), Or.inl rfl⟩
    have HB : Hid (BookAt 25 4 w.heap.size (w1.alloc (.cells #[.slice none 0 0, .slice (some ⟨w.heap.size, 0, none⟩) 0 0] 61)) w1.heap.size (.slice none 0 0) (.slice (some ⟨w.heap.size, 0, none⟩) 0 0) 0 K (fun _ => false)) := hb
    clear hb
    go_wp2_with fail
    refine bodyPost_ret (v := .pointer (some ⟨w1.heap.size, 0, none⟩)) (by simp [results, Tryz.results15, go_sem]) rfl ?_
    exact ⟨_, rfl, ⟨_, _, HB.out⟩, by repeat (first | (with_reducible exact Below.refl _ _) | (with_reducible assumption) | (with_reducible refine Below.setCell ?_ (by first | (simp; done) | (simp; omega) | omega) _) | (with_reducible refine Below.alloc ?_ (by first | (simp; done) | (simp; omega) | omega) _) | (refine bl_call ?_ (by assumption) (by first | (simp; done) | (simp; omega) | omega)) | (with_reducible refine bl_drewN ?_) | (with_reducible refine Below.drew ?_) | (with_reducible refine bl_grow ?_ (by first | (simp; done) | (simp; omega) | omega)))⟩
  | some ad =>
    have hnews : ∀ j u, (cellsK K n)[j]? = some u → (w1.alloc (.cells #[.slice none 0 0, .slice (some ⟨w.heap.size, 0, none⟩) n n] 61)).cell? (ad.add j) = some u := by
      rcases HR.out with h | ⟨b, o, e, hz⟩
      · subst h; intro j u h; cases h
      · injection e with e
        subst e
        rw [← isC_cells HK.out]
        exact cellsT_row hz (hq1.alloc (by omega) _)
    have HNW : Hid (∀ j u, (cellsK K n)[j]? = some u → (w1.alloc (.cells #[.slice none 0 0, .slice (some ⟨w.heap.size, 0, none⟩) n n] 61)).cell? (ad.add j) = some u) := hnews
    clear hnews
    go_wp2_with (at_builtin; refine wpList_append_own_at _ rfl _ _ 22 rfl w.heap.size 25 i0 (.agg #[.int .i64 0, .int .i64 0, .bool false]) 3 24 Tryz.underlying22 hi hv0 hv1 hv2 rfl (by decide) _ _ _ rfl (World.ownsRow_nil _ _ _ _) ad n d (cellsK K n) rfl ?c0 ?c1 ?c2 ?c3 ?c4 ?c5 ?_)
    case c0 => exact cellsK_len K n
    case c1 => exact HNW.out
    case c2 => exact cellsK_one K n
    case c3 => unfold maxLen; omega
    case c4 => omega
    case c5 => simp; omega
    intro v' w2 hown' hgrow _ hat
    have hown2 : w2.ownsRow w.heap.size 25 3 v' n (cellsK K n) := by simpa using hown'
    obtain ⟨sa, cc, rfl, _⟩ := own_slice hown2
    have hat2 : (Value.slice sa n cc).ownBlock = none ∨ (Value.slice sa n cc).ownBlock = some (w1.heap.size + 1) := by
      rcases hat with h | h
      · exact Or.inl h
      · exact Or.inr (by rw [h])
    have hb2 := newbook_at hz1 HO.out hown2 hgrow hat2
    have kp2 : At w2 w1.heap.size [.slice none 0 0, .slice (some ⟨w.heap.size, 0, none⟩) n n] := At.grown (at_new w1 [.slice none 0 0, .slice (some ⟨w.heap.size, 0, none⟩) n n] 61) hgrow (fun h => by cases h)
    have hq2 : Below w.heap.size w w2 := (hq1.alloc (by omega) _).grown hgrow (by simp; omega) (fun k h => by cases h)
    have hz2 := hq2.size
    obtain ⟨zp2, cp02, cp12, fp02, fp12⟩ := kp2.two
    clear hgrow hat hat2 hown' hown2 HNW
    have HB2 : Hid (BookAt 25 4 w.heap.size (w2.setCell ⟨w1.heap.size, 0, none⟩ (.slice sa n cc)) w1.heap.size (.slice sa n cc) (.slice (some ⟨w.heap.size, 0, none⟩) n n) n K (fun _ => false)) := hb2
    clear hb2
    go_wp2_with fail
    exact bodyPost_ret (v := .pointer (some ⟨w1.heap.size, 0, none⟩)) (by simp [results, Tryz.results15, go_sem]) rfl ⟨_, rfl, ⟨_, _, HB2.out⟩, by repeat (first | (with_reducible exact Below.refl _ _) | (with_reducible assumption) | (with_reducible refine Below.setCell ?_ (by first | (simp; done) | (simp; omega) | omega) _) | (with_reducible refine Below.alloc ?_ (by first | (simp; done) | (simp; omega) | omega) _) | (refine bl_call ?_ (by assumption) (by first | (simp; done) | (simp; omega) | omega)) | (with_reducible refine bl_drewN ?_) | (with_reducible refine Below.drew ?_) | (with_reducible refine bl_grow ?_ (by first | (simp; done) | (simp; omega) | omega)))⟩
end Go.Proofs.YtlbdcgnhmkjfiajGreatDoor
/- RefBookB -/
namespace Go.Proofs.YtlbdcgnhmkjfiajGreatDoor
open Go.RowKit Go.Sort
set_option linter.unusedVariables false
set_option linter.unusedSimpArgs false
theorem rneg_4 (k : Nat) (w : World) : Calls Tryz.prog 41 #[.agg #[.int .i64 ((tM (4 * k)).1 : Int), .int .i64 ((tM (4 * k)).2.1 : Int), .bool (tM (4 * k)).2.2]] w fun e w' => e = .returned (.agg #[.int .i64 ((tM (4 * (1012 * k))).1 : Int), .int .i64 ((tM (4 * (1012 * k))).2.1 : Int), .bool (tM (4 * (1012 * k))).2.2]) ∧ Below w.heap.size w w' := by
  have := rneg_tM (4 * k) w
  rwa [show tM (4052 - 4 * k % 4052) = tM (4 * (1012 * k)) from tM_congr (by omega)] at this
theorem ns_step (K : Nat → Nat) (Z : Nat → Int) {k z : Nat} (h : Z k = (z : Int)) : tM (4 * nsN K Z k + 4 * (1012 * K z)) = tM (4 * nsN K Z (k + 1)) := by
  rw [nsN_succ, h, Int.toNat_natCast, Nat.mul_add]
set_option maxRecDepth 100000 in
set_option maxHeartbeats 4000000 in
theorem rexc_bad (B p n m c d dz t : Nat) (sz sl : Option Addr) (u v : Value) (K : Nat → Nat) (G : Nat → Bool) (Z : Nat → Int) (w : World) (hn : n ≤ 1000000) (hm : m ≤ 9223372036854775807) (h : BookAt 25 4 B w p u v n K G) (hz : (m = 0 ∨ ∃ b o : Nat, sz = some ⟨b, o, none⟩ ∧ RowI w b o m Z)) (ht : t < m) (hok : ∀ j, j < t → goE n G Z j = 0) (hbad : (goE n G Z t == 0) = false) :
    Calls Tryz.prog 16 #[.pointer (some ⟨p, 0, none⟩), .slice sz m dz, .slice sl c d] w fun e w' => e = .returned (.tuple #[.agg #[.int .i64 0, .int .i64 0, .bool false], .int .i64 (goE n G Z t)]) ∧ Below w.heap.size w w' := by
  obtain ⟨su, cu, sv, cv, rfl, rfl, hrow⟩ := h.slices
  have HP : Hid (At w p [.slice su n cu, .slice sv n cv]) := h.cells
  have HR : Hid (n = 0 ∨ ∃ g h, su = some ⟨g, 0, none⟩ ∧ sv = some ⟨h, 0, none⟩ ∧ RowO w g 0 n (fun i => ((tM (4 * K i)).1 : Int)) (fun i => ((tM (4 * K i)).2.1 : Int)) (fun i => (tM (4 * K i)).2.2) ∧ RowB w h 0 n G) := hrow
  have HZ : Hid ((m = 0 ∨ ∃ b o : Nat, sz = some ⟨b, o, none⟩ ∧ RowI w b o m Z)) := hz
  clear hrow h hz
  have HO : Hid (∀ j, j < t → goE n G Z j = 0) := hok
  have HB : Hid ((goE n G Z t == 0) = false) := hbad
  clear hok hbad
  obtain ⟨ans, hans⟩ : ∃ q, goE n G Z t = q := ⟨_, rfl⟩
  rw [hans]
  have HQ : Hid (goE n G Z t = ans) := hans
  clear hans
  go_enter Tryz.func16, Tryz.ntmps16
  go_wp2_with fail
  go_loopw [9] (fun ti wl => ∃ k : Nat, k ≤ t ∧ ti = .int .i64 k ∧ At wl (w.heap.size) [.int .i64 0, .int .i64 0, .bool false] ∧ At wl (w.heap.size + 1) [.int .i64 ((tM (4 * nsN K Z k)).1 : Int), .int .i64 ((tM (4 * nsN K Z k)).2.1 : Int), .bool (tM (4 * nsN K Z k)).2.2] ∧ Below w.heap.size w wl) (fun ti _ => m - (intOf ti).toNat)
  case atStart => exact ⟨0, by omega, rfl, by repeat (first | (with_reducible assumption) | ((with_reducible refine at_new' _ _ _ _ ?_); (first | rfl | (simp; done))) | (with_reducible refine At.alloc ?_ _) | (with_reducible refine At.drew ?_) | (with_reducible refine At.drewN ?_) | (with_reducible refine At.set ?_ (by omega)) | (with_reducible apply At.store4) | (with_reducible apply At.store3) | (with_reducible apply At.store2) | (with_reducible apply At.put43) | (refine At.below ?_ (by with_reducible assumption))), by show At _ _ [.int .i64 0, .int .i64 0, .bool true]; exact (by repeat (first | (with_reducible assumption) | ((with_reducible refine at_new' _ _ _ _ ?_); (first | rfl | (simp; done))) | (with_reducible refine At.alloc ?_ _) | (with_reducible refine At.drew ?_) | (with_reducible refine At.drewN ?_) | (with_reducible refine At.set ?_ (by omega)) | (with_reducible apply At.store4) | (with_reducible apply At.store3) | (with_reducible apply At.store2) | (with_reducible apply At.put43) | (refine At.below ?_ (by with_reducible assumption)))), by repeat (first | (with_reducible exact Below.refl _ _) | (with_reducible assumption) | (with_reducible refine Below.setCell ?_ (by first | (simp; done) | (simp; omega) | omega) _) | (with_reducible refine Below.alloc ?_ (by first | (simp; done) | (simp; omega) | omega) _) | (refine bl_call ?_ (by assumption) (by first | (simp; done) | (simp; omega) | omega)) | (with_reducible refine bl_drewN ?_) | (with_reducible refine Below.drew ?_) | (with_reducible refine bl_grow ?_ (by first | (simp; done) | (simp; omega) | omega)))⟩
  case round =>
    obtain ⟨k, hk, rfl, krV, ksV, hqV⟩ := hrel
    rename World => V
    have hzV := hqV.size
    obtain ⟨zrV, cr0V, cr1V, cr2V, fr0V, fr1V, fr2V⟩ := krV.three
    obtain ⟨zsV, cs0V, cs1V, cs2V, fs0V, fs1V, fs2V⟩ := ksV.three
    have kpV := HP.out.below hqV
    obtain ⟨zpV, cp0V, cp1V, fp0V, fp1V⟩ := kpV.two
    have hlt : k < m := by omega
    by_cases hkt : k < t
    · have hk0 := HO.out k hkt
      have hlt' : (k : Int) < m := by omega
      obtain ⟨b, o, rfl, hzr⟩ : ∃ b o : Nat, sz = some ⟨b, o, none⟩ ∧ RowI w b o m Z := HZ.out.resolve_left (by omega)
      have hb := hzr.1
      have HZr : Hid (RowI w b o m Z) := hzr
      have hbV := Nat.lt_of_lt_of_le hb hzV
      have c0 := (hzr.below hb hqV).2 k hlt
      clear hzr
      obtain ⟨a1, a2, a3⟩ := goE_ok hk0
      obtain ⟨z, hz⟩ : ∃ z : Nat, Z k = (z : Int) := ⟨(Z k).toNat, by have := inN_yes a1; omega⟩
      have hzn : z < n := by have := inN_yes a1; omega
      have HZz : Hid (Z k = (z : Int)) := hz
      rw [hz] at c0
      rw [hz, Int.toNat_natCast] at a2
      clear a1 hz
      have t1 : ¬ (z : Int) < 0 := by omega
      have t2 : ¬ (z : Int) ≥ n := by omega
      obtain ⟨g, h, rfl, rfl, r1, r2⟩ := HR.out.resolve_left (by omega)
      have HG1 : Hid (RowO w g 0 n (fun i => ((tM (4 * K i)).1 : Int)) (fun i => ((tM (4 * K i)).2.1 : Int)) (fun i => (tM (4 * K i)).2.2)) := r1
      have hg := r1.1
      have hgV := Nat.lt_of_lt_of_le r1.1 hzV
      have hhV := Nat.lt_of_lt_of_le r2.1 hzV
      have d0 := (r2.below r2.1 hqV).2 z hzn
      rw [Nat.zero_add, a2] at d0
      clear r1 r2 a2
      go_wp2_with fail
      go_loopw [11] (fun tj wl => ∃ j : Nat, j ≤ k ∧ tj = .int .i64 j ∧ (∀ i, i < j → Z i ≠ (z : Int)) ∧ At wl (w.heap.size) [.int .i64 0, .int .i64 0, .bool false] ∧ At wl (w.heap.size + 1) [.int .i64 ((tM (4 * nsN K Z k)).1 : Int), .int .i64 ((tM (4 * nsN K Z k)).2.1 : Int), .bool (tM (4 * nsN K Z k)).2.2] ∧ Below w.heap.size w wl) (fun tj _ => k - (intOf tj).toNat)
      case atStart => exact ⟨0, by omega, rfl, fun i hi => absurd hi (Nat.not_lt_zero _), krV, ksV, hqV⟩
      case round =>
        clear c0 d0 cp0V cp1V fp0V fp1V kpV krV cr0V fr0V cr1V fr1V cr2V fr2V ksV cs0V fs0V cs1V fs1V cs2V fs2V hqV
        obtain ⟨j, hj, rfl, hno, krU, ksU, hqU⟩ := hrel
        rename World => U
        have HNO : Hid (∀ i, i < j → Z i ≠ (z : Int)) := hno
        clear hno
        have hzU := hqU.size
        obtain ⟨zrU, cr0U, cr1U, cr2U, fr0U, fr1U, fr2U⟩ := krU.three
        obtain ⟨zsU, cs0U, cs1U, cs2U, fs0U, fs1U, fs2U⟩ := ksU.three
        have kpU := HP.out.below hqU
        obtain ⟨zpU, cp0U, cp1U, fp0U, fp1U⟩ := kpU.two
        have hbU : b < U.heap.size := Nat.lt_of_lt_of_le hb hzU
        have hgU : g < U.heap.size := Nat.lt_of_lt_of_le hg hzU
        by_cases hjk : j < k
        · have hjk' : (j : Int) < k := by omega
          have q0 := (HZr.out.below hb hqU).2 j (by omega)
          have QNE : Z j ≠ (z : Int) := fun e => dupB_no a3 j hjk (e.trans HZz.out.symm)
          have qt : (Z j == (z : Int)) = false := by rw [beq_eq_false_iff_ne]; exact QNE
          go_wp2_with fail
          go_roundw
          case rel => exact ⟨j + 1, by omega, by simp, fun i hi => by
              rcases Nat.lt_succ_iff_lt_or_eq.1 hi with e | rfl
              · exact HNO.out i e
              · exact QNE, by repeat (first | (with_reducible assumption) | ((with_reducible refine at_new' _ _ _ _ ?_); (first | rfl | (simp; done))) | (with_reducible refine At.alloc ?_ _) | (with_reducible refine At.drew ?_) | (with_reducible refine At.drewN ?_) | (with_reducible refine At.set ?_ (by omega)) | (with_reducible apply At.store4) | (with_reducible apply At.store3) | (with_reducible apply At.store2) | (with_reducible apply At.put43) | (refine At.below ?_ (by with_reducible assumption))), by repeat (first | (with_reducible assumption) | ((with_reducible refine at_new' _ _ _ _ ?_); (first | rfl | (simp; done))) | (with_reducible refine At.alloc ?_ _) | (with_reducible refine At.drew ?_) | (with_reducible refine At.drewN ?_) | (with_reducible refine At.set ?_ (by omega)) | (with_reducible apply At.store4) | (with_reducible apply At.store3) | (with_reducible apply At.store2) | (with_reducible apply At.put43) | (refine At.below ?_ (by with_reducible assumption))), by repeat (first | (with_reducible exact Below.refl _ _) | (with_reducible assumption) | (with_reducible refine Below.setCell ?_ (by first | (simp; done) | (simp; omega) | omega) _) | (with_reducible refine Below.alloc ?_ (by first | (simp; done) | (simp; omega) | omega) _) | (refine bl_call ?_ (by assumption) (by first | (simp; done) | (simp; omega) | omega)) | (with_reducible refine bl_drewN ?_) | (with_reducible refine Below.drew ?_) | (with_reducible refine bl_grow ?_ (by first | (simp; done) | (simp; omega) | omega)))⟩
          case measure => simp [intOf]; omega
        · have hjk' : ¬ (j : Int) < k := by omega
          obtain rfl : j = k := by omega
          have E : Hid (tM (4 * nsN K Z j + 4 * (1012 * K z)) = tM (4 * nsN K Z (j + 1))) := ns_step K Z HZz.out
          obtain ⟨e0, e1, e2⟩ := (HG1.out.below hg hqU).2 z hzn
          rw [Nat.zero_add] at e0 e1 e2
          go_wp2_with fail
          refine below_gate 10 1 #[true, true, true, true, true, true, true, true, true, true, false] (by kernel_rfl) (by kernel_rfl) rfl rfl ?_
          dsimp only [List.take]
          repeat (go_big_quiet_step (first | (go_at_call 41; with_reducible exact Calls.regrown_of (rneg_4 _ _)) | (go_at_call 33; with_reducible exact Calls.regrown_of (radd_tM _ _ _))))
          refine wpQuiet_nil ?_
          intro W1 hw1
          have hrW1 := regrown_below hw1
          clear hw1
          have krW1 := krU.below hrW1
          have ksW1 := ksU.below hrW1
          have kpW1 := kpU.below hrW1
          have hqW1 := bl_call hqU hrW1 (by omega)
          have hzW1 := hqW1.size
          clear hrW1 krU cr0U fr0U cr1U fr1U cr2U fr2U ksU cs0U fs0U cs1U fs1U cs2U fs2U kpU cp0U fp0U cp1U fp1U hqU
          obtain ⟨zrW1, cr0W1, cr1W1, cr2W1, fr0W1, fr1W1, fr2W1⟩ := krW1.three
          obtain ⟨zsW1, cs0W1, cs1W1, cs2W1, fs0W1, fs1W1, fs2W1⟩ := ksW1.three
          obtain ⟨zpW1, cp0W1, cp1W1, fp0W1, fp1W1⟩ := kpW1.two
          refine wpAny_ready (rs := [10]) (by kernel_rfl) (by simp) (AllReady.cons rfl (fun K hK => ?_) AllReady.nil)
          go_simp
          refine hK _ _ ?_
          clear hK K
          refine wpAny_done (by kernel_rfl) ?_ _
          go_wp2_with fail
          go_roundw
          case rel => exact ⟨j + 1, by omega, by simp, by repeat (first | (with_reducible assumption) | ((with_reducible refine at_new' _ _ _ _ ?_); (first | rfl | (simp; done))) | (with_reducible refine At.alloc ?_ _) | (with_reducible refine At.drew ?_) | (with_reducible refine At.drewN ?_) | (with_reducible refine At.set ?_ (by omega)) | (with_reducible apply At.store4) | (with_reducible apply At.store3) | (with_reducible apply At.store2) | (with_reducible apply At.put43) | (refine At.below ?_ (by with_reducible assumption))), by rw [← E.out]; exact (show At _ _ [.int .i64 ((tM (4 * nsN K Z j + 4 * (1012 * K z))).1 : Int), .int .i64 ((tM (4 * nsN K Z j + 4 * (1012 * K z))).2.1 : Int), .bool (tM (4 * nsN K Z j + 4 * (1012 * K z))).2.2] from by repeat (first | (with_reducible assumption) | ((with_reducible refine at_new' _ _ _ _ ?_); (first | rfl | (simp; done))) | (with_reducible refine At.alloc ?_ _) | (with_reducible refine At.drew ?_) | (with_reducible refine At.drewN ?_) | (with_reducible refine At.set ?_ (by omega)) | (with_reducible apply At.store4) | (with_reducible apply At.store3) | (with_reducible apply At.store2) | (with_reducible apply At.put43) | (refine At.below ?_ (by with_reducible assumption)))), by repeat (first | (with_reducible exact Below.refl _ _) | (with_reducible assumption) | (with_reducible refine Below.setCell ?_ (by first | (simp; done) | (simp; omega) | omega) _) | (with_reducible refine Below.alloc ?_ (by first | (simp; done) | (simp; omega) | omega) _) | (refine bl_call ?_ (by assumption) (by first | (simp; done) | (simp; omega) | omega)) | (with_reducible refine bl_drewN ?_) | (with_reducible refine Below.drew ?_) | (with_reducible refine bl_grow ?_ (by first | (simp; done) | (simp; omega) | omega)))⟩
          case measure => simp [intOf]; omega
    · obtain rfl : k = t := by omega
      have hlt' : (k : Int) < m := by omega
      obtain ⟨b, o, rfl, hzr⟩ : ∃ b o : Nat, sz = some ⟨b, o, none⟩ ∧ RowI w b o m Z := HZ.out.resolve_left (by omega)
      have hb := hzr.1
      have HZr : Hid (RowI w b o m Z) := hzr
      have hbV := Nat.lt_of_lt_of_le hb hzV
      have c0 := (hzr.below hb hqV).2 k hlt
      clear hzr
      rcases goE_way n G Z k with ⟨a1, e⟩ | ⟨a1, a2, e⟩ | ⟨a1, a2, a3, e⟩ | ⟨_, _, _, e⟩
      · obtain rfl : ans = 1 := HQ.out.symm.trans e
        clear e HB HQ
        have a2 := inN_no a1
        clear a1
        by_cases a3 : Z k < 0
        · go_wp2_with fail
          exact bodyPost_ret (v := .tuple #[.agg #[.int .i64 0, .int .i64 0, .bool false], .int .i64 1]) (by simp [results, Tryz.results16, go_sem, *]) rfl ⟨rfl, by repeat (first | (with_reducible exact Below.refl _ _) | (with_reducible assumption) | (with_reducible refine Below.setCell ?_ (by first | (simp; done) | (simp; omega) | omega) _) | (with_reducible refine Below.alloc ?_ (by first | (simp; done) | (simp; omega) | omega) _) | (refine bl_call ?_ (by assumption) (by first | (simp; done) | (simp; omega) | omega)) | (with_reducible refine bl_drewN ?_) | (with_reducible refine Below.drew ?_) | (with_reducible refine bl_grow ?_ (by first | (simp; done) | (simp; omega) | omega)))⟩
        · have a4 : Z k ≥ n := by omega
          clear a2
          go_wp2_with fail
          exact bodyPost_ret (v := .tuple #[.agg #[.int .i64 0, .int .i64 0, .bool false], .int .i64 1]) (by simp [results, Tryz.results16, go_sem, *]) rfl ⟨rfl, by repeat (first | (with_reducible exact Below.refl _ _) | (with_reducible assumption) | (with_reducible refine Below.setCell ?_ (by first | (simp; done) | (simp; omega) | omega) _) | (with_reducible refine Below.alloc ?_ (by first | (simp; done) | (simp; omega) | omega) _) | (refine bl_call ?_ (by assumption) (by first | (simp; done) | (simp; omega) | omega)) | (with_reducible refine bl_drewN ?_) | (with_reducible refine Below.drew ?_) | (with_reducible refine bl_grow ?_ (by first | (simp; done) | (simp; omega) | omega)))⟩
      · obtain rfl : ans = 6 := HQ.out.symm.trans e
        clear e HB HQ
        obtain ⟨z, hz⟩ : ∃ z : Nat, Z k = (z : Int) := ⟨(Z k).toNat, by have := inN_yes a1; omega⟩
        have hzn : z < n := by have := inN_yes a1; omega
        have HZz : Hid (Z k = (z : Int)) := hz
        rw [hz] at c0
        rw [hz, Int.toNat_natCast] at a2
        clear a1 hz
        have t1 : ¬ (z : Int) < 0 := by omega
        have t2 : ¬ (z : Int) ≥ n := by omega
        obtain ⟨g, h, rfl, rfl, r1, r2⟩ := HR.out.resolve_left (by omega)
        have HG1 : Hid (RowO w g 0 n (fun i => ((tM (4 * K i)).1 : Int)) (fun i => ((tM (4 * K i)).2.1 : Int)) (fun i => (tM (4 * K i)).2.2)) := r1
        have hg := r1.1
        have hgV := Nat.lt_of_lt_of_le r1.1 hzV
        have hhV := Nat.lt_of_lt_of_le r2.1 hzV
        have d0 := (r2.below r2.1 hqV).2 z hzn
        rw [Nat.zero_add, a2] at d0
        clear r1 r2 a2
        go_wp2_with fail
        exact bodyPost_ret (v := .tuple #[.agg #[.int .i64 0, .int .i64 0, .bool false], .int .i64 6]) (by simp [results, Tryz.results16, go_sem, *]) rfl ⟨rfl, by repeat (first | (with_reducible exact Below.refl _ _) | (with_reducible assumption) | (with_reducible refine Below.setCell ?_ (by first | (simp; done) | (simp; omega) | omega) _) | (with_reducible refine Below.alloc ?_ (by first | (simp; done) | (simp; omega) | omega) _) | (refine bl_call ?_ (by assumption) (by first | (simp; done) | (simp; omega) | omega)) | (with_reducible refine bl_drewN ?_) | (with_reducible refine Below.drew ?_) | (with_reducible refine bl_grow ?_ (by first | (simp; done) | (simp; omega) | omega)))⟩
      · obtain rfl : ans = 7 := HQ.out.symm.trans e
        clear e HB HQ
        obtain ⟨z, hz⟩ : ∃ z : Nat, Z k = (z : Int) := ⟨(Z k).toNat, by have := inN_yes a1; omega⟩
        have hzn : z < n := by have := inN_yes a1; omega
        have HZz : Hid (Z k = (z : Int)) := hz
        rw [hz] at c0
        rw [hz, Int.toNat_natCast] at a2
        clear a1 hz
        have t1 : ¬ (z : Int) < 0 := by omega
        have t2 : ¬ (z : Int) ≥ n := by omega
        obtain ⟨g, h, rfl, rfl, r1, r2⟩ := HR.out.resolve_left (by omega)
        have HG1 : Hid (RowO w g 0 n (fun i => ((tM (4 * K i)).1 : Int)) (fun i => ((tM (4 * K i)).2.1 : Int)) (fun i => (tM (4 * K i)).2.2)) := r1
        have hg := r1.1
        have hgV := Nat.lt_of_lt_of_le r1.1 hzV
        have hhV := Nat.lt_of_lt_of_le r2.1 hzV
        have d0 := (r2.below r2.1 hqV).2 z hzn
        rw [Nat.zero_add, a2] at d0
        clear r1 r2 a2
        go_wp2_with fail
        go_loopw [11] (fun tj wl => ∃ j : Nat, j ≤ k ∧ tj = .int .i64 j ∧ (∀ i, i < j → Z i ≠ (z : Int)) ∧ At wl (w.heap.size) [.int .i64 0, .int .i64 0, .bool false] ∧ At wl (w.heap.size + 1) [.int .i64 ((tM (4 * nsN K Z k)).1 : Int), .int .i64 ((tM (4 * nsN K Z k)).2.1 : Int), .bool (tM (4 * nsN K Z k)).2.2] ∧ Below w.heap.size w wl) (fun tj _ => k - (intOf tj).toNat)
        case atStart => exact ⟨0, by omega, rfl, fun i hi => absurd hi (Nat.not_lt_zero _), krV, ksV, hqV⟩
        case round =>
          clear c0 d0 cp0V cp1V fp0V fp1V kpV krV cr0V fr0V cr1V fr1V cr2V fr2V ksV cs0V fs0V cs1V fs1V cs2V fs2V hqV
          obtain ⟨j, hj, rfl, hno, krU, ksU, hqU⟩ := hrel
          rename World => U
          have HNO : Hid (∀ i, i < j → Z i ≠ (z : Int)) := hno
          clear hno
          have hzU := hqU.size
          obtain ⟨zrU, cr0U, cr1U, cr2U, fr0U, fr1U, fr2U⟩ := krU.three
          obtain ⟨zsU, cs0U, cs1U, cs2U, fs0U, fs1U, fs2U⟩ := ksU.three
          have kpU := HP.out.below hqU
          obtain ⟨zpU, cp0U, cp1U, fp0U, fp1U⟩ := kpU.two
          have hbU : b < U.heap.size := Nat.lt_of_lt_of_le hb hzU
          have hgU : g < U.heap.size := Nat.lt_of_lt_of_le hg hzU
          by_cases hjk : j < k
          · have hjk' : (j : Int) < k := by omega
            have q0 := (HZr.out.below hb hqU).2 j (by omega)
            by_cases QNE : Z j = (z : Int)
            · have qt : (Z j == (z : Int)) = true := by rw [QNE]; exact beq_self_eq_true _
              clear QNE
              go_wp2_with fail
              exact bodyPost_ret (v := .tuple #[.agg #[.int .i64 0, .int .i64 0, .bool false], .int .i64 7]) (by simp [results, Tryz.results16, go_sem, *]) rfl ⟨rfl, by repeat (first | (with_reducible exact Below.refl _ _) | (with_reducible assumption) | (with_reducible refine Below.setCell ?_ (by first | (simp; done) | (simp; omega) | omega) _) | (with_reducible refine Below.alloc ?_ (by first | (simp; done) | (simp; omega) | omega) _) | (refine bl_call ?_ (by assumption) (by first | (simp; done) | (simp; omega) | omega)) | (with_reducible refine bl_drewN ?_) | (with_reducible refine Below.drew ?_) | (with_reducible refine bl_grow ?_ (by first | (simp; done) | (simp; omega) | omega)))⟩
            · have qt : (Z j == (z : Int)) = false := by rw [beq_eq_false_iff_ne]; exact QNE
              go_wp2_with fail
              go_roundw
              case rel => exact ⟨j + 1, by omega, by simp, fun i hi => by
                  rcases Nat.lt_succ_iff_lt_or_eq.1 hi with e | rfl
                  · exact HNO.out i e
                  · exact QNE, by repeat (first | (with_reducible assumption) | ((with_reducible refine at_new' _ _ _ _ ?_); (first | rfl | (simp; done))) | (with_reducible refine At.alloc ?_ _) | (with_reducible refine At.drew ?_) | (with_reducible refine At.drewN ?_) | (with_reducible refine At.set ?_ (by omega)) | (with_reducible apply At.store4) | (with_reducible apply At.store3) | (with_reducible apply At.store2) | (with_reducible apply At.put43) | (refine At.below ?_ (by with_reducible assumption))), by repeat (first | (with_reducible assumption) | ((with_reducible refine at_new' _ _ _ _ ?_); (first | rfl | (simp; done))) | (with_reducible refine At.alloc ?_ _) | (with_reducible refine At.drew ?_) | (with_reducible refine At.drewN ?_) | (with_reducible refine At.set ?_ (by omega)) | (with_reducible apply At.store4) | (with_reducible apply At.store3) | (with_reducible apply At.store2) | (with_reducible apply At.put43) | (refine At.below ?_ (by with_reducible assumption))), by repeat (first | (with_reducible exact Below.refl _ _) | (with_reducible assumption) | (with_reducible refine Below.setCell ?_ (by first | (simp; done) | (simp; omega) | omega) _) | (with_reducible refine Below.alloc ?_ (by first | (simp; done) | (simp; omega) | omega) _) | (refine bl_call ?_ (by assumption) (by first | (simp; done) | (simp; omega) | omega)) | (with_reducible refine bl_drewN ?_) | (with_reducible refine Below.drew ?_) | (with_reducible refine bl_grow ?_ (by first | (simp; done) | (simp; omega) | omega)))⟩
              case measure => simp [intOf]; omega
          · have hjk' : ¬ (j : Int) < k := by omega
            obtain rfl : j = k := by omega
            exact absurd a3 (by rw [Bool.not_eq_true]; cases hd : dupB Z (Z j) j with | false => rfl | true => (obtain ⟨i, hi, e⟩ := (dupB_iff Z (Z j) j).1 hd; exact absurd (e.trans HZz.out) (HNO.out i hi)))
      · exact absurd HB.out (by rw [e]; decide)
set_option maxRecDepth 100000 in
set_option maxHeartbeats 4000000 in
theorem rexc_come (B p n m c d dz : Nat) (sz sl : Option Addr) (u v : Value) (K : Nat → Nat) (G : Nat → Bool) (Z : Nat → Int) (q : Int) (w : World) (hn : n ≤ 1000000) (hm : m ≤ 9223372036854775807) (h : BookAt 25 4 B w p u v n K G) (hz : (m = 0 ∨ ∃ b o : Nat, sz = some ⟨b, o, none⟩ ∧ RowI w b o m Z)) (hok : (∀ j, j < m → goE n G Z j = 0)) (hq : (q == 0) = false) (hc : ∀ W, Below w.heap.size w W → Calls Tryz.prog 13 #[.slice sl c d] W fun e w' => e = .returned (.int .i64 q) ∧ Below W.heap.size W w') :
    Calls Tryz.prog 16 #[.pointer (some ⟨p, 0, none⟩), .slice sz m dz, .slice sl c d] w fun e w' => e = .returned (.tuple #[.agg #[.int .i64 0, .int .i64 0, .bool false], .int .i64 q]) ∧ Below w.heap.size w w' := by
  obtain ⟨su, cu, sv, cv, rfl, rfl, hrow⟩ := h.slices
  have HP : Hid (At w p [.slice su n cu, .slice sv n cv]) := h.cells
  have HR : Hid (n = 0 ∨ ∃ g h, su = some ⟨g, 0, none⟩ ∧ sv = some ⟨h, 0, none⟩ ∧ RowO w g 0 n (fun i => ((tM (4 * K i)).1 : Int)) (fun i => ((tM (4 * K i)).2.1 : Int)) (fun i => (tM (4 * K i)).2.2) ∧ RowB w h 0 n G) := hrow
  have HZ : Hid ((m = 0 ∨ ∃ b o : Nat, sz = some ⟨b, o, none⟩ ∧ RowI w b o m Z)) := hz
  clear hrow h hz
  have HO : Hid (∀ j, j < m → goE n G Z j = 0) := hok
  have HQ : Hid ((q == 0) = false) := hq
  have HC : Hid (∀ W, Below w.heap.size w W → Calls Tryz.prog 13 #[.slice sl c d] W fun e w' => e = .returned (.int .i64 q) ∧ Below W.heap.size W w') := hc
  have hq2 : (q == 0) = false := hq
  clear hok hq hc
  go_enter Tryz.func16, Tryz.ntmps16
  go_wp2_with fail
  go_loopw [9] (fun ti wl => ∃ k : Nat, k ≤ m ∧ ti = .int .i64 k ∧ At wl (w.heap.size) [.int .i64 0, .int .i64 0, .bool false] ∧ At wl (w.heap.size + 1) [.int .i64 ((tM (4 * nsN K Z k)).1 : Int), .int .i64 ((tM (4 * nsN K Z k)).2.1 : Int), .bool (tM (4 * nsN K Z k)).2.2] ∧ Below w.heap.size w wl) (fun ti _ => m - (intOf ti).toNat)
  case atStart => exact ⟨0, by omega, rfl, by repeat (first | (with_reducible assumption) | ((with_reducible refine at_new' _ _ _ _ ?_); (first | rfl | (simp; done))) | (with_reducible refine At.alloc ?_ _) | (with_reducible refine At.drew ?_) | (with_reducible refine At.drewN ?_) | (with_reducible refine At.set ?_ (by omega)) | (with_reducible apply At.store4) | (with_reducible apply At.store3) | (with_reducible apply At.store2) | (with_reducible apply At.put43) | (refine At.below ?_ (by with_reducible assumption))), by show At _ _ [.int .i64 0, .int .i64 0, .bool true]; exact (by repeat (first | (with_reducible assumption) | ((with_reducible refine at_new' _ _ _ _ ?_); (first | rfl | (simp; done))) | (with_reducible refine At.alloc ?_ _) | (with_reducible refine At.drew ?_) | (with_reducible refine At.drewN ?_) | (with_reducible refine At.set ?_ (by omega)) | (with_reducible apply At.store4) | (with_reducible apply At.store3) | (with_reducible apply At.store2) | (with_reducible apply At.put43) | (refine At.below ?_ (by with_reducible assumption)))), by repeat (first | (with_reducible exact Below.refl _ _) | (with_reducible assumption) | (with_reducible refine Below.setCell ?_ (by first | (simp; done) | (simp; omega) | omega) _) | (with_reducible refine Below.alloc ?_ (by first | (simp; done) | (simp; omega) | omega) _) | (refine bl_call ?_ (by assumption) (by first | (simp; done) | (simp; omega) | omega)) | (with_reducible refine bl_drewN ?_) | (with_reducible refine Below.drew ?_) | (with_reducible refine bl_grow ?_ (by first | (simp; done) | (simp; omega) | omega)))⟩
  case round =>
    obtain ⟨k, hk, rfl, krV, ksV, hqV⟩ := hrel
    rename World => V
    have hzV := hqV.size
    obtain ⟨zrV, cr0V, cr1V, cr2V, fr0V, fr1V, fr2V⟩ := krV.three
    obtain ⟨zsV, cs0V, cs1V, cs2V, fs0V, fs1V, fs2V⟩ := ksV.three
    have kpV := HP.out.below hqV
    obtain ⟨zpV, cp0V, cp1V, fp0V, fp1V⟩ := kpV.two
    by_cases hlt : k < m
    · have hk0 := HO.out k hlt
      have hlt' : (k : Int) < m := by omega
      obtain ⟨b, o, rfl, hzr⟩ : ∃ b o : Nat, sz = some ⟨b, o, none⟩ ∧ RowI w b o m Z := HZ.out.resolve_left (by omega)
      have hb := hzr.1
      have HZr : Hid (RowI w b o m Z) := hzr
      have hbV := Nat.lt_of_lt_of_le hb hzV
      have c0 := (hzr.below hb hqV).2 k hlt
      clear hzr
      obtain ⟨a1, a2, a3⟩ := goE_ok hk0
      obtain ⟨z, hz⟩ : ∃ z : Nat, Z k = (z : Int) := ⟨(Z k).toNat, by have := inN_yes a1; omega⟩
      have hzn : z < n := by have := inN_yes a1; omega
      have HZz : Hid (Z k = (z : Int)) := hz
      rw [hz] at c0
      rw [hz, Int.toNat_natCast] at a2
      clear a1 hz
      have t1 : ¬ (z : Int) < 0 := by omega
      have t2 : ¬ (z : Int) ≥ n := by omega
      obtain ⟨g, h, rfl, rfl, r1, r2⟩ := HR.out.resolve_left (by omega)
      have HG1 : Hid (RowO w g 0 n (fun i => ((tM (4 * K i)).1 : Int)) (fun i => ((tM (4 * K i)).2.1 : Int)) (fun i => (tM (4 * K i)).2.2)) := r1
      have hg := r1.1
      have hgV := Nat.lt_of_lt_of_le r1.1 hzV
      have hhV := Nat.lt_of_lt_of_le r2.1 hzV
      have d0 := (r2.below r2.1 hqV).2 z hzn
      rw [Nat.zero_add, a2] at d0
      clear r1 r2 a2
      go_wp2_with fail
      go_loopw [11] (fun tj wl => ∃ j : Nat, j ≤ k ∧ tj = .int .i64 j ∧ (∀ i, i < j → Z i ≠ (z : Int)) ∧ At wl (w.heap.size) [.int .i64 0, .int .i64 0, .bool false] ∧ At wl (w.heap.size + 1) [.int .i64 ((tM (4 * nsN K Z k)).1 : Int), .int .i64 ((tM (4 * nsN K Z k)).2.1 : Int), .bool (tM (4 * nsN K Z k)).2.2] ∧ Below w.heap.size w wl) (fun tj _ => k - (intOf tj).toNat)
      case atStart => exact ⟨0, by omega, rfl, fun i hi => absurd hi (Nat.not_lt_zero _), krV, ksV, hqV⟩
      case round =>
        clear c0 d0 cp0V cp1V fp0V fp1V kpV krV cr0V fr0V cr1V fr1V cr2V fr2V ksV cs0V fs0V cs1V fs1V cs2V fs2V hqV
        obtain ⟨j, hj, rfl, hno, krU, ksU, hqU⟩ := hrel
        rename World => U
        have HNO : Hid (∀ i, i < j → Z i ≠ (z : Int)) := hno
        clear hno
        have hzU := hqU.size
        obtain ⟨zrU, cr0U, cr1U, cr2U, fr0U, fr1U, fr2U⟩ := krU.three
        obtain ⟨zsU, cs0U, cs1U, cs2U, fs0U, fs1U, fs2U⟩ := ksU.three
        have kpU := HP.out.below hqU
        obtain ⟨zpU, cp0U, cp1U, fp0U, fp1U⟩ := kpU.two
        have hbU : b < U.heap.size := Nat.lt_of_lt_of_le hb hzU
        have hgU : g < U.heap.size := Nat.lt_of_lt_of_le hg hzU
        by_cases hjk : j < k
        · have hjk' : (j : Int) < k := by omega
          have q0 := (HZr.out.below hb hqU).2 j (by omega)
          have QNE : Z j ≠ (z : Int) := fun e => dupB_no a3 j hjk (e.trans HZz.out.symm)
          have qt : (Z j == (z : Int)) = false := by rw [beq_eq_false_iff_ne]; exact QNE
          go_wp2_with fail
          go_roundw
          case rel => exact ⟨j + 1, by omega, by simp, fun i hi => by
              rcases Nat.lt_succ_iff_lt_or_eq.1 hi with e | rfl
              · exact HNO.out i e
              · exact QNE, by repeat (first | (with_reducible assumption) | ((with_reducible refine at_new' _ _ _ _ ?_); (first | rfl | (simp; done))) | (with_reducible refine At.alloc ?_ _) | (with_reducible refine At.drew ?_) | (with_reducible refine At.drewN ?_) | (with_reducible refine At.set ?_ (by omega)) | (with_reducible apply At.store4) | (with_reducible apply At.store3) | (with_reducible apply At.store2) | (with_reducible apply At.put43) | (refine At.below ?_ (by with_reducible assumption))), by repeat (first | (with_reducible assumption) | ((with_reducible refine at_new' _ _ _ _ ?_); (first | rfl | (simp; done))) | (with_reducible refine At.alloc ?_ _) | (with_reducible refine At.drew ?_) | (with_reducible refine At.drewN ?_) | (with_reducible refine At.set ?_ (by omega)) | (with_reducible apply At.store4) | (with_reducible apply At.store3) | (with_reducible apply At.store2) | (with_reducible apply At.put43) | (refine At.below ?_ (by with_reducible assumption))), by repeat (first | (with_reducible exact Below.refl _ _) | (with_reducible assumption) | (with_reducible refine Below.setCell ?_ (by first | (simp; done) | (simp; omega) | omega) _) | (with_reducible refine Below.alloc ?_ (by first | (simp; done) | (simp; omega) | omega) _) | (refine bl_call ?_ (by assumption) (by first | (simp; done) | (simp; omega) | omega)) | (with_reducible refine bl_drewN ?_) | (with_reducible refine Below.drew ?_) | (with_reducible refine bl_grow ?_ (by first | (simp; done) | (simp; omega) | omega)))⟩
          case measure => simp [intOf]; omega
        · have hjk' : ¬ (j : Int) < k := by omega
          obtain rfl : j = k := by omega
          have E : Hid (tM (4 * nsN K Z j + 4 * (1012 * K z)) = tM (4 * nsN K Z (j + 1))) := ns_step K Z HZz.out
          obtain ⟨e0, e1, e2⟩ := (HG1.out.below hg hqU).2 z hzn
          rw [Nat.zero_add] at e0 e1 e2
          go_wp2_with fail
          refine below_gate 10 1 #[true, true, true, true, true, true, true, true, true, true, false] (by kernel_rfl) (by kernel_rfl) rfl rfl ?_
          dsimp only [List.take]
          repeat (go_big_quiet_step (first | (go_at_call 41; with_reducible exact Calls.regrown_of (rneg_4 _ _)) | (go_at_call 33; with_reducible exact Calls.regrown_of (radd_tM _ _ _))))
          refine wpQuiet_nil ?_
          intro W1 hw1
          have hrW1 := regrown_below hw1
          clear hw1
          have krW1 := krU.below hrW1
          have ksW1 := ksU.below hrW1
          have kpW1 := kpU.below hrW1
          have hqW1 := bl_call hqU hrW1 (by omega)
          have hzW1 := hqW1.size
          clear hrW1 krU cr0U fr0U cr1U fr1U cr2U fr2U ksU cs0U fs0U cs1U fs1U cs2U fs2U kpU cp0U fp0U cp1U fp1U hqU
          obtain ⟨zrW1, cr0W1, cr1W1, cr2W1, fr0W1, fr1W1, fr2W1⟩ := krW1.three
          obtain ⟨zsW1, cs0W1, cs1W1, cs2W1, fs0W1, fs1W1, fs2W1⟩ := ksW1.three
          obtain ⟨zpW1, cp0W1, cp1W1, fp0W1, fp1W1⟩ := kpW1.two
          refine wpAny_ready (rs := [10]) (by kernel_rfl) (by simp) (AllReady.cons rfl (fun K hK => ?_) AllReady.nil)
          go_simp
          refine hK _ _ ?_
          clear hK K
          refine wpAny_done (by kernel_rfl) ?_ _
          go_wp2_with fail
          go_roundw
          case rel => exact ⟨j + 1, by omega, by simp, by repeat (first | (with_reducible assumption) | ((with_reducible refine at_new' _ _ _ _ ?_); (first | rfl | (simp; done))) | (with_reducible refine At.alloc ?_ _) | (with_reducible refine At.drew ?_) | (with_reducible refine At.drewN ?_) | (with_reducible refine At.set ?_ (by omega)) | (with_reducible apply At.store4) | (with_reducible apply At.store3) | (with_reducible apply At.store2) | (with_reducible apply At.put43) | (refine At.below ?_ (by with_reducible assumption))), by rw [← E.out]; exact (show At _ _ [.int .i64 ((tM (4 * nsN K Z j + 4 * (1012 * K z))).1 : Int), .int .i64 ((tM (4 * nsN K Z j + 4 * (1012 * K z))).2.1 : Int), .bool (tM (4 * nsN K Z j + 4 * (1012 * K z))).2.2] from by repeat (first | (with_reducible assumption) | ((with_reducible refine at_new' _ _ _ _ ?_); (first | rfl | (simp; done))) | (with_reducible refine At.alloc ?_ _) | (with_reducible refine At.drew ?_) | (with_reducible refine At.drewN ?_) | (with_reducible refine At.set ?_ (by omega)) | (with_reducible apply At.store4) | (with_reducible apply At.store3) | (with_reducible apply At.store2) | (with_reducible apply At.put43) | (refine At.below ?_ (by with_reducible assumption)))), by repeat (first | (with_reducible exact Below.refl _ _) | (with_reducible assumption) | (with_reducible refine Below.setCell ?_ (by first | (simp; done) | (simp; omega) | omega) _) | (with_reducible refine Below.alloc ?_ (by first | (simp; done) | (simp; omega) | omega) _) | (refine bl_call ?_ (by assumption) (by first | (simp; done) | (simp; omega) | omega)) | (with_reducible refine bl_drewN ?_) | (with_reducible refine Below.drew ?_) | (with_reducible refine bl_grow ?_ (by first | (simp; done) | (simp; omega) | omega)))⟩
          case measure => simp [intOf]; omega
    · have hlt' : ¬ (k : Int) < m := by omega
      obtain rfl : k = m := by omega
      have m1 : True := trivial
      go_wp2_with (go_at_call 13; clear m1; refine (HC.out _ (by repeat (first | (with_reducible exact Below.refl _ _) | (with_reducible assumption) | (with_reducible refine Below.setCell ?_ (by first | (simp; done) | (simp; omega) | omega) _) | (with_reducible refine Below.alloc ?_ (by first | (simp; done) | (simp; omega) | omega) _) | (refine bl_call ?_ (by assumption) (by first | (simp; done) | (simp; omega) | omega)) | (with_reducible refine bl_drewN ?_) | (with_reducible refine Below.drew ?_) | (with_reducible refine bl_grow ?_ (by first | (simp; done) | (simp; omega) | omega))))).mono ?_; rintro e w1 ⟨rfl, hbw1⟩; have krw1 : At w1 (w.heap.size) [.int .i64 0, .int .i64 0, .bool false] := (by repeat (first | (with_reducible assumption) | ((with_reducible refine at_new' _ _ _ _ ?_); (first | rfl | (simp; done))) | (with_reducible refine At.alloc ?_ _) | (with_reducible refine At.drew ?_) | (with_reducible refine At.drewN ?_) | (with_reducible refine At.set ?_ (by omega)) | (with_reducible apply At.store4) | (with_reducible apply At.store3) | (with_reducible apply At.store2) | (with_reducible apply At.put43) | (refine At.below ?_ (by with_reducible assumption)))); have ksw1 : At w1 (w.heap.size + 1) [.int .i64 ((tM (4 * nsN K Z k)).1 : Int), .int .i64 ((tM (4 * nsN K Z k)).2.1 : Int), .bool (tM (4 * nsN K Z k)).2.2] := (by repeat (first | (with_reducible assumption) | ((with_reducible refine at_new' _ _ _ _ ?_); (first | rfl | (simp; done))) | (with_reducible refine At.alloc ?_ _) | (with_reducible refine At.drew ?_) | (with_reducible refine At.drewN ?_) | (with_reducible refine At.set ?_ (by omega)) | (with_reducible apply At.store4) | (with_reducible apply At.store3) | (with_reducible apply At.store2) | (with_reducible apply At.put43) | (refine At.below ?_ (by with_reducible assumption)))); have hqw1 : Below w.heap.size w w1 := (by repeat (first | (with_reducible exact Below.refl _ _) | (with_reducible assumption) | (with_reducible refine Below.setCell ?_ (by first | (simp; done) | (simp; omega) | omega) _) | (with_reducible refine Below.alloc ?_ (by first | (simp; done) | (simp; omega) | omega) _) | (refine bl_call ?_ (by assumption) (by first | (simp; done) | (simp; omega) | omega)) | (with_reducible refine bl_drewN ?_) | (with_reducible refine Below.drew ?_) | (with_reducible refine bl_grow ?_ (by first | (simp; done) | (simp; omega) | omega)))); have hzw1 := hqw1.size; obtain ⟨zrw1, cr0w1, cr1w1, cr2w1, fr0w1, fr1w1, fr2w1⟩ := krw1.three; obtain ⟨zsw1, cs0w1, cs1w1, cs2w1, fs0w1, fs1w1, fs2w1⟩ := ksw1.three; clear krV cr0V fr0V cr1V fr1V cr2V fr2V ksV cs0V fs0V cs1V fs1V cs2V fs2V hqV; clear hbw1)
      exact bodyPost_ret (v := .tuple #[.agg #[.int .i64 0, .int .i64 0, .bool false], .int .i64 q]) (by simp [results, Tryz.results16, go_sem, *]) rfl ⟨rfl, by repeat (first | (with_reducible exact Below.refl _ _) | (with_reducible assumption) | (with_reducible refine Below.setCell ?_ (by first | (simp; done) | (simp; omega) | omega) _) | (with_reducible refine Below.alloc ?_ (by first | (simp; done) | (simp; omega) | omega) _) | (refine bl_call ?_ (by assumption) (by first | (simp; done) | (simp; omega) | omega)) | (with_reducible refine bl_drewN ?_) | (with_reducible refine Below.drew ?_) | (with_reducible refine bl_grow ?_ (by first | (simp; done) | (simp; omega) | omega)))⟩
set_option maxRecDepth 100000 in
set_option maxHeartbeats 4000000 in
theorem rexc_ok (B p n m c d dz : Nat) (sz sl : Option Addr) (u v : Value) (K : Nat → Nat) (G : Nat → Bool) (Z : Nat → Int) (J : Nat → Nat) (w : World) (hn : n ≤ 1000000) (hm : m ≤ 9223372036854775807) (h : BookAt 25 4 B w p u v n K G) (hz : (m = 0 ∨ ∃ b o : Nat, sz = some ⟨b, o, none⟩ ∧ RowI w b o m Z)) (hok : (∀ j, j < m → goE n G Z j = 0)) (hc : ∀ W, Below w.heap.size w W → Calls Tryz.prog 13 #[.slice sl c d] W fun e w' => e = .returned (.int .i64 0) ∧ Below W.heap.size W w') (hj : ∀ W, Below w.heap.size w W → Calls Tryz.prog 42 #[.slice sl c d] W fun e w' => e = .returned (.agg #[.int .i64 ((tM (4 * jsN J c)).1 : Int), .int .i64 ((tM (4 * jsN J c)).2.1 : Int), .bool (tM (4 * jsN J c)).2.2]) ∧ Below W.heap.size W w') :
    Calls Tryz.prog 16 #[.pointer (some ⟨p, 0, none⟩), .slice sz m dz, .slice sl c d] w fun e w' => e = .returned (.tuple #[.agg #[.int .i64 ((tM (4 * exN K Z m J c)).1 : Int), .int .i64 ((tM (4 * exN K Z m J c)).2.1 : Int), .bool (tM (4 * exN K Z m J c)).2.2], .int .i64 0]) ∧ Below w.heap.size w w' := by
  obtain ⟨su, cu, sv, cv, rfl, rfl, hrow⟩ := h.slices
  have HP : Hid (At w p [.slice su n cu, .slice sv n cv]) := h.cells
  have HR : Hid (n = 0 ∨ ∃ g h, su = some ⟨g, 0, none⟩ ∧ sv = some ⟨h, 0, none⟩ ∧ RowO w g 0 n (fun i => ((tM (4 * K i)).1 : Int)) (fun i => ((tM (4 * K i)).2.1 : Int)) (fun i => (tM (4 * K i)).2.2) ∧ RowB w h 0 n G) := hrow
  have HZ : Hid ((m = 0 ∨ ∃ b o : Nat, sz = some ⟨b, o, none⟩ ∧ RowI w b o m Z)) := hz
  clear hrow h hz
  have HO : Hid (∀ j, j < m → goE n G Z j = 0) := hok
  have HC : Hid (∀ W, Below w.heap.size w W → Calls Tryz.prog 13 #[.slice sl c d] W fun e w' => e = .returned (.int .i64 0) ∧ Below W.heap.size W w') := hc
  have HJ : Hid (∀ W, Below w.heap.size w W → Calls Tryz.prog 42 #[.slice sl c d] W fun e w' => e = .returned (.agg #[.int .i64 ((tM (4 * jsN J c)).1 : Int), .int .i64 ((tM (4 * jsN J c)).2.1 : Int), .bool (tM (4 * jsN J c)).2.2]) ∧ Below W.heap.size W w') := hj
  clear hok hc hj
  go_enter Tryz.func16, Tryz.ntmps16
  go_wp2_with fail
  go_loopw [9] (fun ti wl => ∃ k : Nat, k ≤ m ∧ ti = .int .i64 k ∧ At wl (w.heap.size) [.int .i64 0, .int .i64 0, .bool false] ∧ At wl (w.heap.size + 1) [.int .i64 ((tM (4 * nsN K Z k)).1 : Int), .int .i64 ((tM (4 * nsN K Z k)).2.1 : Int), .bool (tM (4 * nsN K Z k)).2.2] ∧ Below w.heap.size w wl) (fun ti _ => m - (intOf ti).toNat)
  case atStart => exact ⟨0, by omega, rfl, by repeat (first | (with_reducible assumption) | ((with_reducible refine at_new' _ _ _ _ ?_); (first | rfl | (simp; done))) | (with_reducible refine At.alloc ?_ _) | (with_reducible refine At.drew ?_) | (with_reducible refine At.drewN ?_) | (with_reducible refine At.set ?_ (by omega)) | (with_reducible apply At.store4) | (with_reducible apply At.store3) | (with_reducible apply At.store2) | (with_reducible apply At.put43) | (refine At.below ?_ (by with_reducible assumption))), by show At _ _ [.int .i64 0, .int .i64 0, .bool true]; exact (by repeat (first | (with_reducible assumption) | ((with_reducible refine at_new' _ _ _ _ ?_); (first | rfl | (simp; done))) | (with_reducible refine At.alloc ?_ _) | (with_reducible refine At.drew ?_) | (with_reducible refine At.drewN ?_) | (with_reducible refine At.set ?_ (by omega)) | (with_reducible apply At.store4) | (with_reducible apply At.store3) | (with_reducible apply At.store2) | (with_reducible apply At.put43) | (refine At.below ?_ (by with_reducible assumption)))), by repeat (first | (with_reducible exact Below.refl _ _) | (with_reducible assumption) | (with_reducible refine Below.setCell ?_ (by first | (simp; done) | (simp; omega) | omega) _) | (with_reducible refine Below.alloc ?_ (by first | (simp; done) | (simp; omega) | omega) _) | (refine bl_call ?_ (by assumption) (by first | (simp; done) | (simp; omega) | omega)) | (with_reducible refine bl_drewN ?_) | (with_reducible refine Below.drew ?_) | (with_reducible refine bl_grow ?_ (by first | (simp; done) | (simp; omega) | omega)))⟩
  case round =>
    obtain ⟨k, hk, rfl, krV, ksV, hqV⟩ := hrel
    rename World => V
    have hzV := hqV.size
    obtain ⟨zrV, cr0V, cr1V, cr2V, fr0V, fr1V, fr2V⟩ := krV.three
    obtain ⟨zsV, cs0V, cs1V, cs2V, fs0V, fs1V, fs2V⟩ := ksV.three
    have kpV := HP.out.below hqV
    obtain ⟨zpV, cp0V, cp1V, fp0V, fp1V⟩ := kpV.two
    by_cases hlt : k < m
    · have hk0 := HO.out k hlt
      have hlt' : (k : Int) < m := by omega
      obtain ⟨b, o, rfl, hzr⟩ : ∃ b o : Nat, sz = some ⟨b, o, none⟩ ∧ RowI w b o m Z := HZ.out.resolve_left (by omega)
      have hb := hzr.1
      have HZr : Hid (RowI w b o m Z) := hzr
      have hbV := Nat.lt_of_lt_of_le hb hzV
      have c0 := (hzr.below hb hqV).2 k hlt
      clear hzr
      obtain ⟨a1, a2, a3⟩ := goE_ok hk0
      obtain ⟨z, hz⟩ : ∃ z : Nat, Z k = (z : Int) := ⟨(Z k).toNat, by have := inN_yes a1; omega⟩
      have hzn : z < n := by have := inN_yes a1; omega
      have HZz : Hid (Z k = (z : Int)) := hz
      rw [hz] at c0
      rw [hz, Int.toNat_natCast] at a2
      clear a1 hz
      have t1 : ¬ (z : Int) < 0 := by omega
      have t2 : ¬ (z : Int) ≥ n := by omega
      obtain ⟨g, h, rfl, rfl, r1, r2⟩ := HR.out.resolve_left (by omega)
      have HG1 : Hid (RowO w g 0 n (fun i => ((tM (4 * K i)).1 : Int)) (fun i => ((tM (4 * K i)).2.1 : Int)) (fun i => (tM (4 * K i)).2.2)) := r1
      have hg := r1.1
      have hgV := Nat.lt_of_lt_of_le r1.1 hzV
      have hhV := Nat.lt_of_lt_of_le r2.1 hzV
      have d0 := (r2.below r2.1 hqV).2 z hzn
      rw [Nat.zero_add, a2] at d0
      clear r1 r2 a2
      go_wp2_with fail
      go_loopw [11] (fun tj wl => ∃ j : Nat, j ≤ k ∧ tj = .int .i64 j ∧ (∀ i, i < j → Z i ≠ (z : Int)) ∧ At wl (w.heap.size) [.int .i64 0, .int .i64 0, .bool false] ∧ At wl (w.heap.size + 1) [.int .i64 ((tM (4 * nsN K Z k)).1 : Int), .int .i64 ((tM (4 * nsN K Z k)).2.1 : Int), .bool (tM (4 * nsN K Z k)).2.2] ∧ Below w.heap.size w wl) (fun tj _ => k - (intOf tj).toNat)
      case atStart => exact ⟨0, by omega, rfl, fun i hi => absurd hi (Nat.not_lt_zero _), krV, ksV, hqV⟩
      case round =>
        clear c0 d0 cp0V cp1V fp0V fp1V kpV krV cr0V fr0V cr1V fr1V cr2V fr2V ksV cs0V fs0V cs1V fs1V cs2V fs2V hqV
        obtain ⟨j, hj, rfl, hno, krU, ksU, hqU⟩ := hrel
        rename World => U
        have HNO : Hid (∀ i, i < j → Z i ≠ (z : Int)) := hno
        clear hno
        have hzU := hqU.size
        obtain ⟨zrU, cr0U, cr1U, cr2U, fr0U, fr1U, fr2U⟩ := krU.three
        obtain ⟨zsU, cs0U, cs1U, cs2U, fs0U, fs1U, fs2U⟩ := ksU.three
        have kpU := HP.out.below hqU
        obtain ⟨zpU, cp0U, cp1U, fp0U, fp1U⟩ := kpU.two
        have hbU : b < U.heap.size := Nat.lt_of_lt_of_le hb hzU
        have hgU : g < U.heap.size := Nat.lt_of_lt_of_le hg hzU
        by_cases hjk : j < k
        · have hjk' : (j : Int) < k := by omega
          have q0 := (HZr.out.below hb hqU).2 j (by omega)
          have QNE : Z j ≠ (z : Int) := fun e => dupB_no a3 j hjk (e.trans HZz.out.symm)
          have qt : (Z j == (z : Int)) = false := by rw [beq_eq_false_iff_ne]; exact QNE
          go_wp2_with fail
          go_roundw
          case rel => exact ⟨j + 1, by omega, by simp, fun i hi => by
              rcases Nat.lt_succ_iff_lt_or_eq.1 hi with e | rfl
              · exact HNO.out i e
              · exact QNE, by repeat (first | (with_reducible assumption) | ((with_reducible refine at_new' _ _ _ _ ?_); (first | rfl | (simp; done))) | (with_reducible refine At.alloc ?_ _) | (with_reducible refine At.drew ?_) | (with_reducible refine At.drewN ?_) | (with_reducible refine At.set ?_ (by omega)) | (with_reducible apply At.store4) | (with_reducible apply At.store3) | (with_reducible apply At.store2) | (with_reducible apply At.put43) | (refine At.below ?_ (by with_reducible assumption))), by repeat (first | (with_reducible assumption) | ((with_reducible refine at_new' _ _ _ _ ?_); (first | rfl | (simp; done))) | (with_reducible refine At.alloc ?_ _) | (with_reducible refine At.drew ?_) | (with_reducible refine At.drewN ?_) | (with_reducible refine At.set ?_ (by omega)) | (with_reducible apply At.store4) | (with_reducible apply At.store3) | (with_reducible apply At.store2) | (with_reducible apply At.put43) | (refine At.below ?_ (by with_reducible assumption))), by repeat (first | (with_reducible exact Below.refl _ _) | (with_reducible assumption) | (with_reducible refine Below.setCell ?_ (by first | (simp; done) | (simp; omega) | omega) _) | (with_reducible refine Below.alloc ?_ (by first | (simp; done) | (simp; omega) | omega) _) | (refine bl_call ?_ (by assumption) (by first | (simp; done) | (simp; omega) | omega)) | (with_reducible refine bl_drewN ?_) | (with_reducible refine Below.drew ?_) | (with_reducible refine bl_grow ?_ (by first | (simp; done) | (simp; omega) | omega)))⟩
          case measure => simp [intOf]; omega
        · have hjk' : ¬ (j : Int) < k := by omega
          obtain rfl : j = k := by omega
          have E : Hid (tM (4 * nsN K Z j + 4 * (1012 * K z)) = tM (4 * nsN K Z (j + 1))) := ns_step K Z HZz.out
          obtain ⟨e0, e1, e2⟩ := (HG1.out.below hg hqU).2 z hzn
          rw [Nat.zero_add] at e0 e1 e2
          go_wp2_with fail
          refine below_gate 10 1 #[true, true, true, true, true, true, true, true, true, true, false] (by kernel_rfl) (by kernel_rfl) rfl rfl ?_
          dsimp only [List.take]
          repeat (go_big_quiet_step (first | (go_at_call 41; with_reducible exact Calls.regrown_of (rneg_4 _ _)) | (go_at_call 33; with_reducible exact Calls.regrown_of (radd_tM _ _ _))))
          refine wpQuiet_nil ?_
          intro W1 hw1
          have hrW1 := regrown_below hw1
          clear hw1
          have krW1 := krU.below hrW1
          have ksW1 := ksU.below hrW1
          have kpW1 := kpU.below hrW1
          have hqW1 := bl_call hqU hrW1 (by omega)
          have hzW1 := hqW1.size
          clear hrW1 krU cr0U fr0U cr1U fr1U cr2U fr2U ksU cs0U fs0U cs1U fs1U cs2U fs2U kpU cp0U fp0U cp1U fp1U hqU
          obtain ⟨zrW1, cr0W1, cr1W1, cr2W1, fr0W1, fr1W1, fr2W1⟩ := krW1.three
          obtain ⟨zsW1, cs0W1, cs1W1, cs2W1, fs0W1, fs1W1, fs2W1⟩ := ksW1.three
          obtain ⟨zpW1, cp0W1, cp1W1, fp0W1, fp1W1⟩ := kpW1.two
          refine wpAny_ready (rs := [10]) (by kernel_rfl) (by simp) (AllReady.cons rfl (fun K hK => ?_) AllReady.nil)
          go_simp
          refine hK _ _ ?_
          clear hK K
          refine wpAny_done (by kernel_rfl) ?_ _
          go_wp2_with fail
          go_roundw
          case rel => exact ⟨j + 1, by omega, by simp, by repeat (first | (with_reducible assumption) | ((with_reducible refine at_new' _ _ _ _ ?_); (first | rfl | (simp; done))) | (with_reducible refine At.alloc ?_ _) | (with_reducible refine At.drew ?_) | (with_reducible refine At.drewN ?_) | (with_reducible refine At.set ?_ (by omega)) | (with_reducible apply At.store4) | (with_reducible apply At.store3) | (with_reducible apply At.store2) | (with_reducible apply At.put43) | (refine At.below ?_ (by with_reducible assumption))), by rw [← E.out]; exact (show At _ _ [.int .i64 ((tM (4 * nsN K Z j + 4 * (1012 * K z))).1 : Int), .int .i64 ((tM (4 * nsN K Z j + 4 * (1012 * K z))).2.1 : Int), .bool (tM (4 * nsN K Z j + 4 * (1012 * K z))).2.2] from by repeat (first | (with_reducible assumption) | ((with_reducible refine at_new' _ _ _ _ ?_); (first | rfl | (simp; done))) | (with_reducible refine At.alloc ?_ _) | (with_reducible refine At.drew ?_) | (with_reducible refine At.drewN ?_) | (with_reducible refine At.set ?_ (by omega)) | (with_reducible apply At.store4) | (with_reducible apply At.store3) | (with_reducible apply At.store2) | (with_reducible apply At.put43) | (refine At.below ?_ (by with_reducible assumption)))), by repeat (first | (with_reducible exact Below.refl _ _) | (with_reducible assumption) | (with_reducible refine Below.setCell ?_ (by first | (simp; done) | (simp; omega) | omega) _) | (with_reducible refine Below.alloc ?_ (by first | (simp; done) | (simp; omega) | omega) _) | (refine bl_call ?_ (by assumption) (by first | (simp; done) | (simp; omega) | omega)) | (with_reducible refine bl_drewN ?_) | (with_reducible refine Below.drew ?_) | (with_reducible refine bl_grow ?_ (by first | (simp; done) | (simp; omega) | omega)))⟩
          case measure => simp [intOf]; omega
    · have hlt' : ¬ (k : Int) < m := by omega
      obtain rfl : k = m := by omega
      have E : Hid (tM (4 * nsN K Z k + 4 * jsN J c) = tM (4 * exN K Z k J c)) := by unfold Hid exN; rw [Nat.mul_add]
      have m1 : True := trivial
      go_upto_region 19 with (go_at_call 13; clear m1; refine (HC.out _ (by repeat (first | (with_reducible exact Below.refl _ _) | (with_reducible assumption) | (with_reducible refine Below.setCell ?_ (by first | (simp; done) | (simp; omega) | omega) _) | (with_reducible refine Below.alloc ?_ (by first | (simp; done) | (simp; omega) | omega) _) | (refine bl_call ?_ (by assumption) (by first | (simp; done) | (simp; omega) | omega)) | (with_reducible refine bl_drewN ?_) | (with_reducible refine Below.drew ?_) | (with_reducible refine bl_grow ?_ (by first | (simp; done) | (simp; omega) | omega))))).mono ?_; rintro e w1 ⟨rfl, hbw1⟩; have krw1 : At w1 (w.heap.size) [.int .i64 0, .int .i64 0, .bool false] := (by repeat (first | (with_reducible assumption) | ((with_reducible refine at_new' _ _ _ _ ?_); (first | rfl | (simp; done))) | (with_reducible refine At.alloc ?_ _) | (with_reducible refine At.drew ?_) | (with_reducible refine At.drewN ?_) | (with_reducible refine At.set ?_ (by omega)) | (with_reducible apply At.store4) | (with_reducible apply At.store3) | (with_reducible apply At.store2) | (with_reducible apply At.put43) | (refine At.below ?_ (by with_reducible assumption)))); have ksw1 : At w1 (w.heap.size + 1) [.int .i64 ((tM (4 * nsN K Z k)).1 : Int), .int .i64 ((tM (4 * nsN K Z k)).2.1 : Int), .bool (tM (4 * nsN K Z k)).2.2] := (by repeat (first | (with_reducible assumption) | ((with_reducible refine at_new' _ _ _ _ ?_); (first | rfl | (simp; done))) | (with_reducible refine At.alloc ?_ _) | (with_reducible refine At.drew ?_) | (with_reducible refine At.drewN ?_) | (with_reducible refine At.set ?_ (by omega)) | (with_reducible apply At.store4) | (with_reducible apply At.store3) | (with_reducible apply At.store2) | (with_reducible apply At.put43) | (refine At.below ?_ (by with_reducible assumption)))); have hqw1 : Below w.heap.size w w1 := (by repeat (first | (with_reducible exact Below.refl _ _) | (with_reducible assumption) | (with_reducible refine Below.setCell ?_ (by first | (simp; done) | (simp; omega) | omega) _) | (with_reducible refine Below.alloc ?_ (by first | (simp; done) | (simp; omega) | omega) _) | (refine bl_call ?_ (by assumption) (by first | (simp; done) | (simp; omega) | omega)) | (with_reducible refine bl_drewN ?_) | (with_reducible refine Below.drew ?_) | (with_reducible refine bl_grow ?_ (by first | (simp; done) | (simp; omega) | omega)))); have hzw1 := hqw1.size; obtain ⟨zrw1, cr0w1, cr1w1, cr2w1, fr0w1, fr1w1, fr2w1⟩ := krw1.three; obtain ⟨zsw1, cs0w1, cs1w1, cs2w1, fs0w1, fs1w1, fs2w1⟩ := ksw1.three; clear krV cr0V fr0V cr1V fr1V cr2V fr2V ksV cs0V fs0V cs1V fs1V cs2V fs2V hqV; clear hbw1)
      have HJV : Hid (∀ W, Below w1.heap.size w1 W → Calls Tryz.prog 42 #[.slice sl c d] W fun e w' => e = .returned (.agg #[.int .i64 ((tM (4 * jsN J c)).1 : Int), .int .i64 ((tM (4 * jsN J c)).2.1 : Int), .bool (tM (4 * jsN J c)).2.2]) ∧ Below W.heap.size W w') := fun W hW => HJ.out W (bl_call hqw1 hW hzw1)
      refine below_gate 4 2 #[true, true, true, true, false, false] (by kernel_rfl) (by kernel_rfl) rfl rfl ?_
      dsimp only [List.take]
      repeat (go_big_quiet_step (first | (go_at_call 42; with_reducible exact Calls.regrown_of (HJV.out _ (below_regrown _ _ _))) | (go_at_call 33; with_reducible exact Calls.regrown_of (radd_tM _ _ _))))
      refine wpQuiet_nil ?_
      intro W1 hw1
      have hrW1 := regrown_below hw1
      clear hw1
      have krW1 := krw1.below hrW1
      have ksW1 := ksw1.below hrW1
      have hqW1 := bl_call hqw1 hrW1 (by omega)
      have hzW1 := hqW1.size
      clear hrW1 krw1 cr0w1 fr0w1 cr1w1 fr1w1 cr2w1 fr2w1 ksw1 cs0w1 fs0w1 cs1w1 fs1w1 cs2w1 fs2w1 hqw1
      obtain ⟨zrW1, cr0W1, cr1W1, cr2W1, fr0W1, fr1W1, fr2W1⟩ := krW1.three
      obtain ⟨zsW1, cs0W1, cs1W1, cs2W1, fs0W1, fs1W1, fs2W1⟩ := ksW1.three
      refine wpAny_ready (rs := [4]) (by kernel_rfl) (by simp) (AllReady.cons rfl (fun K hK => ?_) AllReady.nil)
      go_simp
      refine hK _ _ ?_
      clear hK K
      refine wpAny_ready (rs := [5]) (by kernel_rfl) (by simp) (AllReady.cons rfl (fun K hK => ?_) AllReady.nil)
      go_simp
      refine hK _ _ ?_
      clear hK K
      refine wpAny_done (by kernel_rfl) ?_ _
      rw [E.out]
      go_wp2_with fail
      exact bodyPost_ret (v := .tuple #[.agg #[.int .i64 ((tM (4 * exN K Z k J c)).1 : Int), .int .i64 ((tM (4 * exN K Z k J c)).2.1 : Int), .bool (tM (4 * exN K Z k J c)).2.2], .int .i64 0]) (by simp [results, Tryz.results16, go_sem, *]) rfl ⟨rfl, by repeat (first | (with_reducible exact Below.refl _ _) | (with_reducible assumption) | (with_reducible refine Below.setCell ?_ (by first | (simp; done) | (simp; omega) | omega) _) | (with_reducible refine Below.alloc ?_ (by first | (simp; done) | (simp; omega) | omega) _) | (refine bl_call ?_ (by assumption) (by first | (simp; done) | (simp; omega) | omega)) | (with_reducible refine bl_drewN ?_) | (with_reducible refine Below.drew ?_) | (with_reducible refine bl_grow ?_ (by first | (simp; done) | (simp; omega) | omega)))⟩
set_option maxRecDepth 100000 in
set_option maxHeartbeats 4000000 in
theorem bjoin (sl : Option Addr) (n d : Nat) (X Y : Nat → Int) (F : Nat → Bool) (J : Nat → Nat) (w : World) (hn : n ≤ 1000000) (hr : (n = 0 ∨ ∃ b o : Nat, sl = some ⟨b, o, none⟩ ∧ RowO w b o n X Y F)) (hK : isC X Y F J n) : Calls Tryz.prog 42 #[.slice sl n d] w fun e w' => e = .returned (.agg #[.int .i64 ((tM (4 * jsN J n)).1 : Int), .int .i64 ((tM (4 * jsN J n)).2.1 : Int), .bool (tM (4 * jsN J n)).2.2]) ∧ Below w.heap.size w w' := by
  have HR : Hid ((n = 0 ∨ ∃ b o : Nat, sl = some ⟨b, o, none⟩ ∧ RowO w b o n X Y F)) := hr
  have HK : Hid (isC X Y F J n) := hK
  clear hr hK
  go_enter Tryz.func42, Tryz.ntmps42
  go_wp2_with fail
  go_loopw [4] (fun ti wl => ∃ k : Nat, k ≤ n ∧ ti = .int .i64 k ∧ At wl (w.heap.size) [.int .i64 0, .int .i64 0, .bool false] ∧ At wl (w.heap.size + 1) [.int .i64 ((tM (4 * jsN J k)).1 : Int), .int .i64 ((tM (4 * jsN J k)).2.1 : Int), .bool (tM (4 * jsN J k)).2.2] ∧ Below w.heap.size w wl) (fun ti _ => n - (intOf ti).toNat)
  case atStart => exact ⟨0, by omega, rfl, by repeat (first | (with_reducible assumption) | ((with_reducible refine at_new' _ _ _ _ ?_); (first | rfl | (simp; done))) | (with_reducible refine At.alloc ?_ _) | (with_reducible refine At.drew ?_) | (with_reducible refine At.drewN ?_) | (with_reducible refine At.set ?_ (by omega)) | (with_reducible apply At.store4) | (with_reducible apply At.store3) | (with_reducible apply At.store2) | (with_reducible apply At.put43) | (refine At.below ?_ (by with_reducible assumption))), by show At _ _ [.int .i64 0, .int .i64 0, .bool true]; exact (by repeat (first | (with_reducible assumption) | ((with_reducible refine at_new' _ _ _ _ ?_); (first | rfl | (simp; done))) | (with_reducible refine At.alloc ?_ _) | (with_reducible refine At.drew ?_) | (with_reducible refine At.drewN ?_) | (with_reducible refine At.set ?_ (by omega)) | (with_reducible apply At.store4) | (with_reducible apply At.store3) | (with_reducible apply At.store2) | (with_reducible apply At.put43) | (refine At.below ?_ (by with_reducible assumption)))), by repeat (first | (with_reducible exact Below.refl _ _) | (with_reducible assumption) | (with_reducible refine Below.setCell ?_ (by first | (simp; done) | (simp; omega) | omega) _) | (with_reducible refine Below.alloc ?_ (by first | (simp; done) | (simp; omega) | omega) _) | (refine bl_call ?_ (by assumption) (by first | (simp; done) | (simp; omega) | omega)) | (with_reducible refine bl_drewN ?_) | (with_reducible refine Below.drew ?_) | (with_reducible refine bl_grow ?_ (by first | (simp; done) | (simp; omega) | omega)))⟩
  case round =>
    obtain ⟨k, hk, rfl, krV, kpV, hqV⟩ := hrel
    rename World => V
    have hzV := hqV.size
    obtain ⟨zrV, cr0V, cr1V, cr2V, fr0V, fr1V, fr2V⟩ := krV.three
    obtain ⟨zpV, cp0V, cp1V, cp2V, fp0V, fp1V, fp2V⟩ := kpV.three
    by_cases hlt : k < n
    · have hlt' : (k : Int) < n := by omega
      obtain ⟨b, o, rfl, hz⟩ : ∃ b o : Nat, sl = some ⟨b, o, none⟩ ∧ RowO w b o n X Y F := HR.out.resolve_left (by omega)
      have hbV := Nat.lt_of_lt_of_le hz.1 hzV
      obtain ⟨c0, c1, c2⟩ := (hz.below hz.1 hqV).2 k hlt
      obtain ⟨e0, e1, e2⟩ := HK.out k hlt
      rw [e0] at c0
      rw [e1] at c1
      rw [e2] at c2
      clear e0 e1 e2 hz
      have E : Hid (tM (4 * jsN J k + 4 * J k) = tM (4 * jsN J (k + 1))) := by unfold Hid; rw [← Nat.mul_add]; rfl
      go_wp2_with fail
      refine below_gate 6 1 #[true, true, true, true, true, true, false] (by kernel_rfl) (by kernel_rfl) rfl rfl ?_
      dsimp only [List.take]
      repeat (go_big_quiet_step (first | (go_at_call 33; with_reducible exact Calls.regrown_of (radd_tM _ _ _))))
      refine wpQuiet_nil ?_
      intro W1 hw1
      have hrW1 := regrown_below hw1
      clear hw1
      have krW1 := krV.below hrW1
      have kpW1 := kpV.below hrW1
      have hqW1 := bl_call hqV hrW1 (by omega)
      have hzW1 := hqW1.size
      clear hrW1 krV cr0V fr0V cr1V fr1V cr2V fr2V kpV cp0V fp0V cp1V fp1V cp2V fp2V hqV
      obtain ⟨zrW1, cr0W1, cr1W1, cr2W1, fr0W1, fr1W1, fr2W1⟩ := krW1.three
      obtain ⟨zpW1, cp0W1, cp1W1, cp2W1, fp0W1, fp1W1, fp2W1⟩ := kpW1.three
      refine wpAny_ready (rs := [6]) (by kernel_rfl) (by simp) (AllReady.cons rfl (fun K hK => ?_) AllReady.nil)
      go_simp
      refine hK _ _ ?_
      clear hK K
      refine wpAny_done (by kernel_rfl) ?_ _
      go_wp2_with fail
      go_roundw
      case rel => exact ⟨k + 1, by omega, by simp, by repeat (first | (with_reducible assumption) | ((with_reducible refine at_new' _ _ _ _ ?_); (first | rfl | (simp; done))) | (with_reducible refine At.alloc ?_ _) | (with_reducible refine At.drew ?_) | (with_reducible refine At.drewN ?_) | (with_reducible refine At.set ?_ (by omega)) | (with_reducible apply At.store4) | (with_reducible apply At.store3) | (with_reducible apply At.store2) | (with_reducible apply At.put43) | (refine At.below ?_ (by with_reducible assumption))), by rw [← E.out]; exact (show At _ _ [.int .i64 ((tM (4 * jsN J k + 4 * J k)).1 : Int), .int .i64 ((tM (4 * jsN J k + 4 * J k)).2.1 : Int), .bool (tM (4 * jsN J k + 4 * J k)).2.2] from by repeat (first | (with_reducible assumption) | ((with_reducible refine at_new' _ _ _ _ ?_); (first | rfl | (simp; done))) | (with_reducible refine At.alloc ?_ _) | (with_reducible refine At.drew ?_) | (with_reducible refine At.drewN ?_) | (with_reducible refine At.set ?_ (by omega)) | (with_reducible apply At.store4) | (with_reducible apply At.store3) | (with_reducible apply At.store2) | (with_reducible apply At.put43) | (refine At.below ?_ (by with_reducible assumption)))), by repeat (first | (with_reducible exact Below.refl _ _) | (with_reducible assumption) | (with_reducible refine Below.setCell ?_ (by first | (simp; done) | (simp; omega) | omega) _) | (with_reducible refine Below.alloc ?_ (by first | (simp; done) | (simp; omega) | omega) _) | (refine bl_call ?_ (by assumption) (by first | (simp; done) | (simp; omega) | omega)) | (with_reducible refine bl_drewN ?_) | (with_reducible refine Below.drew ?_) | (with_reducible refine bl_grow ?_ (by first | (simp; done) | (simp; omega) | omega)))⟩
      case measure => simp [intOf]; omega
    · have hlt' : ¬ (k : Int) < n := by omega
      obtain rfl : k = n := by omega
      go_wp2_with fail
      exact bodyPost_ret (v := .agg #[.int .i64 ((tM (4 * jsN J k)).1 : Int), .int .i64 ((tM (4 * jsN J k)).2.1 : Int), .bool (tM (4 * jsN J k)).2.2]) (by simp [results, Tryz.results42, go_sem, *]) rfl ⟨rfl, by repeat (first | (with_reducible exact Below.refl _ _) | (with_reducible assumption) | (with_reducible refine Below.setCell ?_ (by first | (simp; done) | (simp; omega) | omega) _) | (with_reducible refine Below.alloc ?_ (by first | (simp; done) | (simp; omega) | omega) _) | (refine bl_call ?_ (by assumption) (by first | (simp; done) | (simp; omega) | omega)) | (with_reducible refine bl_drewN ?_) | (with_reducible refine Below.drew ?_) | (with_reducible refine bl_grow ?_ (by first | (simp; done) | (simp; omega) | omega)))⟩
end Go.Proofs.YtlbdcgnhmkjfiajGreatDoor
/- New -/
namespace Go.Proofs.YtlbdcgnhmkjfiajGreatDoor
open Go.RowKit Go.Sort

section
variable {P : Program} {md : Region.Mode}

/-- The laying of the block, its place known. -/
def ptrOp (o : Oper) (b : Nat) : Oper := { o with op := .assign (.const (.pointer (some ⟨b, 0, none⟩))) }
def withPtr : List Oper → Nat → Nat → List Oper
  | [], _, _ => []
  | o :: r, 0, b => ptrOp o b :: r
  | o :: r, j + 1, b => o :: withPtr r j b
theorem withPtr_len (l : List Oper) (j b : Nat) : (withPtr l j b).length = l.length := by
  induction l generalizing j with
  | nil => cases j <;> rfl
  | cons o r ih =>
    cases j with
    | zero => rfl
    | succ j => simp [withPtr, ih]
theorem withPtr_ne (l : List Oper) (j b i : Nat) (h : i ≠ j) : (withPtr l j b)[i]? = l[i]? := by
  induction l generalizing i j with
  | nil => cases j <;> rfl
  | cons o r ih =>
    cases j with
    | zero => cases i with
      | zero => omega
      | succ i => rfl
    | succ j => cases i with
      | zero => rfl
      | succ i => exact ih j i (by omega)
theorem withPtr_at (l : List Oper) (j b : Nat) {o : Oper} (h : l[j]? = some o) : (withPtr l j b)[j]? = some (ptrOp o b) := by
  induction l generalizing j with
  | nil => simp at h
  | cons x r ih =>
    cases j with
    | zero => simp at h; subst h; rfl
    | succ j => exact ih j (by simpa using h)

/-- Each writes a place of its own. -/
def apartB (l : List Oper) : Bool :=
  (List.range l.length).all fun i => (List.range l.length).all fun k => Nat.beq i k || (match l[i]?, l[k]? with
    | some x, some y => (match x.dst, y.dst with | some d, some e => !(Nat.beq d e) | _, _ => true)
    | _, _ => true)
theorem apartB_spec {l : List Oper} (h : apartB l = true) {i k : Nat} {x y : Oper} {d : Tmp} (hi : l[i]? = some x) (hk : l[k]? = some y) (hne : i ≠ k) (hd : x.dst = some d) : y.dst ≠ some d := by
  intro hy
  unfold apartB at h
  rw [List.all_eq_true] at h
  have hil : i < l.length := (List.getElem?_eq_some_iff.1 hi).1
  have hkl : k < l.length := (List.getElem?_eq_some_iff.1 hk).1
  have h1 := h i (List.mem_range.2 hil)
  rw [List.all_eq_true] at h1
  have h2 := h1 k (List.mem_range.2 hkl)
  rw [hi, hk] at h2
  simp only [hd, hy, Bool.or_eq_true] at h2
  rcases h2 with h2 | h2
  · exact hne (Nat.eq_of_beq_eq_true h2)
  · have : Nat.beq d d = true := Nat.beq_refl d
    rw [this] at h2; cases h2

/-- What stands at the end in a place that nobody writes any more stands there now. -/
theorem slot_end {ops : Array Oper} {C : World → Prop} {A : Act} {d : Tmp} : ∀ (fuel : Nat) (listed : Array Bool) (a : Act), wpAnyQ P md ops C (fun a' => a' = A) fuel listed a →
    (∀ i o, ops[i]? = some o → listed.getD i true = false → o.dst ≠ some d) → A.tmps[d]? = a.tmps[d]? := by
  intro fuel
  induction fuel with
  | zero => intro listed a h _; rw [h.2]
  | succ fuel ih =>
    intro listed a h hd
    cases hr : Region.ready md ops listed with
    | nil => rw [h.1 hr]
    | cons i r =>
      have hm : i ∈ Region.ready md ops listed := by rw [hr]; simp
      obtain ⟨hun, o, ho, _⟩ := mem_ready.1 hm
      obtain ⟨v, _, hk⟩ := yieldsIn_of_qOp ho (h.2 i hm)
      have h1 := ih _ _ hk (fun k x hx hk' => hd k x hx (by
        by_cases hik : i = k
        · subst hik
          rw [getD_tf (by simp; have := (Array.getElem?_eq_some_iff.1 ho).1; rcases Nat.lt_or_ge i listed.size with h' | h'; exact h'; simp [Array.getD_eq_getD_getElem?, Array.getElem?_eq_none h'] at hun)] at hk'
          rw [getD_set_self (by rcases Nat.lt_or_ge i listed.size with h' | h'; exact h'; simp [Array.getD_eq_getD_getElem?, Array.getElem?_eq_none h'] at hun)] at hk'
          cases hk'
        · rw [getD_set_ne true hik] at hk'; exact hk'))
      rw [h1]
      have hne := hd i o ho hun
      cases hdst : o.dst with
      | none => rfl
      | some e =>
        have : e ≠ d := fun h' => hne (by rw [hdst, h'])
        simp [Act.put, this]

/-- The class of the worlds that come of W. -/
abbrev Cls (W : World) : World → Prop := fun w' => ∃ p : Regrown, w' = grow (redrawn W p.d) p.os
theorem cls_self (W : World) : Cls W W := regrown_of_below (Below.refl _ _)

variable {l : List Oper} {o : Oper}

theorem put_same {a A : Act} {d : Tmp} {v v' : Value} (h : A.tmps[d]? = (a.put (some d) v).tmps[d]?) (h' : A.tmps[d]? = (a.put (some d) v').tmps[d]?) : a.put (some d) v = a.put (some d) v' := by
  by_cases hd : d < a.tmps.size
  · have : v = v' := by
      rw [h] at h'
      simpa [Act.put, hd] using h'
    rw [this]
  · simp [Act.put, Array.setIfInBounds, hd]

theorem yielded_dst {l l' : Array Oper} (h : ∀ i : Nat, (l[i]?).bind (·.dst) = (l'[i]?).bind (·.dst)) (t : Array Value) : yielded l t = yielded l' t := by
  funext j; unfold yielded; rw [h j]

theorem withPtr_dst (l : List Oper) (j b i : Nat) : ((withPtr l j b).toArray[i]?).bind (·.dst) = (l.toArray[i]?).bind (·.dst) := by
  simp only [List.getElem?_toArray]
  by_cases hi : i = j
  · subst hi
    cases hl : l[i]? with
    | none =>
      have : (withPtr l i b)[i]? = none := by
        rw [List.getElem?_eq_none_iff, withPtr_len]; exact List.getElem?_eq_none_iff.1 hl
      rw [this]
    | some x => rw [withPtr_at l i b hl]; rfl
  · rw [withPtr_ne l j b i hi]
theorem withPtr_ready (l : List Oper) (j b i : Nat) (L : Array Bool) : i ∈ Region.ready md (withPtr l j b).toArray L ↔ i ∈ Region.ready md l.toArray L := by
  rw [mem_ready, mem_ready]
  simp only [List.getElem?_toArray]
  by_cases hi : i = j
  · subst hi
    cases hl : l[i]? with
    | none =>
      have : (withPtr l i b)[i]? = none := by
        rw [List.getElem?_eq_none_iff, withPtr_len]; exact List.getElem?_eq_none_iff.1 hl
      rw [this]
    | some x =>
      rw [withPtr_at l i b hl]
      constructor
      · rintro ⟨h0, y, hy, hall⟩; obtain rfl := Option.some.inj hy; exact ⟨h0, x, rfl, hall⟩
      · rintro ⟨h0, y, hy, hall⟩; obtain rfl := Option.some.inj hy; exact ⟨h0, _, rfl, hall⟩
  · rw [withPtr_ne l j b i hi]

theorem wpAny_new {Q : Exit → Act → World → Prop} {w : World} {j : Nat} {oa : Oper} {dj : Tmp} {t : TypeId} {zs : List Value} {A : Nat → Act}
    (hd : o.dst = none) (hb : backB (l ++ [o]).toArray = true) (hl : lastB md (l ++ [o]).toArray = true) (hap : apartB l = true) (hsome : ∀ (i : Nat) x, l[i]? = some x → ∃ d, x.dst = some d)
    (hoa : l[j]? = some oa) (hdst : oa.dst = some dj) (hg : oa.guard = none)
    (hal : ∀ (e : Operand → Value) (u : World), (execOp e oa).run P u = .ok (.value (.pointer (some ⟨u.heap.size, 0, none⟩))) (u.alloc (.cells zs.toArray t)))
    (hA : ∀ b, A b = (A 0).put (some dj) (.pointer (some ⟨b, 0, none⟩)))
    (hend : ∀ b W, Below w.heap.size w W → At W b zs → w.heap.size ≤ b → wpList P (l ++ [o]).toArray Q [o] (A b) W) :
    ∀ (fuel : Nat) (L : Array Bool) (a : Act) (u : World) (x : Option Nat), L.size = l.length → Closed md (l ++ [o]).toArray (L.push false) → Below w.heap.size w u →
      (L.getD j false = x.isSome) → (∀ b, x = some b → At u b zs ∧ w.heap.size ≤ b) →
      (∀ b W, (∀ b', x = some b' → b = b') → Below w.heap.size w W → wpAnyQ P md (withPtr l j b).toArray (Cls W) (fun a' => a' = A b) fuel L a) →
      wpAny P md (l ++ [o]).toArray Q (fuel + 1) (L.push false) a u := by
  have hjl : j < l.length := (List.getElem?_eq_some_iff.1 hoa).1
  have hready : ∀ (L : Array Bool) b, Region.ready md (withPtr l j b).toArray L = [] → Region.ready md l.toArray L = [] := by
    intro L b h
    cases e : Region.ready md l.toArray L with
    | nil => rfl
    | cons i r =>
      exfalso
      have hm : i ∈ Region.ready md l.toArray L := by rw [e]; simp
      have := (withPtr_ready l j b i L).2 hm
      rw [h] at this; cases this
  have hready' : ∀ (L : Array Bool) b, Region.ready md l.toArray L = [] → Region.ready md (withPtr l j b).toArray L = [] := by
    intro L b h
    cases e : Region.ready md (withPtr l j b).toArray L with
    | nil => rfl
    | cons i r =>
      exfalso
      have hm : i ∈ Region.ready md (withPtr l j b).toArray L := by rw [e]; simp
      have := (withPtr_ready l j b i L).1 hm
      rw [h] at this; cases this
  have hlast : ∀ (L : Array Bool), L.size = l.length → Region.ready md l.toArray L = [] → l.length ∈ Region.ready md (l ++ [o]).toArray (L.push false) := by
    intro L hL hr
    refine mem_ready.2 ⟨by rw [getD_tf (by simp; omega), getD_push]; simp [Array.getD_eq_getD_getElem?, hL], o, snoc_last, fun e he _ => ?_⟩
    rw [getD_push]
    exact all_of_stuck hL hb hr l.length _ (backB_spec hb snoc_last e he) (backB_spec hb snoc_last e he)
  have hfin : ∀ (L : Array Bool) (a : Act) (u : World) (f : Nat), L.size = l.length → (∀ k, k < l.length → L.getD k false = true) → wpList P (l ++ [o]).toArray Q [o] a u →
      wpOp P (l ++ [o]).toArray Q l.length (wpAny P md (l ++ [o]).toArray Q f ((L.push false).setIfInBounds l.length true)) a u := by
    intro L a u f hL hall h1
    have h2 : wpOp P (l ++ [o]).toArray Q l.length (fun a w => Q .normal a w) a u := by
      unfold wpOp
      rw [snoc_last]
      exact h1
    refine wpOp_mono (fun a' w' h3 => ?_) h2
    have hr : Region.ready md (l ++ [o]).toArray ((L.push false).setIfInBounds l.length true) = [] := by
      cases e : Region.ready md (l ++ [o]).toArray ((L.push false).setIfInBounds l.length true) with
      | nil => rfl
      | cons k r =>
        exfalso
        have hm : k ∈ Region.ready md (l ++ [o]).toArray ((L.push false).setIfInBounds l.length true) := by rw [e]; simp
        obtain ⟨h0, y, hy, _⟩ := mem_ready.1 hm
        have hk : k < l.length + 1 := by have := (Array.getElem?_eq_some_iff.1 hy).1; simpa using this
        rw [getD_tf (by simp; omega)] at h0
        by_cases hkl : k = l.length
        · subst hkl; rw [getD_set_self (by simp; omega)] at h0; cases h0
        · rw [getD_set_other (fun h => hkl h.symm), getD_push, hall k (by omega)] at h0; cases h0
    cases f with
    | zero => exact ⟨hr, h3⟩
    | succ f => exact ⟨fun _ => h3, by rw [hr]; simp⟩
  -- where nothing is left but the last one
  have hdone : ∀ (fuel : Nat) (L : Array Bool) (a : Act) (u : World) (x : Option Nat), L.size = l.length → Closed md (l ++ [o]).toArray (L.push false) → Below w.heap.size w u →
      (L.getD j false = x.isSome) → (∀ b, x = some b → At u b zs ∧ w.heap.size ≤ b) →
      (∀ b W, (∀ b', x = some b' → b = b') → Below w.heap.size w W → wpAnyQ P md (withPtr l j b).toArray (Cls W) (fun a' => a' = A b) fuel L a) →
      l.length ∈ Region.ready md (l ++ [o]).toArray (L.push false) → ∀ f, wpOp P (l ++ [o]).toArray Q l.length (wpAny P md (l ++ [o]).toArray Q f ((L.push false).setIfInBounds l.length true)) a u := by
    intro fuel L a u x hL hcl hbu hx hxb hG hi f
    have hall := fun k hk => all_of_last hL hl hcl hi l.length k (by omega) hk
    have hr := ready_nil_of_all (md := md) hL hall
    have hxs := hall j hjl
    rw [hx] at hxs
    obtain ⟨b, rfl⟩ := Option.isSome_iff_exists.1 hxs
    obtain ⟨hat, hwb⟩ := hxb b rfl
    have hq := hG b w (fun b' h => (Option.some.inj h)) (Below.refl _ _)
    have ha : a = A b := by
      cases fuel with
      | zero => exact hq.2
      | succ f => exact hq.1 (hready' L b hr)
    refine hfin L a u f hL hall ?_
    rw [ha]
    exact hend b u hbu hat hwb
  intro fuel
  induction fuel with
  | zero =>
    intro L a u x hL hcl hbu hx hxb hG
    have hq0 := hG (x.getD 0) w (fun b' h => by rw [h]; rfl) (Below.refl _ _)
    have hr0 := hready L _ hq0.1
    refine ⟨fun h0 => ?_, fun i hi => ?_⟩
    · have := hlast L hL hr0; rw [h0] at this; cases this
    · have hil : i < l.length + 1 := by
        obtain ⟨_, y, hy, _⟩ := mem_ready.1 hi
        have := (Array.getElem?_eq_some_iff.1 hy).1; simpa using this
      by_cases hi2 : i < l.length
      · have := (ready_snoc hL hi2).1 hi; rw [hr0] at this; cases this
      · obtain rfl : i = l.length := by omega
        exact hdone 0 L a u x hL hcl hbu hx hxb hG hi 0
  | succ fuel ih =>
    intro L a u x hL hcl hbu hx hxb hG
    refine ⟨fun h0 => ?_, fun i hi => ?_⟩
    · have hr : Region.ready md l.toArray L = [] := by
        cases e : Region.ready md l.toArray L with
        | nil => rfl
        | cons k r =>
          exfalso
          have hm : k ∈ Region.ready md l.toArray L := by rw [e]; simp
          obtain ⟨_, y, hy, _⟩ := mem_ready.1 hm
          have hk : k < l.length := by have := (Array.getElem?_eq_some_iff.1 hy).1; simpa using this
          have := (ready_snoc (o := o) hL hk).2 hm
          rw [h0] at this; cases this
      have := hlast L hL hr; rw [h0] at this; cases this
    · have hil : i < l.length + 1 := by
        obtain ⟨_, y, hy, _⟩ := mem_ready.1 hi
        have := (Array.getElem?_eq_some_iff.1 hy).1; simpa using this
      by_cases hi2 : i < l.length
      · have hm := (ready_snoc hL hi2).1 hi
        have hset : (L.push false).setIfInBounds i true = (L.setIfInBounds i true).push false := by
          apply Array.ext_getElem?
          intro k
          simp only [Array.getElem?_setIfInBounds, Array.getElem?_push, Array.size_push, Array.size_setIfInBounds]
          by_cases h1 : i = k
          · subst h1; simp [show i < L.size by omega, show i < L.size + 1 by omega, show ¬ i = L.size by omega]
          · simp [h1]
        have hcl' : Closed md (l ++ [o]).toArray ((L.setIfInBounds i true).push false) := by
          intro k y hy hk e he hbe
          rw [← hset] at hk ⊢
          by_cases h1 : i = e.on
          · rw [← h1]; exact getD_set_self (by simp; omega)
          · rw [getD_set_other h1]
            by_cases h2 : i = k
            · subst h2
              obtain ⟨_, y', hy', hall⟩ := mem_ready.1 hi
              rw [hy] at hy'; obtain rfl := Option.some.inj hy'
              exact hall e he hbe
            · rw [getD_set_other h2] at hk
              exact hcl k y hy hk e he hbe
        -- what each walk says of this operation
        have hun : L.getD i false = false := by
          have := (mem_ready.1 hm).1; rwa [getD_tf (by omega)] at this
        by_cases hij : i = j
        · subst hij
          have hxn : x = none := by
            cases x with
            | none => rfl
            | some b => rw [hun] at hx; cases hx
          subst hxn
          unfold wpOp
          rw [snoc_lt hi2, show l.toArray[i]? = some oa by simpa using hoa]
          simp only [Region.wanted, hg, if_true]
          refine Or.inl ?_
          unfold Oper.wp
          rw [hal]
          simp only [Oper.upon]
          rw [hset]
          refine ih _ _ _ (some u.heap.size) (by simpa using hL) hcl' ?_ ?_ ?_ ?_
          · exact hbu.alloc hbu.size _
          · rw [getD_set_self (by omega)]; rfl
          · intro b hbe
            obtain rfl := Option.some.inj hbe
            exact ⟨at_new u zs t, hbu.size⟩
          · intro b W hbb hW
            obtain rfl := hbb u.heap.size rfl
            have hq := (hG u.heap.size W (fun b' h => by cases h) hW).2 i ((withPtr_ready l i _ i L).2 hm)
            obtain ⟨v, hy, hk⟩ := yieldsIn_of_qOp (o := ptrOp oa u.heap.size) (by simpa using withPtr_at l i u.heap.size hoa) hq
            have hv : v = .pointer (some ⟨u.heap.size, 0, none⟩) := by
              rcases hy with ⟨_, hy⟩ | ⟨hw, _⟩
              · have h3 := hy W (cls_self W)
                unfold Oper.quietAt at h3
                rw [BigFrame.run_assign (o := ptrOp oa u.heap.size) (.const (.pointer (some ⟨u.heap.size, 0, none⟩))) rfl] at h3
                exact h3.2.symm
              · simp [Region.wanted, ptrOp, hg] at hw
            rw [hv] at hk
            exact hk
        · have hop : ∀ b, (withPtr l j b).toArray[i]? = l.toArray[i]? := fun b => by
            simpa using withPtr_ne l j b i hij
          obtain ⟨y, hy⟩ : ∃ y, l.toArray[i]? = some y := ⟨l[i], by simp [hi2]⟩
          obtain ⟨d, hyd⟩ := hsome i y (by simpa using hy)
          have hval : ∀ b W, (∀ b', x = some b' → b = b') → Below w.heap.size w W → ∃ v, YieldsIn P (withPtr l j b).toArray (Cls W) y v a ∧ wpAnyQ P md (withPtr l j b).toArray (Cls W) (fun a' => a' = A b) fuel (L.setIfInBounds i true) (a.put (some d) v) := by
            intro b W hbb hW
            have hq := (hG b W hbb hW).2 i ((withPtr_ready l j b i L).2 hm)
            obtain ⟨v, h1, h2⟩ := yieldsIn_of_qOp ((hop b).trans hy) hq
            rw [hyd] at h2
            exact ⟨v, h1, h2⟩
          have hslot : ∀ b W v, wpAnyQ P md (withPtr l j b).toArray (Cls W) (fun a' => a' = A b) fuel (L.setIfInBounds i true) (a.put (some d) v) → (A b).tmps[d]? = (a.put (some d) v).tmps[d]? := by
            intro b W v hk
            refine slot_end fuel _ _ hk ?_
            intro k z hz hkl
            have hik : i ≠ k := by
              intro h; subst h
              rw [getD_tf (by simp; omega), getD_set_self (by omega)] at hkl; cases hkl
            by_cases hkj : k = j
            · subst hkj
              have : z = ptrOp oa b := by
                have h1 := withPtr_at l k b hoa
                rw [List.getElem?_toArray] at hz
                exact Option.some.inj (hz.symm.trans h1)
              rw [this]
              have hne := apartB_spec hap (by simpa using hy) hoa hik hyd
              exact hne
            · have hz' : l[k]? = some z := by
                rw [List.getElem?_toArray, withPtr_ne l j b k hkj] at hz; exact hz
              exact apartB_spec hap (by simpa using hy) hz' hik hyd
          have hdj : d ≠ dj := by
            intro h; subst h
            exact apartB_spec hap (by simpa using hy) hoa hij hyd hdst
          have hAd : ∀ b b', (A b).tmps[d]? = (A b').tmps[d]? := by
            intro b b'
            rw [hA b, hA b']
            simp [Act.put, hdj.symm]
          -- the walk in the world at hand
          obtain ⟨v, hyv, hkv⟩ := hval (x.getD 0) u (fun b' h => by rw [h]; rfl) hbu
          have hsv := hslot _ _ _ hkv
          have hnext : ∀ b W, (∀ b', x = some b' → b = b') → Below w.heap.size w W → wpAnyQ P md (withPtr l j b).toArray (Cls W) (fun a' => a' = A b) fuel (L.setIfInBounds i true) (a.put (some d) v) := by
            intro b W hbb hW
            obtain ⟨v', _, hk'⟩ := hval b W hbb hW
            have hsv' := hslot _ _ _ hk'
            rw [put_same (A := A b) (v := v) (v' := v') (by rw [hAd b (x.getD 0)]; exact hsv) hsv']
            exact hk'
          have hstep : ∀ u', Below w.heap.size w u' → Below u.heap.size u u' → wpAny P md (l ++ [o]).toArray Q (fuel + 1) ((L.setIfInBounds i true).push false) (a.put (some d) v) u' := by
            intro u' hb' huu
            refine ih _ _ u' x (by simpa using hL) hcl' hb' ?_ ?_ hnext
            · rw [getD_set_other hij]; exact hx
            · intro b hbe
              obtain ⟨h1, h2⟩ := hxb b hbe
              exact ⟨h1.below huu, h2⟩
          rw [hset]
          unfold wpOp
          rw [snoc_lt hi2, hy]
          have hyl : yielded (l ++ [o]).toArray a.tmps = yielded (withPtr l j (x.getD 0)).toArray a.tmps := by
            rw [yielded_snoc hd, yielded_dst (fun k => (withPtr_dst l j (x.getD 0) k).symm)]
          simp only [hyl]
          rcases hyv with ⟨hw, hyv⟩ | ⟨hw, rfl⟩
          · simp only [hw, if_true]
            refine Or.inl ?_
            have hqu : y.quiet P a (Cls u) (fun a' => a' = a.put y.dst v) := ⟨v, hyv, rfl⟩
            refine Oper.wp_of_quiet (cls_self u) (fun a' u' hc ha => ?_) hqu
            rw [ha, hyd]
            have hbb := regrown_below hc
            exact hstep u' (bl_call hbu hbb hbu.size) hbb
          · simp only [hw, Bool.false_eq_true, if_false]
            rw [hyd]
            exact hstep u hbu (Below.refl _ _)
      · obtain rfl : i = l.length := by omega
        exact hdone (fuel + 1) L a u x hL hcl hbu hx hxb hG hi (fuel + 1)

/-- The check of a region. -/
def newB (ops : List Oper) : Bool :=
  backB ops.toArray && lastB .any ops.toArray && apartB ops.dropLast && ops.dropLast.all (fun o => o.dst.isSome) && (match ops.getLast? with | some o => o.dst.isNone | none => false)

theorem region_new {id : Nat} {Q : Exit → Act → World → Prop} {a : Act} {w : World} {ops : List Oper} (j : Nat) {oa : Oper} {dj : Tmp} (t : TypeId) (zs : List Value) {A : Nat → Act}
    (hm : P.follows .mixedOrders = true) (hB : newB ops = true) (hlex : ∀ b, Region.lexB .any (withPtr ops.dropLast j b).toArray = true)
    (hoa : ops.dropLast[j]? = some oa) (hdst : oa.dst = some dj) (hg : oa.guard = none)
    (hal : ∀ (e : Operand → Value) (u : World), (execOp e oa).run P u = .ok (.value (.pointer (some ⟨u.heap.size, 0, none⟩))) (u.alloc (.cells zs.toArray t)))
    (h : ∀ b W, Below w.heap.size w W → wpQuiet P (withPtr ops.dropLast j b).toArray (Cls W) (fun a' => a' = A b) (withPtr ops.dropLast j b) a)
    (hA : ∀ b, A b = (A 0).put (some dj) (.pointer (some ⟨b, 0, none⟩)))
    (hend : ∀ b W, Below w.heap.size w W → At W b zs → w.heap.size ≤ b → wpList P ops.toArray Q (ops.drop ops.dropLast.length) (A b) W) : (Code.region id ops.toArray true).wp P Q a w := by
  simp only [newB, Bool.and_eq_true] at hB
  obtain ⟨⟨⟨⟨h1, h2⟩, h3⟩, h3'⟩, h4⟩ := hB
  cases hl : ops.getLast? with
  | none => rw [hl] at h4; simp at h4
  | some o =>
    rw [hl] at h4
    have hd : o.dst = none := by simpa using h4
    have hops : ops = ops.dropLast ++ [o] := by
      obtain ⟨l', rfl⟩ := List.getLast?_eq_some_iff.1 hl
      simp
    generalize hL : ops.dropLast = l at *
    subst hops
    have hdrop : (l ++ [o]).drop l.length = [o] := by simp
    rw [hdrop] at hend
    refine wp_region_any hm ?_
    have e1 : (l ++ [o]).toArray.size = l.length + 1 := by simp
    have e2 : Array.replicate (l.length + 1) false = (Array.replicate l.length false).push false := by
      rw [Array.replicate_succ]
    have hdr : Below w.heap.size w { w with drawn := w.drawn + 1 } := ⟨rfl, rfl, rfl, Nat.le_refl _, fun _ _ => rfl⟩
    rw [e1, e2]
    refine wpAny_new (w := w) (A := A) (zs := zs) (t := t) hd h1 h2 h3 ?_ hoa hdst hg hal hA hend l.length (Array.replicate l.length false) a _ none (by simp) ?_ hdr ?_ (fun b h => by cases h) ?_
    · intro i x hx
      rw [List.all_eq_true] at h3'
      have := h3' x (List.mem_of_getElem? hx)
      exact Option.isSome_iff_exists.1 this
    · intro k x hx hk
      rw [getD_push] at hk
      simp only [Array.getD_eq_getD_getElem?, Array.getElem?_replicate] at hk
      split at hk <;> simp at hk
    · simp only [Array.getD_eq_getD_getElem?, Array.getElem?_replicate]
      split <;> simp
    · intro b W _ hW
      have hx := hlex b
      simp only [Region.lexB, Bool.and_eq_true] at hx
      have := wpAnyQ_lex (P := P) (C := Cls W) (md := .any) hx.1 (withPtr l j b) 0 (Array.replicate (withPtr l j b).toArray.size false) a (by simp) (by simpa using hx.2) (h b W hW)
      simpa [withPtr_len] using this
end
end Go.Proofs.YtlbdcgnhmkjfiajGreatDoor
/- RefBookC -/
namespace Go.Proofs.YtlbdcgnhmkjfiajGreatDoor
open Go.RowKit Go.Sort
set_option linter.unusedVariables false
set_option linter.unusedSimpArgs false
set_option maxRecDepth 100000 in
set_option maxHeartbeats 8000000 in
theorem rdo_exc (B p n m c d dz : Nat) (sz sl : Option Addr) (rx ry S q : Int) (rf : Bool) (X : Int × Int × Bool) (w : World) (hq : (q == 0) = false) (hx : ∀ W, Below w.heap.size w W → Calls Tryz.prog 16 #[.pointer (some ⟨p, 0, none⟩), .slice sz m dz, .slice sl c d] W fun e w' => e = .returned (.tuple #[.agg #[.int .i64 X.1, .int .i64 X.2.1, .bool X.2.2], .int .i64 q]) ∧ Below W.heap.size W w') : Calls Tryz.prog 18 #[.pointer (some ⟨p, 0, none⟩), .agg #[.slice sz m dz, .slice sl c d, .int .i64 rx, .int .i64 ry, .bool rf, .int .i64 S]] w fun e w' => e = .returned (.int .i64 q) ∧ Below w.heap.size w w' := by
  have HX : Hid (∀ W, Below w.heap.size w W → Calls Tryz.prog 16 #[.pointer (some ⟨p, 0, none⟩), .slice sz m dz, .slice sl c d] W fun e w' => e = .returned (.tuple #[.agg #[.int .i64 X.1, .int .i64 X.2.1, .bool X.2.2], .int .i64 q]) ∧ Below W.heap.size W w') := hx
  clear hx
  have m1 : True := trivial
  go_enter Tryz.func18, Tryz.ntmps18
  go_wp2_with (go_at_call 16; clear m1; refine (HX.out _ (by repeat (first | (with_reducible exact Below.refl _ _) | (with_reducible assumption) | (with_reducible refine Below.setCell ?_ (by first | (simp; done) | (simp; omega) | omega) _) | (with_reducible refine Below.alloc ?_ (by first | (simp; done) | (simp; omega) | omega) _) | (refine bl_call ?_ (by assumption) (by first | (simp; done) | (simp; omega) | omega)) | (with_reducible refine bl_drewN ?_) | (with_reducible refine Below.drew ?_) | (with_reducible refine bl_grow ?_ (by first | (simp; done) | (simp; omega) | omega))))).mono ?_; rintro e w1 ⟨rfl, hbw1⟩; have kdw1 : At w1 (w.heap.size) [.slice sz m dz, .slice sl c d, .int .i64 rx, .int .i64 ry, .bool rf, .int .i64 S] := (by repeat (first | (with_reducible assumption) | ((with_reducible refine at_new' _ _ _ _ ?_); (first | rfl | (simp; done))) | (with_reducible refine At.alloc ?_ _) | (with_reducible refine At.drew ?_) | (with_reducible refine At.drewN ?_) | (with_reducible refine At.set ?_ (by omega)) | (with_reducible apply At.store4) | (with_reducible apply At.store3) | (with_reducible apply At.store2) | (with_reducible apply At.put43) | (refine At.below ?_ (by with_reducible assumption)))); have hqw1 : Below w.heap.size w w1 := (by repeat (first | (with_reducible exact Below.refl _ _) | (with_reducible assumption) | (with_reducible refine Below.setCell ?_ (by first | (simp; done) | (simp; omega) | omega) _) | (with_reducible refine Below.alloc ?_ (by first | (simp; done) | (simp; omega) | omega) _) | (refine bl_call ?_ (by assumption) (by first | (simp; done) | (simp; omega) | omega)) | (with_reducible refine bl_drewN ?_) | (with_reducible refine Below.drew ?_) | (with_reducible refine bl_grow ?_ (by first | (simp; done) | (simp; omega) | omega)))); have hzw1 := hqw1.size; obtain ⟨zdw1, cd0w1, cd1w1, cd2w1, cd3w1, cd4w1, cd5w1, fd0w1, fd1w1, fd2w1, fd3w1, fd4w1, fd5w1⟩ := kdw1.six; clear hbw1)
  go_ret
  exact ⟨rfl, by repeat (first | (with_reducible exact Below.refl _ _) | (with_reducible assumption) | (with_reducible refine Below.setCell ?_ (by first | (simp; done) | (simp; omega) | omega) _) | (with_reducible refine Below.alloc ?_ (by first | (simp; done) | (simp; omega) | omega) _) | (refine bl_call ?_ (by assumption) (by first | (simp; done) | (simp; omega) | omega)) | (with_reducible refine bl_drewN ?_) | (with_reducible refine Below.drew ?_) | (with_reducible refine bl_grow ?_ (by first | (simp; done) | (simp; omega) | omega)))⟩
set_option maxRecDepth 100000 in
set_option maxHeartbeats 8000000 in
theorem rdo_full (B p n m c d dz : Nat) (sz sl : Option Addr) (u v : Value) (K : Nat → Nat) (G : Nat → Bool) (x : Nat) (rx ry S : Int) (rf : Bool) (w : World) (hn : n ≤ 1000) (hc : c ≤ 12) (hf : 1000 < n + c) (h : BookAt 25 4 B w p u v n K G) (hx : ∀ W, Below w.heap.size w W → Calls Tryz.prog 16 #[.pointer (some ⟨p, 0, none⟩), .slice sz m dz, .slice sl c d] W fun e w' => e = .returned (.tuple #[.agg #[.int .i64 ((tM (4 * x)).1 : Int), .int .i64 ((tM (4 * x)).2.1 : Int), .bool (tM (4 * x)).2.2], .int .i64 0]) ∧ Below W.heap.size W w') : Calls Tryz.prog 18 #[.pointer (some ⟨p, 0, none⟩), .agg #[.slice sz m dz, .slice sl c d, .int .i64 rx, .int .i64 ry, .bool rf, .int .i64 S]] w fun e w' => e = .returned (.int .i64 4) ∧ Below w.heap.size w w' := by
  have hf1 : (n : Int) + (c : Int) > 1000 := by omega
  obtain ⟨su, cu, sv, cv, rfl, rfl, _⟩ := h.slices
  have HP : Hid (At w p [.slice su n cu, .slice sv n cv]) := h.cells
  have HX : Hid (∀ W, Below w.heap.size w W → Calls Tryz.prog 16 #[.pointer (some ⟨p, 0, none⟩), .slice sz m dz, .slice sl c d] W fun e w' => e = .returned (.tuple #[.agg #[.int .i64 ((tM (4 * x)).1 : Int), .int .i64 ((tM (4 * x)).2.1 : Int), .bool (tM (4 * x)).2.2], .int .i64 0]) ∧ Below W.heap.size W w') := hx
  clear h hx
  have m1 : True := trivial; have m2 : True := trivial; have m3 : True := trivial; have m4 : True := trivial
  go_enter Tryz.func18, Tryz.ntmps18
  go_upto_region 4 with (go_at_call 16; clear m1; refine (HX.out _ (by repeat (first | (with_reducible exact Below.refl _ _) | (with_reducible assumption) | (with_reducible refine Below.setCell ?_ (by first | (simp; done) | (simp; omega) | omega) _) | (with_reducible refine Below.alloc ?_ (by first | (simp; done) | (simp; omega) | omega) _) | (refine bl_call ?_ (by assumption) (by first | (simp; done) | (simp; omega) | omega)) | (with_reducible refine bl_drewN ?_) | (with_reducible refine Below.drew ?_) | (with_reducible refine bl_grow ?_ (by first | (simp; done) | (simp; omega) | omega))))).mono ?_; rintro e w1 ⟨rfl, hbw1⟩; have kdw1 : At w1 (w.heap.size) [.slice sz m dz, .slice sl c d, .int .i64 rx, .int .i64 ry, .bool rf, .int .i64 S] := (by repeat (first | (with_reducible assumption) | ((with_reducible refine at_new' _ _ _ _ ?_); (first | rfl | (simp; done))) | (with_reducible refine At.alloc ?_ _) | (with_reducible refine At.drew ?_) | (with_reducible refine At.drewN ?_) | (with_reducible refine At.set ?_ (by omega)) | (with_reducible apply At.store4) | (with_reducible apply At.store3) | (with_reducible apply At.store2) | (with_reducible apply At.put43) | (refine At.below ?_ (by with_reducible assumption)))); have hqw1 : Below w.heap.size w w1 := (by repeat (first | (with_reducible exact Below.refl _ _) | (with_reducible assumption) | (with_reducible refine Below.setCell ?_ (by first | (simp; done) | (simp; omega) | omega) _) | (with_reducible refine Below.alloc ?_ (by first | (simp; done) | (simp; omega) | omega) _) | (refine bl_call ?_ (by assumption) (by first | (simp; done) | (simp; omega) | omega)) | (with_reducible refine bl_drewN ?_) | (with_reducible refine Below.drew ?_) | (with_reducible refine bl_grow ?_ (by first | (simp; done) | (simp; omega) | omega)))); have hzw1 := hqw1.size; obtain ⟨zdw1, cd0w1, cd1w1, cd2w1, cd3w1, cd4w1, cd5w1, fd0w1, fd1w1, fd2w1, fd3w1, fd4w1, fd5w1⟩ := kdw1.six; clear hbw1)
  refine wp_gen (fun V => At V (w.heap.size) [.slice sz m dz, .slice sl c d, .int .i64 rx, .int .i64 ry, .bool rf, .int .i64 S] ∧ At V (w1.heap.size) [.int .i64 ((tM (4 * x)).1 : Int), .int .i64 ((tM (4 * x)).2.1 : Int), .bool (tM (4 * x)).2.2] ∧ Below w.heap.size w V) ⟨by repeat (first | (with_reducible assumption) | ((with_reducible refine at_new' _ _ _ _ ?_); (first | rfl | (simp; done))) | (with_reducible refine At.alloc ?_ _) | (with_reducible refine At.drew ?_) | (with_reducible refine At.drewN ?_) | (with_reducible refine At.set ?_ (by omega)) | (with_reducible apply At.store4) | (with_reducible apply At.store3) | (with_reducible apply At.store2) | (with_reducible apply At.put43) | (refine At.below ?_ (by with_reducible assumption))), by repeat (first | (with_reducible assumption) | ((with_reducible refine at_new' _ _ _ _ ?_); (first | rfl | (simp; done))) | (with_reducible refine At.alloc ?_ _) | (with_reducible refine At.drew ?_) | (with_reducible refine At.drewN ?_) | (with_reducible refine At.set ?_ (by omega)) | (with_reducible apply At.store4) | (with_reducible apply At.store3) | (with_reducible apply At.store2) | (with_reducible apply At.put43) | (refine At.below ?_ (by with_reducible assumption))), by repeat (first | (with_reducible exact Below.refl _ _) | (with_reducible assumption) | (with_reducible refine Below.setCell ?_ (by first | (simp; done) | (simp; omega) | omega) _) | (with_reducible refine Below.alloc ?_ (by first | (simp; done) | (simp; omega) | omega) _) | (refine bl_call ?_ (by assumption) (by first | (simp; done) | (simp; omega) | omega)) | (with_reducible refine bl_drewN ?_) | (with_reducible refine Below.drew ?_) | (with_reducible refine bl_grow ?_ (by first | (simp; done) | (simp; omega) | omega)))⟩ ?_
  rintro V ⟨kdV, kxV, hqV⟩
  have hzV := hqV.size
  clear kdw1 cd0w1 fd0w1 cd1w1 fd1w1 cd2w1 fd2w1 cd3w1 fd3w1 cd4w1 fd4w1 cd5w1 fd5w1 hqw1
  obtain ⟨zdV, cd0V, cd1V, cd2V, cd3V, cd4V, cd5V, fd0V, fd1V, fd2V, fd3V, fd4V, fd5V⟩ := kdV.six
  obtain ⟨zxV, cx0V, cx1V, cx2V, fx0V, fx1V, fx2V⟩ := kxV.three
  have kpV := HP.out.below hqV
  obtain ⟨zpV, cp0V, cp1V, fp0V, fp1V⟩ := kpV.two
  refine wp_region_quiet_below (by kernel_rfl) (by kernel_rfl) ?_
  repeat (go_big_quiet_step (first | fail))
  refine wpQuiet_nil ?_
  intro U hw1
  have hrU := regrown_below hw1
  clear hw1
  have kdU := kdV.below hrU
  have kxU := kxV.below hrU
  have kpU := kpV.below hrU
  have hqU := bl_call hqV hrU (by omega)
  have hzU := hqU.size
  clear hrU kdV cd0V fd0V cd1V fd1V cd2V fd2V cd3V fd3V cd4V fd4V cd5V fd5V kxV cx0V fx0V cx1V fx1V cx2V fx2V kpV cp0V fp0V cp1V fp1V hqV
  obtain ⟨zdU, cd0U, cd1U, cd2U, cd3U, cd4U, cd5U, fd0U, fd1U, fd2U, fd3U, fd4U, fd5U⟩ := kdU.six
  obtain ⟨zxU, cx0U, cx1U, cx2U, fx0U, fx1U, fx2U⟩ := kxU.three
  obtain ⟨zpU, cp0U, cp1U, fp0U, fp1U⟩ := kpU.two
  go_wp2_with fail
  go_ret
  exact ⟨rfl, by repeat (first | (with_reducible exact Below.refl _ _) | (with_reducible assumption) | (with_reducible refine Below.setCell ?_ (by first | (simp; done) | (simp; omega) | omega) _) | (with_reducible refine Below.alloc ?_ (by first | (simp; done) | (simp; omega) | omega) _) | (refine bl_call ?_ (by assumption) (by first | (simp; done) | (simp; omega) | omega)) | (with_reducible refine bl_drewN ?_) | (with_reducible refine Below.drew ?_) | (with_reducible refine bl_grow ?_ (by first | (simp; done) | (simp; omega) | omega)))⟩
set_option maxRecDepth 100000 in
set_option maxHeartbeats 8000000 in
theorem rdo_rest (B p n m c d dz : Nat) (sz sl : Option Addr) (u v : Value) (K : Nat → Nat) (G : Nat → Bool) (x : Nat) (rx ry S : Int) (rf : Bool) (w : World) (hn : n ≤ 1000) (hc : c ≤ 12) (hf : n + c ≤ 1000) (h : BookAt 25 4 B w p u v n K G) (hx : ∀ W, Below w.heap.size w W → Calls Tryz.prog 16 #[.pointer (some ⟨p, 0, none⟩), .slice sz m dz, .slice sl c d] W fun e w' => e = .returned (.tuple #[.agg #[.int .i64 ((tM (4 * x)).1 : Int), .int .i64 ((tM (4 * x)).2.1 : Int), .bool (tM (4 * x)).2.2], .int .i64 0]) ∧ Below W.heap.size W w') (hs : ∀ w, Calls Tryz.prog 8 #[.int .i64 S] w fun e w' => e = .returned (.bool false) ∧ Below w.heap.size w w') : Calls Tryz.prog 18 #[.pointer (some ⟨p, 0, none⟩), .agg #[.slice sz m dz, .slice sl c d, .int .i64 rx, .int .i64 ry, .bool rf, .int .i64 S]] w fun e w' => e = .returned (.int .i64 1) ∧ Below w.heap.size w w' := by
  have hf1 : ¬ (n : Int) + (c : Int) > 1000 := by omega
  have HS : Hid (∀ w, Calls Tryz.prog 8 #[.int .i64 S] w fun e w' => e = .returned (.bool false) ∧ Below w.heap.size w w') := hs
  clear hs
  obtain ⟨su, cu, sv, cv, rfl, rfl, _⟩ := h.slices
  have HP : Hid (At w p [.slice su n cu, .slice sv n cv]) := h.cells
  have HX : Hid (∀ W, Below w.heap.size w W → Calls Tryz.prog 16 #[.pointer (some ⟨p, 0, none⟩), .slice sz m dz, .slice sl c d] W fun e w' => e = .returned (.tuple #[.agg #[.int .i64 ((tM (4 * x)).1 : Int), .int .i64 ((tM (4 * x)).2.1 : Int), .bool (tM (4 * x)).2.2], .int .i64 0]) ∧ Below W.heap.size W w') := hx
  clear h hx
  have m1 : True := trivial; have m2 : True := trivial; have m3 : True := trivial; have m4 : True := trivial
  go_enter Tryz.func18, Tryz.ntmps18
  go_upto_region 4 with (go_at_call 16; clear m1; refine (HX.out _ (by repeat (first | (with_reducible exact Below.refl _ _) | (with_reducible assumption) | (with_reducible refine Below.setCell ?_ (by first | (simp; done) | (simp; omega) | omega) _) | (with_reducible refine Below.alloc ?_ (by first | (simp; done) | (simp; omega) | omega) _) | (refine bl_call ?_ (by assumption) (by first | (simp; done) | (simp; omega) | omega)) | (with_reducible refine bl_drewN ?_) | (with_reducible refine Below.drew ?_) | (with_reducible refine bl_grow ?_ (by first | (simp; done) | (simp; omega) | omega))))).mono ?_; rintro e w1 ⟨rfl, hbw1⟩; have kdw1 : At w1 (w.heap.size) [.slice sz m dz, .slice sl c d, .int .i64 rx, .int .i64 ry, .bool rf, .int .i64 S] := (by repeat (first | (with_reducible assumption) | ((with_reducible refine at_new' _ _ _ _ ?_); (first | rfl | (simp; done))) | (with_reducible refine At.alloc ?_ _) | (with_reducible refine At.drew ?_) | (with_reducible refine At.drewN ?_) | (with_reducible refine At.set ?_ (by omega)) | (with_reducible apply At.store4) | (with_reducible apply At.store3) | (with_reducible apply At.store2) | (with_reducible apply At.put43) | (refine At.below ?_ (by with_reducible assumption)))); have hqw1 : Below w.heap.size w w1 := (by repeat (first | (with_reducible exact Below.refl _ _) | (with_reducible assumption) | (with_reducible refine Below.setCell ?_ (by first | (simp; done) | (simp; omega) | omega) _) | (with_reducible refine Below.alloc ?_ (by first | (simp; done) | (simp; omega) | omega) _) | (refine bl_call ?_ (by assumption) (by first | (simp; done) | (simp; omega) | omega)) | (with_reducible refine bl_drewN ?_) | (with_reducible refine Below.drew ?_) | (with_reducible refine bl_grow ?_ (by first | (simp; done) | (simp; omega) | omega)))); have hzw1 := hqw1.size; obtain ⟨zdw1, cd0w1, cd1w1, cd2w1, cd3w1, cd4w1, cd5w1, fd0w1, fd1w1, fd2w1, fd3w1, fd4w1, fd5w1⟩ := kdw1.six; clear hbw1)
  refine wp_gen (fun V => At V (w.heap.size) [.slice sz m dz, .slice sl c d, .int .i64 rx, .int .i64 ry, .bool rf, .int .i64 S] ∧ At V (w1.heap.size) [.int .i64 ((tM (4 * x)).1 : Int), .int .i64 ((tM (4 * x)).2.1 : Int), .bool (tM (4 * x)).2.2] ∧ Below w.heap.size w V) ⟨by repeat (first | (with_reducible assumption) | ((with_reducible refine at_new' _ _ _ _ ?_); (first | rfl | (simp; done))) | (with_reducible refine At.alloc ?_ _) | (with_reducible refine At.drew ?_) | (with_reducible refine At.drewN ?_) | (with_reducible refine At.set ?_ (by omega)) | (with_reducible apply At.store4) | (with_reducible apply At.store3) | (with_reducible apply At.store2) | (with_reducible apply At.put43) | (refine At.below ?_ (by with_reducible assumption))), by repeat (first | (with_reducible assumption) | ((with_reducible refine at_new' _ _ _ _ ?_); (first | rfl | (simp; done))) | (with_reducible refine At.alloc ?_ _) | (with_reducible refine At.drew ?_) | (with_reducible refine At.drewN ?_) | (with_reducible refine At.set ?_ (by omega)) | (with_reducible apply At.store4) | (with_reducible apply At.store3) | (with_reducible apply At.store2) | (with_reducible apply At.put43) | (refine At.below ?_ (by with_reducible assumption))), by repeat (first | (with_reducible exact Below.refl _ _) | (with_reducible assumption) | (with_reducible refine Below.setCell ?_ (by first | (simp; done) | (simp; omega) | omega) _) | (with_reducible refine Below.alloc ?_ (by first | (simp; done) | (simp; omega) | omega) _) | (refine bl_call ?_ (by assumption) (by first | (simp; done) | (simp; omega) | omega)) | (with_reducible refine bl_drewN ?_) | (with_reducible refine Below.drew ?_) | (with_reducible refine bl_grow ?_ (by first | (simp; done) | (simp; omega) | omega)))⟩ ?_
  rintro V ⟨kdV, kxV, hqV⟩
  have hzV := hqV.size
  clear kdw1 cd0w1 fd0w1 cd1w1 fd1w1 cd2w1 fd2w1 cd3w1 fd3w1 cd4w1 fd4w1 cd5w1 fd5w1 hqw1
  obtain ⟨zdV, cd0V, cd1V, cd2V, cd3V, cd4V, cd5V, fd0V, fd1V, fd2V, fd3V, fd4V, fd5V⟩ := kdV.six
  obtain ⟨zxV, cx0V, cx1V, cx2V, fx0V, fx1V, fx2V⟩ := kxV.three
  have kpV := HP.out.below hqV
  obtain ⟨zpV, cp0V, cp1V, fp0V, fp1V⟩ := kpV.two
  refine wp_region_quiet_below (by kernel_rfl) (by kernel_rfl) ?_
  repeat (go_big_quiet_step (first | fail))
  refine wpQuiet_nil ?_
  intro U hw1
  have hrU := regrown_below hw1
  clear hw1
  have kdU := kdV.below hrU
  have kxU := kxV.below hrU
  have kpU := kpV.below hrU
  have hqU := bl_call hqV hrU (by omega)
  have hzU := hqU.size
  clear hrU kdV cd0V fd0V cd1V fd1V cd2V fd2V cd3V fd3V cd4V fd4V cd5V fd5V kxV cx0V fx0V cx1V fx1V cx2V fx2V kpV cp0V fp0V cp1V fp1V hqV
  obtain ⟨zdU, cd0U, cd1U, cd2U, cd3U, cd4U, cd5U, fd0U, fd1U, fd2U, fd3U, fd4U, fd5U⟩ := kdU.six
  obtain ⟨zxU, cx0U, cx1U, cx2U, fx0U, fx1U, fx2U⟩ := kxU.three
  obtain ⟨zpU, cp0U, cp1U, fp0U, fp1U⟩ := kpU.two
  go_wp2_with (go_at_call 8; clear m2; refine (HS.out _).mono ?_; rintro e w2 ⟨rfl, hbw2⟩; have kdw2 : At w2 (w.heap.size) [.slice sz m dz, .slice sl c d, .int .i64 rx, .int .i64 ry, .bool rf, .int .i64 S] := (by repeat (first | (with_reducible assumption) | ((with_reducible refine at_new' _ _ _ _ ?_); (first | rfl | (simp; done))) | (with_reducible refine At.alloc ?_ _) | (with_reducible refine At.drew ?_) | (with_reducible refine At.drewN ?_) | (with_reducible refine At.set ?_ (by omega)) | (with_reducible apply At.store4) | (with_reducible apply At.store3) | (with_reducible apply At.store2) | (with_reducible apply At.put43) | (refine At.below ?_ (by with_reducible assumption)))); have kxw2 : At w2 (w1.heap.size) [.int .i64 ((tM (4 * x)).1 : Int), .int .i64 ((tM (4 * x)).2.1 : Int), .bool (tM (4 * x)).2.2] := (by repeat (first | (with_reducible assumption) | ((with_reducible refine at_new' _ _ _ _ ?_); (first | rfl | (simp; done))) | (with_reducible refine At.alloc ?_ _) | (with_reducible refine At.drew ?_) | (with_reducible refine At.drewN ?_) | (with_reducible refine At.set ?_ (by omega)) | (with_reducible apply At.store4) | (with_reducible apply At.store3) | (with_reducible apply At.store2) | (with_reducible apply At.put43) | (refine At.below ?_ (by with_reducible assumption)))); have kpw2 : At w2 (p) [.slice su n cu, .slice sv n cv] := (by repeat (first | (with_reducible assumption) | ((with_reducible refine at_new' _ _ _ _ ?_); (first | rfl | (simp; done))) | (with_reducible refine At.alloc ?_ _) | (with_reducible refine At.drew ?_) | (with_reducible refine At.drewN ?_) | (with_reducible refine At.set ?_ (by omega)) | (with_reducible apply At.store4) | (with_reducible apply At.store3) | (with_reducible apply At.store2) | (with_reducible apply At.put43) | (refine At.below ?_ (by with_reducible assumption)))); have hqw2 : Below w.heap.size w w2 := (by repeat (first | (with_reducible exact Below.refl _ _) | (with_reducible assumption) | (with_reducible refine Below.setCell ?_ (by first | (simp; done) | (simp; omega) | omega) _) | (with_reducible refine Below.alloc ?_ (by first | (simp; done) | (simp; omega) | omega) _) | (refine bl_call ?_ (by assumption) (by first | (simp; done) | (simp; omega) | omega)) | (with_reducible refine bl_drewN ?_) | (with_reducible refine Below.drew ?_) | (with_reducible refine bl_grow ?_ (by first | (simp; done) | (simp; omega) | omega)))); have hzw2 := hqw2.size; obtain ⟨zdw2, cd0w2, cd1w2, cd2w2, cd3w2, cd4w2, cd5w2, fd0w2, fd1w2, fd2w2, fd3w2, fd4w2, fd5w2⟩ := kdw2.six; obtain ⟨zxw2, cx0w2, cx1w2, cx2w2, fx0w2, fx1w2, fx2w2⟩ := kxw2.three; obtain ⟨zpw2, cp0w2, cp1w2, fp0w2, fp1w2⟩ := kpw2.two; clear kdU cd0U fd0U cd1U fd1U cd2U fd2U cd3U fd3U cd4U fd4U cd5U fd5U kxU cx0U fx0U cx1U fx1U cx2U fx2U kpU cp0U fp0U cp1U fp1U hqU; clear hbw2)
  go_ret
  exact ⟨rfl, by repeat (first | (with_reducible exact Below.refl _ _) | (with_reducible assumption) | (with_reducible refine Below.setCell ?_ (by first | (simp; done) | (simp; omega) | omega) _) | (with_reducible refine Below.alloc ?_ (by first | (simp; done) | (simp; omega) | omega) _) | (refine bl_call ?_ (by assumption) (by first | (simp; done) | (simp; omega) | omega)) | (with_reducible refine bl_drewN ?_) | (with_reducible refine Below.drew ?_) | (with_reducible refine bl_grow ?_ (by first | (simp; done) | (simp; omega) | omega)))⟩
set_option maxRecDepth 100000 in
set_option maxHeartbeats 8000000 in
theorem rdo_spot (B p n m c d dz : Nat) (sz sl : Option Addr) (u v : Value) (K : Nat → Nat) (G : Nat → Bool) (x : Nat) (rx ry S q : Int) (rf : Bool) (w : World) (hn : n ≤ 1000) (hc : c ≤ 12) (hf : n + c ≤ 1000) (h : BookAt 25 4 B w p u v n K G) (hx : ∀ W, Below w.heap.size w W → Calls Tryz.prog 16 #[.pointer (some ⟨p, 0, none⟩), .slice sz m dz, .slice sl c d] W fun e w' => e = .returned (.tuple #[.agg #[.int .i64 ((tM (4 * x)).1 : Int), .int .i64 ((tM (4 * x)).2.1 : Int), .bool (tM (4 * x)).2.2], .int .i64 0]) ∧ Below W.heap.size W w') (hs : ∀ w, Calls Tryz.prog 8 #[.int .i64 S] w fun e w' => e = .returned (.bool true) ∧ Below w.heap.size w w') (hq : (q == 0) = false) (hp : ∀ w, Calls Tryz.prog 4 #[.agg #[.int .i64 rx, .int .i64 ry, .bool rf]] w fun e w' => e = .returned (.int .i64 q) ∧ Below w.heap.size w w') : Calls Tryz.prog 18 #[.pointer (some ⟨p, 0, none⟩), .agg #[.slice sz m dz, .slice sl c d, .int .i64 rx, .int .i64 ry, .bool rf, .int .i64 S]] w fun e w' => e = .returned (.int .i64 q) ∧ Below w.heap.size w w' := by
  have hf1 : ¬ (n : Int) + (c : Int) > 1000 := by omega
  have HS : Hid (∀ w, Calls Tryz.prog 8 #[.int .i64 S] w fun e w' => e = .returned (.bool true) ∧ Below w.heap.size w w') := hs
  have HSP : Hid (∀ w, Calls Tryz.prog 4 #[.agg #[.int .i64 rx, .int .i64 ry, .bool rf]] w fun e w' => e = .returned (.int .i64 q) ∧ Below w.heap.size w w') := hp
  clear hs hp
  obtain ⟨su, cu, sv, cv, rfl, rfl, _⟩ := h.slices
  have HP : Hid (At w p [.slice su n cu, .slice sv n cv]) := h.cells
  have HX : Hid (∀ W, Below w.heap.size w W → Calls Tryz.prog 16 #[.pointer (some ⟨p, 0, none⟩), .slice sz m dz, .slice sl c d] W fun e w' => e = .returned (.tuple #[.agg #[.int .i64 ((tM (4 * x)).1 : Int), .int .i64 ((tM (4 * x)).2.1 : Int), .bool (tM (4 * x)).2.2], .int .i64 0]) ∧ Below W.heap.size W w') := hx
  clear h hx
  have m1 : True := trivial; have m2 : True := trivial; have m3 : True := trivial; have m4 : True := trivial
  go_enter Tryz.func18, Tryz.ntmps18
  go_upto_region 4 with (go_at_call 16; clear m1; refine (HX.out _ (by repeat (first | (with_reducible exact Below.refl _ _) | (with_reducible assumption) | (with_reducible refine Below.setCell ?_ (by first | (simp; done) | (simp; omega) | omega) _) | (with_reducible refine Below.alloc ?_ (by first | (simp; done) | (simp; omega) | omega) _) | (refine bl_call ?_ (by assumption) (by first | (simp; done) | (simp; omega) | omega)) | (with_reducible refine bl_drewN ?_) | (with_reducible refine Below.drew ?_) | (with_reducible refine bl_grow ?_ (by first | (simp; done) | (simp; omega) | omega))))).mono ?_; rintro e w1 ⟨rfl, hbw1⟩; have kdw1 : At w1 (w.heap.size) [.slice sz m dz, .slice sl c d, .int .i64 rx, .int .i64 ry, .bool rf, .int .i64 S] := (by repeat (first | (with_reducible assumption) | ((with_reducible refine at_new' _ _ _ _ ?_); (first | rfl | (simp; done))) | (with_reducible refine At.alloc ?_ _) | (with_reducible refine At.drew ?_) | (with_reducible refine At.drewN ?_) | (with_reducible refine At.set ?_ (by omega)) | (with_reducible apply At.store4) | (with_reducible apply At.store3) | (with_reducible apply At.store2) | (with_reducible apply At.put43) | (refine At.below ?_ (by with_reducible assumption)))); have hqw1 : Below w.heap.size w w1 := (by repeat (first | (with_reducible exact Below.refl _ _) | (with_reducible assumption) | (with_reducible refine Below.setCell ?_ (by first | (simp; done) | (simp; omega) | omega) _) | (with_reducible refine Below.alloc ?_ (by first | (simp; done) | (simp; omega) | omega) _) | (refine bl_call ?_ (by assumption) (by first | (simp; done) | (simp; omega) | omega)) | (with_reducible refine bl_drewN ?_) | (with_reducible refine Below.drew ?_) | (with_reducible refine bl_grow ?_ (by first | (simp; done) | (simp; omega) | omega)))); have hzw1 := hqw1.size; obtain ⟨zdw1, cd0w1, cd1w1, cd2w1, cd3w1, cd4w1, cd5w1, fd0w1, fd1w1, fd2w1, fd3w1, fd4w1, fd5w1⟩ := kdw1.six; clear hbw1)
  refine wp_gen (fun V => At V (w.heap.size) [.slice sz m dz, .slice sl c d, .int .i64 rx, .int .i64 ry, .bool rf, .int .i64 S] ∧ At V (w1.heap.size) [.int .i64 ((tM (4 * x)).1 : Int), .int .i64 ((tM (4 * x)).2.1 : Int), .bool (tM (4 * x)).2.2] ∧ Below w.heap.size w V) ⟨by repeat (first | (with_reducible assumption) | ((with_reducible refine at_new' _ _ _ _ ?_); (first | rfl | (simp; done))) | (with_reducible refine At.alloc ?_ _) | (with_reducible refine At.drew ?_) | (with_reducible refine At.drewN ?_) | (with_reducible refine At.set ?_ (by omega)) | (with_reducible apply At.store4) | (with_reducible apply At.store3) | (with_reducible apply At.store2) | (with_reducible apply At.put43) | (refine At.below ?_ (by with_reducible assumption))), by repeat (first | (with_reducible assumption) | ((with_reducible refine at_new' _ _ _ _ ?_); (first | rfl | (simp; done))) | (with_reducible refine At.alloc ?_ _) | (with_reducible refine At.drew ?_) | (with_reducible refine At.drewN ?_) | (with_reducible refine At.set ?_ (by omega)) | (with_reducible apply At.store4) | (with_reducible apply At.store3) | (with_reducible apply At.store2) | (with_reducible apply At.put43) | (refine At.below ?_ (by with_reducible assumption))), by repeat (first | (with_reducible exact Below.refl _ _) | (with_reducible assumption) | (with_reducible refine Below.setCell ?_ (by first | (simp; done) | (simp; omega) | omega) _) | (with_reducible refine Below.alloc ?_ (by first | (simp; done) | (simp; omega) | omega) _) | (refine bl_call ?_ (by assumption) (by first | (simp; done) | (simp; omega) | omega)) | (with_reducible refine bl_drewN ?_) | (with_reducible refine Below.drew ?_) | (with_reducible refine bl_grow ?_ (by first | (simp; done) | (simp; omega) | omega)))⟩ ?_
  rintro V ⟨kdV, kxV, hqV⟩
  have hzV := hqV.size
  clear kdw1 cd0w1 fd0w1 cd1w1 fd1w1 cd2w1 fd2w1 cd3w1 fd3w1 cd4w1 fd4w1 cd5w1 fd5w1 hqw1
  obtain ⟨zdV, cd0V, cd1V, cd2V, cd3V, cd4V, cd5V, fd0V, fd1V, fd2V, fd3V, fd4V, fd5V⟩ := kdV.six
  obtain ⟨zxV, cx0V, cx1V, cx2V, fx0V, fx1V, fx2V⟩ := kxV.three
  have kpV := HP.out.below hqV
  obtain ⟨zpV, cp0V, cp1V, fp0V, fp1V⟩ := kpV.two
  refine wp_region_quiet_below (by kernel_rfl) (by kernel_rfl) ?_
  repeat (go_big_quiet_step (first | fail))
  refine wpQuiet_nil ?_
  intro U hw1
  have hrU := regrown_below hw1
  clear hw1
  have kdU := kdV.below hrU
  have kxU := kxV.below hrU
  have kpU := kpV.below hrU
  have hqU := bl_call hqV hrU (by omega)
  have hzU := hqU.size
  clear hrU kdV cd0V fd0V cd1V fd1V cd2V fd2V cd3V fd3V cd4V fd4V cd5V fd5V kxV cx0V fx0V cx1V fx1V cx2V fx2V kpV cp0V fp0V cp1V fp1V hqV
  obtain ⟨zdU, cd0U, cd1U, cd2U, cd3U, cd4U, cd5U, fd0U, fd1U, fd2U, fd3U, fd4U, fd5U⟩ := kdU.six
  obtain ⟨zxU, cx0U, cx1U, cx2U, fx0U, fx1U, fx2U⟩ := kxU.three
  obtain ⟨zpU, cp0U, cp1U, fp0U, fp1U⟩ := kpU.two
  go_wp2_with (first | (go_at_call 8; clear m2; refine (HS.out _).mono ?_; rintro e w2 ⟨rfl, hbw2⟩; have kdw2 : At w2 (w.heap.size) [.slice sz m dz, .slice sl c d, .int .i64 rx, .int .i64 ry, .bool rf, .int .i64 S] := (by repeat (first | (with_reducible assumption) | ((with_reducible refine at_new' _ _ _ _ ?_); (first | rfl | (simp; done))) | (with_reducible refine At.alloc ?_ _) | (with_reducible refine At.drew ?_) | (with_reducible refine At.drewN ?_) | (with_reducible refine At.set ?_ (by omega)) | (with_reducible apply At.store4) | (with_reducible apply At.store3) | (with_reducible apply At.store2) | (with_reducible apply At.put43) | (refine At.below ?_ (by with_reducible assumption)))); have kxw2 : At w2 (w1.heap.size) [.int .i64 ((tM (4 * x)).1 : Int), .int .i64 ((tM (4 * x)).2.1 : Int), .bool (tM (4 * x)).2.2] := (by repeat (first | (with_reducible assumption) | ((with_reducible refine at_new' _ _ _ _ ?_); (first | rfl | (simp; done))) | (with_reducible refine At.alloc ?_ _) | (with_reducible refine At.drew ?_) | (with_reducible refine At.drewN ?_) | (with_reducible refine At.set ?_ (by omega)) | (with_reducible apply At.store4) | (with_reducible apply At.store3) | (with_reducible apply At.store2) | (with_reducible apply At.put43) | (refine At.below ?_ (by with_reducible assumption)))); have kpw2 : At w2 (p) [.slice su n cu, .slice sv n cv] := (by repeat (first | (with_reducible assumption) | ((with_reducible refine at_new' _ _ _ _ ?_); (first | rfl | (simp; done))) | (with_reducible refine At.alloc ?_ _) | (with_reducible refine At.drew ?_) | (with_reducible refine At.drewN ?_) | (with_reducible refine At.set ?_ (by omega)) | (with_reducible apply At.store4) | (with_reducible apply At.store3) | (with_reducible apply At.store2) | (with_reducible apply At.put43) | (refine At.below ?_ (by with_reducible assumption)))); have hqw2 : Below w.heap.size w w2 := (by repeat (first | (with_reducible exact Below.refl _ _) | (with_reducible assumption) | (with_reducible refine Below.setCell ?_ (by first | (simp; done) | (simp; omega) | omega) _) | (with_reducible refine Below.alloc ?_ (by first | (simp; done) | (simp; omega) | omega) _) | (refine bl_call ?_ (by assumption) (by first | (simp; done) | (simp; omega) | omega)) | (with_reducible refine bl_drewN ?_) | (with_reducible refine Below.drew ?_) | (with_reducible refine bl_grow ?_ (by first | (simp; done) | (simp; omega) | omega)))); have hzw2 := hqw2.size; obtain ⟨zdw2, cd0w2, cd1w2, cd2w2, cd3w2, cd4w2, cd5w2, fd0w2, fd1w2, fd2w2, fd3w2, fd4w2, fd5w2⟩ := kdw2.six; obtain ⟨zxw2, cx0w2, cx1w2, cx2w2, fx0w2, fx1w2, fx2w2⟩ := kxw2.three; obtain ⟨zpw2, cp0w2, cp1w2, fp0w2, fp1w2⟩ := kpw2.two; clear kdU cd0U fd0U cd1U fd1U cd2U fd2U cd3U fd3U cd4U fd4U cd5U fd5U kxU cx0U fx0U cx1U fx1U cx2U fx2U kpU cp0U fp0U cp1U fp1U hqU; clear hbw2) | (go_at_call 4; clear m3; refine (HSP.out _).mono ?_; rintro e w3 ⟨rfl, hbw3⟩; have kdw3 : At w3 (w.heap.size) [.slice sz m dz, .slice sl c d, .int .i64 rx, .int .i64 ry, .bool rf, .int .i64 S] := (by repeat (first | (with_reducible assumption) | ((with_reducible refine at_new' _ _ _ _ ?_); (first | rfl | (simp; done))) | (with_reducible refine At.alloc ?_ _) | (with_reducible refine At.drew ?_) | (with_reducible refine At.drewN ?_) | (with_reducible refine At.set ?_ (by omega)) | (with_reducible apply At.store4) | (with_reducible apply At.store3) | (with_reducible apply At.store2) | (with_reducible apply At.put43) | (refine At.below ?_ (by with_reducible assumption)))); have kxw3 : At w3 (w1.heap.size) [.int .i64 ((tM (4 * x)).1 : Int), .int .i64 ((tM (4 * x)).2.1 : Int), .bool (tM (4 * x)).2.2] := (by repeat (first | (with_reducible assumption) | ((with_reducible refine at_new' _ _ _ _ ?_); (first | rfl | (simp; done))) | (with_reducible refine At.alloc ?_ _) | (with_reducible refine At.drew ?_) | (with_reducible refine At.drewN ?_) | (with_reducible refine At.set ?_ (by omega)) | (with_reducible apply At.store4) | (with_reducible apply At.store3) | (with_reducible apply At.store2) | (with_reducible apply At.put43) | (refine At.below ?_ (by with_reducible assumption)))); have kpw3 : At w3 (p) [.slice su n cu, .slice sv n cv] := (by repeat (first | (with_reducible assumption) | ((with_reducible refine at_new' _ _ _ _ ?_); (first | rfl | (simp; done))) | (with_reducible refine At.alloc ?_ _) | (with_reducible refine At.drew ?_) | (with_reducible refine At.drewN ?_) | (with_reducible refine At.set ?_ (by omega)) | (with_reducible apply At.store4) | (with_reducible apply At.store3) | (with_reducible apply At.store2) | (with_reducible apply At.put43) | (refine At.below ?_ (by with_reducible assumption)))); have hqw3 : Below w.heap.size w w3 := (by repeat (first | (with_reducible exact Below.refl _ _) | (with_reducible assumption) | (with_reducible refine Below.setCell ?_ (by first | (simp; done) | (simp; omega) | omega) _) | (with_reducible refine Below.alloc ?_ (by first | (simp; done) | (simp; omega) | omega) _) | (refine bl_call ?_ (by assumption) (by first | (simp; done) | (simp; omega) | omega)) | (with_reducible refine bl_drewN ?_) | (with_reducible refine Below.drew ?_) | (with_reducible refine bl_grow ?_ (by first | (simp; done) | (simp; omega) | omega)))); have hzw3 := hqw3.size; obtain ⟨zdw3, cd0w3, cd1w3, cd2w3, cd3w3, cd4w3, cd5w3, fd0w3, fd1w3, fd2w3, fd3w3, fd4w3, fd5w3⟩ := kdw3.six; obtain ⟨zxw3, cx0w3, cx1w3, cx2w3, fx0w3, fx1w3, fx2w3⟩ := kxw3.three; obtain ⟨zpw3, cp0w3, cp1w3, fp0w3, fp1w3⟩ := kpw3.two; clear kdw2 cd0w2 fd0w2 cd1w2 fd1w2 cd2w2 fd2w2 cd3w2 fd3w2 cd4w2 fd4w2 cd5w2 fd5w2 kxw2 cx0w2 fx0w2 cx1w2 fx1w2 cx2w2 fx2w2 kpw2 cp0w2 fp0w2 cp1w2 fp1w2 hqw2; clear hbw3))
  go_ret
  exact ⟨rfl, by repeat (first | (with_reducible exact Below.refl _ _) | (with_reducible assumption) | (with_reducible refine Below.setCell ?_ (by first | (simp; done) | (simp; omega) | omega) _) | (with_reducible refine Below.alloc ?_ (by first | (simp; done) | (simp; omega) | omega) _) | (refine bl_call ?_ (by assumption) (by first | (simp; done) | (simp; omega) | omega)) | (with_reducible refine bl_drewN ?_) | (with_reducible refine Below.drew ?_) | (with_reducible refine bl_grow ?_ (by first | (simp; done) | (simp; omega) | omega)))⟩
set_option maxRecDepth 100000 in
set_option maxHeartbeats 8000000 in
theorem rdo_wrong (B p n m c d dz : Nat) (sz sl : Option Addr) (u v : Value) (K : Nat → Nat) (G : Nat → Bool) (x a s b : Nat) (H L T R : Sn) (t1 t2 t3 : Bool) (w : World) (hn : n ≤ 1000) (hc : c ≤ 12) (hf : n + c ≤ 1000) (h : BookAt 25 4 B w p u v n K G) (hx : ∀ W, Below w.heap.size w W → Calls Tryz.prog 16 #[.pointer (some ⟨p, 0, none⟩), .slice sz m dz, .slice sl c d] W fun e w' => e = .returned (.tuple #[.agg #[.int .i64 ((tM (4 * x)).1 : Int), .int .i64 ((tM (4 * x)).2.1 : Int), .bool (tM (4 * x)).2.2], .int .i64 0]) ∧ Below W.heap.size W w') (hrs : ∀ w, Calls Tryz.prog 8 #[.int .i64 (s : Int)] w fun e w' => e = .returned (.bool true) ∧ Below w.heap.size w w') (hsp : ∀ w, Calls Tryz.prog 4 #[.agg #[.int .i64 ((tM a).1 : Int), .int .i64 ((tM a).2.1 : Int), .bool (tM a).2.2]] w fun e w' => e = .returned (.int .i64 0) ∧ Below w.heap.size w w') (hba : ∀ w, Calls Tryz.prog 5 #[.agg #[.int .i64 ((tM a).1 : Int), .int .i64 ((tM a).2.1 : Int), .bool (tM a).2.2], .agg #[.int .i64 ((tM (4 * x)).1 : Int), .int .i64 ((tM (4 * x)).2.1 : Int), .bool (tM (4 * x)).2.2]] w fun e w' => e = .returned (.int .i64 (b : Int)) ∧ Below w.heap.size w w') (hse : ∀ w, Calls Tryz.prog 11 #[] w fun e w' => e = .returned (.agg #[.int .i64 ((H).1 : Int), .int .i64 ((H).2.1 : Int), .bool (H).2.2]) ∧ Below w.heap.size w w') (htl : ∀ w, Calls Tryz.prog 10 #[.agg #[.int .i64 ((H).1 : Int), .int .i64 ((H).2.1 : Int), .bool (H).2.2], .int .i64 (s : Int)] w fun e w' => e = .returned (.agg #[.int .i64 ((L).1 : Int), .int .i64 ((L).2.1 : Int), .bool (L).2.2]) ∧ Below w.heap.size w w') (htx : ∀ w, Calls Tryz.prog 10 #[.agg #[.int .i64 ((tM (4 * x)).1 : Int), .int .i64 ((tM (4 * x)).2.1 : Int), .bool (tM (4 * x)).2.2], .int .i64 (b : Int)] w fun e w' => e = .returned (.agg #[.int .i64 ((T).1 : Int), .int .i64 ((T).2.1 : Int), .bool (T).2.2]) ∧ Below w.heap.size w w') (had : ∀ w, Calls Tryz.prog 33 #[.agg #[.int .i64 ((tM a).1 : Int), .int .i64 ((tM a).2.1 : Int), .bool (tM a).2.2], .agg #[.int .i64 ((T).1 : Int), .int .i64 ((T).2.1 : Int), .bool (T).2.2]] w fun e w' => e = .returned (.agg #[.int .i64 ((R).1 : Int), .int .i64 ((R).2.1 : Int), .bool (R).2.2]) ∧ Below w.heap.size w w') (e1 : ((L.1 : Int) == (R.1 : Int)) = t1) (e2 : ((L.2.1 : Int) == (R.2.1 : Int)) = t2) (e3 : (L.2.2 == R.2.2) = t3) (ht : (t1 && t2 && t3) = false) : Calls Tryz.prog 18 #[.pointer (some ⟨p, 0, none⟩), .agg #[.slice sz m dz, .slice sl c d, .int .i64 ((tM a).1 : Int), .int .i64 ((tM a).2.1 : Int), .bool (tM a).2.2, .int .i64 (s : Int)]] w fun e w' => e = .returned (.int .i64 8) ∧ Below w.heap.size w w' := by
  have hf1 : ¬ (n : Int) + (c : Int) > 1000 := by omega
  have Hrs : Hid (∀ w, Calls Tryz.prog 8 #[.int .i64 (s : Int)] w fun e w' => e = .returned (.bool true) ∧ Below w.heap.size w w') := hrs
  have Hsp : Hid (∀ w, Calls Tryz.prog 4 #[.agg #[.int .i64 ((tM a).1 : Int), .int .i64 ((tM a).2.1 : Int), .bool (tM a).2.2]] w fun e w' => e = .returned (.int .i64 0) ∧ Below w.heap.size w w') := hsp
  have Hba : Hid (∀ w, Calls Tryz.prog 5 #[.agg #[.int .i64 ((tM a).1 : Int), .int .i64 ((tM a).2.1 : Int), .bool (tM a).2.2], .agg #[.int .i64 ((tM (4 * x)).1 : Int), .int .i64 ((tM (4 * x)).2.1 : Int), .bool (tM (4 * x)).2.2]] w fun e w' => e = .returned (.int .i64 (b : Int)) ∧ Below w.heap.size w w') := hba
  have Hse : Hid (∀ w, Calls Tryz.prog 11 #[] w fun e w' => e = .returned (.agg #[.int .i64 ((H).1 : Int), .int .i64 ((H).2.1 : Int), .bool (H).2.2]) ∧ Below w.heap.size w w') := hse
  have Htl : Hid (∀ w, Calls Tryz.prog 10 #[.agg #[.int .i64 ((H).1 : Int), .int .i64 ((H).2.1 : Int), .bool (H).2.2], .int .i64 (s : Int)] w fun e w' => e = .returned (.agg #[.int .i64 ((L).1 : Int), .int .i64 ((L).2.1 : Int), .bool (L).2.2]) ∧ Below w.heap.size w w') := htl
  have Htx : Hid (∀ w, Calls Tryz.prog 10 #[.agg #[.int .i64 ((tM (4 * x)).1 : Int), .int .i64 ((tM (4 * x)).2.1 : Int), .bool (tM (4 * x)).2.2], .int .i64 (b : Int)] w fun e w' => e = .returned (.agg #[.int .i64 ((T).1 : Int), .int .i64 ((T).2.1 : Int), .bool (T).2.2]) ∧ Below w.heap.size w w') := htx
  have Had : Hid (∀ w, Calls Tryz.prog 33 #[.agg #[.int .i64 ((tM a).1 : Int), .int .i64 ((tM a).2.1 : Int), .bool (tM a).2.2], .agg #[.int .i64 ((T).1 : Int), .int .i64 ((T).2.1 : Int), .bool (T).2.2]] w fun e w' => e = .returned (.agg #[.int .i64 ((R).1 : Int), .int .i64 ((R).2.1 : Int), .bool (R).2.2]) ∧ Below w.heap.size w w') := had
  clear hrs hsp hba hse htl htx had
  obtain ⟨su, cu, sv, cv, rfl, rfl, _⟩ := h.slices
  have HP : Hid (At w p [.slice su n cu, .slice sv n cv]) := h.cells
  have HX : Hid (∀ W, Below w.heap.size w W → Calls Tryz.prog 16 #[.pointer (some ⟨p, 0, none⟩), .slice sz m dz, .slice sl c d] W fun e w' => e = .returned (.tuple #[.agg #[.int .i64 ((tM (4 * x)).1 : Int), .int .i64 ((tM (4 * x)).2.1 : Int), .bool (tM (4 * x)).2.2], .int .i64 0]) ∧ Below W.heap.size W w') := hx
  clear h hx
  have m1 : True := trivial; have m2 : True := trivial; have m3 : True := trivial; have m4 : True := trivial
  go_enter Tryz.func18, Tryz.ntmps18
  go_upto_region 4 with (go_at_call 16; clear m1; refine (HX.out _ (by repeat (first | (with_reducible exact Below.refl _ _) | (with_reducible assumption) | (with_reducible refine Below.setCell ?_ (by first | (simp; done) | (simp; omega) | omega) _) | (with_reducible refine Below.alloc ?_ (by first | (simp; done) | (simp; omega) | omega) _) | (refine bl_call ?_ (by assumption) (by first | (simp; done) | (simp; omega) | omega)) | (with_reducible refine bl_drewN ?_) | (with_reducible refine Below.drew ?_) | (with_reducible refine bl_grow ?_ (by first | (simp; done) | (simp; omega) | omega))))).mono ?_; rintro e w1 ⟨rfl, hbw1⟩; have kdw1 : At w1 (w.heap.size) [.slice sz m dz, .slice sl c d, .int .i64 ((tM a).1 : Int), .int .i64 ((tM a).2.1 : Int), .bool (tM a).2.2, .int .i64 (s : Int)] := (by repeat (first | (with_reducible assumption) | ((with_reducible refine at_new' _ _ _ _ ?_); (first | rfl | (simp; done))) | (with_reducible refine At.alloc ?_ _) | (with_reducible refine At.drew ?_) | (with_reducible refine At.drewN ?_) | (with_reducible refine At.set ?_ (by omega)) | (with_reducible apply At.store4) | (with_reducible apply At.store3) | (with_reducible apply At.store2) | (with_reducible apply At.put43) | (refine At.below ?_ (by with_reducible assumption)))); have hqw1 : Below w.heap.size w w1 := (by repeat (first | (with_reducible exact Below.refl _ _) | (with_reducible assumption) | (with_reducible refine Below.setCell ?_ (by first | (simp; done) | (simp; omega) | omega) _) | (with_reducible refine Below.alloc ?_ (by first | (simp; done) | (simp; omega) | omega) _) | (refine bl_call ?_ (by assumption) (by first | (simp; done) | (simp; omega) | omega)) | (with_reducible refine bl_drewN ?_) | (with_reducible refine Below.drew ?_) | (with_reducible refine bl_grow ?_ (by first | (simp; done) | (simp; omega) | omega)))); have hzw1 := hqw1.size; obtain ⟨zdw1, cd0w1, cd1w1, cd2w1, cd3w1, cd4w1, cd5w1, fd0w1, fd1w1, fd2w1, fd3w1, fd4w1, fd5w1⟩ := kdw1.six; clear hbw1)
  refine wp_gen (fun V => At V (w.heap.size) [.slice sz m dz, .slice sl c d, .int .i64 ((tM a).1 : Int), .int .i64 ((tM a).2.1 : Int), .bool (tM a).2.2, .int .i64 (s : Int)] ∧ At V (w1.heap.size) [.int .i64 ((tM (4 * x)).1 : Int), .int .i64 ((tM (4 * x)).2.1 : Int), .bool (tM (4 * x)).2.2] ∧ Below w.heap.size w V) ⟨by repeat (first | (with_reducible assumption) | ((with_reducible refine at_new' _ _ _ _ ?_); (first | rfl | (simp; done))) | (with_reducible refine At.alloc ?_ _) | (with_reducible refine At.drew ?_) | (with_reducible refine At.drewN ?_) | (with_reducible refine At.set ?_ (by omega)) | (with_reducible apply At.store4) | (with_reducible apply At.store3) | (with_reducible apply At.store2) | (with_reducible apply At.put43) | (refine At.below ?_ (by with_reducible assumption))), by repeat (first | (with_reducible assumption) | ((with_reducible refine at_new' _ _ _ _ ?_); (first | rfl | (simp; done))) | (with_reducible refine At.alloc ?_ _) | (with_reducible refine At.drew ?_) | (with_reducible refine At.drewN ?_) | (with_reducible refine At.set ?_ (by omega)) | (with_reducible apply At.store4) | (with_reducible apply At.store3) | (with_reducible apply At.store2) | (with_reducible apply At.put43) | (refine At.below ?_ (by with_reducible assumption))), by repeat (first | (with_reducible exact Below.refl _ _) | (with_reducible assumption) | (with_reducible refine Below.setCell ?_ (by first | (simp; done) | (simp; omega) | omega) _) | (with_reducible refine Below.alloc ?_ (by first | (simp; done) | (simp; omega) | omega) _) | (refine bl_call ?_ (by assumption) (by first | (simp; done) | (simp; omega) | omega)) | (with_reducible refine bl_drewN ?_) | (with_reducible refine Below.drew ?_) | (with_reducible refine bl_grow ?_ (by first | (simp; done) | (simp; omega) | omega)))⟩ ?_
  rintro V ⟨kdV, kxV, hqV⟩
  have hzV := hqV.size
  clear kdw1 cd0w1 fd0w1 cd1w1 fd1w1 cd2w1 fd2w1 cd3w1 fd3w1 cd4w1 fd4w1 cd5w1 fd5w1 hqw1
  obtain ⟨zdV, cd0V, cd1V, cd2V, cd3V, cd4V, cd5V, fd0V, fd1V, fd2V, fd3V, fd4V, fd5V⟩ := kdV.six
  obtain ⟨zxV, cx0V, cx1V, cx2V, fx0V, fx1V, fx2V⟩ := kxV.three
  have kpV := HP.out.below hqV
  obtain ⟨zpV, cp0V, cp1V, fp0V, fp1V⟩ := kpV.two
  refine wp_region_quiet_below (by kernel_rfl) (by kernel_rfl) ?_
  repeat (go_big_quiet_step (first | fail))
  refine wpQuiet_nil ?_
  intro U hw1
  have hrU := regrown_below hw1
  clear hw1
  have kdU := kdV.below hrU
  have kxU := kxV.below hrU
  have kpU := kpV.below hrU
  have hqU := bl_call hqV hrU (by omega)
  have hzU := hqU.size
  clear hrU kdV cd0V fd0V cd1V fd1V cd2V fd2V cd3V fd3V cd4V fd4V cd5V fd5V kxV cx0V fx0V cx1V fx1V cx2V fx2V kpV cp0V fp0V cp1V fp1V hqV
  obtain ⟨zdU, cd0U, cd1U, cd2U, cd3U, cd4U, cd5U, fd0U, fd1U, fd2U, fd3U, fd4U, fd5U⟩ := kdU.six
  obtain ⟨zxU, cx0U, cx1U, cx2U, fx0U, fx1U, fx2U⟩ := kxU.three
  obtain ⟨zpU, cp0U, cp1U, fp0U, fp1U⟩ := kpU.two
  go_upto_region 13 with (first | (go_at_call 8; clear m2; refine (Hrs.out _).mono ?_; rintro e w2 ⟨rfl, hbw2⟩; have kdw2 : At w2 (w.heap.size) [.slice sz m dz, .slice sl c d, .int .i64 ((tM a).1 : Int), .int .i64 ((tM a).2.1 : Int), .bool (tM a).2.2, .int .i64 (s : Int)] := (by repeat (first | (with_reducible assumption) | ((with_reducible refine at_new' _ _ _ _ ?_); (first | rfl | (simp; done))) | (with_reducible refine At.alloc ?_ _) | (with_reducible refine At.drew ?_) | (with_reducible refine At.drewN ?_) | (with_reducible refine At.set ?_ (by omega)) | (with_reducible apply At.store4) | (with_reducible apply At.store3) | (with_reducible apply At.store2) | (with_reducible apply At.put43) | (refine At.below ?_ (by with_reducible assumption)))); have kxw2 : At w2 (w1.heap.size) [.int .i64 ((tM (4 * x)).1 : Int), .int .i64 ((tM (4 * x)).2.1 : Int), .bool (tM (4 * x)).2.2] := (by repeat (first | (with_reducible assumption) | ((with_reducible refine at_new' _ _ _ _ ?_); (first | rfl | (simp; done))) | (with_reducible refine At.alloc ?_ _) | (with_reducible refine At.drew ?_) | (with_reducible refine At.drewN ?_) | (with_reducible refine At.set ?_ (by omega)) | (with_reducible apply At.store4) | (with_reducible apply At.store3) | (with_reducible apply At.store2) | (with_reducible apply At.put43) | (refine At.below ?_ (by with_reducible assumption)))); have kpw2 : At w2 (p) [.slice su n cu, .slice sv n cv] := (by repeat (first | (with_reducible assumption) | ((with_reducible refine at_new' _ _ _ _ ?_); (first | rfl | (simp; done))) | (with_reducible refine At.alloc ?_ _) | (with_reducible refine At.drew ?_) | (with_reducible refine At.drewN ?_) | (with_reducible refine At.set ?_ (by omega)) | (with_reducible apply At.store4) | (with_reducible apply At.store3) | (with_reducible apply At.store2) | (with_reducible apply At.put43) | (refine At.below ?_ (by with_reducible assumption)))); have hqw2 : Below w.heap.size w w2 := (by repeat (first | (with_reducible exact Below.refl _ _) | (with_reducible assumption) | (with_reducible refine Below.setCell ?_ (by first | (simp; done) | (simp; omega) | omega) _) | (with_reducible refine Below.alloc ?_ (by first | (simp; done) | (simp; omega) | omega) _) | (refine bl_call ?_ (by assumption) (by first | (simp; done) | (simp; omega) | omega)) | (with_reducible refine bl_drewN ?_) | (with_reducible refine Below.drew ?_) | (with_reducible refine bl_grow ?_ (by first | (simp; done) | (simp; omega) | omega)))); have hzw2 := hqw2.size; obtain ⟨zdw2, cd0w2, cd1w2, cd2w2, cd3w2, cd4w2, cd5w2, fd0w2, fd1w2, fd2w2, fd3w2, fd4w2, fd5w2⟩ := kdw2.six; obtain ⟨zxw2, cx0w2, cx1w2, cx2w2, fx0w2, fx1w2, fx2w2⟩ := kxw2.three; obtain ⟨zpw2, cp0w2, cp1w2, fp0w2, fp1w2⟩ := kpw2.two; clear kdU cd0U fd0U cd1U fd1U cd2U fd2U cd3U fd3U cd4U fd4U cd5U fd5U kxU cx0U fx0U cx1U fx1U cx2U fx2U kpU cp0U fp0U cp1U fp1U hqU; clear hbw2) | (go_at_call 4; clear m3; refine (Hsp.out _).mono ?_; rintro e w3 ⟨rfl, hbw3⟩; have kdw3 : At w3 (w.heap.size) [.slice sz m dz, .slice sl c d, .int .i64 ((tM a).1 : Int), .int .i64 ((tM a).2.1 : Int), .bool (tM a).2.2, .int .i64 (s : Int)] := (by repeat (first | (with_reducible assumption) | ((with_reducible refine at_new' _ _ _ _ ?_); (first | rfl | (simp; done))) | (with_reducible refine At.alloc ?_ _) | (with_reducible refine At.drew ?_) | (with_reducible refine At.drewN ?_) | (with_reducible refine At.set ?_ (by omega)) | (with_reducible apply At.store4) | (with_reducible apply At.store3) | (with_reducible apply At.store2) | (with_reducible apply At.put43) | (refine At.below ?_ (by with_reducible assumption)))); have kxw3 : At w3 (w1.heap.size) [.int .i64 ((tM (4 * x)).1 : Int), .int .i64 ((tM (4 * x)).2.1 : Int), .bool (tM (4 * x)).2.2] := (by repeat (first | (with_reducible assumption) | ((with_reducible refine at_new' _ _ _ _ ?_); (first | rfl | (simp; done))) | (with_reducible refine At.alloc ?_ _) | (with_reducible refine At.drew ?_) | (with_reducible refine At.drewN ?_) | (with_reducible refine At.set ?_ (by omega)) | (with_reducible apply At.store4) | (with_reducible apply At.store3) | (with_reducible apply At.store2) | (with_reducible apply At.put43) | (refine At.below ?_ (by with_reducible assumption)))); have kpw3 : At w3 (p) [.slice su n cu, .slice sv n cv] := (by repeat (first | (with_reducible assumption) | ((with_reducible refine at_new' _ _ _ _ ?_); (first | rfl | (simp; done))) | (with_reducible refine At.alloc ?_ _) | (with_reducible refine At.drew ?_) | (with_reducible refine At.drewN ?_) | (with_reducible refine At.set ?_ (by omega)) | (with_reducible apply At.store4) | (with_reducible apply At.store3) | (with_reducible apply At.store2) | (with_reducible apply At.put43) | (refine At.below ?_ (by with_reducible assumption)))); have hqw3 : Below w.heap.size w w3 := (by repeat (first | (with_reducible exact Below.refl _ _) | (with_reducible assumption) | (with_reducible refine Below.setCell ?_ (by first | (simp; done) | (simp; omega) | omega) _) | (with_reducible refine Below.alloc ?_ (by first | (simp; done) | (simp; omega) | omega) _) | (refine bl_call ?_ (by assumption) (by first | (simp; done) | (simp; omega) | omega)) | (with_reducible refine bl_drewN ?_) | (with_reducible refine Below.drew ?_) | (with_reducible refine bl_grow ?_ (by first | (simp; done) | (simp; omega) | omega)))); have hzw3 := hqw3.size; obtain ⟨zdw3, cd0w3, cd1w3, cd2w3, cd3w3, cd4w3, cd5w3, fd0w3, fd1w3, fd2w3, fd3w3, fd4w3, fd5w3⟩ := kdw3.six; obtain ⟨zxw3, cx0w3, cx1w3, cx2w3, fx0w3, fx1w3, fx2w3⟩ := kxw3.three; obtain ⟨zpw3, cp0w3, cp1w3, fp0w3, fp1w3⟩ := kpw3.two; clear kdw2 cd0w2 fd0w2 cd1w2 fd1w2 cd2w2 fd2w2 cd3w2 fd3w2 cd4w2 fd4w2 cd5w2 fd5w2 kxw2 cx0w2 fx0w2 cx1w2 fx1w2 cx2w2 fx2w2 kpw2 cp0w2 fp0w2 cp1w2 fp1w2 hqw2; clear hbw3) | (go_at_call 5; clear m4; refine (Hba.out _).mono ?_; rintro e w4 ⟨rfl, hbw4⟩; have kdw4 : At w4 (w.heap.size) [.slice sz m dz, .slice sl c d, .int .i64 ((tM a).1 : Int), .int .i64 ((tM a).2.1 : Int), .bool (tM a).2.2, .int .i64 (s : Int)] := (by repeat (first | (with_reducible assumption) | ((with_reducible refine at_new' _ _ _ _ ?_); (first | rfl | (simp; done))) | (with_reducible refine At.alloc ?_ _) | (with_reducible refine At.drew ?_) | (with_reducible refine At.drewN ?_) | (with_reducible refine At.set ?_ (by omega)) | (with_reducible apply At.store4) | (with_reducible apply At.store3) | (with_reducible apply At.store2) | (with_reducible apply At.put43) | (refine At.below ?_ (by with_reducible assumption)))); have kxw4 : At w4 (w1.heap.size) [.int .i64 ((tM (4 * x)).1 : Int), .int .i64 ((tM (4 * x)).2.1 : Int), .bool (tM (4 * x)).2.2] := (by repeat (first | (with_reducible assumption) | ((with_reducible refine at_new' _ _ _ _ ?_); (first | rfl | (simp; done))) | (with_reducible refine At.alloc ?_ _) | (with_reducible refine At.drew ?_) | (with_reducible refine At.drewN ?_) | (with_reducible refine At.set ?_ (by omega)) | (with_reducible apply At.store4) | (with_reducible apply At.store3) | (with_reducible apply At.store2) | (with_reducible apply At.put43) | (refine At.below ?_ (by with_reducible assumption)))); have kpw4 : At w4 (p) [.slice su n cu, .slice sv n cv] := (by repeat (first | (with_reducible assumption) | ((with_reducible refine at_new' _ _ _ _ ?_); (first | rfl | (simp; done))) | (with_reducible refine At.alloc ?_ _) | (with_reducible refine At.drew ?_) | (with_reducible refine At.drewN ?_) | (with_reducible refine At.set ?_ (by omega)) | (with_reducible apply At.store4) | (with_reducible apply At.store3) | (with_reducible apply At.store2) | (with_reducible apply At.put43) | (refine At.below ?_ (by with_reducible assumption)))); have hqw4 : Below w.heap.size w w4 := (by repeat (first | (with_reducible exact Below.refl _ _) | (with_reducible assumption) | (with_reducible refine Below.setCell ?_ (by first | (simp; done) | (simp; omega) | omega) _) | (with_reducible refine Below.alloc ?_ (by first | (simp; done) | (simp; omega) | omega) _) | (refine bl_call ?_ (by assumption) (by first | (simp; done) | (simp; omega) | omega)) | (with_reducible refine bl_drewN ?_) | (with_reducible refine Below.drew ?_) | (with_reducible refine bl_grow ?_ (by first | (simp; done) | (simp; omega) | omega)))); have hzw4 := hqw4.size; obtain ⟨zdw4, cd0w4, cd1w4, cd2w4, cd3w4, cd4w4, cd5w4, fd0w4, fd1w4, fd2w4, fd3w4, fd4w4, fd5w4⟩ := kdw4.six; obtain ⟨zxw4, cx0w4, cx1w4, cx2w4, fx0w4, fx1w4, fx2w4⟩ := kxw4.three; obtain ⟨zpw4, cp0w4, cp1w4, fp0w4, fp1w4⟩ := kpw4.two; clear kdw3 cd0w3 fd0w3 cd1w3 fd1w3 cd2w3 fd2w3 cd3w3 fd3w3 cd4w3 fd4w3 cd5w3 fd5w3 kxw3 cx0w3 fx0w3 cx1w3 fx1w3 cx2w3 fx2w3 kpw3 cp0w3 fp0w3 cp1w3 fp1w3 hqw3; clear hbw4))
  apply region_new 5 25 [.int .i64 0, .int .i64 0, .bool false] (by kernel_rfl) (by kernel_rfl) (fun b => by kernel_rfl) rfl rfl rfl
  case hal => intro e u; simp [go_sem]
  case h =>
    intro zl Y hrY
    have kdY := kdw4.below hrY
    have kxY := kxw4.below hrY
    have kpY := kpw4.below hrY
    obtain ⟨zdY, cd0Y, cd1Y, cd2Y, cd3Y, cd4Y, cd5Y, fd0Y, fd1Y, fd2Y, fd3Y, fd4Y, fd5Y⟩ := kdY.six
    obtain ⟨zxY, cx0Y, cx1Y, cx2Y, fx0Y, fx1Y, fx2Y⟩ := kxY.three
    obtain ⟨zpY, cp0Y, cp1Y, fp0Y, fp1Y⟩ := kpY.two
    dsimp only [List.dropLast, withPtr, ptrOp, Cls]
    repeat (go_big_quiet_step (first | (go_at_call 11; with_reducible exact Calls.regrown_of (Hse.out _)) | (go_at_call 10; with_reducible exact Calls.regrown_of (Htl.out _))))
    exact wpQuiet_nil rfl
  case hA => intro b; rfl
  case hend =>
  intro zl Y hrY kzlY hyzl
  have kdY := kdw4.below hrY
  have kxY := kxw4.below hrY
  have kpY := kpw4.below hrY
  have hqY := bl_call hqw4 hrY (by omega)
  have hzY := hqY.size
  clear hrY kdw4 cd0w4 fd0w4 cd1w4 fd1w4 cd2w4 fd2w4 cd3w4 fd3w4 cd4w4 fd4w4 cd5w4 fd5w4 kxw4 cx0w4 fx0w4 cx1w4 fx1w4 cx2w4 fx2w4 kpw4 cp0w4 fp0w4 cp1w4 fp1w4 hqw4
  obtain ⟨zdY, cd0Y, cd1Y, cd2Y, cd3Y, cd4Y, cd5Y, fd0Y, fd1Y, fd2Y, fd3Y, fd4Y, fd5Y⟩ := kdY.six
  obtain ⟨zxY, cx0Y, cx1Y, cx2Y, fx0Y, fx1Y, fx2Y⟩ := kxY.three
  obtain ⟨zpY, cp0Y, cp1Y, fp0Y, fp1Y⟩ := kpY.two
  obtain ⟨zzlY, czl0Y, czl1Y, czl2Y, fzl0Y, fzl1Y, fzl2Y⟩ := kzlY.three
  dsimp only [List.dropLast, List.length, List.drop]
  go_upto_region 14 with fail
  refine wp_gen (fun O => At O (w.heap.size) [.slice sz m dz, .slice sl c d, .int .i64 ((tM a).1 : Int), .int .i64 ((tM a).2.1 : Int), .bool (tM a).2.2, .int .i64 (s : Int)] ∧ At O (w1.heap.size) [.int .i64 ((tM (4 * x)).1 : Int), .int .i64 ((tM (4 * x)).2.1 : Int), .bool (tM (4 * x)).2.2] ∧ At O (p) [.slice su n cu, .slice sv n cv] ∧ At O (zl) [.int .i64 ((L).1 : Int), .int .i64 ((L).2.1 : Int), .bool (L).2.2] ∧ Below w.heap.size w O) ⟨by repeat (first | (with_reducible assumption) | ((with_reducible refine at_new' _ _ _ _ ?_); (first | rfl | (simp; done))) | (with_reducible refine At.alloc ?_ _) | (with_reducible refine At.drew ?_) | (with_reducible refine At.drewN ?_) | (with_reducible refine At.set ?_ (by omega)) | (with_reducible apply At.store4) | (with_reducible apply At.store3) | (with_reducible apply At.store2) | (with_reducible apply At.put43) | (refine At.below ?_ (by with_reducible assumption))), by repeat (first | (with_reducible assumption) | ((with_reducible refine at_new' _ _ _ _ ?_); (first | rfl | (simp; done))) | (with_reducible refine At.alloc ?_ _) | (with_reducible refine At.drew ?_) | (with_reducible refine At.drewN ?_) | (with_reducible refine At.set ?_ (by omega)) | (with_reducible apply At.store4) | (with_reducible apply At.store3) | (with_reducible apply At.store2) | (with_reducible apply At.put43) | (refine At.below ?_ (by with_reducible assumption))), by repeat (first | (with_reducible assumption) | ((with_reducible refine at_new' _ _ _ _ ?_); (first | rfl | (simp; done))) | (with_reducible refine At.alloc ?_ _) | (with_reducible refine At.drew ?_) | (with_reducible refine At.drewN ?_) | (with_reducible refine At.set ?_ (by omega)) | (with_reducible apply At.store4) | (with_reducible apply At.store3) | (with_reducible apply At.store2) | (with_reducible apply At.put43) | (refine At.below ?_ (by with_reducible assumption))), by repeat (first | (with_reducible assumption) | ((with_reducible refine at_new' _ _ _ _ ?_); (first | rfl | (simp; done))) | (with_reducible refine At.alloc ?_ _) | (with_reducible refine At.drew ?_) | (with_reducible refine At.drewN ?_) | (with_reducible refine At.set ?_ (by omega)) | (with_reducible apply At.store4) | (with_reducible apply At.store3) | (with_reducible apply At.store2) | (with_reducible apply At.put43) | (refine At.below ?_ (by with_reducible assumption))), by repeat (first | (with_reducible exact Below.refl _ _) | (with_reducible assumption) | (with_reducible refine Below.setCell ?_ (by first | (simp; done) | (simp; omega) | omega) _) | (with_reducible refine Below.alloc ?_ (by first | (simp; done) | (simp; omega) | omega) _) | (refine bl_call ?_ (by assumption) (by first | (simp; done) | (simp; omega) | omega)) | (with_reducible refine bl_drewN ?_) | (with_reducible refine Below.drew ?_) | (with_reducible refine bl_grow ?_ (by first | (simp; done) | (simp; omega) | omega)))⟩ ?_
  rintro O ⟨kdO, kxO, kpO, klO, hqO⟩
  have hzO := hqO.size
  clear kdY cd0Y fd0Y cd1Y fd1Y cd2Y fd2Y cd3Y fd3Y cd4Y fd4Y cd5Y fd5Y kxY cx0Y fx0Y cx1Y fx1Y cx2Y fx2Y kpY cp0Y fp0Y cp1Y fp1Y hqY
  obtain ⟨zdO, cd0O, cd1O, cd2O, cd3O, cd4O, cd5O, fd0O, fd1O, fd2O, fd3O, fd4O, fd5O⟩ := kdO.six
  obtain ⟨zxO, cx0O, cx1O, cx2O, fx0O, fx1O, fx2O⟩ := kxO.three
  obtain ⟨zpO, cp0O, cp1O, fp0O, fp1O⟩ := kpO.two
  obtain ⟨zlO, cl0O, cl1O, cl2O, fl0O, fl1O, fl2O⟩ := klO.three
  apply region_new 7 25 [.int .i64 0, .int .i64 0, .bool false] (by kernel_rfl) (by kernel_rfl) (fun b => by kernel_rfl) rfl rfl rfl
  case hal => intro e u; simp [go_sem]
  case h =>
    intro zr Q hrQ
    have kdQ := kdO.below hrQ
    have kxQ := kxO.below hrQ
    have kpQ := kpO.below hrQ
    have klQ := klO.below hrQ
    obtain ⟨zdQ, cd0Q, cd1Q, cd2Q, cd3Q, cd4Q, cd5Q, fd0Q, fd1Q, fd2Q, fd3Q, fd4Q, fd5Q⟩ := kdQ.six
    obtain ⟨zxQ, cx0Q, cx1Q, cx2Q, fx0Q, fx1Q, fx2Q⟩ := kxQ.three
    obtain ⟨zpQ, cp0Q, cp1Q, fp0Q, fp1Q⟩ := kpQ.two
    obtain ⟨zlQ, cl0Q, cl1Q, cl2Q, fl0Q, fl1Q, fl2Q⟩ := klQ.three
    dsimp only [List.dropLast, withPtr, ptrOp, Cls]
    repeat (go_big_quiet_step (first | (go_at_call 10; with_reducible exact Calls.regrown_of (Htx.out _)) | (go_at_call 33; with_reducible exact Calls.regrown_of (Had.out _))))
    exact wpQuiet_nil rfl
  case hA => intro b; rfl
  case hend =>
  intro zr Q hrQ kzrQ hyzr
  have kdQ := kdO.below hrQ
  have kxQ := kxO.below hrQ
  have kpQ := kpO.below hrQ
  have klQ := klO.below hrQ
  have hqQ := bl_call hqO hrQ (by omega)
  have hzQ := hqQ.size
  clear hrQ kdO cd0O fd0O cd1O fd1O cd2O fd2O cd3O fd3O cd4O fd4O cd5O fd5O kxO cx0O fx0O cx1O fx1O cx2O fx2O kpO cp0O fp0O cp1O fp1O klO cl0O fl0O cl1O fl1O cl2O fl2O hqO
  obtain ⟨zdQ, cd0Q, cd1Q, cd2Q, cd3Q, cd4Q, cd5Q, fd0Q, fd1Q, fd2Q, fd3Q, fd4Q, fd5Q⟩ := kdQ.six
  obtain ⟨zxQ, cx0Q, cx1Q, cx2Q, fx0Q, fx1Q, fx2Q⟩ := kxQ.three
  obtain ⟨zpQ, cp0Q, cp1Q, fp0Q, fp1Q⟩ := kpQ.two
  obtain ⟨zlQ, cl0Q, cl1Q, cl2Q, fl0Q, fl1Q, fl2Q⟩ := klQ.three
  obtain ⟨zzrQ, czr0Q, czr1Q, czr2Q, fzr0Q, fzr1Q, fzr2Q⟩ := kzrQ.three
  dsimp only [List.dropLast, List.length, List.drop]
  go_upto_region 15 with fail
  refine wp_gen (fun M => At M (zl) [.int .i64 ((L).1 : Int), .int .i64 ((L).2.1 : Int), .bool (L).2.2] ∧ At M (zr) [.int .i64 ((R).1 : Int), .int .i64 ((R).2.1 : Int), .bool (R).2.2] ∧ Below w.heap.size w M) ⟨by repeat (first | (with_reducible assumption) | ((with_reducible refine at_new' _ _ _ _ ?_); (first | rfl | (simp; done))) | (with_reducible refine At.alloc ?_ _) | (with_reducible refine At.drew ?_) | (with_reducible refine At.drewN ?_) | (with_reducible refine At.set ?_ (by omega)) | (with_reducible apply At.store4) | (with_reducible apply At.store3) | (with_reducible apply At.store2) | (with_reducible apply At.put43) | (refine At.below ?_ (by with_reducible assumption))), by repeat (first | (with_reducible assumption) | ((with_reducible refine at_new' _ _ _ _ ?_); (first | rfl | (simp; done))) | (with_reducible refine At.alloc ?_ _) | (with_reducible refine At.drew ?_) | (with_reducible refine At.drewN ?_) | (with_reducible refine At.set ?_ (by omega)) | (with_reducible apply At.store4) | (with_reducible apply At.store3) | (with_reducible apply At.store2) | (with_reducible apply At.put43) | (refine At.below ?_ (by with_reducible assumption))), by repeat (first | (with_reducible exact Below.refl _ _) | (with_reducible assumption) | (with_reducible refine Below.setCell ?_ (by first | (simp; done) | (simp; omega) | omega) _) | (with_reducible refine Below.alloc ?_ (by first | (simp; done) | (simp; omega) | omega) _) | (refine bl_call ?_ (by assumption) (by first | (simp; done) | (simp; omega) | omega)) | (with_reducible refine bl_drewN ?_) | (with_reducible refine Below.drew ?_) | (with_reducible refine bl_grow ?_ (by first | (simp; done) | (simp; omega) | omega)))⟩ ?_
  rintro M ⟨klM, krM, hqM⟩
  have hzM := hqM.size
  clear kzrQ kdQ cd0Q fd0Q cd1Q fd1Q cd2Q fd2Q cd3Q fd3Q cd4Q fd4Q cd5Q fd5Q kxQ cx0Q fx0Q cx1Q fx1Q cx2Q fx2Q kpQ cp0Q fp0Q cp1Q fp1Q klQ cl0Q fl0Q cl1Q fl1Q cl2Q fl2Q hqQ
  obtain ⟨zlM, cl0M, cl1M, cl2M, fl0M, fl1M, fl2M⟩ := klM.three
  obtain ⟨zrM, cr0M, cr1M, cr2M, fr0M, fr1M, fr2M⟩ := krM.three
  cases t1 <;> cases t2 <;> cases t3
  case true.true.true => exact absurd ht (by decide)
  all_goals (
  clear ht
  go_wp2_with fail
  go_ret
  exact ⟨rfl, by repeat (first | (with_reducible exact Below.refl _ _) | (with_reducible assumption) | (with_reducible refine Below.setCell ?_ (by first | (simp; done) | (simp; omega) | omega) _) | (with_reducible refine Below.alloc ?_ (by first | (simp; done) | (simp; omega) | omega) _) | (refine bl_call ?_ (by assumption) (by first | (simp; done) | (simp; omega) | omega)) | (with_reducible refine bl_drewN ?_) | (with_reducible refine Below.drew ?_) | (with_reducible refine bl_grow ?_ (by first | (simp; done) | (simp; omega) | omega)))⟩)
theorem rcpinfo : (Tryz.prog.info? 25).map (fun i => (i.zero, i.size, i.bytes)) = some (some (.agg #[.int .i64 0, .int .i64 0, .bool false]), 3, 24) := by kernel_rfl
theorem rcbinfo : (Tryz.prog.info? 4).map (fun i => (i.zero, i.size, i.bytes)) = some (some (.bool false), 1, 1) := by kernel_rfl
theorem ethen_gen2 {K : Act → World → Prop} {Q : Exit → Act → World → Prop} {x : Exit} {a : Act} {w : World} (S : World → Prop) (h : S w) (k : ∀ W, S W → Exit.then K Q x a W) : Exit.then K Q x a w := k w h
set_option maxRecDepth 100000 in
set_option maxHeartbeats 8000000 in
theorem rdo_ok (B p n m c d dz : Nat) (sz sl : Option Addr) (u v : Value) (K : Nat → Nat) (G : Nat → Bool) (x a s b : Nat) (H L T R : Sn) (J : Nat → Nat) (Z : Nat → Int) (X Y : Nat → Int) (F : Nat → Bool) (w : World) (hn : n ≤ 1000) (hc : c ≤ 12) (hf : n + c ≤ 1000) (hm : m ≤ 9223372036854775807) (h : BookAt 25 4 B w p u v n K G) (hx : ∀ W, Below w.heap.size w W → Calls Tryz.prog 16 #[.pointer (some ⟨p, 0, none⟩), .slice sz m dz, .slice sl c d] W fun e w' => e = .returned (.tuple #[.agg #[.int .i64 ((tM (4 * x)).1 : Int), .int .i64 ((tM (4 * x)).2.1 : Int), .bool (tM (4 * x)).2.2], .int .i64 0]) ∧ Below W.heap.size W w') (hrs : ∀ w, Calls Tryz.prog 8 #[.int .i64 (s : Int)] w fun e w' => e = .returned (.bool true) ∧ Below w.heap.size w w') (hsp : ∀ w, Calls Tryz.prog 4 #[.agg #[.int .i64 ((tM a).1 : Int), .int .i64 ((tM a).2.1 : Int), .bool (tM a).2.2]] w fun e w' => e = .returned (.int .i64 0) ∧ Below w.heap.size w w') (hba : ∀ w, Calls Tryz.prog 5 #[.agg #[.int .i64 ((tM a).1 : Int), .int .i64 ((tM a).2.1 : Int), .bool (tM a).2.2], .agg #[.int .i64 ((tM (4 * x)).1 : Int), .int .i64 ((tM (4 * x)).2.1 : Int), .bool (tM (4 * x)).2.2]] w fun e w' => e = .returned (.int .i64 (b : Int)) ∧ Below w.heap.size w w') (hse : ∀ w, Calls Tryz.prog 11 #[] w fun e w' => e = .returned (.agg #[.int .i64 ((H).1 : Int), .int .i64 ((H).2.1 : Int), .bool (H).2.2]) ∧ Below w.heap.size w w') (htl : ∀ w, Calls Tryz.prog 10 #[.agg #[.int .i64 ((H).1 : Int), .int .i64 ((H).2.1 : Int), .bool (H).2.2], .int .i64 (s : Int)] w fun e w' => e = .returned (.agg #[.int .i64 ((L).1 : Int), .int .i64 ((L).2.1 : Int), .bool (L).2.2]) ∧ Below w.heap.size w w') (htx : ∀ w, Calls Tryz.prog 10 #[.agg #[.int .i64 ((tM (4 * x)).1 : Int), .int .i64 ((tM (4 * x)).2.1 : Int), .bool (tM (4 * x)).2.2], .int .i64 (b : Int)] w fun e w' => e = .returned (.agg #[.int .i64 ((T).1 : Int), .int .i64 ((T).2.1 : Int), .bool (T).2.2]) ∧ Below w.heap.size w w') (had : ∀ w, Calls Tryz.prog 33 #[.agg #[.int .i64 ((tM a).1 : Int), .int .i64 ((tM a).2.1 : Int), .bool (tM a).2.2], .agg #[.int .i64 ((T).1 : Int), .int .i64 ((T).2.1 : Int), .bool (T).2.2]] w fun e w' => e = .returned (.agg #[.int .i64 ((R).1 : Int), .int .i64 ((R).2.1 : Int), .bool (R).2.2]) ∧ Below w.heap.size w w') (he : L = R) (hz : (m = 0 ∨ ∃ g o : Nat, sz = some ⟨g, o, none⟩ ∧ RowI w g o m Z ∧ ¬ ft p u v g)) (hok : ∀ j, j < m → goE n G Z j = 0) (hr : (c = 0 ∨ ∃ g o : Nat, sl = some ⟨g, o, none⟩ ∧ RowO w g o c X Y F ∧ ¬ ft p u v g)) (hK : isC X Y F J c) :
    Calls Tryz.prog 18 #[.pointer (some ⟨p, 0, none⟩), .agg #[.slice sz m dz, .slice sl c d, .int .i64 ((tM a).1 : Int), .int .i64 ((tM a).2.1 : Int), .bool (tM a).2.2, .int .i64 (s : Int)]] w fun e w' => e = .returned (.int .i64 0) ∧ BookDone 25 4 B w w' p u v (n + c) (appN K n J c) (appN (mkG G Z m) n (fun _ => false) c) := by
  have hf1 : ¬ (n : Int) + (c : Int) > 1000 := by omega
  have HBK : Hid (BookAt 25 4 B w p u v n K G) := h
  have HZ : Hid ((m = 0 ∨ ∃ g o : Nat, sz = some ⟨g, o, none⟩ ∧ RowI w g o m Z ∧ ¬ ft p u v g)) := hz
  have HO : Hid (∀ j, j < m → goE n G Z j = 0) := hok
  have HR : Hid ((c = 0 ∨ ∃ g o : Nat, sl = some ⟨g, o, none⟩ ∧ RowO w g o c X Y F ∧ ¬ ft p u v g)) := hr
  have HK : Hid (isC X Y F J c) := hK
  clear hz hok hr hK
  have e1 : ((L.1 : Int) == (R.1 : Int)) = true := by rw [he]; exact beq_self_eq_true _
  have e2 : ((L.2.1 : Int) == (R.2.1 : Int)) = true := by rw [he]; exact beq_self_eq_true _
  have e3 : (L.2.2 == R.2.2) = true := by rw [he]; exact beq_self_eq_true _
  clear he
  have Hrs : Hid (∀ w, Calls Tryz.prog 8 #[.int .i64 (s : Int)] w fun e w' => e = .returned (.bool true) ∧ Below w.heap.size w w') := hrs
  have Hsp : Hid (∀ w, Calls Tryz.prog 4 #[.agg #[.int .i64 ((tM a).1 : Int), .int .i64 ((tM a).2.1 : Int), .bool (tM a).2.2]] w fun e w' => e = .returned (.int .i64 0) ∧ Below w.heap.size w w') := hsp
  have Hba : Hid (∀ w, Calls Tryz.prog 5 #[.agg #[.int .i64 ((tM a).1 : Int), .int .i64 ((tM a).2.1 : Int), .bool (tM a).2.2], .agg #[.int .i64 ((tM (4 * x)).1 : Int), .int .i64 ((tM (4 * x)).2.1 : Int), .bool (tM (4 * x)).2.2]] w fun e w' => e = .returned (.int .i64 (b : Int)) ∧ Below w.heap.size w w') := hba
  have Hse : Hid (∀ w, Calls Tryz.prog 11 #[] w fun e w' => e = .returned (.agg #[.int .i64 ((H).1 : Int), .int .i64 ((H).2.1 : Int), .bool (H).2.2]) ∧ Below w.heap.size w w') := hse
  have Htl : Hid (∀ w, Calls Tryz.prog 10 #[.agg #[.int .i64 ((H).1 : Int), .int .i64 ((H).2.1 : Int), .bool (H).2.2], .int .i64 (s : Int)] w fun e w' => e = .returned (.agg #[.int .i64 ((L).1 : Int), .int .i64 ((L).2.1 : Int), .bool (L).2.2]) ∧ Below w.heap.size w w') := htl
  have Htx : Hid (∀ w, Calls Tryz.prog 10 #[.agg #[.int .i64 ((tM (4 * x)).1 : Int), .int .i64 ((tM (4 * x)).2.1 : Int), .bool (tM (4 * x)).2.2], .int .i64 (b : Int)] w fun e w' => e = .returned (.agg #[.int .i64 ((T).1 : Int), .int .i64 ((T).2.1 : Int), .bool (T).2.2]) ∧ Below w.heap.size w w') := htx
  have Had : Hid (∀ w, Calls Tryz.prog 33 #[.agg #[.int .i64 ((tM a).1 : Int), .int .i64 ((tM a).2.1 : Int), .bool (tM a).2.2], .agg #[.int .i64 ((T).1 : Int), .int .i64 ((T).2.1 : Int), .bool (T).2.2]] w fun e w' => e = .returned (.agg #[.int .i64 ((R).1 : Int), .int .i64 ((R).2.1 : Int), .bool (R).2.2]) ∧ Below w.heap.size w w') := had
  clear hrs hsp hba hse htl htx had
  obtain ⟨su, cu, sv, cv, rfl, rfl, _⟩ := h.slices
  have HP : Hid (At w p [.slice su n cu, .slice sv n cv]) := h.cells
  have HX : Hid (∀ W, Below w.heap.size w W → Calls Tryz.prog 16 #[.pointer (some ⟨p, 0, none⟩), .slice sz m dz, .slice sl c d] W fun e w' => e = .returned (.tuple #[.agg #[.int .i64 ((tM (4 * x)).1 : Int), .int .i64 ((tM (4 * x)).2.1 : Int), .bool (tM (4 * x)).2.2], .int .i64 0]) ∧ Below W.heap.size W w') := hx
  clear h hx
  have m1 : True := trivial; have m2 : True := trivial; have m3 : True := trivial; have m4 : True := trivial
  go_enter Tryz.func18, Tryz.ntmps18
  go_upto_region 4 with (go_at_call 16; clear m1; refine (HX.out _ (by repeat (first | (with_reducible exact Below.refl _ _) | (with_reducible assumption) | (with_reducible refine Below.setCell ?_ (by first | (simp; done) | (simp; omega) | omega) _) | (with_reducible refine Below.alloc ?_ (by first | (simp; done) | (simp; omega) | omega) _) | (refine bl_call ?_ (by assumption) (by first | (simp; done) | (simp; omega) | omega)) | (with_reducible refine bl_drewN ?_) | (with_reducible refine Below.drew ?_) | (with_reducible refine bl_grow ?_ (by first | (simp; done) | (simp; omega) | omega))))).mono ?_; rintro e w1 ⟨rfl, hbw1⟩; have kdw1 : At w1 (w.heap.size) [.slice sz m dz, .slice sl c d, .int .i64 ((tM a).1 : Int), .int .i64 ((tM a).2.1 : Int), .bool (tM a).2.2, .int .i64 (s : Int)] := (by repeat (first | (with_reducible assumption) | ((with_reducible refine at_new' _ _ _ _ ?_); (first | rfl | (simp; done))) | (with_reducible refine At.alloc ?_ _) | (with_reducible refine At.drew ?_) | (with_reducible refine At.drewN ?_) | (with_reducible refine At.set ?_ (by omega)) | (with_reducible apply At.store4) | (with_reducible apply At.store3) | (with_reducible apply At.store2) | (with_reducible apply At.put43) | (refine At.below ?_ (by with_reducible assumption)))); have hqw1 : Below w.heap.size w w1 := (by repeat (first | (with_reducible exact Below.refl _ _) | (with_reducible assumption) | (with_reducible refine Below.setCell ?_ (by first | (simp; done) | (simp; omega) | omega) _) | (with_reducible refine Below.alloc ?_ (by first | (simp; done) | (simp; omega) | omega) _) | (refine bl_call ?_ (by assumption) (by first | (simp; done) | (simp; omega) | omega)) | (with_reducible refine bl_drewN ?_) | (with_reducible refine Below.drew ?_) | (with_reducible refine bl_grow ?_ (by first | (simp; done) | (simp; omega) | omega)))); have hzw1 := hqw1.size; obtain ⟨zdw1, cd0w1, cd1w1, cd2w1, cd3w1, cd4w1, cd5w1, fd0w1, fd1w1, fd2w1, fd3w1, fd4w1, fd5w1⟩ := kdw1.six; clear hbw1)
  refine wp_gen (fun V => At V (w.heap.size) [.slice sz m dz, .slice sl c d, .int .i64 ((tM a).1 : Int), .int .i64 ((tM a).2.1 : Int), .bool (tM a).2.2, .int .i64 (s : Int)] ∧ At V (w1.heap.size) [.int .i64 ((tM (4 * x)).1 : Int), .int .i64 ((tM (4 * x)).2.1 : Int), .bool (tM (4 * x)).2.2] ∧ Below w.heap.size w V) ⟨by repeat (first | (with_reducible assumption) | ((with_reducible refine at_new' _ _ _ _ ?_); (first | rfl | (simp; done))) | (with_reducible refine At.alloc ?_ _) | (with_reducible refine At.drew ?_) | (with_reducible refine At.drewN ?_) | (with_reducible refine At.set ?_ (by omega)) | (with_reducible apply At.store4) | (with_reducible apply At.store3) | (with_reducible apply At.store2) | (with_reducible apply At.put43) | (refine At.below ?_ (by with_reducible assumption))), by repeat (first | (with_reducible assumption) | ((with_reducible refine at_new' _ _ _ _ ?_); (first | rfl | (simp; done))) | (with_reducible refine At.alloc ?_ _) | (with_reducible refine At.drew ?_) | (with_reducible refine At.drewN ?_) | (with_reducible refine At.set ?_ (by omega)) | (with_reducible apply At.store4) | (with_reducible apply At.store3) | (with_reducible apply At.store2) | (with_reducible apply At.put43) | (refine At.below ?_ (by with_reducible assumption))), by repeat (first | (with_reducible exact Below.refl _ _) | (with_reducible assumption) | (with_reducible refine Below.setCell ?_ (by first | (simp; done) | (simp; omega) | omega) _) | (with_reducible refine Below.alloc ?_ (by first | (simp; done) | (simp; omega) | omega) _) | (refine bl_call ?_ (by assumption) (by first | (simp; done) | (simp; omega) | omega)) | (with_reducible refine bl_drewN ?_) | (with_reducible refine Below.drew ?_) | (with_reducible refine bl_grow ?_ (by first | (simp; done) | (simp; omega) | omega)))⟩ ?_
  rintro V ⟨kdV, kxV, hqV⟩
  have hzV := hqV.size
  clear kdw1 cd0w1 fd0w1 cd1w1 fd1w1 cd2w1 fd2w1 cd3w1 fd3w1 cd4w1 fd4w1 cd5w1 fd5w1 hqw1
  obtain ⟨zdV, cd0V, cd1V, cd2V, cd3V, cd4V, cd5V, fd0V, fd1V, fd2V, fd3V, fd4V, fd5V⟩ := kdV.six
  obtain ⟨zxV, cx0V, cx1V, cx2V, fx0V, fx1V, fx2V⟩ := kxV.three
  have kpV := HP.out.below hqV
  obtain ⟨zpV, cp0V, cp1V, fp0V, fp1V⟩ := kpV.two
  refine wp_region_quiet_below (by kernel_rfl) (by kernel_rfl) ?_
  repeat (go_big_quiet_step (first | fail))
  refine wpQuiet_nil ?_
  intro U hw1
  have hrU := regrown_below hw1
  clear hw1
  have kdU := kdV.below hrU
  have kxU := kxV.below hrU
  have kpU := kpV.below hrU
  have hqU := bl_call hqV hrU (by omega)
  have hzU := hqU.size
  clear hrU kdV cd0V fd0V cd1V fd1V cd2V fd2V cd3V fd3V cd4V fd4V cd5V fd5V kxV cx0V fx0V cx1V fx1V cx2V fx2V kpV cp0V fp0V cp1V fp1V hqV
  obtain ⟨zdU, cd0U, cd1U, cd2U, cd3U, cd4U, cd5U, fd0U, fd1U, fd2U, fd3U, fd4U, fd5U⟩ := kdU.six
  obtain ⟨zxU, cx0U, cx1U, cx2U, fx0U, fx1U, fx2U⟩ := kxU.three
  obtain ⟨zpU, cp0U, cp1U, fp0U, fp1U⟩ := kpU.two
  go_upto_region 13 with (first | (go_at_call 8; clear m2; refine (Hrs.out _).mono ?_; rintro e w2 ⟨rfl, hbw2⟩; have kdw2 : At w2 (w.heap.size) [.slice sz m dz, .slice sl c d, .int .i64 ((tM a).1 : Int), .int .i64 ((tM a).2.1 : Int), .bool (tM a).2.2, .int .i64 (s : Int)] := (by repeat (first | (with_reducible assumption) | ((with_reducible refine at_new' _ _ _ _ ?_); (first | rfl | (simp; done))) | (with_reducible refine At.alloc ?_ _) | (with_reducible refine At.drew ?_) | (with_reducible refine At.drewN ?_) | (with_reducible refine At.set ?_ (by omega)) | (with_reducible apply At.store4) | (with_reducible apply At.store3) | (with_reducible apply At.store2) | (with_reducible apply At.put43) | (refine At.below ?_ (by with_reducible assumption)))); have kxw2 : At w2 (w1.heap.size) [.int .i64 ((tM (4 * x)).1 : Int), .int .i64 ((tM (4 * x)).2.1 : Int), .bool (tM (4 * x)).2.2] := (by repeat (first | (with_reducible assumption) | ((with_reducible refine at_new' _ _ _ _ ?_); (first | rfl | (simp; done))) | (with_reducible refine At.alloc ?_ _) | (with_reducible refine At.drew ?_) | (with_reducible refine At.drewN ?_) | (with_reducible refine At.set ?_ (by omega)) | (with_reducible apply At.store4) | (with_reducible apply At.store3) | (with_reducible apply At.store2) | (with_reducible apply At.put43) | (refine At.below ?_ (by with_reducible assumption)))); have kpw2 : At w2 (p) [.slice su n cu, .slice sv n cv] := (by repeat (first | (with_reducible assumption) | ((with_reducible refine at_new' _ _ _ _ ?_); (first | rfl | (simp; done))) | (with_reducible refine At.alloc ?_ _) | (with_reducible refine At.drew ?_) | (with_reducible refine At.drewN ?_) | (with_reducible refine At.set ?_ (by omega)) | (with_reducible apply At.store4) | (with_reducible apply At.store3) | (with_reducible apply At.store2) | (with_reducible apply At.put43) | (refine At.below ?_ (by with_reducible assumption)))); have hqw2 : Below w.heap.size w w2 := (by repeat (first | (with_reducible exact Below.refl _ _) | (with_reducible assumption) | (with_reducible refine Below.setCell ?_ (by first | (simp; done) | (simp; omega) | omega) _) | (with_reducible refine Below.alloc ?_ (by first | (simp; done) | (simp; omega) | omega) _) | (refine bl_call ?_ (by assumption) (by first | (simp; done) | (simp; omega) | omega)) | (with_reducible refine bl_drewN ?_) | (with_reducible refine Below.drew ?_) | (with_reducible refine bl_grow ?_ (by first | (simp; done) | (simp; omega) | omega)))); have hzw2 := hqw2.size; obtain ⟨zdw2, cd0w2, cd1w2, cd2w2, cd3w2, cd4w2, cd5w2, fd0w2, fd1w2, fd2w2, fd3w2, fd4w2, fd5w2⟩ := kdw2.six; obtain ⟨zxw2, cx0w2, cx1w2, cx2w2, fx0w2, fx1w2, fx2w2⟩ := kxw2.three; obtain ⟨zpw2, cp0w2, cp1w2, fp0w2, fp1w2⟩ := kpw2.two; clear kdU cd0U fd0U cd1U fd1U cd2U fd2U cd3U fd3U cd4U fd4U cd5U fd5U kxU cx0U fx0U cx1U fx1U cx2U fx2U kpU cp0U fp0U cp1U fp1U hqU; clear hbw2) | (go_at_call 4; clear m3; refine (Hsp.out _).mono ?_; rintro e w3 ⟨rfl, hbw3⟩; have kdw3 : At w3 (w.heap.size) [.slice sz m dz, .slice sl c d, .int .i64 ((tM a).1 : Int), .int .i64 ((tM a).2.1 : Int), .bool (tM a).2.2, .int .i64 (s : Int)] := (by repeat (first | (with_reducible assumption) | ((with_reducible refine at_new' _ _ _ _ ?_); (first | rfl | (simp; done))) | (with_reducible refine At.alloc ?_ _) | (with_reducible refine At.drew ?_) | (with_reducible refine At.drewN ?_) | (with_reducible refine At.set ?_ (by omega)) | (with_reducible apply At.store4) | (with_reducible apply At.store3) | (with_reducible apply At.store2) | (with_reducible apply At.put43) | (refine At.below ?_ (by with_reducible assumption)))); have kxw3 : At w3 (w1.heap.size) [.int .i64 ((tM (4 * x)).1 : Int), .int .i64 ((tM (4 * x)).2.1 : Int), .bool (tM (4 * x)).2.2] := (by repeat (first | (with_reducible assumption) | ((with_reducible refine at_new' _ _ _ _ ?_); (first | rfl | (simp; done))) | (with_reducible refine At.alloc ?_ _) | (with_reducible refine At.drew ?_) | (with_reducible refine At.drewN ?_) | (with_reducible refine At.set ?_ (by omega)) | (with_reducible apply At.store4) | (with_reducible apply At.store3) | (with_reducible apply At.store2) | (with_reducible apply At.put43) | (refine At.below ?_ (by with_reducible assumption)))); have kpw3 : At w3 (p) [.slice su n cu, .slice sv n cv] := (by repeat (first | (with_reducible assumption) | ((with_reducible refine at_new' _ _ _ _ ?_); (first | rfl | (simp; done))) | (with_reducible refine At.alloc ?_ _) | (with_reducible refine At.drew ?_) | (with_reducible refine At.drewN ?_) | (with_reducible refine At.set ?_ (by omega)) | (with_reducible apply At.store4) | (with_reducible apply At.store3) | (with_reducible apply At.store2) | (with_reducible apply At.put43) | (refine At.below ?_ (by with_reducible assumption)))); have hqw3 : Below w.heap.size w w3 := (by repeat (first | (with_reducible exact Below.refl _ _) | (with_reducible assumption) | (with_reducible refine Below.setCell ?_ (by first | (simp; done) | (simp; omega) | omega) _) | (with_reducible refine Below.alloc ?_ (by first | (simp; done) | (simp; omega) | omega) _) | (refine bl_call ?_ (by assumption) (by first | (simp; done) | (simp; omega) | omega)) | (with_reducible refine bl_drewN ?_) | (with_reducible refine Below.drew ?_) | (with_reducible refine bl_grow ?_ (by first | (simp; done) | (simp; omega) | omega)))); have hzw3 := hqw3.size; obtain ⟨zdw3, cd0w3, cd1w3, cd2w3, cd3w3, cd4w3, cd5w3, fd0w3, fd1w3, fd2w3, fd3w3, fd4w3, fd5w3⟩ := kdw3.six; obtain ⟨zxw3, cx0w3, cx1w3, cx2w3, fx0w3, fx1w3, fx2w3⟩ := kxw3.three; obtain ⟨zpw3, cp0w3, cp1w3, fp0w3, fp1w3⟩ := kpw3.two; clear kdw2 cd0w2 fd0w2 cd1w2 fd1w2 cd2w2 fd2w2 cd3w2 fd3w2 cd4w2 fd4w2 cd5w2 fd5w2 kxw2 cx0w2 fx0w2 cx1w2 fx1w2 cx2w2 fx2w2 kpw2 cp0w2 fp0w2 cp1w2 fp1w2 hqw2; clear hbw3) | (go_at_call 5; clear m4; refine (Hba.out _).mono ?_; rintro e w4 ⟨rfl, hbw4⟩; have kdw4 : At w4 (w.heap.size) [.slice sz m dz, .slice sl c d, .int .i64 ((tM a).1 : Int), .int .i64 ((tM a).2.1 : Int), .bool (tM a).2.2, .int .i64 (s : Int)] := (by repeat (first | (with_reducible assumption) | ((with_reducible refine at_new' _ _ _ _ ?_); (first | rfl | (simp; done))) | (with_reducible refine At.alloc ?_ _) | (with_reducible refine At.drew ?_) | (with_reducible refine At.drewN ?_) | (with_reducible refine At.set ?_ (by omega)) | (with_reducible apply At.store4) | (with_reducible apply At.store3) | (with_reducible apply At.store2) | (with_reducible apply At.put43) | (refine At.below ?_ (by with_reducible assumption)))); have kxw4 : At w4 (w1.heap.size) [.int .i64 ((tM (4 * x)).1 : Int), .int .i64 ((tM (4 * x)).2.1 : Int), .bool (tM (4 * x)).2.2] := (by repeat (first | (with_reducible assumption) | ((with_reducible refine at_new' _ _ _ _ ?_); (first | rfl | (simp; done))) | (with_reducible refine At.alloc ?_ _) | (with_reducible refine At.drew ?_) | (with_reducible refine At.drewN ?_) | (with_reducible refine At.set ?_ (by omega)) | (with_reducible apply At.store4) | (with_reducible apply At.store3) | (with_reducible apply At.store2) | (with_reducible apply At.put43) | (refine At.below ?_ (by with_reducible assumption)))); have kpw4 : At w4 (p) [.slice su n cu, .slice sv n cv] := (by repeat (first | (with_reducible assumption) | ((with_reducible refine at_new' _ _ _ _ ?_); (first | rfl | (simp; done))) | (with_reducible refine At.alloc ?_ _) | (with_reducible refine At.drew ?_) | (with_reducible refine At.drewN ?_) | (with_reducible refine At.set ?_ (by omega)) | (with_reducible apply At.store4) | (with_reducible apply At.store3) | (with_reducible apply At.store2) | (with_reducible apply At.put43) | (refine At.below ?_ (by with_reducible assumption)))); have hqw4 : Below w.heap.size w w4 := (by repeat (first | (with_reducible exact Below.refl _ _) | (with_reducible assumption) | (with_reducible refine Below.setCell ?_ (by first | (simp; done) | (simp; omega) | omega) _) | (with_reducible refine Below.alloc ?_ (by first | (simp; done) | (simp; omega) | omega) _) | (refine bl_call ?_ (by assumption) (by first | (simp; done) | (simp; omega) | omega)) | (with_reducible refine bl_drewN ?_) | (with_reducible refine Below.drew ?_) | (with_reducible refine bl_grow ?_ (by first | (simp; done) | (simp; omega) | omega)))); have hzw4 := hqw4.size; obtain ⟨zdw4, cd0w4, cd1w4, cd2w4, cd3w4, cd4w4, cd5w4, fd0w4, fd1w4, fd2w4, fd3w4, fd4w4, fd5w4⟩ := kdw4.six; obtain ⟨zxw4, cx0w4, cx1w4, cx2w4, fx0w4, fx1w4, fx2w4⟩ := kxw4.three; obtain ⟨zpw4, cp0w4, cp1w4, fp0w4, fp1w4⟩ := kpw4.two; clear kdw3 cd0w3 fd0w3 cd1w3 fd1w3 cd2w3 fd2w3 cd3w3 fd3w3 cd4w3 fd4w3 cd5w3 fd5w3 kxw3 cx0w3 fx0w3 cx1w3 fx1w3 cx2w3 fx2w3 kpw3 cp0w3 fp0w3 cp1w3 fp1w3 hqw3; clear hbw4))
  apply region_new 5 25 [.int .i64 0, .int .i64 0, .bool false] (by kernel_rfl) (by kernel_rfl) (fun b => by kernel_rfl) rfl rfl rfl
  case hal => intro e u; simp [go_sem]
  case h =>
    intro zl Y hrY
    have kdY := kdw4.below hrY
    have kxY := kxw4.below hrY
    have kpY := kpw4.below hrY
    obtain ⟨zdY, cd0Y, cd1Y, cd2Y, cd3Y, cd4Y, cd5Y, fd0Y, fd1Y, fd2Y, fd3Y, fd4Y, fd5Y⟩ := kdY.six
    obtain ⟨zxY, cx0Y, cx1Y, cx2Y, fx0Y, fx1Y, fx2Y⟩ := kxY.three
    obtain ⟨zpY, cp0Y, cp1Y, fp0Y, fp1Y⟩ := kpY.two
    dsimp only [List.dropLast, withPtr, ptrOp, Cls]
    repeat (go_big_quiet_step (first | (go_at_call 11; with_reducible exact Calls.regrown_of (Hse.out _)) | (go_at_call 10; with_reducible exact Calls.regrown_of (Htl.out _))))
    exact wpQuiet_nil rfl
  case hA => intro b; rfl
  case hend =>
  intro zl Y hrY kzlY hyzl
  have kdY := kdw4.below hrY
  have kxY := kxw4.below hrY
  have kpY := kpw4.below hrY
  have hqY := bl_call hqw4 hrY (by omega)
  have hzY := hqY.size
  clear hrY kdw4 cd0w4 fd0w4 cd1w4 fd1w4 cd2w4 fd2w4 cd3w4 fd3w4 cd4w4 fd4w4 cd5w4 fd5w4 kxw4 cx0w4 fx0w4 cx1w4 fx1w4 cx2w4 fx2w4 kpw4 cp0w4 fp0w4 cp1w4 fp1w4 hqw4
  obtain ⟨zdY, cd0Y, cd1Y, cd2Y, cd3Y, cd4Y, cd5Y, fd0Y, fd1Y, fd2Y, fd3Y, fd4Y, fd5Y⟩ := kdY.six
  obtain ⟨zxY, cx0Y, cx1Y, cx2Y, fx0Y, fx1Y, fx2Y⟩ := kxY.three
  obtain ⟨zpY, cp0Y, cp1Y, fp0Y, fp1Y⟩ := kpY.two
  obtain ⟨zzlY, czl0Y, czl1Y, czl2Y, fzl0Y, fzl1Y, fzl2Y⟩ := kzlY.three
  dsimp only [List.dropLast, List.length, List.drop]
  go_upto_region 14 with fail
  refine wp_gen (fun O => At O (w.heap.size) [.slice sz m dz, .slice sl c d, .int .i64 ((tM a).1 : Int), .int .i64 ((tM a).2.1 : Int), .bool (tM a).2.2, .int .i64 (s : Int)] ∧ At O (w1.heap.size) [.int .i64 ((tM (4 * x)).1 : Int), .int .i64 ((tM (4 * x)).2.1 : Int), .bool (tM (4 * x)).2.2] ∧ At O (p) [.slice su n cu, .slice sv n cv] ∧ At O (zl) [.int .i64 ((L).1 : Int), .int .i64 ((L).2.1 : Int), .bool (L).2.2] ∧ Below w.heap.size w O) ⟨by repeat (first | (with_reducible assumption) | ((with_reducible refine at_new' _ _ _ _ ?_); (first | rfl | (simp; done))) | (with_reducible refine At.alloc ?_ _) | (with_reducible refine At.drew ?_) | (with_reducible refine At.drewN ?_) | (with_reducible refine At.set ?_ (by omega)) | (with_reducible apply At.store4) | (with_reducible apply At.store3) | (with_reducible apply At.store2) | (with_reducible apply At.put43) | (refine At.below ?_ (by with_reducible assumption))), by repeat (first | (with_reducible assumption) | ((with_reducible refine at_new' _ _ _ _ ?_); (first | rfl | (simp; done))) | (with_reducible refine At.alloc ?_ _) | (with_reducible refine At.drew ?_) | (with_reducible refine At.drewN ?_) | (with_reducible refine At.set ?_ (by omega)) | (with_reducible apply At.store4) | (with_reducible apply At.store3) | (with_reducible apply At.store2) | (with_reducible apply At.put43) | (refine At.below ?_ (by with_reducible assumption))), by repeat (first | (with_reducible assumption) | ((with_reducible refine at_new' _ _ _ _ ?_); (first | rfl | (simp; done))) | (with_reducible refine At.alloc ?_ _) | (with_reducible refine At.drew ?_) | (with_reducible refine At.drewN ?_) | (with_reducible refine At.set ?_ (by omega)) | (with_reducible apply At.store4) | (with_reducible apply At.store3) | (with_reducible apply At.store2) | (with_reducible apply At.put43) | (refine At.below ?_ (by with_reducible assumption))), by repeat (first | (with_reducible assumption) | ((with_reducible refine at_new' _ _ _ _ ?_); (first | rfl | (simp; done))) | (with_reducible refine At.alloc ?_ _) | (with_reducible refine At.drew ?_) | (with_reducible refine At.drewN ?_) | (with_reducible refine At.set ?_ (by omega)) | (with_reducible apply At.store4) | (with_reducible apply At.store3) | (with_reducible apply At.store2) | (with_reducible apply At.put43) | (refine At.below ?_ (by with_reducible assumption))), by repeat (first | (with_reducible exact Below.refl _ _) | (with_reducible assumption) | (with_reducible refine Below.setCell ?_ (by first | (simp; done) | (simp; omega) | omega) _) | (with_reducible refine Below.alloc ?_ (by first | (simp; done) | (simp; omega) | omega) _) | (refine bl_call ?_ (by assumption) (by first | (simp; done) | (simp; omega) | omega)) | (with_reducible refine bl_drewN ?_) | (with_reducible refine Below.drew ?_) | (with_reducible refine bl_grow ?_ (by first | (simp; done) | (simp; omega) | omega)))⟩ ?_
  rintro O ⟨kdO, kxO, kpO, klO, hqO⟩
  have hzO := hqO.size
  clear kdY cd0Y fd0Y cd1Y fd1Y cd2Y fd2Y cd3Y fd3Y cd4Y fd4Y cd5Y fd5Y kxY cx0Y fx0Y cx1Y fx1Y cx2Y fx2Y kpY cp0Y fp0Y cp1Y fp1Y hqY
  obtain ⟨zdO, cd0O, cd1O, cd2O, cd3O, cd4O, cd5O, fd0O, fd1O, fd2O, fd3O, fd4O, fd5O⟩ := kdO.six
  obtain ⟨zxO, cx0O, cx1O, cx2O, fx0O, fx1O, fx2O⟩ := kxO.three
  obtain ⟨zpO, cp0O, cp1O, fp0O, fp1O⟩ := kpO.two
  obtain ⟨zlO, cl0O, cl1O, cl2O, fl0O, fl1O, fl2O⟩ := klO.three
  apply region_new 7 25 [.int .i64 0, .int .i64 0, .bool false] (by kernel_rfl) (by kernel_rfl) (fun b => by kernel_rfl) rfl rfl rfl
  case hal => intro e u; simp [go_sem]
  case h =>
    intro zr Q hrQ
    have kdQ := kdO.below hrQ
    have kxQ := kxO.below hrQ
    have kpQ := kpO.below hrQ
    have klQ := klO.below hrQ
    obtain ⟨zdQ, cd0Q, cd1Q, cd2Q, cd3Q, cd4Q, cd5Q, fd0Q, fd1Q, fd2Q, fd3Q, fd4Q, fd5Q⟩ := kdQ.six
    obtain ⟨zxQ, cx0Q, cx1Q, cx2Q, fx0Q, fx1Q, fx2Q⟩ := kxQ.three
    obtain ⟨zpQ, cp0Q, cp1Q, fp0Q, fp1Q⟩ := kpQ.two
    obtain ⟨zlQ, cl0Q, cl1Q, cl2Q, fl0Q, fl1Q, fl2Q⟩ := klQ.three
    dsimp only [List.dropLast, withPtr, ptrOp, Cls]
    repeat (go_big_quiet_step (first | (go_at_call 10; with_reducible exact Calls.regrown_of (Htx.out _)) | (go_at_call 33; with_reducible exact Calls.regrown_of (Had.out _))))
    exact wpQuiet_nil rfl
  case hA => intro b; rfl
  case hend =>
  intro zr Q hrQ kzrQ hyzr
  have kdQ := kdO.below hrQ
  have kxQ := kxO.below hrQ
  have kpQ := kpO.below hrQ
  have klQ := klO.below hrQ
  have hqQ := bl_call hqO hrQ (by omega)
  have hzQ := hqQ.size
  clear hrQ kdO cd0O fd0O cd1O fd1O cd2O fd2O cd3O fd3O cd4O fd4O cd5O fd5O kxO cx0O fx0O cx1O fx1O cx2O fx2O kpO cp0O fp0O cp1O fp1O klO cl0O fl0O cl1O fl1O cl2O fl2O hqO
  obtain ⟨zdQ, cd0Q, cd1Q, cd2Q, cd3Q, cd4Q, cd5Q, fd0Q, fd1Q, fd2Q, fd3Q, fd4Q, fd5Q⟩ := kdQ.six
  obtain ⟨zxQ, cx0Q, cx1Q, cx2Q, fx0Q, fx1Q, fx2Q⟩ := kxQ.three
  obtain ⟨zpQ, cp0Q, cp1Q, fp0Q, fp1Q⟩ := kpQ.two
  obtain ⟨zlQ, cl0Q, cl1Q, cl2Q, fl0Q, fl1Q, fl2Q⟩ := klQ.three
  obtain ⟨zzrQ, czr0Q, czr1Q, czr2Q, fzr0Q, fzr1Q, fzr2Q⟩ := kzrQ.three
  dsimp only [List.dropLast, List.length, List.drop]
  go_upto_region 15 with fail
  refine wp_gen (fun M => At M (w.heap.size) [.slice sz m dz, .slice sl c d, .int .i64 ((tM a).1 : Int), .int .i64 ((tM a).2.1 : Int), .bool (tM a).2.2, .int .i64 (s : Int)] ∧ At M (zl) [.int .i64 ((L).1 : Int), .int .i64 ((L).2.1 : Int), .bool (L).2.2] ∧ At M (zr) [.int .i64 ((R).1 : Int), .int .i64 ((R).2.1 : Int), .bool (R).2.2] ∧ Below w.heap.size w M) ⟨by repeat (first | (with_reducible assumption) | ((with_reducible refine at_new' _ _ _ _ ?_); (first | rfl | (simp; done))) | (with_reducible refine At.alloc ?_ _) | (with_reducible refine At.drew ?_) | (with_reducible refine At.drewN ?_) | (with_reducible refine At.set ?_ (by omega)) | (with_reducible apply At.store4) | (with_reducible apply At.store3) | (with_reducible apply At.store2) | (with_reducible apply At.put43) | (refine At.below ?_ (by with_reducible assumption))), by repeat (first | (with_reducible assumption) | ((with_reducible refine at_new' _ _ _ _ ?_); (first | rfl | (simp; done))) | (with_reducible refine At.alloc ?_ _) | (with_reducible refine At.drew ?_) | (with_reducible refine At.drewN ?_) | (with_reducible refine At.set ?_ (by omega)) | (with_reducible apply At.store4) | (with_reducible apply At.store3) | (with_reducible apply At.store2) | (with_reducible apply At.put43) | (refine At.below ?_ (by with_reducible assumption))), by repeat (first | (with_reducible assumption) | ((with_reducible refine at_new' _ _ _ _ ?_); (first | rfl | (simp; done))) | (with_reducible refine At.alloc ?_ _) | (with_reducible refine At.drew ?_) | (with_reducible refine At.drewN ?_) | (with_reducible refine At.set ?_ (by omega)) | (with_reducible apply At.store4) | (with_reducible apply At.store3) | (with_reducible apply At.store2) | (with_reducible apply At.put43) | (refine At.below ?_ (by with_reducible assumption))), by repeat (first | (with_reducible exact Below.refl _ _) | (with_reducible assumption) | (with_reducible refine Below.setCell ?_ (by first | (simp; done) | (simp; omega) | omega) _) | (with_reducible refine Below.alloc ?_ (by first | (simp; done) | (simp; omega) | omega) _) | (refine bl_call ?_ (by assumption) (by first | (simp; done) | (simp; omega) | omega)) | (with_reducible refine bl_drewN ?_) | (with_reducible refine Below.drew ?_) | (with_reducible refine bl_grow ?_ (by first | (simp; done) | (simp; omega) | omega)))⟩ ?_
  rintro M ⟨kdM, klM, krM, hqM⟩
  have hzM := hqM.size
  clear kzrQ kdQ cd0Q fd0Q cd1Q fd1Q cd2Q fd2Q cd3Q fd3Q cd4Q fd4Q cd5Q fd5Q kxQ cx0Q fx0Q cx1Q fx1Q cx2Q fx2Q kpQ cp0Q fp0Q cp1Q fp1Q klQ cl0Q fl0Q cl1Q fl1Q cl2Q fl2Q hqQ
  obtain ⟨zdM, cd0M, cd1M, cd2M, cd3M, cd4M, cd5M, fd0M, fd1M, fd2M, fd3M, fd4M, fd5M⟩ := kdM.six
  obtain ⟨zlM, cl0M, cl1M, cl2M, fl0M, fl1M, fl2M⟩ := klM.three
  obtain ⟨zrM, cr0M, cr1M, cr2M, fr0M, fr1M, fr2M⟩ := krM.three
  have hpw := HBK.out.cells.1
  have hbw := HBK.out.base
  go_upto_if 67 with fail
  go_cut [] from 14 to 114 (fun wx => At wx (w.heap.size) [.slice sz m dz, .slice sl c d, .int .i64 ((tM a).1 : Int), .int .i64 ((tM a).2.1 : Int), .bool (tM a).2.2, .int .i64 (s : Int)] ∧ Below w.heap.size w wx)
  case first =>
    go_wp2_with fail
    go_meet
    case rel => exact ⟨kdM, hqM⟩
  case rest =>
  clear kdM cd0M fd0M cd1M fd1M cd2M fd2M cd3M fd3M cd4M fd4M cd5M fd5M klM cl0M fl0M cl1M fl1M cl2M fl2M krM cr0M fr0M cr1M fr1M cr2M fr2M hqM e1 e2 e3
  obtain ⟨kdN, hqN⟩ := hcut
  go_wp2_with fail
  go_loopw [11] (fun ti wl => ∃ k : Nat, k ≤ m ∧ ti = .int .i64 k ∧ BookAt 25 4 B wl p (.slice su n cu) (.slice sv n cv) n K (mkG G Z k) ∧ At wl (w.heap.size) [.slice sz m dz, .slice sl c d, .int .i64 ((tM a).1 : Int), .int .i64 ((tM a).2.1 : Int), .bool (tM a).2.2, .int .i64 (s : Int)] ∧ But (ft p (.slice su n cu) (.slice sv n cv)) w wl) (fun ti _ => m - (intOf ti).toNat)
  case atStart => exact ⟨0, by omega, rfl, HBK.out.below hqN, kdN, But.of_below _ hqN⟩
  case round =>
    clear kdN hqN
    obtain ⟨k, hk, rfl, hBV, kdV, hqV⟩ := hrel
    rename World => V
    have hzV := hqV.size
    have kpV := hBV.cells
    obtain ⟨zdV, cd0V, cd1V, cd2V, cd3V, cd4V, cd5V, fd0V, fd1V, fd2V, fd3V, fd4V, fd5V⟩ := kdV.six
    obtain ⟨zpV, cp0V, cp1V, fp0V, fp1V⟩ := kpV.two
    by_cases hlt : k < m
    · have hlt' : (k : Int) < m := by omega
      obtain ⟨b1, o1, rfl, hzr, hnf⟩ := HZ.out.resolve_left (by omega)
      obtain ⟨a1, a2, a3⟩ := goE_ok (HO.out k hlt)
      obtain ⟨z, hz⟩ : ∃ z : Nat, Z k = (z : Int) := ⟨(Z k).toNat, by have := inN_yes a1; omega⟩
      have hzn : z < n := by have := inN_yes a1; omega
      have c0 := (hzr.but hqV hnf).2 k hlt
      have hb1 : b1 < V.heap.size := (hzr.but hqV hnf).1
      have HZz : Hid (Z k = (z : Int)) := hz
      rw [hz] at c0
      clear a1 a2 a3 hz hzr hnf
      have t1 : 0 ≤ (z : Int) := by omega
      have t2 : (z : Int) < n := by omega
      obtain ⟨_, _, sv2, cv2, _, e5, hrow⟩ := hBV.slices
      obtain ⟨g2, h2, _, e6, _, _⟩ := hrow.resolve_left (by omega)
      injection e5 with e5
      rw [← e5] at e6
      subst e6
      clear hrow e5
      have hh2 : h2 < w.heap.size := (HBK.out.flags.lt h2 rfl).2
      go_wp2_with fail
      refine below_gate 10 1 #[true, true, true, true, true, true, true, true, true, true, false] (by kernel_rfl) (by kernel_rfl) rfl rfl ?_
      dsimp only [List.take]
      repeat (go_big_quiet_step (first | fail))
      refine wpQuiet_nil ?_
      intro W hw1
      have hrW := regrown_below hw1
      clear hw1
      have kdW := kdV.below hrW
      have kpW := kpV.below hrW
      have hqW := hqV.call hrW
      have hzW := hqW.size
      have hBW := hBV.below hrW
      clear hrW kdV cd0V fd0V cd1V fd1V cd2V fd2V cd3V fd3V cd4V fd4V cd5V fd5V kpV cp0V fp0V cp1V fp1V hqV
      obtain ⟨zdW, cd0W, cd1W, cd2W, cd3W, cd4W, cd5W, fd0W, fd1W, fd2W, fd3W, fd4W, fd5W⟩ := kdW.six
      obtain ⟨zpW, cp0W, cp1W, fp0W, fp1W⟩ := kpW.two
      have zhW : h2 < W.heap.size := (hBW.flags.lt h2 rfl).2
      have czW := hBW.flags.cellAt z (by omega)
      rw [cellsB_at _ hzn] at czW
      have fzW := hBW.flags.frozenAt z
      refine wpAny_ready (rs := [10]) (by kernel_rfl) (by simp) (AllReady.cons rfl (fun K hK => ?_) AllReady.nil)
      go_simp
      refine hK _ _ ?_
      clear hK K
      refine wpAny_done (by kernel_rfl) ?_ _
      go_wp2_with fail
      go_roundw
      case rel => exact ⟨k + 1, by omega, by simp, by
          show BookAt _ _ _ _ _ _ _ _ _ (setB (mkG G Z k) (Z k).toNat)
          rw [HZz.out, Int.toNat_natCast]
          exact hBW.flag hzn, At.set kdW (by omega), hqW.setCell (Or.inl (Or.inr (Or.inr rfl))) _⟩
      case measure => simp [intOf]; omega
    · have hlt' : ¬ (k : Int) < m := by omega
      obtain rfl : k = m := by omega
      obtain ⟨i0, hi, hv0, hv1, hv2⟩ := info_parts rcpinfo
      obtain ⟨j0, hj, hu0, hu1, hu2⟩ := info_parts rcbinfo
      go_wp2_with fail
      go_loopw [12] (fun ti wl => ∃ j : Nat, j ≤ c ∧ ti = .int .i64 j ∧ BookGrown 25 4 B w wl p (.slice su n cu) (.slice sv n cv) (n + j) (appN K n J j) (appN (mkG G Z k) n (fun _ => false) j) ∧ At wl (w.heap.size) [.slice sz k dz, .slice sl c d, .int .i64 ((tM a).1 : Int), .int .i64 ((tM a).2.1 : Int), .bool (tM a).2.2, .int .i64 (s : Int)] ∧ But (ft p (.slice su n cu) (.slice sv n cv)) w wl) (fun ti _ => c - (intOf ti).toNat)
      case atStart => exact ⟨0, by omega, rfl, ⟨_, _, hBV, fun i hi => Or.inl hi⟩, kdV, hqV⟩
      case round =>
        clear hBV kdV cd0V fd0V cd1V fd1V cd2V fd2V cd3V fd3V cd4V fd4V cd5V fd5V kpV cp0V fp0V cp1V fp1V hqV
        obtain ⟨j, hj2, rfl, hGr, kdU, hqU⟩ := hrel
        rename World => U
        have hzU := hqU.size
        obtain ⟨u1, v1, hB1, hft⟩ := hGr
        obtain ⟨su1, cu1, sv1, cv1, rfl, rfl, _⟩ := hB1.slices
        have HFT : Hid (∀ i, ft p (.slice su1 (n + j) cu1) (.slice sv1 (n + j) cv1) i → ft p (.slice su n cu) (.slice sv n cv) i ∨ w.heap.size < i) := hft
        have HB1 : Hid (BookAt 25 4 B U p (.slice su1 (n + j) cu1) (.slice sv1 (n + j) cv1) (n + j) (appN K n J j) (appN (mkG G Z k) n (fun _ => false) j)) := hB1
        have kpU := hB1.cells
        clear hft hB1
        obtain ⟨zdU, cd0U, cd1U, cd2U, cd3U, cd4U, cd5U, fd0U, fd1U, fd2U, fd3U, fd4U, fd5U⟩ := kdU.six
        obtain ⟨zpU, cp0U, cp1U, fp0U, fp1U⟩ := kpU.two
        by_cases hlt : j < c
        · have hlt' : (j : Int) < c := by omega
          obtain ⟨b1, o1, rfl, hxr, hnf⟩ := HR.out.resolve_left (by omega)
          obtain ⟨c0, c1, c2⟩ := (hxr.but hqU hnf).2 j hlt
          have hb1 : b1 < U.heap.size := (hxr.but hqU hnf).1
          obtain ⟨e0, e1, e2⟩ := HK.out j hlt
          rw [e0] at c0
          rw [e1] at c1
          rw [e2] at c2
          clear e0 e1 e2 hxr hnf
          have HCo : Hid (U.ownsRow B 25 3 (.slice su1 (n + j) cu1) (n + j) (cellsK (appN K n J j) (n + j))) := HB1.out.coins
          have HCe : Hid (At U p [.slice su1 (n + j) cu1, .slice sv1 (n + j) cv1]) := kpU
          have HAu : Hid ((Value.slice su1 (n + j) cu1).ownBlock ≠ some p) := HB1.out.au
          go_wp2_with fail
          go_region_law ((refine step_append_lies _ (by rfl) _ _ 22 (by rfl) B 25 i0 (.agg #[.int .i64 0, .int .i64 0, .bool false]) 3 24 Tryz.underlying22 hi hv0 hv1 hv2 (by rfl) (by decide) _ (n + j) _ (by rfl) ((own_drew HCo.out).alloc _) ⟨U.heap.size, 0, none⟩ 1 1 [.int .i64 ((tM (4 * J j)).1 : Int), .int .i64 ((tM (4 * J j)).2.1 : Int), .bool (tM (4 * J j)).2.2] (by rfl) (by rfl) (three_at rfl _ _ _ _) (by simp [Value.oneCell']) (by omega) (by unfold maxLen; omega) (by omega) (by simp; omega) (U.heap.size + 1) (by simp) ?_); (intro g7 cap7 w7 hown7 hgrow7 hat7 hlt7); (have kp7 := At.grown (At.alloc (At.drew HCe.out) _) hgrow7 HAu.out); (obtain ⟨zp7, cp07, cp17, fp07, fp17⟩ := kp7.two))
          all_goals (
          have hWa := (show Below U.heap.size U (U.alloc (.cells #[.int .i64 ((tM (4 * J j)).1 : Int), .int .i64 ((tM (4 * J j)).2.1 : Int), .bool (tM (4 * J j)).2.2] 25)).drew from ((Below.refl _ _).alloc (Nat.le_refl _) _).drew)
          rw [← cellsK_app] at hown7
          have hat8 : (Value.slice (some ⟨g7, 0, none⟩) (n + j + 1) cap7).ownBlock = (Value.slice su1 (n + j) cu1).ownBlock ∨ (Value.slice (some ⟨g7, 0, none⟩) (n + j + 1) cap7).ownBlock = some (U.alloc (.cells #[.int .i64 ((tM (4 * J j)).1 : Int), .int .i64 ((tM (4 * J j)).2.1 : Int), .bool (tM (4 * J j)).2.2] 25)).drew.heap.size := by
            rcases hat7 with e | e
            · exact Or.inl e.symm
            · exact Or.inr (by rw [e]; simp [Value.ownBlock])
          have hG7 := grow_coin (w := w) HB1.out.duo hWa hgrow7 hown7 hat8 HFT.out (fun i hi => HBK.out.lt hi) (Or.inl rfl) hqU kdU
          clear hWa hat8 hown7 hgrow7 hat7 kp7 cp07 cp17 fp07 fp17 zp7
          refine ethen_gen2 (fun O => Duo 25 4 3 1 B O p (.slice (some ⟨g7, 0, none⟩) (n + j + 1) cap7) (n + j + 1) (cellsK (appN K n J (j + 1)) (n + j + 1)) (.slice sv1 (n + j) cv1) (n + j) (cellsB (appN (mkG G Z k) n (fun _ => false) j) (n + j)) ∧ At O (w.heap.size) [.slice sz k dz, .slice (some ⟨b1, o1, none⟩) c d, .int .i64 ((tM a).1 : Int), .int .i64 ((tM a).2.1 : Int), .bool (tM a).2.2, .int .i64 (s : Int)] ∧ But (ft p (.slice su n cu) (.slice sv n cv)) w O ∧ ∀ i, ft p (.slice (some ⟨g7, 0, none⟩) (n + j + 1) cap7) (.slice sv1 (n + j) cv1) i → (ft p (.slice su n cu) (.slice sv n cv)) i ∨ w.heap.size < i) hG7 ?_
          clear hG7
          rintro O ⟨hDO, kdO, hqO, hftO⟩
          clear kdU cd0U fd0U cd1U fd1U cd2U fd2U cd3U fd3U cd4U fd4U cd5U fd5U kpU cp0U fp0U cp1U fp1U hqU c0 c1 c2 hb1 HCo HCe HAu hlt7
          have HDO : Hid (Duo 25 4 3 1 B O p (.slice (some ⟨g7, 0, none⟩) (n + j + 1) cap7) (n + j + 1) (cellsK (appN K n J (j + 1)) (n + j + 1)) (.slice sv1 (n + j) cv1) (n + j) (cellsB (appN (mkG G Z k) n (fun _ => false) j) (n + j))) := hDO
          have HFO : Hid (∀ i, ft p (.slice (some ⟨g7, 0, none⟩) (n + j + 1) cap7) (.slice sv1 (n + j) cv1) i → (ft p (.slice su n cu) (.slice sv n cv)) i ∨ w.heap.size < i) := hftO
          have kpO := hDO.cells
          clear hDO hftO
          have hzO := hqO.size
          obtain ⟨zdO, cd0O, cd1O, cd2O, cd3O, cd4O, cd5O, fd0O, fd1O, fd2O, fd3O, fd4O, fd5O⟩ := kdO.six
          obtain ⟨zpO, cp0O, cp1O, fp0O, fp1O⟩ := kpO.two
          go_wp2_with (at_builtin; refine wpList_append_own_at _ rfl _ _ 59 rfl B 4 j0 (.bool false) 1 1 Tryz.underlying59 hj hu0 hu1 hu2 rfl (by decide) _ _ _ rfl (HDO.out.snd.alloc _) ⟨O.heap.size, 0, none⟩ 1 1 [.bool false] rfl rfl ?c1 ?c2 ?c3 ?c4 ?c5 ?_)
          case c1 => exact one_at rfl _ _
          case c2 => intro u hu; simp at hu; subst hu; rfl
          case c3 => unfold maxLen; omega
          case c4 => omega
          case c5 => simp; omega
          intro v9 w9 hown9 hgrow9 _ hat9
          have hown10 : w9.ownsRow B 4 1 v9 (n + j + 1) (cellsB (appN (mkG G Z k) n (fun _ => false) (j + 1)) (n + j + 1)) := by rw [cellsB_app]; exact hown9
          obtain ⟨sa9, c9, rfl, _⟩ := own_slice hown10
          have hG9 := grow_flag (w := w) HDO.out ((Below.refl _ _).alloc (Nat.le_refl _) _) hgrow9 hown10 (by simpa using hat9) HFO.out (fun i hi => HBK.out.lt hi) (Or.inl rfl) hqO kdO
          have kp9 := At.grown (At.alloc kpO _) hgrow9 HDO.out.av
          obtain ⟨zp9, cp09, cp19, fp09, fp19⟩ := kp9.two
          have HG9 := (show Hid _ from hG9)
          clear hG9 hown9 hown10 hgrow9 hat9 kp9
          go_wp2_with fail
          go_roundw
          case rel => exact ⟨j + 1, by omega, by simp, ⟨_, _, HG9.out.1.book, HG9.out.2.2.2⟩, HG9.out.2.1, HG9.out.2.2.1⟩
          case measure => simp [intOf]; omega)
        · have hlt' : ¬ (j : Int) < c := by omega
          obtain rfl : j = c := by omega
          go_wp2_with fail
          go_ret
          exact ⟨rfl, BookGrown.done ⟨_, _, HB1.out, HFT.out⟩ hqU⟩
end Go.Proofs.YtlbdcgnhmkjfiajGreatDoor
/- RefBookD -/
namespace Go.Proofs.YtlbdcgnhmkjfiajGreatDoor
open Go.RowKit Go.Sort
set_option linter.unusedVariables false
set_option linter.unusedSimpArgs false
theorem rcoins_is (sl : Option Addr) (c d : Nat) (X Y : Nat → Int) (F : Nat → Bool) (q : Int) (w : World) (hr : (c = 0 ∨ ∃ b o : Nat, sl = some ⟨b, o, none⟩ ∧ RowO w b o c X Y F)) (h : ComeIs X Y F c q) : Calls Tryz.prog 13 #[.slice sl c d] w fun e w' => e = .returned (.int .i64 q) ∧ Below w.heap.size w w' := by
  rcases h with ⟨h1, rfl⟩ | ⟨h1, ⟨m, h2, h3, h4⟩, rfl⟩ | ⟨h1, ⟨J, h2⟩, rfl⟩
  · exact rcoins_many sl c d w h1
  · exact rcoins_any sl c d m X Y F 3 w h1 hr (Nat.le_of_lt h2) h3 (Or.inr ⟨h2, h4, rfl⟩)
  · exact rcoins_any sl c d c X Y F 0 w h1 hr (Nat.le_refl _) (fun j hj => ⟨J j, h2 j hj⟩) (Or.inl ⟨rfl, rfl⟩)
theorem or_ne {a : Nat} {P : Prop} (h : a ≠ 0 → P) : a = 0 ∨ P := by
  by_cases e : a = 0
  · exact Or.inl e
  · exact Or.inr (h e)
theorem xrow_up {w W : World} {sl : Option Addr} {c : Nat} {X Y : Nat → Int} {F : Nat → Bool} (hr : (c = 0 ∨ ∃ b o : Nat, sl = some ⟨b, o, none⟩ ∧ RowO w b o c X Y F)) (h : Below w.heap.size w W) : (c = 0 ∨ ∃ b o : Nat, sl = some ⟨b, o, none⟩ ∧ RowO W b o c X Y F) := hr.imp_right fun ⟨b, o, e, r⟩ => ⟨b, o, e, r.below r.1 h⟩
theorem zrow_up {w W : World} {sz : Option Addr} {m : Nat} {Z : Nat → Int} (hr : (m = 0 ∨ ∃ b o : Nat, sz = some ⟨b, o, none⟩ ∧ RowI w b o m Z)) (h : Below w.heap.size w W) : (m = 0 ∨ ∃ b o : Nat, sz = some ⟨b, o, none⟩ ∧ RowI W b o m Z) := hr.imp_right fun ⟨b, o, e, r⟩ => ⟨b, o, e, r.below r.1 h⟩
theorem rexc_no (B p n m c d dz : Nat) (sz sl : Option Addr) (u v : Value) (K : Nat → Nat) (G : Nat → Bool) (Z : Nat → Int) (X Y : Nat → Int) (F : Nat → Bool) (q : Int) (w : World) (hn : n ≤ 1000000) (hm : m ≤ 9223372036854775807) (h : BookAt 25 4 B w p u v n K G) (hz : (m = 0 ∨ ∃ b o : Nat, sz = some ⟨b, o, none⟩ ∧ RowI w b o m Z)) (hr : (c = 0 ∨ ∃ b o : Nat, sl = some ⟨b, o, none⟩ ∧ RowO w b o c X Y F)) (hc : ComeIs X Y F c q) (he : (exE n G Z m q == 0) = false) : Calls Tryz.prog 16 #[.pointer (some ⟨p, 0, none⟩), .slice sz m dz, .slice sl c d] w fun e w' => e = .returned (.tuple #[.agg #[.int .i64 0, .int .i64 0, .bool false], .int .i64 (exE n G Z m q)]) ∧ Below w.heap.size w w' := by
  unfold exE at he ⊢
  cases h1 : gnE n G Z m == 0 with
  | false =>
    simp only [cond_false] at he ⊢
    obtain ⟨t, h2, h3, h4, h5⟩ := gnE_first h1
    rw [h5]
    exact rexc_bad B p n m c d dz t sz sl u v K G Z w hn hm h hz h2 h3 h4
  | true =>
    rw [h1] at he
    simp only [cond_true] at he ⊢
    exact rexc_come B p n m c d dz sz sl u v K G Z q w hn hm h hz (gnE_zero (by simpa using h1)) he (fun W hW => rcoins_is sl c d X Y F q W (xrow_up hr hW) hc)
theorem rexc_yes (B p n m c d dz : Nat) (sz sl : Option Addr) (u v : Value) (K : Nat → Nat) (G : Nat → Bool) (Z : Nat → Int) (X Y : Nat → Int) (F : Nat → Bool) (J : Nat → Nat) (w : World) (hn : n ≤ 1000000) (hm : m ≤ 9223372036854775807) (h : BookAt 25 4 B w p u v n K G) (hz : (m = 0 ∨ ∃ b o : Nat, sz = some ⟨b, o, none⟩ ∧ RowI w b o m Z)) (hr : (c = 0 ∨ ∃ b o : Nat, sl = some ⟨b, o, none⟩ ∧ RowO w b o c X Y F)) (hok : ∀ i, i < m → goE n G Z i = 0) (hc : c ≤ 12) (hJ : isC X Y F J c) : Calls Tryz.prog 16 #[.pointer (some ⟨p, 0, none⟩), .slice sz m dz, .slice sl c d] w fun e w' => e = .returned (.tuple #[.agg #[.int .i64 ((tM (4 * exN K Z m J c)).1 : Int), .int .i64 ((tM (4 * exN K Z m J c)).2.1 : Int), .bool (tM (4 * exN K Z m J c)).2.2], .int .i64 0]) ∧ Below w.heap.size w w' :=
  rexc_ok B p n m c d dz sz sl u v K G Z J w hn hm h hz hok (fun W hW => rcoins_is sl c d X Y F 0 W (xrow_up hr hW) (Or.inr (Or.inr ⟨hc, ⟨J, hJ⟩, rfl⟩))) (fun W hW => bjoin sl c d X Y F J W (by omega) (xrow_up hr hW) hJ)
theorem rdo_no1 (B p n m c d dz : Nat) (sz sl : Option Addr) (u v : Value) (K : Nat → Nat) (G : Nat → Bool) (Z : Nat → Int) (X Y : Nat → Int) (F : Nat → Bool) (rx ry S q : Int) (rf : Bool) (w : World) (hn : n ≤ 1000000) (hm : m ≤ 9223372036854775807) (h : BookAt 25 4 B w p u v n K G) (hz : (m = 0 ∨ ∃ b o : Nat, sz = some ⟨b, o, none⟩ ∧ RowI w b o m Z)) (hr : (c = 0 ∨ ∃ b o : Nat, sl = some ⟨b, o, none⟩ ∧ RowO w b o c X Y F)) (hc : ComeIs X Y F c q) (he : (exE n G Z m q == 0) = false) : Calls Tryz.prog 18 #[.pointer (some ⟨p, 0, none⟩), .agg #[.slice sz m dz, .slice sl c d, .int .i64 rx, .int .i64 ry, .bool rf, .int .i64 S]] w fun e w' => e = .returned (.int .i64 (exE n G Z m q)) ∧ Below w.heap.size w w' :=
  rdo_exc B p n m c d dz sz sl rx ry S _ rf (0, 0, false) w he (fun W hW => rexc_no B p n m c d dz sz sl u v K G Z X Y F q W hn hm (h.below hW) (zrow_up hz hW) (xrow_up hr hW) hc he)
theorem rdo_no2 (B p n m c d dz : Nat) (sz sl : Option Addr) (u v : Value) (K : Nat → Nat) (G : Nat → Bool) (Z : Nat → Int) (X Y : Nat → Int) (F : Nat → Bool) (J : Nat → Nat) (rx ry S : Int) (rf : Bool) (w : World) (hn : n ≤ 1000) (hm : m ≤ 9223372036854775807) (h : BookAt 25 4 B w p u v n K G) (hz : (m = 0 ∨ ∃ b o : Nat, sz = some ⟨b, o, none⟩ ∧ RowI w b o m Z)) (hr : (c = 0 ∨ ∃ b o : Nat, sl = some ⟨b, o, none⟩ ∧ RowO w b o c X Y F)) (hok : ∀ i, i < m → goE n G Z i = 0) (hc : c ≤ 12) (hJ : isC X Y F J c) (hf : 1000 < n + c) : Calls Tryz.prog 18 #[.pointer (some ⟨p, 0, none⟩), .agg #[.slice sz m dz, .slice sl c d, .int .i64 rx, .int .i64 ry, .bool rf, .int .i64 S]] w fun e w' => e = .returned (.int .i64 4) ∧ Below w.heap.size w w' :=
  rdo_full B p n m c d dz sz sl u v K G (exN K Z m J c) rx ry S rf w hn hc hf h (fun W hW => rexc_yes B p n m c d dz sz sl u v K G Z X Y F J W (by omega) hm (h.below hW) (zrow_up hz hW) (xrow_up hr hW) hok hc hJ)
theorem rdo_no3 (B p n m c d dz : Nat) (sz sl : Option Addr) (u v : Value) (K : Nat → Nat) (G : Nat → Bool) (Z : Nat → Int) (X Y : Nat → Int) (F : Nat → Bool) (J : Nat → Nat) (rx ry S : Int) (rf : Bool) (w : World) (hn : n ≤ 1000) (hm : m ≤ 9223372036854775807) (h : BookAt 25 4 B w p u v n K G) (hz : (m = 0 ∨ ∃ b o : Nat, sz = some ⟨b, o, none⟩ ∧ RowI w b o m Z)) (hr : (c = 0 ∨ ∃ b o : Nat, sl = some ⟨b, o, none⟩ ∧ RowO w b o c X Y F)) (hok : ∀ i, i < m → goE n G Z i = 0) (hc : c ≤ 12) (hJ : isC X Y F J c) (hf : n + c ≤ 1000) (hS : resB S = false) : Calls Tryz.prog 18 #[.pointer (some ⟨p, 0, none⟩), .agg #[.slice sz m dz, .slice sl c d, .int .i64 rx, .int .i64 ry, .bool rf, .int .i64 S]] w fun e w' => e = .returned (.int .i64 1) ∧ Below w.heap.size w w' :=
  rdo_rest B p n m c d dz sz sl u v K G (exN K Z m J c) rx ry S rf w hn hc hf h (fun W hW => rexc_yes B p n m c d dz sz sl u v K G Z X Y F J W (by omega) hm (h.below hW) (zrow_up hz hW) (xrow_up hr hW) hok hc hJ) (fun w => by have := rrest S w; rwa [hS] at this)
theorem rdo_no4 (B p n m c d dz : Nat) (sz sl : Option Addr) (u v : Value) (K : Nat → Nat) (G : Nat → Bool) (Z : Nat → Int) (X Y : Nat → Int) (F : Nat → Bool) (J : Nat → Nat) (rx ry S : Int) (rf : Bool) (w : World) (hn : n ≤ 1000) (hm : m ≤ 9223372036854775807) (h : BookAt 25 4 B w p u v n K G) (hz : (m = 0 ∨ ∃ b o : Nat, sz = some ⟨b, o, none⟩ ∧ RowI w b o m Z)) (hr : (c = 0 ∨ ∃ b o : Nat, sl = some ⟨b, o, none⟩ ∧ RowO w b o c X Y F)) (hok : ∀ i, i < m → goE n G Z i = 0) (hc : c ≤ 12) (hJ : isC X Y F J c) (hf : n + c ≤ 1000) (hS : resB S = true) (hR : (ckI rx ry rf == 0) = false) : Calls Tryz.prog 18 #[.pointer (some ⟨p, 0, none⟩), .agg #[.slice sz m dz, .slice sl c d, .int .i64 rx, .int .i64 ry, .bool rf, .int .i64 S]] w fun e w' => e = .returned (.int .i64 (ckI rx ry rf)) ∧ Below w.heap.size w w' :=
  rdo_spot B p n m c d dz sz sl u v K G (exN K Z m J c) rx ry S _ rf w hn hc hf h (fun W hW => rexc_yes B p n m c d dz sz sl u v K G Z X Y F J W (by omega) hm (h.below hW) (zrow_up hz hW) (xrow_up hr hW) hok hc hJ) (fun w => by have := rrest S w; rwa [hS] at this) hR (fun w => rspot_any rx ry rf w)
theorem rdo_no5 (B p n m c d dz : Nat) (sz sl : Option Addr) (u v : Value) (K : Nat → Nat) (G : Nat → Bool) (Z : Nat → Int) (X Y : Nat → Int) (F : Nat → Bool) (J : Nat → Nat) (a s h2 : Nat) (w : World) (hn : n ≤ 1000) (hm : m ≤ 9223372036854775807) (h : BookAt 25 4 B w p u v n K G) (hz : (m = 0 ∨ ∃ b o : Nat, sz = some ⟨b, o, none⟩ ∧ RowI w b o m Z)) (hr : (c = 0 ∨ ∃ b o : Nat, sl = some ⟨b, o, none⟩ ∧ RowO w b o c X Y F)) (hok : ∀ i, i < m → goE n G Z i = 0) (hc : c ≤ 12) (hJ : isC X Y F J c) (hf : n + c ≤ 1000) (hs : s < 1013) (hse : ∀ w, Calls Tryz.prog 11 #[] w fun e w' => e = .returned (.agg #[.int .i64 ((tM (4 * h2)).1 : Int), .int .i64 ((tM (4 * h2)).2.1 : Int), .bool (tM (4 * h2)).2.2]) ∧ Below w.heap.size w w') (hw : closedB h2 a (exN K Z m J c) s = false) : Calls Tryz.prog 18 #[.pointer (some ⟨p, 0, none⟩), .agg #[.slice sz m dz, .slice sl c d, .int .i64 ((tM a).1 : Int), .int .i64 ((tM a).2.1 : Int), .bool (tM a).2.2, .int .i64 (s : Int)]] w fun e w' => e = .returned (.int .i64 8) ∧ Below w.heap.size w w' := by
  have hb := baN_lt a (4 * exN K Z m J c)
  exact rdo_wrong B p n m c d dz sz sl u v K G (exN K Z m J c) a s (baN a (4 * exN K Z m J c)) (tM (4 * h2)) (tM (4 * h2 * s)) (tM (4 * exN K Z m J c * baN a (4 * exN K Z m J c))) (tM (a + 4 * exN K Z m J c * baN a (4 * exN K Z m J c))) _ _ _ w hn hc hf h (fun W hW => rexc_yes B p n m c d dz sz sl u v K G Z X Y F J W (by omega) hm (h.below hW) (zrow_up hz hW) (xrow_up hr hW) hok hc hJ)
    (fun w => by have := rrest (s : Int) w; rwa [show resB (s : Int) = true from decide_eq_true ⟨by omega, by omega⟩] at this) (fun w => rspot_yes (ck_tM a) w) (fun w => rba_tM a _ w) hse (fun w => rtimes_eq (tM_em _ _) w) (fun w => rtimes_eq (tM_em _ _) w) (fun w => radd_tM _ _ w) rfl rfl rfl hw
theorem rdo_yes (B p n m c d dz : Nat) (sz sl : Option Addr) (u v : Value) (K : Nat → Nat) (G : Nat → Bool) (Z : Nat → Int) (X Y : Nat → Int) (F : Nat → Bool) (J : Nat → Nat) (a s h2 : Nat) (w : World) (hn : n ≤ 1000) (hm : m ≤ 9223372036854775807) (h : BookAt 25 4 B w p u v n K G) (hz : (m = 0 ∨ ∃ b o : Nat, sz = some ⟨b, o, none⟩ ∧ RowI w b o m Z)) (hr : (c = 0 ∨ ∃ b o : Nat, sl = some ⟨b, o, none⟩ ∧ RowO w b o c X Y F)) (az : m ≠ 0 → ∀ b o, sz = some ⟨b, o, none⟩ → ¬ ft p u v b) (ar : c ≠ 0 → ∀ b o, sl = some ⟨b, o, none⟩ → ¬ ft p u v b) (hok : ∀ i, i < m → goE n G Z i = 0) (hc : c ≤ 12) (hJ : isC X Y F J c) (hf : n + c ≤ 1000) (hs : s < 1013) (hse : ∀ w, Calls Tryz.prog 11 #[] w fun e w' => e = .returned (.agg #[.int .i64 ((tM (4 * h2)).1 : Int), .int .i64 ((tM (4 * h2)).2.1 : Int), .bool (tM (4 * h2)).2.2]) ∧ Below w.heap.size w w') (hw : closedB h2 a (exN K Z m J c) s = true) :
    Calls Tryz.prog 18 #[.pointer (some ⟨p, 0, none⟩), .agg #[.slice sz m dz, .slice sl c d, .int .i64 ((tM a).1 : Int), .int .i64 ((tM a).2.1 : Int), .bool (tM a).2.2, .int .i64 (s : Int)]] w fun e w' => e = .returned (.int .i64 0) ∧ BookDone 25 4 B w w' p u v (n + c) (appN K n J c) (appN (mkG G Z m) n (fun _ => false) c) := by
  have hb := baN_lt a (4 * exN K Z m J c)
  exact rdo_ok B p n m c d dz sz sl u v K G (exN K Z m J c) a s (baN a (4 * exN K Z m J c)) (tM (4 * h2)) (tM (4 * h2 * s)) (tM (4 * exN K Z m J c * baN a (4 * exN K Z m J c))) (tM (a + 4 * exN K Z m J c * baN a (4 * exN K Z m J c))) J Z X Y F w hn hc hf hm h (fun W hW => rexc_yes B p n m c d dz sz sl u v K G Z X Y F J W (by omega) hm (h.below hW) (zrow_up hz hW) (xrow_up hr hW) hok hc hJ)
    (fun w => by have := rrest (s : Int) w; rwa [show resB (s : Int) = true from decide_eq_true ⟨by omega, by omega⟩] at this) (fun w => rspot_yes (ck_tM a) w) (fun w => rba_tM a _ w) hse (fun w => rtimes_eq (tM_em _ _) w) (fun w => rtimes_eq (tM_em _ _) w) (fun w => radd_tM _ _ w) ((sameS_iff _ _).1 hw)
    (or_ne fun h0 => (hz.resolve_left h0).imp fun b ⟨o, e, r⟩ => ⟨o, e, r, az h0 b o e⟩) hok (or_ne fun h0 => (hr.resolve_left h0).imp fun b ⟨o, e, r⟩ => ⟨o, e, r, ar h0 b o e⟩) hJ
end Go.Proofs.YtlbdcgnhmkjfiajGreatDoor
