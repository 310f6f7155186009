/- What package group answers: Coefs, Joint, Sign. -/
import Derived.Test.YtmijjjdedadklagGroupIs
import Derived.Test.YtmijjjdedadklagList
import Derived.Test.YtmijjjdedadklagBytes
import Derived.Test.YtmijjjdedadklagHashLong
import Derived.Test.YtmijjjdedadklagTimesOrd
import Derived.Test.YtmijjjdedadklagCurveEq
import Derived.Test.YtmijjjdedadklagSeal
import Derived.Test.YtmijjjdedadklagOwn
import Derived.Test.YtmijjjdedadklagRowE
import Derived.Test.YtmijjjdedadklagGate
import Derived.Deep.RegionHeld3
import Derived.Deep.CutRange
namespace Go.Proofs.Ytmijjjdedadklag
open Go.RowKit Go.Sort
set_option linter.unusedVariables false
set_option linter.unusedSimpArgs false
theorem gb_lt {W w1 : World} (hb : Below W.heap.size W w1) : ∀ b, b < W.heap.size → b < w1.heap.size := fun b h => Nat.lt_of_lt_of_le h hb.size
theorem gb_ne {W w1 : World} (hb : Below W.heap.size W w1) : ∀ b, b < W.heap.size → (b = w1.heap.size) = False := fun b h => eq_false (Nat.ne_of_lt (gb_lt hb b h))
theorem gb_ne2 {W w1 : World} (hb : Below W.heap.size W w1) : ∀ b, b < W.heap.size → (w1.heap.size = b) = False := fun b h => eq_false (Nat.ne_of_gt (gb_lt hb b h))
theorem gsec_bd {n : Int} (h : secB n = true) : 1 ≤ n ∧ n < 1013 := of_decide_eq_true h
theorem giinfo : (Try.prog.info? 3).map (fun i => (i.zero, i.size, i.bytes)) = some (some (.int .i64 0), 1, 8) := by kernel_rfl
theorem gpinfo : (Try.prog.info? 32).map (fun i => (i.zero, i.size, i.bytes)) = some (some (.agg #[.int .i64 0, .int .i64 0, .bool false]), 3, 24) := by kernel_rfl
theorem growI_at {w W : World} {g q n : Nat} {F : Nat → Int} (h : RowI w g q n F) (k : Below w.heap.size w W) {i : Nat} (hi : i < n) : g < W.heap.size ∧ W.cell? ⟨g, q + i, none⟩ = some (.int .i64 (F i)) :=
  ⟨Nat.lt_of_lt_of_le h.1 k.size, (h.below h.1 k).2 i hi⟩
theorem gthree_new {w : World} {b : Nat} (h : w.heap.size = b) (x y z : Value) (t : TypeId) : ∀ j u, [x, y, z][j]? = some u → (w.alloc (.cells #[x, y, z] t)).cell? ((⟨b, 0, none⟩ : Addr).add j) = some u := by
  subst h
  intro j u hj
  rw [addr_add]
  match j, hj with
  | 0, hj => simp at hj; subst hj; simp
  | 1, hj => simp at hj; subst hj; simp
  | 2, hj => simp at hj; subst hj; simp
theorem growT_zero {X Y : Nat → Int} {F : Nat → Bool} {K : Nat → Nat} : ∀ {n : Nat}, (∀ i, i < n → X i = ((tM (K i)).1 : Int) ∧ Y i = ((tM (K i)).2.1 : Int) ∧ F i = (tM (K i)).2.2) → rowE X Y F n = 0
  | 0, _ => rfl
  | n + 1, h => by
    obtain ⟨a, b, c⟩ := h n (by omega)
    unfold rowE
    rw [growT_zero (n := n) (fun i hi => h i (by omega)), a, b, c]
    exact ck_tM _
theorem gfirst (s : Nat → Bool) : ∀ n, ∃ t, t ≤ n ∧ (∀ k, k < t → s k = true) ∧ (t = n ∨ (t < n ∧ s t = false))
  | 0 => ⟨0, Nat.le_refl _, fun k h => absurd h (Nat.not_lt_zero _), Or.inl rfl⟩
  | n + 1 => by
    obtain ⟨t, h1, h2, h3⟩ := gfirst s n
    rcases h3 with rfl | ⟨h3, h4⟩
    · cases hs : s t with
      | true => exact ⟨t + 1, Nat.le_refl _, fun k hk => by
          rcases Nat.lt_succ_iff_lt_or_eq.1 hk with h | rfl
          · exact h2 k h
          · exact hs, Or.inl rfl⟩
      | false => exact ⟨t, by omega, h2, Or.inr ⟨by omega, hs⟩⟩
    · exact ⟨t, by omega, h2, Or.inr ⟨by omega, h4⟩⟩
theorem gissec {n : Int} {t : Bool} (ht : secB n = t) (w : World) : Calls Try.prog 74 #[.int .i64 n] w fun e w' => e = .returned (.bool t) ∧ w' = w := by
  subst ht
  by_cases h : n ≥ 1
  · by_cases h2 : n < 1013
    · rw [show secB n = true from decide_eq_true ⟨h, h2⟩]
      go_enter Try.func74, Try.ntmps74
      go_wp2_with fail
      go_ret
      exact ⟨rfl, rfl⟩
    · rw [show secB n = false from decide_eq_false fun k => h2 k.2]
      go_enter Try.func74, Try.ntmps74
      go_wp2_with fail
      go_ret
      exact ⟨rfl, rfl⟩
  · rw [show secB n = false from decide_eq_false fun k => h k.1]
    go_enter Try.func74, Try.ntmps74
    go_wp2_with fail
    go_ret
    exact ⟨rfl, rfl⟩
theorem glist_any (sl : Option Addr) (n d : Nat) (X Y : Nat → Int) (F : Nat → Bool) (K : Nat → Nat) (w : World) (hn : n ≤ 12) (hr : (n = 0 ∨ ∃ b o : Nat, sl = some ⟨b, o, none⟩ ∧ RowO w b o n X Y F)) (hK : (∀ i, i < n → X i = ((tM (K i)).1 : Int) ∧ Y i = ((tM (K i)).2.1 : Int) ∧ F i = (tM (K i)).2.2)) : Calls Try.prog 49 #[.slice sl n d] w fun e w' => e = .returned (.tuple #[.string (lsB K n), .nilIface]) ∧ Below w.heap.size w w' := by
  rcases hr with rfl | ⟨b, o, rfl, hr⟩
  · exact list_nil sl d w
  · exact list_row b o n d X Y F K w hn hr (growT_zero hK) hK
set_option maxRecDepth 100000 in
set_option maxHeartbeats 4000000 in
theorem gcoefs_err (sl : Option Addr) (n d : Nat) (c : Int) (w : World) (h : Calls Try.prog 49 #[.slice sl n d] w fun e w' => e = .returned (.tuple #[.string ⟨#[]⟩, errOf c]) ∧ Below w.heap.size w w') : Calls Try.prog 18 #[.slice sl n d] w fun e w' => e = .returned (.tuple #[.slice none 0 0, errOf c]) ∧ Below w.heap.size w w' := by
  have H : Hid (Calls Try.prog 49 #[.slice sl n d] w fun e w' => e = .returned (.tuple #[.string ⟨#[]⟩, errOf c]) ∧ Below w.heap.size w w') := h
  clear h
  go_enter Try.func18, Try.ntmps18
  go_wp2_with (go_at_call 49; refine H.out.mono ?_; rintro e w1 ⟨rfl, hb1⟩; have hq1 : Below w.heap.size w w1 := (by repeat (first | (with_reducible exact Below.refl _ _) | (with_reducible assumption) | (with_reducible refine Below.setCell ?_ (by first | (simp; done) | (simp; omega) | omega) _) | (with_reducible refine Below.alloc ?_ (by first | (simp; done) | (simp; omega) | omega) _) | (refine bl_call ?_ (by assumption) (by first | (simp; done) | (simp; omega) | omega)) | (with_reducible refine bl_drewN ?_) | (with_reducible refine Below.drew ?_) | (with_reducible refine bl_grow ?_ (by first | (simp; done) | (simp; omega) | omega)))); have hz1 := hq1.size; clear hb1)
  exact bodyPost_ret (v := .tuple #[.slice none 0 0, errOf c]) (by simp [results, Try.results18, go_sem, *]) rfl ⟨rfl, by repeat (first | (with_reducible exact Below.refl _ _) | (with_reducible assumption) | (with_reducible refine Below.setCell ?_ (by first | (simp; done) | (simp; omega) | omega) _) | (with_reducible refine Below.alloc ?_ (by first | (simp; done) | (simp; omega) | omega) _) | (refine bl_call ?_ (by assumption) (by first | (simp; done) | (simp; omega) | omega)) | (with_reducible refine bl_drewN ?_) | (with_reducible refine Below.drew ?_) | (with_reducible refine bl_grow ?_ (by first | (simp; done) | (simp; omega) | omega)))⟩
set_option maxRecDepth 100000 in
set_option maxHeartbeats 4000000 in
theorem gcoefs_ok (sl : Option Addr) (n d : Nat) (X Y : Nat → Int) (F : Nat → Bool) (K : Nat → Nat) (w : World) (hn : n ≤ 12) (hr : (n = 0 ∨ ∃ b o : Nat, sl = some ⟨b, o, none⟩ ∧ RowO w b o n X Y F)) (hK : (∀ i, i < n → X i = ((tM (K i)).1 : Int) ∧ Y i = ((tM (K i)).2.1 : Int) ∧ F i = (tM (K i)).2.2)) : Calls Try.prog 18 #[.slice sl n d] w fun ex w' => ∃ u, ex = .returned (.tuple #[u, .nilIface]) ∧ w'.ownsRow w.heap.size 3 1 u n (cellsI (fun i => (cfN K n i : Int)) n) ∧ Below w.heap.size w w' := by
  have HL : Hid (Calls Try.prog 49 #[.slice sl n d] w fun e w' => e = .returned (.tuple #[.string (lsB K n), .nilIface]) ∧ Below w.heap.size w w') := glist_any sl n d X Y F K w hn hr hK
  have HR : Hid ((n = 0 ∨ ∃ b o : Nat, sl = some ⟨b, o, none⟩ ∧ RowO w b o n X Y F)) := hr
  have HK : Hid ((∀ i, i < n → X i = ((tM (K i)).1 : Int) ∧ Y i = ((tM (K i)).2.1 : Int) ∧ F i = (tM (K i)).2.2)) := hK
  have hs := ls_size K hn
  clear hr hK
  obtain ⟨i0, hi, hv0, hv1, hv2⟩ := info_parts giinfo
  go_enter Try.func18, Try.ntmps18
  go_wp2_with (first | (go_at_call 49; refine HL.out.mono ?_; rintro e w1 ⟨rfl, hb1⟩; have hq1 : Below w.heap.size w w1 := (by repeat (first | (with_reducible exact Below.refl _ _) | (with_reducible assumption) | (with_reducible refine Below.setCell ?_ (by first | (simp; done) | (simp; omega) | omega) _) | (with_reducible refine Below.alloc ?_ (by first | (simp; done) | (simp; omega) | omega) _) | (refine bl_call ?_ (by assumption) (by first | (simp; done) | (simp; omega) | omega)) | (with_reducible refine bl_drewN ?_) | (with_reducible refine Below.drew ?_) | (with_reducible refine bl_grow ?_ (by first | (simp; done) | (simp; omega) | omega)))); have hz1 := hq1.size; clear hb1) | (at_make; refine wpList_make_own _ rfl _ _ 22 rfl w.heap.size 3 i0 (.int .i64 0) 1 Try.underlying22 hi hv0 hv1 _ _ _ n rfl rfl rfl ?b2 ?b3 ?b4 ?_))
  case b2 => rw [hv2]; omega
  case b3 => unfold maxLen; omega
  case b4 => omega
  intro w2 hown0 hgrow
  have hq2 : Below w.heap.size w w2 := (by assumption : Below w.heap.size w _).grown hgrow (by omega) (fun k hk => by cases hk)
  clear hgrow hq1 hz1
  go_wp2_with fail
  go_loopw [6, 24] (fun tv ti wl => ∃ i : Nat, i ≤ n ∧ ti = .int .i64 i ∧ wl.ownsRow w.heap.size 3 1 tv i (cellsI (fun i => (cfN K n i : Int)) i) ∧ Below w.heap.size w wl) (fun _ ti _ => n - (intOf ti).toNat)
  case atStart => exact ⟨0, by omega, rfl, hown0, by repeat (first | (with_reducible exact Below.refl _ _) | (with_reducible assumption) | (with_reducible refine Below.setCell ?_ (by first | (simp; done) | (simp; omega) | omega) _) | (with_reducible refine Below.alloc ?_ (by first | (simp; done) | (simp; omega) | omega) _) | (refine bl_call ?_ (by assumption) (by first | (simp; done) | (simp; omega) | omega)) | (with_reducible refine bl_drewN ?_) | (with_reducible refine Below.drew ?_) | (with_reducible refine bl_grow ?_ (by first | (simp; done) | (simp; omega) | omega)))⟩
  case round =>
    clear hown0 hq2
    obtain ⟨i, hin, rfl, hown, hqV⟩ := hrel
    rename World => wV
    have hzV := hqV.size
    by_cases hlt : i < n
    · have hlt' : (i : Int) < n := by omega
      obtain ⟨b, o, rfl, hz⟩ : ∃ b o : Nat, sl = some ⟨b, o, none⟩ ∧ RowO w b o n X Y F := HR.out.resolve_left (by omega)
      have hbV := Nat.lt_of_lt_of_le hz.1 hzV
      obtain ⟨c0, c1, c2⟩ := (hz.below hz.1 hqV).2 i hlt
      obtain ⟨e0, e1, e2⟩ := HK.out i hlt
      rw [e0] at c0
      rw [e1] at c1
      rw [e2] at c2
      clear e0 e1 e2 hz
      have hp := pkB_size (tM (K i))
      have HN : Hid (∀ w, Calls Try.prog 50 #[.string (lsB K n ++ pkB (tM (K i)))] w fun e w' => e = .returned (.int .i64 (cfN K n i : Int)) ∧ Below w.heap.size w w') := fun w => by
        have := below_of_same (number_any (lsB K n ++ pkB (tM (K i))) w (by have := cf_size K hn i; omega))
        rwa [cfI] at this
      go_wp2_with (first | (go_at_call 10; refine (pack_tM (K i) _).mono ?_; rintro e w5 ⟨rfl, hb5⟩; have hy5 : Below wV.heap.size wV w5 := (by repeat (first | (with_reducible exact Below.refl _ _) | (with_reducible assumption) | (with_reducible refine Below.setCell ?_ (by first | (simp; done) | (simp; omega) | omega) _) | (with_reducible refine Below.alloc ?_ (by first | (simp; done) | (simp; omega) | omega) _) | (refine bl_call ?_ (by assumption) (by first | (simp; done) | (simp; omega) | omega)) | (with_reducible refine bl_drewN ?_) | (with_reducible refine Below.drew ?_) | (with_reducible refine bl_grow ?_ (by first | (simp; done) | (simp; omega) | omega)))); have hq5 : Below w.heap.size w w5 := bl_call hqV hy5 hzV; have hz5 := hq5.size; have hown5 := own_stay hown hy5; clear hb5 hy5) | (go_at_call 50; refine (HN.out _).mono ?_; rintro e w6 ⟨rfl, hb6⟩; have hq6 : Below w.heap.size w w6 := (by repeat (first | (with_reducible exact Below.refl _ _) | (with_reducible assumption) | (with_reducible refine Below.setCell ?_ (by first | (simp; done) | (simp; omega) | omega) _) | (with_reducible refine Below.alloc ?_ (by first | (simp; done) | (simp; omega) | omega) _) | (refine bl_call ?_ (by assumption) (by first | (simp; done) | (simp; omega) | omega)) | (with_reducible refine bl_drewN ?_) | (with_reducible refine Below.drew ?_) | (with_reducible refine bl_grow ?_ (by first | (simp; done) | (simp; omega) | omega)))); have hz6 := hq6.size; have hown6 := own_stay hown5 hb6; clear hb6) | (at_builtin; refine wpList_append_own_at _ rfl _ _ 22 rfl w.heap.size 3 i0 (.int .i64 0) 1 8 Try.underlying22 hi hv0 hv1 hv2 rfl (by decide) _ _ _ rfl (hown6.alloc _) ⟨w6.heap.size, 0, none⟩ 1 1 [.int .i64 (cfN K n i : Int)] rfl rfl ?c1 ?c2 ?c3 ?c4 ?c5 ?_))
      case c1 => exact cell_one_new _ _ _
      case c2 => intro u hu; simp at hu; subst hu; rfl
      case c3 => unfold maxLen; omega
      case c4 => omega
      case c5 => simp; omega
      · intro v' w13 hown' hgrow _ hat
        have hq13 : Below w.heap.size w w13 := grown_under (B := w.heap.size) (by repeat (first | (with_reducible exact Below.refl _ _) | (with_reducible assumption) | (with_reducible refine Below.setCell ?_ (by first | (simp; done) | (simp; omega) | omega) _) | (with_reducible refine Below.alloc ?_ (by first | (simp; done) | (simp; omega) | omega) _) | (refine bl_call ?_ (by assumption) (by first | (simp; done) | (simp; omega) | omega)) | (with_reducible refine bl_drewN ?_) | (with_reducible refine Below.drew ?_) | (with_reducible refine bl_grow ?_ (by first | (simp; done) | (simp; omega) | omega)))) (hown6.alloc _) hgrow (by simp; omega) (Nat.le_refl _)
        rw [← cellsI_succ (fun i => (cfN K n i : Int))] at hown'
        clear hgrow hat hown hown5 hown6
        go_wp2_with fail
        go_roundw
        case rel => exact ⟨i + 1, by omega, by simp, hown', hq13⟩
        case measure => simp [intOf]; omega
    · have hlt' : ¬ (i : Int) < n := by omega
      obtain rfl : i = n := by omega
      go_wp2_with fail
      go_ret2
      exact ⟨_, rfl, hown, by repeat (first | (with_reducible exact Below.refl _ _) | (with_reducible assumption) | (with_reducible refine Below.setCell ?_ (by first | (simp; done) | (simp; omega) | omega) _) | (with_reducible refine Below.alloc ?_ (by first | (simp; done) | (simp; omega) | omega) _) | (refine bl_call ?_ (by assumption) (by first | (simp; done) | (simp; omega) | omega)) | (with_reducible refine bl_drewN ?_) | (with_reducible refine Below.drew ?_) | (with_reducible refine bl_grow ?_ (by first | (simp; done) | (simp; omega) | omega)))⟩
theorem coefs_is : CoefsIs :=
  ⟨fun sl n d w h _ => gcoefs_err sl n d 4 w (list_many sl n d w h),
   fun sl n d X Y F w h12 _ hr he => gcoefs_err sl n d _ w (by
     rcases hr with rfl | ⟨b, o, rfl, r⟩
     · cases he
     · exact list_no b o n d X Y F w h12 r he),
   fun sl n d X Y F K w h12 _ hr hK => gcoefs_ok sl n d X Y F K w h12 hr hK⟩
set_option maxRecDepth 100000 in
set_option maxHeartbeats 4000000 in
theorem gjoined_row (sl sc : Option Addr) (n d c : Nat) (X Y : Nat → Int) (F : Nat → Bool) (K : Nat → Nat) (w : World) (hn : n ≤ 12) (hr : (n = 0 ∨ ∃ b o : Nat, sl = some ⟨b, o, none⟩ ∧ RowO w b o n X Y F)) (hK : (∀ i, i < n → X i = ((tM (K i)).1 : Int) ∧ Y i = ((tM (K i)).2.1 : Int) ∧ F i = (tM (K i)).2.2)) (hw : (n = 0 ∨ ∃ b o : Nat, sc = some ⟨b, o, none⟩ ∧ RowI w b o n (fun i => (cfN K n i : Int)))) :
    Calls Try.prog 42 #[.slice sl n d, .slice sc n c] w fun e w' => e = .returned (.tuple #[.agg #[.int .i64 ((tM (jtN K n n)).1 : Int), .int .i64 ((tM (jtN K n n)).2.1 : Int), .bool (tM (jtN K n n)).2.2], .nilIface]) ∧ Below w.heap.size w w' := by
  have HR : Hid ((n = 0 ∨ ∃ b o : Nat, sl = some ⟨b, o, none⟩ ∧ RowO w b o n X Y F)) := hr
  have HW : Hid ((n = 0 ∨ ∃ b o : Nat, sc = some ⟨b, o, none⟩ ∧ RowI w b o n (fun i => (cfN K n i : Int)))) := hw
  have HK : Hid ((∀ i, i < n → X i = ((tM (K i)).1 : Int) ∧ Y i = ((tM (K i)).2.1 : Int) ∧ F i = (tM (K i)).2.2)) := hK
  clear hr hK hw
  go_enter Try.func42, Try.ntmps42
  go_wp2_with fail
  go_loopw [14] (fun ti wl => ∃ k : Nat, k ≤ n ∧ ti = .int .i64 k ∧ At wl (w.heap.size) [.int .i64 0, .int .i64 0, .bool false] ∧ At wl (w.heap.size + 1) [.int .i64 ((tM (jtN K n k)).1 : Int), .int .i64 ((tM (jtN K n k)).2.1 : Int), .bool (tM (jtN K n k)).2.2] ∧ Below w.heap.size w wl) (fun ti _ => n - (intOf ti).toNat)
  case atStart => exact ⟨0, by omega, rfl, by repeat (first | (with_reducible assumption) | ((with_reducible refine at_new' _ _ _ _ ?_); (first | rfl | (simp; done))) | (with_reducible refine At.alloc ?_ _) | (with_reducible refine At.drew ?_) | (with_reducible refine At.drewN ?_) | (with_reducible refine At.set ?_ (by omega)) | (with_reducible apply At.store4) | (with_reducible apply At.store3) | (with_reducible apply At.store2) | (with_reducible apply At.put43) | (refine At.below ?_ (by with_reducible assumption))), by show At _ _ [.int .i64 0, .int .i64 0, .bool true]; exact (by repeat (first | (with_reducible assumption) | ((with_reducible refine at_new' _ _ _ _ ?_); (first | rfl | (simp; done))) | (with_reducible refine At.alloc ?_ _) | (with_reducible refine At.drew ?_) | (with_reducible refine At.drewN ?_) | (with_reducible refine At.set ?_ (by omega)) | (with_reducible apply At.store4) | (with_reducible apply At.store3) | (with_reducible apply At.store2) | (with_reducible apply At.put43) | (refine At.below ?_ (by with_reducible assumption)))), by repeat (first | (with_reducible exact Below.refl _ _) | (with_reducible assumption) | (with_reducible refine Below.setCell ?_ (by first | (simp; done) | (simp; omega) | omega) _) | (with_reducible refine Below.alloc ?_ (by first | (simp; done) | (simp; omega) | omega) _) | (refine bl_call ?_ (by assumption) (by first | (simp; done) | (simp; omega) | omega)) | (with_reducible refine bl_drewN ?_) | (with_reducible refine Below.drew ?_) | (with_reducible refine bl_grow ?_ (by first | (simp; done) | (simp; omega) | omega)))⟩
  case round =>
    obtain ⟨k, hk, rfl, krV, kpV, hqV⟩ := hrel
    rename World => V
    have hzV := hqV.size
    obtain ⟨zrV, cr0V, cr1V, cr2V, fr0V, fr1V, fr2V⟩ := krV.three
    obtain ⟨zpV, cp0V, cp1V, cp2V, fp0V, fp1V, fp2V⟩ := kpV.three
    by_cases hlt : k < n
    · have hlt' : (k : Int) < n := by omega
      obtain ⟨b, o, rfl, hz⟩ : ∃ b o : Nat, sl = some ⟨b, o, none⟩ ∧ RowO w b o n X Y F := HR.out.resolve_left (by omega)
      obtain ⟨g, q, rfl, hg⟩ := HW.out.resolve_left (by omega)
      have HG : Hid (RowI w g q n (fun i => (cfN K n i : Int))) := hg
      have hbV := Nat.lt_of_lt_of_le hz.1 hzV
      have hgV := Nat.lt_of_lt_of_le hg.1 hzV
      obtain ⟨c0, c1, c2⟩ := (hz.below hz.1 hqV).2 k hlt
      obtain ⟨e0, e1, e2⟩ := HK.out k hlt
      rw [e0] at c0
      rw [e1] at c1
      rw [e2] at c2
      clear e0 e1 e2 hz hg
      have E : Hid (tM (K k * em (cfN K n k : Int)) = tM (K k * cfN K n k)) := tM_em _ _
      go_wp2_with fail
      go_cut [9, 10] from 19 to 42 (fun t9 t10 wx => ∃ b9 : Nat, t9 = .pointer (some ⟨b9, 0, none⟩) ∧ t10 = .nilIface ∧ At wx (w.heap.size) [.int .i64 0, .int .i64 0, .bool false] ∧ At wx (w.heap.size + 1) [.int .i64 ((tM (jtN K n k)).1 : Int), .int .i64 ((tM (jtN K n k)).2.1 : Int), .bool (tM (jtN K n k)).2.2] ∧ At wx b9 [.int .i64 ((tM (K k * cfN K n k)).1 : Int), .int .i64 ((tM (K k * cfN K n k)).2.1 : Int), .bool (tM (K k * cfN K n k)).2.2] ∧ w.heap.size + 1 < b9 ∧ Below w.heap.size w wx)
      case first =>
        go_region_held3 (fun W => ((V.heap.size) < W.heap.size ∧ W.cell? ⟨V.heap.size, 0, none⟩ = some (.int .i64 ((tM (K k)).1 : Int)) ∧ W.cell? ⟨V.heap.size, 1, none⟩ = some (.int .i64 ((tM (K k)).2.1 : Int)) ∧ W.cell? ⟨V.heap.size, 2, none⟩ = some (.bool (tM (K k)).2.2) ∧ W.frozen? ⟨V.heap.size, 0, none⟩ = false ∧ W.frozen? ⟨V.heap.size, 1, none⟩ = false ∧ W.frozen? ⟨V.heap.size, 2, none⟩ = false) ∧ (g < W.heap.size ∧ W.cell? ⟨g, q + k, none⟩ = some (.int .i64 (cfN K n k : Int)))) (exact ⟨At.three (by repeat (first | (with_reducible assumption) | ((with_reducible refine at_new' _ _ _ _ ?_); (first | rfl | (simp; done))) | (with_reducible refine At.alloc ?_ _) | (with_reducible refine At.drew ?_) | (with_reducible refine At.drewN ?_) | (with_reducible refine At.set ?_ (by omega)) | (with_reducible apply At.store4) | (with_reducible apply At.store3) | (with_reducible apply At.store2) | (with_reducible apply At.put43) | (refine At.below ?_ (by with_reducible assumption)))), growI_at HG.out (by repeat (first | (with_reducible exact Below.refl _ _) | (with_reducible assumption) | (with_reducible refine Below.setCell ?_ (by first | (simp; done) | (simp; omega) | omega) _) | (with_reducible refine Below.alloc ?_ (by first | (simp; done) | (simp; omega) | omega) _) | (refine bl_call ?_ (by assumption) (by first | (simp; done) | (simp; omega) | omega)) | (with_reducible refine bl_drewN ?_) | (with_reducible refine Below.drew ?_) | (with_reducible refine bl_grow ?_ (by first | (simp; done) | (simp; omega) | omega)))) hlt⟩) (first | (go_at_call 19; refine (times_eq E.out _).mono ?_; rintro e w2 ⟨rfl, hb2⟩; obtain ⟨hc2, hf2⟩ := bcell hb2; have hq2 : Below w.heap.size w w2 := (by repeat (first | (with_reducible exact Below.refl _ _) | (with_reducible assumption) | (with_reducible refine Below.setCell ?_ (by first | (simp; done) | (simp; omega) | omega) _) | (with_reducible refine Below.alloc ?_ (by first | (simp; done) | (simp; omega) | omega) _) | (refine bl_call ?_ (by assumption) (by first | (simp; done) | (simp; omega) | omega)) | (with_reducible refine bl_drewN ?_) | (with_reducible refine Below.drew ?_) | (with_reducible refine bl_grow ?_ (by first | (simp; done) | (simp; omega) | omega)))); have hz2 := hq2.size; clear hq2; have hl2 := gb_lt hb2; have hn2 := gb_ne hb2; have hm2 := gb_ne2 hb2; have hs2 := hb2.size; (try simp at hs2)))
        all_goals (go_wp2_with fail)
        all_goals go_meet
        all_goals (case rel => exact ⟨_, rfl, rfl, by repeat (first | (with_reducible assumption) | ((with_reducible refine at_new' _ _ _ _ ?_); (first | rfl | (simp; done))) | (with_reducible refine At.alloc ?_ _) | (with_reducible refine At.drew ?_) | (with_reducible refine At.drewN ?_) | (with_reducible refine At.set ?_ (by omega)) | (with_reducible apply At.store4) | (with_reducible apply At.store3) | (with_reducible apply At.store2) | (with_reducible apply At.put43) | (refine At.below ?_ (by with_reducible assumption))), by repeat (first | (with_reducible assumption) | ((with_reducible refine at_new' _ _ _ _ ?_); (first | rfl | (simp; done))) | (with_reducible refine At.alloc ?_ _) | (with_reducible refine At.drew ?_) | (with_reducible refine At.drewN ?_) | (with_reducible refine At.set ?_ (by omega)) | (with_reducible apply At.store4) | (with_reducible apply At.store3) | (with_reducible apply At.store2) | (with_reducible apply At.put43) | (refine At.below ?_ (by with_reducible assumption))), by repeat (first | (with_reducible assumption) | ((with_reducible refine at_new' _ _ _ _ ?_); (first | rfl | (simp; done))) | (with_reducible refine At.alloc ?_ _) | (with_reducible refine At.drew ?_) | (with_reducible refine At.drewN ?_) | (with_reducible refine At.set ?_ (by omega)) | (with_reducible apply At.store4) | (with_reducible apply At.store3) | (with_reducible apply At.store2) | (with_reducible apply At.put43) | (refine At.below ?_ (by with_reducible assumption))), by omega, by repeat (first | (with_reducible exact Below.refl _ _) | (with_reducible assumption) | (with_reducible refine Below.setCell ?_ (by first | (simp; done) | (simp; omega) | omega) _) | (with_reducible refine Below.alloc ?_ (by first | (simp; done) | (simp; omega) | omega) _) | (refine bl_call ?_ (by assumption) (by first | (simp; done) | (simp; omega) | omega)) | (with_reducible refine bl_drewN ?_) | (with_reducible refine Below.drew ?_) | (with_reducible refine bl_grow ?_ (by first | (simp; done) | (simp; omega) | omega)))⟩)
      case rest =>
        clear c0 c1 c2 krV cr0V fr0V cr1V fr1V cr2V fr2V kpV cp0V fp0V cp1V fp1V cp2V fp2V hqV
        obtain ⟨b9, rfl, rfl, krwc, kpwc, kxwc, hb9, hqwc⟩ := hcut
        have hzwc := hqwc.size
        obtain ⟨zrwc, cr0wc, cr1wc, cr2wc, fr0wc, fr1wc, fr2wc⟩ := krwc.three
        obtain ⟨zpwc, cp0wc, cp1wc, cp2wc, fp0wc, fp1wc, fp2wc⟩ := kpwc.three
        obtain ⟨zxwc, cx0wc, cx1wc, cx2wc, fx0wc, fx1wc, fx2wc⟩ := kxwc.three
        have m1 : True := trivial
        go_wp2_with (go_at_call 23; clear m1; refine (cadd_tM _ _ _).mono ?_; rintro e w3 ⟨rfl, hbw3⟩; have krw3 : At w3 (w.heap.size) [.int .i64 0, .int .i64 0, .bool false] := (by repeat (first | (with_reducible assumption) | ((with_reducible refine at_new' _ _ _ _ ?_); (first | rfl | (simp; done))) | (with_reducible refine At.alloc ?_ _) | (with_reducible refine At.drew ?_) | (with_reducible refine At.drewN ?_) | (with_reducible refine At.set ?_ (by omega)) | (with_reducible apply At.store4) | (with_reducible apply At.store3) | (with_reducible apply At.store2) | (with_reducible apply At.put43) | (refine At.below ?_ (by with_reducible assumption)))); have kpw3 : At w3 (w.heap.size + 1) [.int .i64 ((tM (jtN K n k)).1 : Int), .int .i64 ((tM (jtN K n k)).2.1 : Int), .bool (tM (jtN K n k)).2.2] := (by repeat (first | (with_reducible assumption) | ((with_reducible refine at_new' _ _ _ _ ?_); (first | rfl | (simp; done))) | (with_reducible refine At.alloc ?_ _) | (with_reducible refine At.drew ?_) | (with_reducible refine At.drewN ?_) | (with_reducible refine At.set ?_ (by omega)) | (with_reducible apply At.store4) | (with_reducible apply At.store3) | (with_reducible apply At.store2) | (with_reducible apply At.put43) | (refine At.below ?_ (by with_reducible assumption)))); have hqw3 : Below w.heap.size w w3 := (by repeat (first | (with_reducible exact Below.refl _ _) | (with_reducible assumption) | (with_reducible refine Below.setCell ?_ (by first | (simp; done) | (simp; omega) | omega) _) | (with_reducible refine Below.alloc ?_ (by first | (simp; done) | (simp; omega) | omega) _) | (refine bl_call ?_ (by assumption) (by first | (simp; done) | (simp; omega) | omega)) | (with_reducible refine bl_drewN ?_) | (with_reducible refine Below.drew ?_) | (with_reducible refine bl_grow ?_ (by first | (simp; done) | (simp; omega) | omega)))); have hzw3 := hqw3.size; obtain ⟨zrw3, cr0w3, cr1w3, cr2w3, fr0w3, fr1w3, fr2w3⟩ := krw3.three; obtain ⟨zpw3, cp0w3, cp1w3, cp2w3, fp0w3, fp1w3, fp2w3⟩ := kpw3.three; clear krwc cr0wc fr0wc cr1wc fr1wc cr2wc fr2wc kpwc cp0wc fp0wc cp1wc fp1wc cp2wc fp2wc hqwc; clear hbw3)
        go_roundw
        case rel => exact ⟨k + 1, by omega, by simp, by repeat (first | (with_reducible assumption) | ((with_reducible refine at_new' _ _ _ _ ?_); (first | rfl | (simp; done))) | (with_reducible refine At.alloc ?_ _) | (with_reducible refine At.drew ?_) | (with_reducible refine At.drewN ?_) | (with_reducible refine At.set ?_ (by omega)) | (with_reducible apply At.store4) | (with_reducible apply At.store3) | (with_reducible apply At.store2) | (with_reducible apply At.put43) | (refine At.below ?_ (by with_reducible assumption))), (show At _ _ [.int .i64 ((tM (jtN K n k + K k * cfN K n k)).1 : Int), .int .i64 ((tM (jtN K n k + K k * cfN K n k)).2.1 : Int), .bool (tM (jtN K n k + K k * cfN K n k)).2.2] from by repeat (first | (with_reducible assumption) | ((with_reducible refine at_new' _ _ _ _ ?_); (first | rfl | (simp; done))) | (with_reducible refine At.alloc ?_ _) | (with_reducible refine At.drew ?_) | (with_reducible refine At.drewN ?_) | (with_reducible refine At.set ?_ (by omega)) | (with_reducible apply At.store4) | (with_reducible apply At.store3) | (with_reducible apply At.store2) | (with_reducible apply At.put43) | (refine At.below ?_ (by with_reducible assumption)))), by repeat (first | (with_reducible exact Below.refl _ _) | (with_reducible assumption) | (with_reducible refine Below.setCell ?_ (by first | (simp; done) | (simp; omega) | omega) _) | (with_reducible refine Below.alloc ?_ (by first | (simp; done) | (simp; omega) | omega) _) | (refine bl_call ?_ (by assumption) (by first | (simp; done) | (simp; omega) | omega)) | (with_reducible refine bl_drewN ?_) | (with_reducible refine Below.drew ?_) | (with_reducible refine bl_grow ?_ (by first | (simp; done) | (simp; omega) | omega)))⟩
        case measure => simp [intOf]; omega
    · have hlt' : ¬ (k : Int) < n := by omega
      obtain rfl : k = n := by omega
      go_wp2_with fail
      exact bodyPost_ret (v := .tuple #[.agg #[.int .i64 ((tM (jtN K k k)).1 : Int), .int .i64 ((tM (jtN K k k)).2.1 : Int), .bool (tM (jtN K k k)).2.2], .nilIface]) (by simp [results, Try.results42, go_sem, *]) rfl ⟨rfl, by repeat (first | (with_reducible exact Below.refl _ _) | (with_reducible assumption) | (with_reducible refine Below.setCell ?_ (by first | (simp; done) | (simp; omega) | omega) _) | (with_reducible refine Below.alloc ?_ (by first | (simp; done) | (simp; omega) | omega) _) | (refine bl_call ?_ (by assumption) (by first | (simp; done) | (simp; omega) | omega)) | (with_reducible refine bl_drewN ?_) | (with_reducible refine Below.drew ?_) | (with_reducible refine bl_grow ?_ (by first | (simp; done) | (simp; omega) | omega)))⟩
set_option maxRecDepth 100000 in
set_option maxHeartbeats 4000000 in
theorem gjoint_err (sl : Option Addr) (n d : Nat) (c : Int) (w : World) (h : ∀ W, Below w.heap.size w W → Calls Try.prog 18 #[.slice sl n d] W fun e w' => e = .returned (.tuple #[.slice none 0 0, errOf c]) ∧ Below W.heap.size W w') : Calls Try.prog 15 #[.slice sl n d] w fun e w' => e = .returned (.tuple #[.agg #[.int .i64 0, .int .i64 0, .bool false], errOf c]) ∧ Below w.heap.size w w' := by
  have H : Hid (∀ W, Below w.heap.size w W → Calls Try.prog 18 #[.slice sl n d] W fun e w' => e = .returned (.tuple #[.slice none 0 0, errOf c]) ∧ Below W.heap.size W w') := h
  clear h
  have m1 : True := trivial
  go_enter Try.func15, Try.ntmps15
  go_wp2_with (go_at_call 18; clear m1; refine (H.out _ (by repeat (first | (with_reducible exact Below.refl _ _) | (with_reducible assumption) | (with_reducible refine Below.setCell ?_ (by first | (simp; done) | (simp; omega) | omega) _) | (with_reducible refine Below.alloc ?_ (by first | (simp; done) | (simp; omega) | omega) _) | (refine bl_call ?_ (by assumption) (by first | (simp; done) | (simp; omega) | omega)) | (with_reducible refine bl_drewN ?_) | (with_reducible refine Below.drew ?_) | (with_reducible refine bl_grow ?_ (by first | (simp; done) | (simp; omega) | omega))))).mono ?_; rintro e w1 ⟨rfl, hbw1⟩; have krw1 : At w1 (w.heap.size) [.int .i64 0, .int .i64 0, .bool false] := (by repeat (first | (with_reducible assumption) | ((with_reducible refine at_new' _ _ _ _ ?_); (first | rfl | (simp; done))) | (with_reducible refine At.alloc ?_ _) | (with_reducible refine At.drew ?_) | (with_reducible refine At.drewN ?_) | (with_reducible refine At.set ?_ (by omega)) | (with_reducible apply At.store4) | (with_reducible apply At.store3) | (with_reducible apply At.store2) | (with_reducible apply At.put43) | (refine At.below ?_ (by with_reducible assumption)))); have hqw1 : Below w.heap.size w w1 := (by repeat (first | (with_reducible exact Below.refl _ _) | (with_reducible assumption) | (with_reducible refine Below.setCell ?_ (by first | (simp; done) | (simp; omega) | omega) _) | (with_reducible refine Below.alloc ?_ (by first | (simp; done) | (simp; omega) | omega) _) | (refine bl_call ?_ (by assumption) (by first | (simp; done) | (simp; omega) | omega)) | (with_reducible refine bl_drewN ?_) | (with_reducible refine Below.drew ?_) | (with_reducible refine bl_grow ?_ (by first | (simp; done) | (simp; omega) | omega)))); have hzw1 := hqw1.size; obtain ⟨zrw1, cr0w1, cr1w1, cr2w1, fr0w1, fr1w1, fr2w1⟩ := krw1.three; clear hbw1)
  exact bodyPost_ret (v := .tuple #[.agg #[.int .i64 0, .int .i64 0, .bool false], errOf c]) (by simp [results, Try.results15, go_sem, *]) rfl ⟨rfl, by repeat (first | (with_reducible exact Below.refl _ _) | (with_reducible assumption) | (with_reducible refine Below.setCell ?_ (by first | (simp; done) | (simp; omega) | omega) _) | (with_reducible refine Below.alloc ?_ (by first | (simp; done) | (simp; omega) | omega) _) | (refine bl_call ?_ (by assumption) (by first | (simp; done) | (simp; omega) | omega)) | (with_reducible refine bl_drewN ?_) | (with_reducible refine Below.drew ?_) | (with_reducible refine bl_grow ?_ (by first | (simp; done) | (simp; omega) | omega)))⟩
set_option maxRecDepth 100000 in
set_option maxHeartbeats 4000000 in
theorem gjoint_ok (sl : Option Addr) (n d : Nat) (K : Nat → Nat) (w : World) (hc : ∀ W, Below w.heap.size w W → Calls Try.prog 18 #[.slice sl n d] W fun e w' => ∃ u, e = .returned (.tuple #[u, .nilIface]) ∧ w'.ownsRow W.heap.size 3 1 u n (cellsI (fun i => (cfN K n i : Int)) n) ∧ Below W.heap.size W w') (hj : ∀ W u B, Below w.heap.size w W → W.ownsRow B 3 1 u n (cellsI (fun i => (cfN K n i : Int)) n) → Calls Try.prog 42 #[.slice sl n d, u] W fun e w' => e = .returned (.tuple #[.agg #[.int .i64 ((tM (jtN K n n)).1 : Int), .int .i64 ((tM (jtN K n n)).2.1 : Int), .bool (tM (jtN K n n)).2.2], .nilIface]) ∧ Below W.heap.size W w') : Calls Try.prog 15 #[.slice sl n d] w fun e w' => e = .returned (.tuple #[.agg #[.int .i64 ((tM (jtN K n n)).1 : Int), .int .i64 ((tM (jtN K n n)).2.1 : Int), .bool (tM (jtN K n n)).2.2], .nilIface]) ∧ Below w.heap.size w w' := by
  have H : Hid (∀ W, Below w.heap.size w W → Calls Try.prog 18 #[.slice sl n d] W fun e w' => ∃ u, e = .returned (.tuple #[u, .nilIface]) ∧ w'.ownsRow W.heap.size 3 1 u n (cellsI (fun i => (cfN K n i : Int)) n) ∧ Below W.heap.size W w') := hc
  have HJ : Hid (∀ W u B, Below w.heap.size w W → W.ownsRow B 3 1 u n (cellsI (fun i => (cfN K n i : Int)) n) → Calls Try.prog 42 #[.slice sl n d, u] W fun e w' => e = .returned (.tuple #[.agg #[.int .i64 ((tM (jtN K n n)).1 : Int), .int .i64 ((tM (jtN K n n)).2.1 : Int), .bool (tM (jtN K n n)).2.2], .nilIface]) ∧ Below W.heap.size W w') := hj
  clear hc hj
  go_enter Try.func15, Try.ntmps15
  go_wp2_with (go_at_call 18; refine (H.out _ (by repeat (first | (with_reducible exact Below.refl _ _) | (with_reducible assumption) | (with_reducible refine Below.setCell ?_ (by first | (simp; done) | (simp; omega) | omega) _) | (with_reducible refine Below.alloc ?_ (by first | (simp; done) | (simp; omega) | omega) _) | (refine bl_call ?_ (by assumption) (by first | (simp; done) | (simp; omega) | omega)) | (with_reducible refine bl_drewN ?_) | (with_reducible refine Below.drew ?_) | (with_reducible refine bl_grow ?_ (by first | (simp; done) | (simp; omega) | omega))))).mono ?_; rintro e w1 ⟨u1, rfl, ho1, hb1⟩; have kr1 : At w1 (w.heap.size) [.int .i64 0, .int .i64 0, .bool false] := (by repeat (first | (with_reducible assumption) | ((with_reducible refine at_new' _ _ _ _ ?_); (first | rfl | (simp; done))) | (with_reducible refine At.alloc ?_ _) | (with_reducible refine At.drew ?_) | (with_reducible refine At.drewN ?_) | (with_reducible refine At.set ?_ (by omega)) | (with_reducible apply At.store4) | (with_reducible apply At.store3) | (with_reducible apply At.store2) | (with_reducible apply At.put43) | (refine At.below ?_ (by with_reducible assumption)))); have hq1 : Below w.heap.size w w1 := (by repeat (first | (with_reducible exact Below.refl _ _) | (with_reducible assumption) | (with_reducible refine Below.setCell ?_ (by first | (simp; done) | (simp; omega) | omega) _) | (with_reducible refine Below.alloc ?_ (by first | (simp; done) | (simp; omega) | omega) _) | (refine bl_call ?_ (by assumption) (by first | (simp; done) | (simp; omega) | omega)) | (with_reducible refine bl_drewN ?_) | (with_reducible refine Below.drew ?_) | (with_reducible refine bl_grow ?_ (by first | (simp; done) | (simp; omega) | omega)))); have hz1 := hq1.size; obtain ⟨zr1, cr01, cr11, cr21, fr01, fr11, fr21⟩ := kr1.three; clear hb1)
  go_wp2_with (go_at_call 42; refine (HJ.out _ _ _ hq1 ho1).mono ?_; rintro e w3 ⟨rfl, hb3⟩; have kr3 : At w3 (w.heap.size) [.int .i64 0, .int .i64 0, .bool false] := (by repeat (first | (with_reducible assumption) | ((with_reducible refine at_new' _ _ _ _ ?_); (first | rfl | (simp; done))) | (with_reducible refine At.alloc ?_ _) | (with_reducible refine At.drew ?_) | (with_reducible refine At.drewN ?_) | (with_reducible refine At.set ?_ (by omega)) | (with_reducible apply At.store4) | (with_reducible apply At.store3) | (with_reducible apply At.store2) | (with_reducible apply At.put43) | (refine At.below ?_ (by with_reducible assumption)))); have hq3 : Below w.heap.size w w3 := (by repeat (first | (with_reducible exact Below.refl _ _) | (with_reducible assumption) | (with_reducible refine Below.setCell ?_ (by first | (simp; done) | (simp; omega) | omega) _) | (with_reducible refine Below.alloc ?_ (by first | (simp; done) | (simp; omega) | omega) _) | (refine bl_call ?_ (by assumption) (by first | (simp; done) | (simp; omega) | omega)) | (with_reducible refine bl_drewN ?_) | (with_reducible refine Below.drew ?_) | (with_reducible refine bl_grow ?_ (by first | (simp; done) | (simp; omega) | omega)))); have hz3 := hq3.size; obtain ⟨zr3, cr03, cr13, cr23, fr03, fr13, fr23⟩ := kr3.three; clear hb3)
  exact bodyPost_ret (v := .tuple #[.agg #[.int .i64 ((tM (jtN K n n)).1 : Int), .int .i64 ((tM (jtN K n n)).2.1 : Int), .bool (tM (jtN K n n)).2.2], .nilIface]) (by simp [results, Try.results15, go_sem, *]) rfl ⟨rfl, by repeat (first | (with_reducible exact Below.refl _ _) | (with_reducible assumption) | (with_reducible refine Below.setCell ?_ (by first | (simp; done) | (simp; omega) | omega) _) | (with_reducible refine Below.alloc ?_ (by first | (simp; done) | (simp; omega) | omega) _) | (refine bl_call ?_ (by assumption) (by first | (simp; done) | (simp; omega) | omega)) | (with_reducible refine bl_drewN ?_) | (with_reducible refine Below.drew ?_) | (with_reducible refine bl_grow ?_ (by first | (simp; done) | (simp; omega) | omega)))⟩
theorem joint_is : JointIs :=
  ⟨fun sl n d w h hn => gjoint_err sl n d 4 w (fun W _ => coefs_is.1 sl n d W h hn),
   fun sl n d X Y F w h12 hd hr he => gjoint_err sl n d _ w (fun W hW => coefs_is.2.1 sl n d X Y F W h12 hd (hr.imp_right fun ⟨b, o, e, r⟩ => ⟨b, o, e, r.below r.1 hW⟩) he),
   fun sl n d X Y F K w h12 hd hr hK => gjoint_ok sl n d K w
     (fun W hW => coefs_is.2.2 sl n d X Y F K W h12 hd (hr.imp_right fun ⟨b, o, e, r⟩ => ⟨b, o, e, r.below r.1 hW⟩) hK)
     (fun W u B hW hu => by
       obtain ⟨sa, cc, rfl, k⟩ := own_ints hu
       exact gjoined_row sl sa n d cc X Y F K W h12 (hr.imp_right fun ⟨b, o, e, r⟩ => ⟨b, o, e, r.below r.1 hW⟩) hK (k.imp_right fun ⟨g, a, _, _, r⟩ => ⟨g, 0, a, r⟩))⟩
set_option maxRecDepth 100000 in
set_option maxHeartbeats 4000000 in
theorem gkeys_ok (sx : Option Addr) (n d : Nat) (X : Nat → Int) (w : World) (hn : n ≤ 12) (hr : (n = 0 ∨ ∃ b o : Nat, sx = some ⟨b, o, none⟩ ∧ RowI w b o n X)) (hok : ∀ i, i < n → secB (X i) = true) : Calls Try.prog 75 #[.slice sx n d] w fun ex w' => ∃ u, ex = .returned (.tuple #[u, .nilIface]) ∧ w'.ownsRow w.heap.size 32 3 u n (cellsT (fun i => ((tM (4 * (X i).toNat)).1 : Int)) (fun i => ((tM (4 * (X i).toNat)).2.1 : Int)) (fun i => (tM (4 * (X i).toNat)).2.2) n) ∧ Below w.heap.size w w' := by
  have HR : Hid ((n = 0 ∨ ∃ b o : Nat, sx = some ⟨b, o, none⟩ ∧ RowI w b o n X)) := hr
  have HO : Hid (∀ i, i < n → secB (X i) = true) := hok
  clear hr hok
  obtain ⟨i0, hi, hv0, hv1, hv2⟩ := info_parts gpinfo
  go_enter Try.func75, Try.ntmps75
  go_wp2_with (at_make; refine wpList_make_own _ rfl _ _ 29 rfl w.heap.size 32 i0 (.agg #[.int .i64 0, .int .i64 0, .bool false]) 3 Try.underlying29 hi hv0 hv1 _ _ _ n rfl rfl rfl ?b2 ?b3 ?b4 ?_)
  case b2 => rw [hv2]; omega
  case b3 => unfold maxLen; omega
  case b4 => omega
  intro w2 hown0 hgrow
  have hq2 : Below w.heap.size w w2 := (Below.refl _ _ : Below w.heap.size w _).grown hgrow (Nat.le_refl _) (fun k hk => by cases hk)
  clear hgrow
  go_wp2_with fail
  go_loopw [4, 14] (fun tv ti wl => ∃ k : Nat, k ≤ n ∧ ti = .int .i64 k ∧ wl.ownsRow w.heap.size 32 3 tv k (cellsT (fun i => ((tM (4 * (X i).toNat)).1 : Int)) (fun i => ((tM (4 * (X i).toNat)).2.1 : Int)) (fun i => (tM (4 * (X i).toNat)).2.2) k) ∧ Below w.heap.size w wl) (fun _ ti _ => n - (intOf ti).toNat)
  case atStart => exact ⟨0, by omega, rfl, hown0, by repeat (first | (with_reducible exact Below.refl _ _) | (with_reducible assumption) | (with_reducible refine Below.setCell ?_ (by first | (simp; done) | (simp; omega) | omega) _) | (with_reducible refine Below.alloc ?_ (by first | (simp; done) | (simp; omega) | omega) _) | (refine bl_call ?_ (by assumption) (by first | (simp; done) | (simp; omega) | omega)) | (with_reducible refine bl_drewN ?_) | (with_reducible refine Below.drew ?_) | (with_reducible refine bl_grow ?_ (by first | (simp; done) | (simp; omega) | omega)))⟩
  case round =>
    clear hown0 hq2
    obtain ⟨k, hk, rfl, hown, hqV⟩ := hrel
    rename World => wV
    have hzV := hqV.size
    by_cases hlt : k < n
    · have hlt' : (k : Int) < n := by omega
      obtain ⟨b, o, rfl, hz⟩ := HR.out.resolve_left (by omega)
      have hbV := Nat.lt_of_lt_of_le hz.1 hzV
      have c0 := (hz.below hz.1 hqV).2 k hlt
      have HE : Hid (∀ w, Calls Try.prog 13 #[.int .i64 (X k)] w fun e w' => e = .returned (.tuple #[.agg #[.int .i64 ((tM (4 * (X k).toNat)).1 : Int), .int .i64 ((tM (4 * (X k).toNat)).2.1 : Int), .bool (tM (4 * (X k).toNat)).2.2], .nilIface]) ∧ Below w.heap.size w w') := fun w => by
        obtain ⟨a1, a2⟩ := gsec_bd (HO.out k hlt)
        have := key_yes (X k).toNat w (by omega) (by omega)
        rwa [Int.toNat_of_nonneg (by omega)] at this
      clear hz
      go_wp2_with (first | (go_at_call 13; refine (HE.out _).mono ?_; rintro e w5 ⟨rfl, hb5⟩; have hq5 : Below w.heap.size w w5 := (by repeat (first | (with_reducible exact Below.refl _ _) | (with_reducible assumption) | (with_reducible refine Below.setCell ?_ (by first | (simp; done) | (simp; omega) | omega) _) | (with_reducible refine Below.alloc ?_ (by first | (simp; done) | (simp; omega) | omega) _) | (refine bl_call ?_ (by assumption) (by first | (simp; done) | (simp; omega) | omega)) | (with_reducible refine bl_drewN ?_) | (with_reducible refine Below.drew ?_) | (with_reducible refine bl_grow ?_ (by first | (simp; done) | (simp; omega) | omega)))); have hz5 := hq5.size; have hown5 := own_stay hown hb5; clear hb5) | (at_builtin; refine wpList_append_own_at _ rfl _ _ 29 rfl w.heap.size 32 i0 (.agg #[.int .i64 0, .int .i64 0, .bool false]) 3 24 Try.underlying29 hi hv0 hv1 hv2 rfl (by decide) _ _ _ rfl (own_stay hown5 (by repeat (first | (with_reducible exact Below.refl _ _) | (with_reducible assumption) | (with_reducible refine Below.setCell ?_ (by first | (simp; done) | (simp; omega) | omega) _) | (with_reducible refine Below.alloc ?_ (by first | (simp; done) | (simp; omega) | omega) _) | (refine bl_call ?_ (by assumption) (by first | (simp; done) | (simp; omega) | omega)) | (with_reducible refine bl_drewN ?_) | (with_reducible refine Below.drew ?_) | (with_reducible refine bl_grow ?_ (by first | (simp; done) | (simp; omega) | omega))))) ⟨_, 0, none⟩ 1 1 [.int .i64 ((tM (4 * (X k).toNat)).1 : Int), .int .i64 ((tM (4 * (X k).toNat)).2.1 : Int), .bool (tM (4 * (X k).toNat)).2.2] rfl rfl ?c1 ?c2 ?c3 ?c4 ?c5 ?_))
      case c1 => exact gthree_new (by simp) _ _ _ _
      case c2 => intro u hu; simp at hu; rcases hu with rfl | rfl | rfl <;> rfl
      case c3 => unfold maxLen; omega
      case c4 => omega
      case c5 => simp; omega
      · intro v' w13 hown' hgrow _ hat
        have hq13 : Below w.heap.size w w13 := grown_under (B := w.heap.size) (by repeat (first | (with_reducible exact Below.refl _ _) | (with_reducible assumption) | (with_reducible refine Below.setCell ?_ (by first | (simp; done) | (simp; omega) | omega) _) | (with_reducible refine Below.alloc ?_ (by first | (simp; done) | (simp; omega) | omega) _) | (refine bl_call ?_ (by assumption) (by first | (simp; done) | (simp; omega) | omega)) | (with_reducible refine bl_drewN ?_) | (with_reducible refine Below.drew ?_) | (with_reducible refine bl_grow ?_ (by first | (simp; done) | (simp; omega) | omega)))) (own_stay hown5 (by repeat (first | (with_reducible exact Below.refl _ _) | (with_reducible assumption) | (with_reducible refine Below.setCell ?_ (by first | (simp; done) | (simp; omega) | omega) _) | (with_reducible refine Below.alloc ?_ (by first | (simp; done) | (simp; omega) | omega) _) | (refine bl_call ?_ (by assumption) (by first | (simp; done) | (simp; omega) | omega)) | (with_reducible refine bl_drewN ?_) | (with_reducible refine Below.drew ?_) | (with_reducible refine bl_grow ?_ (by first | (simp; done) | (simp; omega) | omega))))) hgrow (by simp; omega) (Nat.le_refl _)
        rw [← cellsT_succ (fun i => ((tM (4 * (X i).toNat)).1 : Int)) (fun i => ((tM (4 * (X i).toNat)).2.1 : Int)) (fun i => (tM (4 * (X i).toNat)).2.2)] at hown'
        clear hgrow hat hown hown5
        go_wp2_with fail
        go_roundw
        case rel => exact ⟨k + 1, by omega, by simp, hown', hq13⟩
        case measure => simp [intOf]; omega
    · have hlt' : ¬ (k : Int) < n := by omega
      obtain rfl : k = n := by omega
      go_wp2_with fail
      go_ret2
      exact ⟨_, rfl, hown, by repeat (first | (with_reducible exact Below.refl _ _) | (with_reducible assumption) | (with_reducible refine Below.setCell ?_ (by first | (simp; done) | (simp; omega) | omega) _) | (with_reducible refine Below.alloc ?_ (by first | (simp; done) | (simp; omega) | omega) _) | (refine bl_call ?_ (by assumption) (by first | (simp; done) | (simp; omega) | omega)) | (with_reducible refine bl_drewN ?_) | (with_reducible refine Below.drew ?_) | (with_reducible refine bl_grow ?_ (by first | (simp; done) | (simp; omega) | omega)))⟩
set_option maxRecDepth 100000 in
set_option maxHeartbeats 4000000 in
theorem gsum_ok (sk : Option Addr) (n d : Nat) (Z : Nat → Int) (w : World) (hn : n ≤ 12) (hr : (n = 0 ∨ ∃ b o : Nat, sk = some ⟨b, o, none⟩ ∧ RowI w b o n Z)) (hok : ∀ i, i < n → secB (Z i) = true) : Calls Try.prog 45 #[.slice sk n d] w fun e w' => e = .returned (.int .i64 ((jsN (fun i => (Z i).toNat) n % 1013 : Nat) : Int)) ∧ Below w.heap.size w w' := by
  have HR : Hid ((n = 0 ∨ ∃ b o : Nat, sk = some ⟨b, o, none⟩ ∧ RowI w b o n Z)) := hr
  have HO : Hid (∀ i, i < n → secB (Z i) = true) := hok
  clear hr hok
  go_enter Try.func45, Try.ntmps45
  go_wp2_with fail
  go_loopw [3, 8] (fun ts ti wl => ∃ k : Nat, k ≤ n ∧ ti = .int .i64 k ∧ ts = .int .i64 ((jsN (fun i => (Z i).toNat) k % 1013 : Nat) : Int) ∧ Below w.heap.size w wl) (fun _ ti _ => n - (intOf ti).toNat)
  case atStart => exact ⟨0, by omega, rfl, rfl, by repeat (first | (with_reducible exact Below.refl _ _) | (with_reducible assumption) | (with_reducible refine Below.setCell ?_ (by first | (simp; done) | (simp; omega) | omega) _) | (with_reducible refine Below.alloc ?_ (by first | (simp; done) | (simp; omega) | omega) _) | (refine bl_call ?_ (by assumption) (by first | (simp; done) | (simp; omega) | omega)) | (with_reducible refine bl_drewN ?_) | (with_reducible refine Below.drew ?_) | (with_reducible refine bl_grow ?_ (by first | (simp; done) | (simp; omega) | omega)))⟩
  case round =>
    obtain ⟨k, hk, rfl, rfl, hqV⟩ := hrel
    rename World => wV
    have hzV := hqV.size
    by_cases hlt : k < n
    · have hlt' : (k : Int) < n := by omega
      obtain ⟨b, o, rfl, hz⟩ := HR.out.resolve_left (by omega)
      have hbV := Nat.lt_of_lt_of_le hz.1 hzV
      have c0 := (hz.below hz.1 hqV).2 k hlt
      obtain ⟨y0, y1⟩ := gsec_bd (HO.out k hlt)
      clear hz
      obtain ⟨s, hs⟩ : ∃ s : Int, ((jsN (fun i => (Z i).toNat) k % 1013 : Nat) : Int) = s := ⟨_, rfl⟩
      have E : Hid ((s + Z k) % 1013 = ((jsN (fun i => (Z i).toNat) (k + 1) % 1013 : Nat) : Int)) := by
        unfold Hid
        rw [← hs]
        show _ = (((jsN (fun i => (Z i).toNat) k + (Z k).toNat) % 1013 : Nat) : Int)
        omega
      have s0 : 0 ≤ s := by omega
      have s1 : s < 1013 := by omega
      rw [hs]
      clear hs
      go_wp2_with fail
      go_roundw
      case rel => exact ⟨k + 1, by omega, by simp, by rw [← E.out], by repeat (first | (with_reducible exact Below.refl _ _) | (with_reducible assumption) | (with_reducible refine Below.setCell ?_ (by first | (simp; done) | (simp; omega) | omega) _) | (with_reducible refine Below.alloc ?_ (by first | (simp; done) | (simp; omega) | omega) _) | (refine bl_call ?_ (by assumption) (by first | (simp; done) | (simp; omega) | omega)) | (with_reducible refine bl_drewN ?_) | (with_reducible refine Below.drew ?_) | (with_reducible refine bl_grow ?_ (by first | (simp; done) | (simp; omega) | omega)))⟩
      case measure => simp [intOf]; omega
    · have hlt' : ¬ (k : Int) < n := by omega
      obtain rfl : k = n := by omega
      go_wp2_with fail
      go_ret
      exact ⟨rfl, by repeat (first | (with_reducible exact Below.refl _ _) | (with_reducible assumption) | (with_reducible refine Below.setCell ?_ (by first | (simp; done) | (simp; omega) | omega) _) | (with_reducible refine Below.alloc ?_ (by first | (simp; done) | (simp; omega) | omega) _) | (refine bl_call ?_ (by assumption) (by first | (simp; done) | (simp; omega) | omega)) | (with_reducible refine bl_drewN ?_) | (with_reducible refine Below.drew ?_) | (with_reducible refine bl_grow ?_ (by first | (simp; done) | (simp; omega) | omega)))⟩
theorem gsx_step (x : Nat → Nat) (n k : Nat) : ((sxN x n k % 1013 : Nat) : Int) + (cfN (fun i => 4 * x i) n k : Int) * (x k : Int) = ((sxN x n k % 1013 + cfN (fun i => 4 * x i) n k * x k : Nat) : Int) := by
  rw [Int.natCast_add, Int.natCast_mul]
theorem gsx_mod (x : Nat → Nat) (n k : Nat) : (((sxN x n k % 1013 : Nat) : Int) + (cfN (fun i => 4 * x i) n k : Int) * (x k : Int)) % 1013 = ((sxN x n (k + 1) % 1013 : Nat) : Int) := by
  rw [gsx_step]
  show _ = (((sxN x n k + cfN (fun i => 4 * x i) n k * x k) % 1013 : Nat) : Int)
  omega
set_option maxRecDepth 100000 in
set_option maxHeartbeats 4000000 in
theorem gjointOf_ok (sx : Option Addr) (n d : Nat) (x K : Nat → Nat) (X : Nat → Int) (w : World) (hn : n ≤ 12) (hKx : K = fun i => 4 * x i) (hX : ∀ i, i < n → X i = (x i : Int) ∧ x i < 1013) (hr : (n = 0 ∨ ∃ b o : Nat, sx = some ⟨b, o, none⟩ ∧ RowI w b o n X)) (hk : ∀ W, Below w.heap.size w W → Calls Try.prog 75 #[.slice sx n d] W fun e w' => ∃ u, e = .returned (.tuple #[u, .nilIface]) ∧ w'.ownsRow W.heap.size 32 3 u n (cellsT (fun i => ((tM (K i)).1 : Int)) (fun i => ((tM (K i)).2.1 : Int)) (fun i => (tM (K i)).2.2) n) ∧ Below W.heap.size W w') (hc : ∀ W u B, W.ownsRow B 32 3 u n (cellsT (fun i => ((tM (K i)).1 : Int)) (fun i => ((tM (K i)).2.1 : Int)) (fun i => (tM (K i)).2.2) n) → Calls Try.prog 18 #[u] W fun e w' => ∃ v, e = .returned (.tuple #[v, .nilIface]) ∧ w'.ownsRow W.heap.size 3 1 v n (cellsI (fun i => (cfN K n i : Int)) n) ∧ Below W.heap.size W w') (hj : ∀ W u v B B', W.ownsRow B 32 3 u n (cellsT (fun i => ((tM (K i)).1 : Int)) (fun i => ((tM (K i)).2.1 : Int)) (fun i => (tM (K i)).2.2) n) → W.ownsRow B' 3 1 v n (cellsI (fun i => (cfN K n i : Int)) n) → Calls Try.prog 42 #[u, v] W fun e w' => e = .returned (.tuple #[.agg #[.int .i64 ((tM (jtN K n n)).1 : Int), .int .i64 ((tM (jtN K n n)).2.1 : Int), .bool (tM (jtN K n n)).2.2], .nilIface]) ∧ Below W.heap.size W w') : Calls Try.prog 44 #[.slice sx n d] w fun e w' => e = .returned (.tuple #[.agg #[.int .i64 ((tM (jtN K n n)).1 : Int), .int .i64 ((tM (jtN K n n)).2.1 : Int), .bool (tM (jtN K n n)).2.2], .int .i64 ((sxN x n n % 1013 : Nat) : Int), .nilIface]) ∧ Below w.heap.size w w' := by
  have HR : Hid ((n = 0 ∨ ∃ b o : Nat, sx = some ⟨b, o, none⟩ ∧ RowI w b o n X)) := hr
  have HX : Hid (∀ i, i < n → X i = (x i : Int) ∧ x i < 1013) := hX
  have HE : Hid (∀ k, ((((sxN x n k % 1013 : Nat) : Int)) + (cfN K n k : Int) * (x k : Int)) % 1013 = ((sxN x n (k + 1) % 1013 : Nat) : Int)) := fun k => by rw [hKx]; exact gsx_mod x n k
  have HKO : Hid (∀ W, Below w.heap.size w W → Calls Try.prog 75 #[.slice sx n d] W fun e w' => ∃ u, e = .returned (.tuple #[u, .nilIface]) ∧ w'.ownsRow W.heap.size 32 3 u n (cellsT (fun i => ((tM (K i)).1 : Int)) (fun i => ((tM (K i)).2.1 : Int)) (fun i => (tM (K i)).2.2) n) ∧ Below W.heap.size W w') := hk
  have HCO : Hid (∀ W u B, W.ownsRow B 32 3 u n (cellsT (fun i => ((tM (K i)).1 : Int)) (fun i => ((tM (K i)).2.1 : Int)) (fun i => (tM (K i)).2.2) n) → Calls Try.prog 18 #[u] W fun e w' => ∃ v, e = .returned (.tuple #[v, .nilIface]) ∧ w'.ownsRow W.heap.size 3 1 v n (cellsI (fun i => (cfN K n i : Int)) n) ∧ Below W.heap.size W w') := hc
  have HJD : Hid (∀ W u v B B', W.ownsRow B 32 3 u n (cellsT (fun i => ((tM (K i)).1 : Int)) (fun i => ((tM (K i)).2.1 : Int)) (fun i => (tM (K i)).2.2) n) → W.ownsRow B' 3 1 v n (cellsI (fun i => (cfN K n i : Int)) n) → Calls Try.prog 42 #[u, v] W fun e w' => e = .returned (.tuple #[.agg #[.int .i64 ((tM (jtN K n n)).1 : Int), .int .i64 ((tM (jtN K n n)).2.1 : Int), .bool (tM (jtN K n n)).2.2], .nilIface]) ∧ Below W.heap.size W w') := hj
  clear hr hX hk hc hj hKx
  go_enter Try.func44, Try.ntmps44
  go_wp2_with (first | (go_at_call 75; refine (HKO.out _ (by repeat (first | (with_reducible exact Below.refl _ _) | (with_reducible assumption) | (with_reducible refine Below.setCell ?_ (by first | (simp; done) | (simp; omega) | omega) _) | (with_reducible refine Below.alloc ?_ (by first | (simp; done) | (simp; omega) | omega) _) | (refine bl_call ?_ (by assumption) (by first | (simp; done) | (simp; omega) | omega)) | (with_reducible refine bl_drewN ?_) | (with_reducible refine Below.drew ?_) | (with_reducible refine bl_grow ?_ (by first | (simp; done) | (simp; omega) | omega))))).mono ?_; rintro e w1 ⟨u1, rfl, ho1, hb1⟩; have kr1 : At w1 (w.heap.size) [.int .i64 0, .int .i64 0, .bool false] := (by repeat (first | (with_reducible assumption) | ((with_reducible refine at_new' _ _ _ _ ?_); (first | rfl | (simp; done))) | (with_reducible refine At.alloc ?_ _) | (with_reducible refine At.drew ?_) | (with_reducible refine At.drewN ?_) | (with_reducible refine At.set ?_ (by omega)) | (with_reducible apply At.store4) | (with_reducible apply At.store3) | (with_reducible apply At.store2) | (with_reducible apply At.put43) | (refine At.below ?_ (by with_reducible assumption)))); have hq1 : Below w.heap.size w w1 := (by repeat (first | (with_reducible exact Below.refl _ _) | (with_reducible assumption) | (with_reducible refine Below.setCell ?_ (by first | (simp; done) | (simp; omega) | omega) _) | (with_reducible refine Below.alloc ?_ (by first | (simp; done) | (simp; omega) | omega) _) | (refine bl_call ?_ (by assumption) (by first | (simp; done) | (simp; omega) | omega)) | (with_reducible refine bl_drewN ?_) | (with_reducible refine Below.drew ?_) | (with_reducible refine bl_grow ?_ (by first | (simp; done) | (simp; omega) | omega)))); have hz1 := hq1.size; obtain ⟨zr1, cr01, cr11, cr21, fr01, fr11, fr21⟩ := kr1.three; clear hb1) | (go_at_call 18; refine (HCO.out _ _ _ ho1).mono ?_; rintro e w2 ⟨v2, rfl, ho2, hb2⟩; have kr2 : At w2 (w.heap.size) [.int .i64 0, .int .i64 0, .bool false] := (by repeat (first | (with_reducible assumption) | ((with_reducible refine at_new' _ _ _ _ ?_); (first | rfl | (simp; done))) | (with_reducible refine At.alloc ?_ _) | (with_reducible refine At.drew ?_) | (with_reducible refine At.drewN ?_) | (with_reducible refine At.set ?_ (by omega)) | (with_reducible apply At.store4) | (with_reducible apply At.store3) | (with_reducible apply At.store2) | (with_reducible apply At.put43) | (refine At.below ?_ (by with_reducible assumption)))); have hq2 : Below w.heap.size w w2 := (by repeat (first | (with_reducible exact Below.refl _ _) | (with_reducible assumption) | (with_reducible refine Below.setCell ?_ (by first | (simp; done) | (simp; omega) | omega) _) | (with_reducible refine Below.alloc ?_ (by first | (simp; done) | (simp; omega) | omega) _) | (refine bl_call ?_ (by assumption) (by first | (simp; done) | (simp; omega) | omega)) | (with_reducible refine bl_drewN ?_) | (with_reducible refine Below.drew ?_) | (with_reducible refine bl_grow ?_ (by first | (simp; done) | (simp; omega) | omega)))); have hz2 := hq2.size; have hu2 := own_stay ho1 hb2; clear kr1 cr01 fr01 cr11 fr11 cr21 fr21 hq1 ho1; obtain ⟨zr2, cr02, cr12, cr22, fr02, fr12, fr22⟩ := kr2.three; clear hb2))
  obtain ⟨sc, cc, e3, hc3⟩ := own_ints ho2
  subst e3
  have HRC : Hid (n = 0 ∨ ∃ g, sc = some ⟨g, 0, none⟩ ∧ RowI w2 g 0 n (fun i => (cfN K n i : Int))) := hc3.imp_right fun ⟨g, a, _, _, r⟩ => ⟨g, a, r⟩
  have HO2 : Hid (w2.ownsRow w1.heap.size 3 1 (.slice sc n cc) n (cellsI (fun i => (cfN K n i : Int)) n)) := ho2
  have HU2 : Hid (w2.ownsRow _ 32 3 u1 n (cellsT (fun i => ((tM (K i)).1 : Int)) (fun i => ((tM (K i)).2.1 : Int)) (fun i => (tM (K i)).2.2) n)) := hu2
  clear hc3 ho2 hu2
  go_loopw [8, 32] (fun ts ti wl => ∃ k : Nat, k ≤ n ∧ ti = .int .i64 k ∧ ts = .int .i64 ((sxN x n k % 1013 : Nat) : Int) ∧ Below w2.heap.size w2 wl) (fun _ ti _ => n - (intOf ti).toNat)
  case atStart => exact ⟨0, by omega, rfl, rfl, by repeat (first | (with_reducible exact Below.refl _ _) | (with_reducible assumption) | (with_reducible refine Below.setCell ?_ (by first | (simp; done) | (simp; omega) | omega) _) | (with_reducible refine Below.alloc ?_ (by first | (simp; done) | (simp; omega) | omega) _) | (refine bl_call ?_ (by assumption) (by first | (simp; done) | (simp; omega) | omega)) | (with_reducible refine bl_drewN ?_) | (with_reducible refine Below.drew ?_) | (with_reducible refine bl_grow ?_ (by first | (simp; done) | (simp; omega) | omega)))⟩
  case round =>
    obtain ⟨k, hk, rfl, rfl, hqV⟩ := hrel
    rename World => wV
    have hzV := hqV.size
    have krV := kr2.below hqV
    clear kr2 cr02 fr02 cr12 fr12 cr22 fr22
    obtain ⟨zrV, cr0V, cr1V, cr2V, fr0V, fr1V, fr2V⟩ := krV.three
    by_cases hlt : k < n
    · have hlt' : (k : Int) < n := by omega
      obtain ⟨b, o, rfl, hz⟩ := HR.out.resolve_left (by omega)
      obtain ⟨g, rfl, hg⟩ := HRC.out.resolve_left (by omega)
      have hbV : b < wV.heap.size := by have := hz.1; omega
      have hgV := Nat.lt_of_lt_of_le hg.1 hzV
      have c0 := (hz.below hz.1 (show Below w.heap.size w wV from bl_call hq2 hqV hz2)).2 k hlt
      have d0 := (hg.below hg.1 hqV).2 k hlt
      rw [Nat.zero_add] at d0
      obtain ⟨e0, y1⟩ := HX.out k hlt
      rw [e0] at c0
      have E := HE.out k
      have hcl := cfN_lt K n k
      dsimp only at d0
      obtain ⟨s, hs⟩ : ∃ s : Int, ((sxN x n k % 1013 : Nat) : Int) = s := ⟨_, rfl⟩
      obtain ⟨y, hy⟩ : ∃ y : Nat, x k = y := ⟨_, rfl⟩
      obtain ⟨f, hf⟩ : ∃ f : Nat, cfN K n k = f := ⟨_, rfl⟩
      have s0 : 0 ≤ s := by omega
      have s1 : s < 1013 := by omega
      rw [hs, hy, hf] at E
      rw [hy] at c0 y1
      rw [hf] at d0 hcl
      rw [hs]
      obtain ⟨q1, q0⟩ := sg_bd (k := 0) hcl y1 (by omega)
      clear hs hy hf e0 hz hg
      have E' : Hid ((s + (f : Int) * (y : Int)) % 1013 = ((sxN x n (k + 1) % 1013 : Nat) : Int)) := E
      clear E
      go_wp2_with fail
      go_roundw
      case rel => exact ⟨k + 1, by omega, by simp, by rw [← E'.out], by repeat (first | (with_reducible exact Below.refl _ _) | (with_reducible assumption) | (with_reducible refine Below.setCell ?_ (by first | (simp; done) | (simp; omega) | omega) _) | (with_reducible refine Below.alloc ?_ (by first | (simp; done) | (simp; omega) | omega) _) | (refine bl_call ?_ (by assumption) (by first | (simp; done) | (simp; omega) | omega)) | (with_reducible refine bl_drewN ?_) | (with_reducible refine Below.drew ?_) | (with_reducible refine bl_grow ?_ (by first | (simp; done) | (simp; omega) | omega)))⟩
      case measure => simp [intOf]; omega
    · have hlt' : ¬ (k : Int) < n := by omega
      obtain rfl : k = n := by omega
      have hqw : Below w.heap.size w wV := bl_call hq2 hqV hz2
      have HJ := HJD.out wV _ _ _ _ (own_stay HU2.out hqV) (own_stay HO2.out hqV)
      clear hqV hq2
      go_wp2_with (go_at_call 42; refine HJ.mono ?_; rintro e w3 ⟨rfl, hb3⟩; have kr3 : At w3 (w.heap.size) [.int .i64 0, .int .i64 0, .bool false] := (by repeat (first | (with_reducible assumption) | ((with_reducible refine at_new' _ _ _ _ ?_); (first | rfl | (simp; done))) | (with_reducible refine At.alloc ?_ _) | (with_reducible refine At.drew ?_) | (with_reducible refine At.drewN ?_) | (with_reducible refine At.set ?_ (by omega)) | (with_reducible apply At.store4) | (with_reducible apply At.store3) | (with_reducible apply At.store2) | (with_reducible apply At.put43) | (refine At.below ?_ (by with_reducible assumption)))); have hq3 : Below w.heap.size w w3 := (by repeat (first | (with_reducible exact Below.refl _ _) | (with_reducible assumption) | (with_reducible refine Below.setCell ?_ (by first | (simp; done) | (simp; omega) | omega) _) | (with_reducible refine Below.alloc ?_ (by first | (simp; done) | (simp; omega) | omega) _) | (refine bl_call ?_ (by assumption) (by first | (simp; done) | (simp; omega) | omega)) | (with_reducible refine bl_drewN ?_) | (with_reducible refine Below.drew ?_) | (with_reducible refine bl_grow ?_ (by first | (simp; done) | (simp; omega) | omega)))); have hz3 := hq3.size; obtain ⟨zr3, cr03, cr13, cr23, fr03, fr13, fr23⟩ := kr3.three; clear hb3)
      exact bodyPost_ret (v := .tuple #[.agg #[.int .i64 ((tM (jtN K k k)).1 : Int), .int .i64 ((tM (jtN K k k)).2.1 : Int), .bool (tM (jtN K k k)).2.2], .int .i64 ((sxN x k k % 1013 : Nat) : Int), .nilIface]) (by simp [results, Try.results44, go_sem, *]) rfl ⟨rfl, by repeat (first | (with_reducible exact Below.refl _ _) | (with_reducible assumption) | (with_reducible refine Below.setCell ?_ (by first | (simp; done) | (simp; omega) | omega) _) | (with_reducible refine Below.alloc ?_ (by first | (simp; done) | (simp; omega) | omega) _) | (refine bl_call ?_ (by assumption) (by first | (simp; done) | (simp; omega) | omega)) | (with_reducible refine bl_drewN ?_) | (with_reducible refine Below.drew ?_) | (with_reducible refine bl_grow ?_ (by first | (simp; done) | (simp; omega) | omega)))⟩
set_option maxRecDepth 100000 in
set_option maxHeartbeats 4000000 in
theorem gchk_many (sx sk : Option Addr) (n d m c : Nat) (t : ByteArray) (w : World) (h : 12 < n) : Calls Try.prog 43 #[.slice sx n d, .slice sk m c, .string t] w fun e w' => e = .returned (errOf 4) ∧ Below w.heap.size w w' := by
  have h' : (n : Int) > 12 := by omega
  go_enter Try.func43, Try.ntmps43
  go_wp2_with fail
  go_ret
  exact ⟨rfl, by repeat (first | (with_reducible exact Below.refl _ _) | (with_reducible assumption) | (with_reducible refine Below.setCell ?_ (by first | (simp; done) | (simp; omega) | omega) _) | (with_reducible refine Below.alloc ?_ (by first | (simp; done) | (simp; omega) | omega) _) | (refine bl_call ?_ (by assumption) (by first | (simp; done) | (simp; omega) | omega)) | (with_reducible refine bl_drewN ?_) | (with_reducible refine Below.drew ?_) | (with_reducible refine bl_grow ?_ (by first | (simp; done) | (simp; omega) | omega)))⟩
set_option maxRecDepth 100000 in
set_option maxHeartbeats 4000000 in
theorem gchk_odd (sx sk : Option Addr) (n d m c : Nat) (t : ByteArray) (w : World) (hn : n ≤ 12) (h : n ≠ m) : Calls Try.prog 43 #[.slice sx n d, .slice sk m c, .string t] w fun e w' => e = .returned (errOf 3) ∧ Below w.heap.size w w' := by
  have h' : ¬ (n : Int) > 12 := by omega
  have h2 : ((m : Int) != (n : Int)) = true := by rw [bne_iff_ne]; omega
  go_enter Try.func43, Try.ntmps43
  go_wp2_with fail
  go_ret
  exact ⟨rfl, by repeat (first | (with_reducible exact Below.refl _ _) | (with_reducible assumption) | (with_reducible refine Below.setCell ?_ (by first | (simp; done) | (simp; omega) | omega) _) | (with_reducible refine Below.alloc ?_ (by first | (simp; done) | (simp; omega) | omega) _) | (refine bl_call ?_ (by assumption) (by first | (simp; done) | (simp; omega) | omega)) | (with_reducible refine bl_drewN ?_) | (with_reducible refine Below.drew ?_) | (with_reducible refine bl_grow ?_ (by first | (simp; done) | (simp; omega) | omega)))⟩
set_option maxRecDepth 100000 in
set_option maxHeartbeats 4000000 in
theorem gchk_row (sx sk : Option Addr) (n d c j : Nat) (X Z : Nat → Int) (t : ByteArray) (w : World) (v : Value) (hn : n ≤ 12) (hx : (n = 0 ∨ ∃ b o : Nat, sx = some ⟨b, o, none⟩ ∧ RowI w b o n X)) (hz : (n = 0 ∨ ∃ b o : Nat, sk = some ⟨b, o, none⟩ ∧ RowI w b o n Z)) (hj : j ≤ n) (hok : ∀ i, i < j → (secB (X i) && secB (Z i)) = true) (ht : t.size ≤ 9223372036854775807)
    (hv : (j < n ∧ (secB (X j) && secB (Z j)) = false ∧ v = errOf 1) ∨ (j = n ∧ 60 < t.size ∧ v = errOf 4) ∨ (j = n ∧ t.size ≤ 60 ∧ v = .nilIface)) : Calls Try.prog 43 #[.slice sx n d, .slice sk n c, .string t] w fun e w' => e = .returned (v) ∧ Below w.heap.size w w' := by
  have HX : Hid ((n = 0 ∨ ∃ b o : Nat, sx = some ⟨b, o, none⟩ ∧ RowI w b o n X)) := hx
  have HZ : Hid ((n = 0 ∨ ∃ b o : Nat, sk = some ⟨b, o, none⟩ ∧ RowI w b o n Z)) := hz
  have HO : Hid (∀ i, i < j → (secB (X i) && secB (Z i)) = true) := hok
  have HV : Hid ((j < n ∧ (secB (X j) && secB (Z j)) = false ∧ v = errOf 1) ∨ (j = n ∧ 60 < t.size ∧ v = errOf 4) ∨ (j = n ∧ t.size ≤ 60 ∧ v = .nilIface)) := hv
  have h' : ¬ (n : Int) > 12 := by omega
  have h2 : ((n : Int) != (n : Int)) = false := by simp
  clear hx hz hok hv
  go_enter Try.func43, Try.ntmps43
  go_wp2_with fail
  go_loopw [21] (fun ti wl => ∃ k : Nat, k ≤ j ∧ ti = .int .i64 k ∧ Below w.heap.size w wl) (fun ti _ => n - (intOf ti).toNat)
  case atStart => exact ⟨0, by omega, rfl, by repeat (first | (with_reducible exact Below.refl _ _) | (with_reducible assumption) | (with_reducible refine Below.setCell ?_ (by first | (simp; done) | (simp; omega) | omega) _) | (with_reducible refine Below.alloc ?_ (by first | (simp; done) | (simp; omega) | omega) _) | (refine bl_call ?_ (by assumption) (by first | (simp; done) | (simp; omega) | omega)) | (with_reducible refine bl_drewN ?_) | (with_reducible refine Below.drew ?_) | (with_reducible refine bl_grow ?_ (by first | (simp; done) | (simp; omega) | omega)))⟩
  case round =>
    obtain ⟨k, hk, rfl, hqV⟩ := hrel
    rename World => wV
    have hzV := hqV.size
    by_cases hlt : k < n
    · have hlt' : (k : Int) < n := by omega
      obtain ⟨b, o, rfl, hz⟩ := HX.out.resolve_left (by omega)
      obtain ⟨g, q, rfl, hg⟩ := HZ.out.resolve_left (by omega)
      have hbV := Nat.lt_of_lt_of_le hz.1 hzV
      have hgV := Nat.lt_of_lt_of_le hg.1 hzV
      have c0 := (hz.below hz.1 hqV).2 k hlt
      have d0 := (hg.below hg.1 hqV).2 k hlt
      clear hz hg
      by_cases hkj : k < j
      · have hgood := HO.out k hkj
        rw [Bool.and_eq_true] at hgood
        have H1 : Hid (∀ w, Calls Try.prog 74 #[.int .i64 (X k)] w fun e w' => e = .returned (.bool true) ∧ w' = w) := gissec hgood.1
        have H2 : Hid (∀ w, Calls Try.prog 74 #[.int .i64 (Z k)] w fun e w' => e = .returned (.bool true) ∧ w' = w) := gissec hgood.2
        clear hgood
        go_wp2_with (first | (go_at_call 74; refine (H1.out _).mono ?_; rintro e v1 ⟨rfl, hv1⟩; subst v1) | (go_at_call 74; refine (H2.out _).mono ?_; rintro e v1 ⟨rfl, hv1⟩; subst v1))
        go_roundw
        case rel => exact ⟨k + 1, by omega, by simp, by repeat (first | (with_reducible exact Below.refl _ _) | (with_reducible assumption) | (with_reducible refine Below.setCell ?_ (by first | (simp; done) | (simp; omega) | omega) _) | (with_reducible refine Below.alloc ?_ (by first | (simp; done) | (simp; omega) | omega) _) | (refine bl_call ?_ (by assumption) (by first | (simp; done) | (simp; omega) | omega)) | (with_reducible refine bl_drewN ?_) | (with_reducible refine Below.drew ?_) | (with_reducible refine bl_grow ?_ (by first | (simp; done) | (simp; omega) | omega)))⟩
        case measure => simp [intOf]; omega
      · obtain rfl : k = j := by omega
        have hbad : (secB (X k) && secB (Z k)) = false ∧ v = errOf 1 := by
          rcases HV.out with h | h | h
          · exact h.2
          · exact absurd h.1 (by omega)
          · exact absurd h.1 (by omega)
        obtain ⟨hbad, rfl⟩ := hbad
        cases hxk : secB (X k) with
        | false =>
          have H1 : Hid (∀ w, Calls Try.prog 74 #[.int .i64 (X k)] w fun e w' => e = .returned (.bool false) ∧ w' = w) := gissec hxk
          clear hxk hbad
          go_wp2_with (go_at_call 74; refine (H1.out _).mono ?_; rintro e v1 ⟨rfl, hv1⟩; subst v1)
          go_ret
          exact ⟨rfl, by repeat (first | (with_reducible exact Below.refl _ _) | (with_reducible assumption) | (with_reducible refine Below.setCell ?_ (by first | (simp; done) | (simp; omega) | omega) _) | (with_reducible refine Below.alloc ?_ (by first | (simp; done) | (simp; omega) | omega) _) | (refine bl_call ?_ (by assumption) (by first | (simp; done) | (simp; omega) | omega)) | (with_reducible refine bl_drewN ?_) | (with_reducible refine Below.drew ?_) | (with_reducible refine bl_grow ?_ (by first | (simp; done) | (simp; omega) | omega)))⟩
        | true =>
          rw [hxk, Bool.true_and] at hbad
          have H1 : Hid (∀ w, Calls Try.prog 74 #[.int .i64 (X k)] w fun e w' => e = .returned (.bool true) ∧ w' = w) := gissec hxk
          have H2 : Hid (∀ w, Calls Try.prog 74 #[.int .i64 (Z k)] w fun e w' => e = .returned (.bool false) ∧ w' = w) := gissec hbad
          clear hxk hbad
          go_wp2_with (first | (go_at_call 74; refine (H1.out _).mono ?_; rintro e v1 ⟨rfl, hv1⟩; subst v1) | (go_at_call 74; refine (H2.out _).mono ?_; rintro e v1 ⟨rfl, hv1⟩; subst v1))
          go_ret
          exact ⟨rfl, by repeat (first | (with_reducible exact Below.refl _ _) | (with_reducible assumption) | (with_reducible refine Below.setCell ?_ (by first | (simp; done) | (simp; omega) | omega) _) | (with_reducible refine Below.alloc ?_ (by first | (simp; done) | (simp; omega) | omega) _) | (refine bl_call ?_ (by assumption) (by first | (simp; done) | (simp; omega) | omega)) | (with_reducible refine bl_drewN ?_) | (with_reducible refine Below.drew ?_) | (with_reducible refine bl_grow ?_ (by first | (simp; done) | (simp; omega) | omega)))⟩
    · have hlt' : ¬ (k : Int) < n := by omega
      rcases HV.out with h | ⟨_, h, rfl⟩ | ⟨_, h, rfl⟩
      · exact absurd h.1 (by omega)
      · have h3 : (t.size : Int) > 60 := by omega
        go_wp2_with fail
        go_ret
        exact ⟨rfl, by repeat (first | (with_reducible exact Below.refl _ _) | (with_reducible assumption) | (with_reducible refine Below.setCell ?_ (by first | (simp; done) | (simp; omega) | omega) _) | (with_reducible refine Below.alloc ?_ (by first | (simp; done) | (simp; omega) | omega) _) | (refine bl_call ?_ (by assumption) (by first | (simp; done) | (simp; omega) | omega)) | (with_reducible refine bl_drewN ?_) | (with_reducible refine Below.drew ?_) | (with_reducible refine bl_grow ?_ (by first | (simp; done) | (simp; omega) | omega)))⟩
      · have h3 : ¬ (t.size : Int) > 60 := by omega
        go_wp2_with fail
        go_ret
        exact ⟨rfl, by repeat (first | (with_reducible exact Below.refl _ _) | (with_reducible assumption) | (with_reducible refine Below.setCell ?_ (by first | (simp; done) | (simp; omega) | omega) _) | (with_reducible refine Below.alloc ?_ (by first | (simp; done) | (simp; omega) | omega) _) | (refine bl_call ?_ (by assumption) (by first | (simp; done) | (simp; omega) | omega)) | (with_reducible refine bl_drewN ?_) | (with_reducible refine Below.drew ?_) | (with_reducible refine bl_grow ?_ (by first | (simp; done) | (simp; omega) | omega)))⟩
set_option maxRecDepth 100000 in
set_option maxHeartbeats 4000000 in
theorem gsign_err (sx sk : Option Addr) (n d m c : Nat) (t : ByteArray) (e0 : Int) (w : World) (h : ∀ W, Below w.heap.size w W → Calls Try.prog 43 #[.slice sx n d, .slice sk m c, .string t] W fun e w' => e = .returned (errOf e0) ∧ Below W.heap.size W w') : Calls Try.prog 16 #[.slice sx n d, .slice sk m c, .string t] w fun e w' => e = .returned (.tuple #[.agg #[.int .i64 0, .int .i64 0, .bool false, .int .i64 0], errOf e0]) ∧ Below w.heap.size w w' := by
  have H : Hid (∀ W, Below w.heap.size w W → Calls Try.prog 43 #[.slice sx n d, .slice sk m c, .string t] W fun e w' => e = .returned (errOf e0) ∧ Below W.heap.size W w') := h
  clear h
  have m1 : True := trivial
  go_enter Try.func16, Try.ntmps16
  go_wp2_with (go_at_call 43; clear m1; refine (H.out _ (by repeat (first | (with_reducible exact Below.refl _ _) | (with_reducible assumption) | (with_reducible refine Below.setCell ?_ (by first | (simp; done) | (simp; omega) | omega) _) | (with_reducible refine Below.alloc ?_ (by first | (simp; done) | (simp; omega) | omega) _) | (refine bl_call ?_ (by assumption) (by first | (simp; done) | (simp; omega) | omega)) | (with_reducible refine bl_drewN ?_) | (with_reducible refine Below.drew ?_) | (with_reducible refine bl_grow ?_ (by first | (simp; done) | (simp; omega) | omega))))).mono ?_; rintro e w1 ⟨rfl, hbw1⟩; have krw1 : At w1 (w.heap.size) [.int .i64 0, .int .i64 0, .bool false, .int .i64 0] := (by repeat (first | (with_reducible assumption) | ((with_reducible refine at_new' _ _ _ _ ?_); (first | rfl | (simp; done))) | (with_reducible refine At.alloc ?_ _) | (with_reducible refine At.drew ?_) | (with_reducible refine At.drewN ?_) | (with_reducible refine At.set ?_ (by omega)) | (with_reducible apply At.store4) | (with_reducible apply At.store3) | (with_reducible apply At.store2) | (with_reducible apply At.put43) | (refine At.below ?_ (by with_reducible assumption)))); have hqw1 : Below w.heap.size w w1 := (by repeat (first | (with_reducible exact Below.refl _ _) | (with_reducible assumption) | (with_reducible refine Below.setCell ?_ (by first | (simp; done) | (simp; omega) | omega) _) | (with_reducible refine Below.alloc ?_ (by first | (simp; done) | (simp; omega) | omega) _) | (refine bl_call ?_ (by assumption) (by first | (simp; done) | (simp; omega) | omega)) | (with_reducible refine bl_drewN ?_) | (with_reducible refine Below.drew ?_) | (with_reducible refine bl_grow ?_ (by first | (simp; done) | (simp; omega) | omega)))); have hzw1 := hqw1.size; obtain ⟨zrw1, cr0w1, cr1w1, cr2w1, cr3w1, fr0w1, fr1w1, fr2w1, fr3w1⟩ := krw1.four; clear hbw1)
  exact bodyPost_ret (v := .tuple #[.agg #[.int .i64 0, .int .i64 0, .bool false, .int .i64 0], errOf e0]) (by simp [results, Try.results16, go_sem, *]) rfl ⟨rfl, by repeat (first | (with_reducible exact Below.refl _ _) | (with_reducible assumption) | (with_reducible refine Below.setCell ?_ (by first | (simp; done) | (simp; omega) | omega) _) | (with_reducible refine Below.alloc ?_ (by first | (simp; done) | (simp; omega) | omega) _) | (refine bl_call ?_ (by assumption) (by first | (simp; done) | (simp; omega) | omega)) | (with_reducible refine bl_drewN ?_) | (with_reducible refine Below.drew ?_) | (with_reducible refine bl_grow ?_ (by first | (simp; done) | (simp; omega) | omega)))⟩
set_option maxRecDepth 100000 in
set_option maxHeartbeats 4000000 in
theorem gsign_ok (sx sk : Option Addr) (n d c J S x k a g : Nat) (t : ByteArray) (w : World) (h : ∀ W, Below w.heap.size w W → Calls Try.prog 43 #[.slice sx n d, .slice sk n c, .string t] W fun e w' => e = .returned (.nilIface) ∧ Below W.heap.size W w') (hj : ∀ W, Below w.heap.size w W → Calls Try.prog 44 #[.slice sx n d] W fun e w' => e = .returned (.tuple #[.agg #[.int .i64 ((tM J).1 : Int), .int .i64 ((tM J).2.1 : Int), .bool (tM J).2.2], .int .i64 (x : Int), .nilIface]) ∧ Below W.heap.size W w') (hs : ∀ W, Below w.heap.size w W → Calls Try.prog 45 #[.slice sk n c] W fun e w' => e = .returned (.int .i64 (k : Int)) ∧ Below W.heap.size W w') (he : tM (4 * em (k : Int)) = tM (4 * S)) (ha : ∀ w, Calls Try.prog 46 #[.agg #[.int .i64 ((tM (4 * S)).1 : Int), .int .i64 ((tM (4 * S)).2.1 : Int), .bool (tM (4 * S)).2.2], .agg #[.int .i64 ((tM J).1 : Int), .int .i64 ((tM J).2.1 : Int), .bool (tM J).2.2], .string t] w fun e w' => e = .returned (.tuple #[.int .i64 (a : Int), .nilIface]) ∧ Below w.heap.size w w') (k1 : k < 1013) (a1 : a < 1013) (x1 : x < 1013) (hg : ((k : Int) + (a : Int) * (x : Int)) % 1013 = (g : Int)) :
    Calls Try.prog 16 #[.slice sx n d, .slice sk n c, .string t] w fun e w' => e = .returned (.tuple #[.agg #[.int .i64 ((tM (4 * S)).1 : Int), .int .i64 ((tM (4 * S)).2.1 : Int), .bool (tM (4 * S)).2.2, .int .i64 (g : Int)], .nilIface]) ∧ Below w.heap.size w w' := by
  have H : Hid (∀ W, Below w.heap.size w W → Calls Try.prog 43 #[.slice sx n d, .slice sk n c, .string t] W fun e w' => e = .returned (.nilIface) ∧ Below W.heap.size W w') := h
  have HJ : Hid (∀ W, Below w.heap.size w W → Calls Try.prog 44 #[.slice sx n d] W fun e w' => e = .returned (.tuple #[.agg #[.int .i64 ((tM J).1 : Int), .int .i64 ((tM J).2.1 : Int), .bool (tM J).2.2], .int .i64 (x : Int), .nilIface]) ∧ Below W.heap.size W w') := hj
  have HS : Hid (∀ W, Below w.heap.size w W → Calls Try.prog 45 #[.slice sk n c] W fun e w' => e = .returned (.int .i64 (k : Int)) ∧ Below W.heap.size W w') := hs
  have HA : Hid (∀ w, Calls Try.prog 46 #[.agg #[.int .i64 ((tM (4 * S)).1 : Int), .int .i64 ((tM (4 * S)).2.1 : Int), .bool (tM (4 * S)).2.2], .agg #[.int .i64 ((tM J).1 : Int), .int .i64 ((tM J).2.1 : Int), .bool (tM J).2.2], .string t] w fun e w' => e = .returned (.tuple #[.int .i64 (a : Int), .nilIface]) ∧ Below w.heap.size w w') := ha
  have E : Hid (tM (4 * em (k : Int)) = tM (4 * S)) := he
  obtain ⟨b1, b2⟩ := sg_bd (k := 0) a1 x1 (by omega)
  clear h hj hs ha he
  have m1 : True := trivial; have m2 : True := trivial; have m3 : True := trivial; have m4 : True := trivial; have m5 : True := trivial; have m6 : True := trivial
  go_enter Try.func16, Try.ntmps16
  go_wp2_with (first | (go_at_call 43; clear m1; refine (H.out _ (by repeat (first | (with_reducible exact Below.refl _ _) | (with_reducible assumption) | (with_reducible refine Below.setCell ?_ (by first | (simp; done) | (simp; omega) | omega) _) | (with_reducible refine Below.alloc ?_ (by first | (simp; done) | (simp; omega) | omega) _) | (refine bl_call ?_ (by assumption) (by first | (simp; done) | (simp; omega) | omega)) | (with_reducible refine bl_drewN ?_) | (with_reducible refine Below.drew ?_) | (with_reducible refine bl_grow ?_ (by first | (simp; done) | (simp; omega) | omega))))).mono ?_; rintro e w1 ⟨rfl, hbw1⟩; have krw1 : At w1 (w.heap.size) [.int .i64 0, .int .i64 0, .bool false, .int .i64 0] := (by repeat (first | (with_reducible assumption) | ((with_reducible refine at_new' _ _ _ _ ?_); (first | rfl | (simp; done))) | (with_reducible refine At.alloc ?_ _) | (with_reducible refine At.drew ?_) | (with_reducible refine At.drewN ?_) | (with_reducible refine At.set ?_ (by omega)) | (with_reducible apply At.store4) | (with_reducible apply At.store3) | (with_reducible apply At.store2) | (with_reducible apply At.put43) | (refine At.below ?_ (by with_reducible assumption)))); have hqw1 : Below w.heap.size w w1 := (by repeat (first | (with_reducible exact Below.refl _ _) | (with_reducible assumption) | (with_reducible refine Below.setCell ?_ (by first | (simp; done) | (simp; omega) | omega) _) | (with_reducible refine Below.alloc ?_ (by first | (simp; done) | (simp; omega) | omega) _) | (refine bl_call ?_ (by assumption) (by first | (simp; done) | (simp; omega) | omega)) | (with_reducible refine bl_drewN ?_) | (with_reducible refine Below.drew ?_) | (with_reducible refine bl_grow ?_ (by first | (simp; done) | (simp; omega) | omega)))); have hzw1 := hqw1.size; obtain ⟨zrw1, cr0w1, cr1w1, cr2w1, cr3w1, fr0w1, fr1w1, fr2w1, fr3w1⟩ := krw1.four; clear hbw1) | (go_at_call 44; clear m2; refine (HJ.out _ (by repeat (first | (with_reducible exact Below.refl _ _) | (with_reducible assumption) | (with_reducible refine Below.setCell ?_ (by first | (simp; done) | (simp; omega) | omega) _) | (with_reducible refine Below.alloc ?_ (by first | (simp; done) | (simp; omega) | omega) _) | (refine bl_call ?_ (by assumption) (by first | (simp; done) | (simp; omega) | omega)) | (with_reducible refine bl_drewN ?_) | (with_reducible refine Below.drew ?_) | (with_reducible refine bl_grow ?_ (by first | (simp; done) | (simp; omega) | omega))))).mono ?_; rintro e w2 ⟨rfl, hbw2⟩; have krw2 : At w2 (w.heap.size) [.int .i64 0, .int .i64 0, .bool false, .int .i64 0] := (by repeat (first | (with_reducible assumption) | ((with_reducible refine at_new' _ _ _ _ ?_); (first | rfl | (simp; done))) | (with_reducible refine At.alloc ?_ _) | (with_reducible refine At.drew ?_) | (with_reducible refine At.drewN ?_) | (with_reducible refine At.set ?_ (by omega)) | (with_reducible apply At.store4) | (with_reducible apply At.store3) | (with_reducible apply At.store2) | (with_reducible apply At.put43) | (refine At.below ?_ (by with_reducible assumption)))); have hqw2 : Below w.heap.size w w2 := (by repeat (first | (with_reducible exact Below.refl _ _) | (with_reducible assumption) | (with_reducible refine Below.setCell ?_ (by first | (simp; done) | (simp; omega) | omega) _) | (with_reducible refine Below.alloc ?_ (by first | (simp; done) | (simp; omega) | omega) _) | (refine bl_call ?_ (by assumption) (by first | (simp; done) | (simp; omega) | omega)) | (with_reducible refine bl_drewN ?_) | (with_reducible refine Below.drew ?_) | (with_reducible refine bl_grow ?_ (by first | (simp; done) | (simp; omega) | omega)))); have hzw2 := hqw2.size; obtain ⟨zrw2, cr0w2, cr1w2, cr2w2, cr3w2, fr0w2, fr1w2, fr2w2, fr3w2⟩ := krw2.four; clear krw1 cr0w1 fr0w1 cr1w1 fr1w1 cr2w1 fr2w1 cr3w1 fr3w1 hqw1; clear hbw2) | (go_at_call 45; clear m3; refine (HS.out _ (by repeat (first | (with_reducible exact Below.refl _ _) | (with_reducible assumption) | (with_reducible refine Below.setCell ?_ (by first | (simp; done) | (simp; omega) | omega) _) | (with_reducible refine Below.alloc ?_ (by first | (simp; done) | (simp; omega) | omega) _) | (refine bl_call ?_ (by assumption) (by first | (simp; done) | (simp; omega) | omega)) | (with_reducible refine bl_drewN ?_) | (with_reducible refine Below.drew ?_) | (with_reducible refine bl_grow ?_ (by first | (simp; done) | (simp; omega) | omega))))).mono ?_; rintro e w3 ⟨rfl, hbw3⟩; have krw3 : At w3 (w.heap.size) [.int .i64 0, .int .i64 0, .bool false, .int .i64 0] := (by repeat (first | (with_reducible assumption) | ((with_reducible refine at_new' _ _ _ _ ?_); (first | rfl | (simp; done))) | (with_reducible refine At.alloc ?_ _) | (with_reducible refine At.drew ?_) | (with_reducible refine At.drewN ?_) | (with_reducible refine At.set ?_ (by omega)) | (with_reducible apply At.store4) | (with_reducible apply At.store3) | (with_reducible apply At.store2) | (with_reducible apply At.put43) | (refine At.below ?_ (by with_reducible assumption)))); have kjw3 : At w3 (w2.heap.size) [.int .i64 ((tM J).1 : Int), .int .i64 ((tM J).2.1 : Int), .bool (tM J).2.2] := (by repeat (first | (with_reducible assumption) | ((with_reducible refine at_new' _ _ _ _ ?_); (first | rfl | (simp; done))) | (with_reducible refine At.alloc ?_ _) | (with_reducible refine At.drew ?_) | (with_reducible refine At.drewN ?_) | (with_reducible refine At.set ?_ (by omega)) | (with_reducible apply At.store4) | (with_reducible apply At.store3) | (with_reducible apply At.store2) | (with_reducible apply At.put43) | (refine At.below ?_ (by with_reducible assumption)))); have hqw3 : Below w.heap.size w w3 := (by repeat (first | (with_reducible exact Below.refl _ _) | (with_reducible assumption) | (with_reducible refine Below.setCell ?_ (by first | (simp; done) | (simp; omega) | omega) _) | (with_reducible refine Below.alloc ?_ (by first | (simp; done) | (simp; omega) | omega) _) | (refine bl_call ?_ (by assumption) (by first | (simp; done) | (simp; omega) | omega)) | (with_reducible refine bl_drewN ?_) | (with_reducible refine Below.drew ?_) | (with_reducible refine bl_grow ?_ (by first | (simp; done) | (simp; omega) | omega)))); have hzw3 := hqw3.size; obtain ⟨zrw3, cr0w3, cr1w3, cr2w3, cr3w3, fr0w3, fr1w3, fr2w3, fr3w3⟩ := krw3.four; obtain ⟨zjw3, cj0w3, cj1w3, cj2w3, fj0w3, fj1w3, fj2w3⟩ := kjw3.three; clear krw2 cr0w2 fr0w2 cr1w2 fr1w2 cr2w2 fr2w2 cr3w2 fr3w2 hqw2; clear hbw3) | (go_at_call 39; clear m4; refine (base_is _).mono ?_; rintro e w4 ⟨rfl, hbw4⟩; have krw4 : At w4 (w.heap.size) [.int .i64 0, .int .i64 0, .bool false, .int .i64 0] := (by repeat (first | (with_reducible assumption) | ((with_reducible refine at_new' _ _ _ _ ?_); (first | rfl | (simp; done))) | (with_reducible refine At.alloc ?_ _) | (with_reducible refine At.drew ?_) | (with_reducible refine At.drewN ?_) | (with_reducible refine At.set ?_ (by omega)) | (with_reducible apply At.store4) | (with_reducible apply At.store3) | (with_reducible apply At.store2) | (with_reducible apply At.put43) | (refine At.below ?_ (by with_reducible assumption)))); have kjw4 : At w4 (w2.heap.size) [.int .i64 ((tM J).1 : Int), .int .i64 ((tM J).2.1 : Int), .bool (tM J).2.2] := (by repeat (first | (with_reducible assumption) | ((with_reducible refine at_new' _ _ _ _ ?_); (first | rfl | (simp; done))) | (with_reducible refine At.alloc ?_ _) | (with_reducible refine At.drew ?_) | (with_reducible refine At.drewN ?_) | (with_reducible refine At.set ?_ (by omega)) | (with_reducible apply At.store4) | (with_reducible apply At.store3) | (with_reducible apply At.store2) | (with_reducible apply At.put43) | (refine At.below ?_ (by with_reducible assumption)))); have hqw4 : Below w.heap.size w w4 := (by repeat (first | (with_reducible exact Below.refl _ _) | (with_reducible assumption) | (with_reducible refine Below.setCell ?_ (by first | (simp; done) | (simp; omega) | omega) _) | (with_reducible refine Below.alloc ?_ (by first | (simp; done) | (simp; omega) | omega) _) | (refine bl_call ?_ (by assumption) (by first | (simp; done) | (simp; omega) | omega)) | (with_reducible refine bl_drewN ?_) | (with_reducible refine Below.drew ?_) | (with_reducible refine bl_grow ?_ (by first | (simp; done) | (simp; omega) | omega)))); have hzw4 := hqw4.size; obtain ⟨zrw4, cr0w4, cr1w4, cr2w4, cr3w4, fr0w4, fr1w4, fr2w4, fr3w4⟩ := krw4.four; obtain ⟨zjw4, cj0w4, cj1w4, cj2w4, fj0w4, fj1w4, fj2w4⟩ := kjw4.three; clear krw3 cr0w3 fr0w3 cr1w3 fr1w3 cr2w3 fr2w3 cr3w3 fr3w3 kjw3 cj0w3 fj0w3 cj1w3 fj1w3 cj2w3 fj2w3 hqw3; clear hbw4) | (go_at_call 19; clear m5; refine (times_eq E.out _).mono ?_; rintro e w5 ⟨rfl, hbw5⟩; have krw5 : At w5 (w.heap.size) [.int .i64 0, .int .i64 0, .bool false, .int .i64 0] := (by repeat (first | (with_reducible assumption) | ((with_reducible refine at_new' _ _ _ _ ?_); (first | rfl | (simp; done))) | (with_reducible refine At.alloc ?_ _) | (with_reducible refine At.drew ?_) | (with_reducible refine At.drewN ?_) | (with_reducible refine At.set ?_ (by omega)) | (with_reducible apply At.store4) | (with_reducible apply At.store3) | (with_reducible apply At.store2) | (with_reducible apply At.put43) | (refine At.below ?_ (by with_reducible assumption)))); have kjw5 : At w5 (w2.heap.size) [.int .i64 ((tM J).1 : Int), .int .i64 ((tM J).2.1 : Int), .bool (tM J).2.2] := (by repeat (first | (with_reducible assumption) | ((with_reducible refine at_new' _ _ _ _ ?_); (first | rfl | (simp; done))) | (with_reducible refine At.alloc ?_ _) | (with_reducible refine At.drew ?_) | (with_reducible refine At.drewN ?_) | (with_reducible refine At.set ?_ (by omega)) | (with_reducible apply At.store4) | (with_reducible apply At.store3) | (with_reducible apply At.store2) | (with_reducible apply At.put43) | (refine At.below ?_ (by with_reducible assumption)))); have hqw5 : Below w.heap.size w w5 := (by repeat (first | (with_reducible exact Below.refl _ _) | (with_reducible assumption) | (with_reducible refine Below.setCell ?_ (by first | (simp; done) | (simp; omega) | omega) _) | (with_reducible refine Below.alloc ?_ (by first | (simp; done) | (simp; omega) | omega) _) | (refine bl_call ?_ (by assumption) (by first | (simp; done) | (simp; omega) | omega)) | (with_reducible refine bl_drewN ?_) | (with_reducible refine Below.drew ?_) | (with_reducible refine bl_grow ?_ (by first | (simp; done) | (simp; omega) | omega)))); have hzw5 := hqw5.size; obtain ⟨zrw5, cr0w5, cr1w5, cr2w5, cr3w5, fr0w5, fr1w5, fr2w5, fr3w5⟩ := krw5.four; obtain ⟨zjw5, cj0w5, cj1w5, cj2w5, fj0w5, fj1w5, fj2w5⟩ := kjw5.three; clear krw4 cr0w4 fr0w4 cr1w4 fr1w4 cr2w4 fr2w4 cr3w4 fr3w4 kjw4 cj0w4 fj0w4 cj1w4 fj1w4 cj2w4 fj2w4 hqw4; clear hbw5) | (go_at_call 46; clear m6; refine (HA.out _).mono ?_; rintro e w6 ⟨rfl, hbw6⟩; have krw6 : At w6 (w.heap.size) [.int .i64 0, .int .i64 0, .bool false, .int .i64 0] := (by repeat (first | (with_reducible assumption) | ((with_reducible refine at_new' _ _ _ _ ?_); (first | rfl | (simp; done))) | (with_reducible refine At.alloc ?_ _) | (with_reducible refine At.drew ?_) | (with_reducible refine At.drewN ?_) | (with_reducible refine At.set ?_ (by omega)) | (with_reducible apply At.store4) | (with_reducible apply At.store3) | (with_reducible apply At.store2) | (with_reducible apply At.put43) | (refine At.below ?_ (by with_reducible assumption)))); have kpw6 : At w6 (w5.heap.size) [.int .i64 ((tM (4 * S)).1 : Int), .int .i64 ((tM (4 * S)).2.1 : Int), .bool (tM (4 * S)).2.2] := (by repeat (first | (with_reducible assumption) | ((with_reducible refine at_new' _ _ _ _ ?_); (first | rfl | (simp; done))) | (with_reducible refine At.alloc ?_ _) | (with_reducible refine At.drew ?_) | (with_reducible refine At.drewN ?_) | (with_reducible refine At.set ?_ (by omega)) | (with_reducible apply At.store4) | (with_reducible apply At.store3) | (with_reducible apply At.store2) | (with_reducible apply At.put43) | (refine At.below ?_ (by with_reducible assumption)))); have hqw6 : Below w.heap.size w w6 := (by repeat (first | (with_reducible exact Below.refl _ _) | (with_reducible assumption) | (with_reducible refine Below.setCell ?_ (by first | (simp; done) | (simp; omega) | omega) _) | (with_reducible refine Below.alloc ?_ (by first | (simp; done) | (simp; omega) | omega) _) | (refine bl_call ?_ (by assumption) (by first | (simp; done) | (simp; omega) | omega)) | (with_reducible refine bl_drewN ?_) | (with_reducible refine Below.drew ?_) | (with_reducible refine bl_grow ?_ (by first | (simp; done) | (simp; omega) | omega)))); have hzw6 := hqw6.size; obtain ⟨zrw6, cr0w6, cr1w6, cr2w6, cr3w6, fr0w6, fr1w6, fr2w6, fr3w6⟩ := krw6.four; obtain ⟨zpw6, cp0w6, cp1w6, cp2w6, fp0w6, fp1w6, fp2w6⟩ := kpw6.three; clear krw5 cr0w5 fr0w5 cr1w5 fr1w5 cr2w5 fr2w5 cr3w5 fr3w5 kjw5 cj0w5 fj0w5 cj1w5 fj1w5 cj2w5 fj2w5 hqw5; clear hbw6))
  exact bodyPost_ret (v := .tuple #[.agg #[.int .i64 ((tM (4 * S)).1 : Int), .int .i64 ((tM (4 * S)).2.1 : Int), .bool (tM (4 * S)).2.2, .int .i64 (g : Int)], .nilIface]) (by simp [results, Try.results16, go_sem, *]) rfl ⟨rfl, by repeat (first | (with_reducible exact Below.refl _ _) | (with_reducible assumption) | (with_reducible refine Below.setCell ?_ (by first | (simp; done) | (simp; omega) | omega) _) | (with_reducible refine Below.alloc ?_ (by first | (simp; done) | (simp; omega) | omega) _) | (refine bl_call ?_ (by assumption) (by first | (simp; done) | (simp; omega) | omega)) | (with_reducible refine bl_drewN ?_) | (with_reducible refine Below.drew ?_) | (with_reducible refine bl_grow ?_ (by first | (simp; done) | (simp; omega) | omega)))⟩
theorem gjs_em (S : Nat) : tM (4 * em ((S % 1013 : Nat) : Int)) = tM (4 * S) := by
  rw [em_nat (Nat.mod_lt _ (by omega))]
  exact t4_congr (by omega)
theorem ggs_mod (x z : Nat → Nat) (n : Nat) (t : ByteArray) : (((jsN z n % 1013 : Nat) : Int) + (gaN x z n t : Int) * ((sxN x n n % 1013 : Nat) : Int)) % 1013 = (gsN x z n t : Int) := by
  rw [← Int.natCast_mul, ← Int.natCast_add]
  have : (jsN z n % 1013 + gaN x z n t * (sxN x n n % 1013)) % 1013 = gsN x z n t := by
    unfold gsN
    rw [Nat.add_mod, Nat.mod_mod, Nat.mul_mod, Nat.mod_mod, ← Nat.mul_mod, ← Nat.add_mod]
  omega
theorem gsign_is : GSignIs := by
  refine ⟨fun sx sk n d m c t w h _ _ _ => gsign_err sx sk n d m c t 4 w (fun W _ => gchk_many sx sk n d m c t W h),
    fun sx sk n d m c t w h12 hne _ _ => gsign_err sx sk n d m c t 3 w (fun W _ => gchk_odd sx sk n d m c t W h12 hne),
    fun sx sk n d c X Z t w h12 _ _ hx hz _ _ ht hbad => ?_,
    fun sx sk n d c X Z t w h12 _ _ hx hz hok h60 ht => gsign_err sx sk n d n c t 4 w (fun W hW => gchk_row sx sk n d c n X Z t W _ h12 (hx.imp_right fun ⟨b, o, e, r⟩ => ⟨b, o, e, r.below r.1 hW⟩) (hz.imp_right fun ⟨b, o, e, r⟩ => ⟨b, o, e, r.below r.1 hW⟩) (Nat.le_refl _) hok ht (Or.inr (Or.inl ⟨rfl, h60, rfl⟩))),
    fun sx sk n d c X Z t w h12 _ _ hx hz hok h60 => ?_⟩
  · obtain ⟨j, h1, h2, h3⟩ := gfirst (fun i => secB (X i) && secB (Z i)) n
    rcases h3 with rfl | ⟨h3, h4⟩
    · obtain ⟨i, hi, hi2⟩ := hbad
      have := h2 i hi
      simp only [hi2] at this
      cases this
    · exact gsign_err sx sk n d n c t 1 w (fun W hW => gchk_row sx sk n d c j X Z t W _ h12 (hx.imp_right fun ⟨b, o, e, r⟩ => ⟨b, o, e, r.below r.1 hW⟩) (hz.imp_right fun ⟨b, o, e, r⟩ => ⟨b, o, e, r.below r.1 hW⟩) h1 h2 ht (Or.inl ⟨h3, h4, rfl⟩))
  · have hsx : ∀ i, i < n → secB (X i) = true := fun i hi => (Bool.and_eq_true _ _ ▸ hok i hi).1
    have hsz : ∀ i, i < n → secB (Z i) = true := fun i hi => (Bool.and_eq_true _ _ ▸ hok i hi).2
    refine gsign_ok sx sk n d c (jtN (fun i => 4 * (X i).toNat) n n) (jsN (fun i => (Z i).toNat) n) (sxN (fun i => (X i).toNat) n n % 1013) (jsN (fun i => (Z i).toNat) n % 1013) (gaN (fun i => (X i).toNat) (fun i => (Z i).toNat) n t) _ t w
      (fun W hW => gchk_row sx sk n d c n X Z t W _ h12 (hx.imp_right fun ⟨b, o, e, r⟩ => ⟨b, o, e, r.below r.1 hW⟩) (hz.imp_right fun ⟨b, o, e, r⟩ => ⟨b, o, e, r.below r.1 hW⟩) (Nat.le_refl _) hok (by omega) (Or.inr (Or.inr ⟨rfl, h60, rfl⟩)))
      (fun W hW => gjointOf_ok sx n d (fun i => (X i).toNat) (fun i => 4 * (X i).toNat) X W h12 rfl
        (fun i hi => by obtain ⟨a, b⟩ := gsec_bd (hsx i hi); exact ⟨by omega, by omega⟩)
        (hx.imp_right fun ⟨b, o, e, r⟩ => ⟨b, o, e, r.below r.1 hW⟩)
        (fun W2 hW2 => gkeys_ok sx n d X W2 h12 (hx.imp_right fun ⟨b, o, e, r⟩ => ⟨b, o, e, (r.below r.1 hW).below (Nat.lt_of_lt_of_le r.1 hW.size) hW2⟩) hsx)
        (fun W2 u B hu => by
          obtain ⟨sa, cc, rfl, k⟩ := own_spots hu
          exact gcoefs_ok sa n cc _ _ _ _ W2 h12 (k.imp_right fun ⟨g, a, _, _, r⟩ => ⟨g, 0, a, r⟩) (fun i _ => ⟨rfl, rfl, rfl⟩))
        (fun W2 u v B B' hu hv => by
          obtain ⟨sa, cc, rfl, k⟩ := own_spots hu
          obtain ⟨sb, cd, rfl, k2⟩ := own_ints hv
          exact gjoined_row sa sb n cc cd _ _ _ _ W2 h12 (k.imp_right fun ⟨g, a, _, _, r⟩ => ⟨g, 0, a, r⟩) (fun i _ => ⟨rfl, rfl, rfl⟩) (k2.imp_right fun ⟨g, a, _, _, r⟩ => ⟨g, 0, a, r⟩)))
      (fun W hW => gsum_ok sk n c Z W h12 (hz.imp_right fun ⟨b, o, e, r⟩ => ⟨b, o, e, r.below r.1 hW⟩) hsz)
      (gjs_em _) (fun W => ask_tM _ _ t W h60) (Nat.mod_lt _ (by omega)) (gaN_lt _ _ _ _) (Nat.mod_lt _ (by omega)) (ggs_mod _ _ n t)
end Go.Proofs.Ytmijjjdedadklag
