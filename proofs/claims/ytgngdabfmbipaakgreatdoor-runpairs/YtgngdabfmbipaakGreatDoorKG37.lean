/- Orders, pairs, seals and shares, as package run tells them. -/
import Derived.Test.YtgngdabfmbipaakGreatDoorKG36
import Derived.Test.YtgngdabfmbipaakGreatDoorKG9
import Derived.Test.YtgngdabfmbipaakGreatDoorKG6
import Derived.Test.YtgngdabfmbipaakGreatDoorKG14
import Derived.Test.YtgngdabfmbipaakGreatDoorKG19
import Derived.Deep.RegionHeld3
import Derived.Deep.CutRange
import Derived.Lib.QuietBelow
import Derived.Test.YtgngdabfmbipaakGreatDoorKG5
import Derived.Test.YtgngdabfmbipaakGreatDoorKG11
import Derived.Test.YtgngdabfmbipaakGreatDoorKShort
import Derived.Test.YtgngdabfmbipaakGreatDoorKG8
namespace Go.Proofs.YtgngdabfmbipaakGreatDoor
open Go.RowKit Go.Sort Go.Shelf
set_option linter.unusedVariables false
set_option linter.unusedSimpArgs false
theorem rn_lt {W w1 : World} (hb : Below W.heap.size W w1) : ∀ b, b < W.heap.size → b < w1.heap.size := fun b h => Nat.lt_of_lt_of_le h hb.size
theorem rn_ne {W w1 : World} (hb : Below W.heap.size W w1) : ∀ b, b < W.heap.size → (b = w1.heap.size) = False := fun b h => eq_false (Nat.ne_of_lt (rn_lt hb b h))
theorem rn_ne2 {W w1 : World} (hb : Below W.heap.size W w1) : ∀ b, b < W.heap.size → (w1.heap.size = b) = False := fun b h => eq_false (Nat.ne_of_gt (rn_lt hb b h))
theorem tM_9 (k : Nat) : (tM k).1 ≤ 9999 ∧ (tM k).2.1 ≤ 9999 := by
  obtain ⟨h1, h2⟩ := okS_lt (tM_ok k)
  omega
set_option maxRecDepth 100000 in
set_option maxHeartbeats 4000000 in
theorem otold (a : Addr) (x : Nat) (w : World) (h : Lie a w) (hx : x ≤ 9999) : Calls Tryz.prog 28 #[.agg #[.int .i64 ((tM 4).1 : Int), .int .i64 ((tM 4).2.1 : Int), .bool (tM 4).2.2], .int .i64 (x : Int)] w fun e w' => e = .returned (.tuple #[.string (digB (gM (4 * x))), .nilIface]) ∧ Below w.heap.size w w' := by
  have HL : Hid (Lie a w) := h
  have hg := gM_le (4 * x)
  have HA : Hid (tM (4 * em (x : Int)) = tM (4 * x)) := tM_em 4 x
  obtain ⟨T4, h4⟩ : ∃ T, tM 4 = T := ⟨_, rfl⟩
  obtain ⟨TX, hX⟩ : ∃ T, tM (4 * x) = T := ⟨_, rfl⟩
  obtain ⟨g, hg'⟩ : ∃ g, gM (4 * x) = g := ⟨_, rfl⟩
  have HT : Hid (∀ w, Calls Tryz.prog 9 #[.agg #[.int .i64 ((T4).1 : Int), .int .i64 ((T4).2.1 : Int), .bool (T4).2.2], .int .i64 (x : Int)] w fun e w' => e = .returned (.tuple #[.agg #[.int .i64 ((TX).1 : Int), .int .i64 ((TX).2.1 : Int), .bool (TX).2.2], .nilIface]) ∧ Below w.heap.size w w') := fun w => by
    have := times_eq HA.out w
    rwa [h4, hX] at this
  have HO : Hid (∀ w, Calls Tryz.prog 70 #[.agg #[.int .i64 ((TX).1 : Int), .int .i64 ((TX).2.1 : Int), .bool (TX).2.2]] w fun e w' => e = .returned (.tuple #[.int .i64 (g : Int), .nilIface]) ∧ Below w.heap.size w w') := fun w => by
    have := order_tM (4 * x) w
    rwa [hX, hg'] at this
  rw [h4, hg']
  rw [hg'] at hg
  clear h h4 hX hg' HA
  have m1 : True := trivial; have m2 : True := trivial; have m3 : True := trivial
  go_enter Tryz.func28, Tryz.ntmps28
  go_wp2_with (first | (go_at_call 9; clear m1; refine (HT.out _).mono ?_; rintro e w1 ⟨rfl, hbw1⟩; have hqw1 : Below w.heap.size w w1 := (below_by); have hzw1 := hqw1.size; clear hbw1) | (go_at_call 70; clear m2; refine (HO.out _).mono ?_; rintro e w2 ⟨rfl, hbw2⟩; have hqw2 : Below w.heap.size w w2 := (below_by); have hzw2 := hqw2.size; clear  hqw1; clear hbw2) | (go_at_call 30; clear m3; refine (row_one a _ _ g _ (HL.out.below (show Below w.heap.size w _ from below_by)) (at_red) (by omega)).mono ?_; rintro e w3 ⟨rfl, hb3⟩))
  exact bodyPost_ret (v := .tuple #[.string (digB g), .nilIface]) (by simp [results, Tryz.results28, go_sem, *]) rfl ⟨rfl, below_by⟩
theorem tp_nn (k : Nat) : ∃ x y : Nat, tp gI k = ((x : Int), (y : Int)) ∧ x ≤ 4050 ∧ y ≤ 4050 := by
  have a1 : 0 ≤ (tp gI k).1 := fm_lo _
  have a2 : (tp gI k).1 ≤ 4050 := fm_hi _
  have b1 : 0 ≤ (tp gI k).2 := fm_lo _
  have b2 : (tp gI k).2 ≤ 4050 := fm_hi _
  refine ⟨(tp gI k).1.toNat, (tp gI k).2.toNat, ?_, by omega, by omega⟩
  rw [Int.toNat_of_nonneg a1, Int.toNat_of_nonneg b1]
set_option maxRecDepth 100000 in
set_option maxHeartbeats 4000000 in
theorem ptold (a : Addr) (x y : Nat) (w : World) (h : Lie a w) (hx : x ≤ 9999) (hy : y ≤ 9999) : Calls Tryz.prog 33 #[.agg #[.int .i64 ((tM 4).1 : Int), .int .i64 ((tM 4).2.1 : Int), .bool (tM 4).2.2], .int .i64 (x : Int), .int .i64 (y : Int)] w fun e w' => e = .returned (.tuple #[.string (pairB (digB (tp gI (x * y)).1.toNat) (digB (tp gI (x * y)).2.toNat)), .nilIface]) ∧ Below w.heap.size w w' := by
  have HL : Hid (Lie a w) := h
  have HA : Hid (tM (4 * em (x : Int)) = tM (4 * x)) := tM_em 4 x
  have HB : Hid (tM (4 * em (y : Int)) = tM (4 * y)) := tM_em 4 y
  obtain ⟨u, v, huv, hu, hv⟩ := tp_nn (x * y)
  obtain ⟨T4, h4⟩ : ∃ T, tM 4 = T := ⟨_, rfl⟩
  obtain ⟨TX, hX⟩ : ∃ T, tM (4 * x) = T := ⟨_, rfl⟩
  obtain ⟨TY, hY⟩ : ∃ T, tM (4 * y) = T := ⟨_, rfl⟩
  have HT1 : Hid (∀ w, Calls Tryz.prog 9 #[.agg #[.int .i64 ((T4).1 : Int), .int .i64 ((T4).2.1 : Int), .bool (T4).2.2], .int .i64 (x : Int)] w fun e w' => e = .returned (.tuple #[.agg #[.int .i64 ((TX).1 : Int), .int .i64 ((TX).2.1 : Int), .bool (TX).2.2], .nilIface]) ∧ Below w.heap.size w w') := fun w => by
    have := times_eq HA.out w
    rwa [h4, hX] at this
  have HT2 : Hid (∀ w, Calls Tryz.prog 9 #[.agg #[.int .i64 ((T4).1 : Int), .int .i64 ((T4).2.1 : Int), .bool (T4).2.2], .int .i64 (y : Int)] w fun e w' => e = .returned (.tuple #[.agg #[.int .i64 ((TY).1 : Int), .int .i64 ((TY).2.1 : Int), .bool (TY).2.2], .nilIface]) ∧ Below w.heap.size w w') := fun w => by
    have := times_eq HB.out w
    rwa [h4, hY] at this
  have HP : Hid (∀ w, Calls Tryz.prog 74 #[.agg #[.int .i64 ((TX).1 : Int), .int .i64 ((TX).2.1 : Int), .bool (TX).2.2], .agg #[.int .i64 ((TY).1 : Int), .int .i64 ((TY).2.1 : Int), .bool (TY).2.2]] w fun e w' => e = .returned (.tuple #[.agg #[.int .i64 (u : Int), .int .i64 (v : Int)], .nilIface]) ∧ Below w.heap.size w w') := fun w => by
    have := pair_eq huv w
    rwa [hX, hY] at this
  have HE : Hid (pairB (digB (tp gI (x * y)).1.toNat) (digB (tp gI (x * y)).2.toNat) = pairB (digB u) (digB v)) := by unfold Hid; rw [huv]; rfl
  rw [h4, HE.out]
  clear h h4 hX hY HA HB huv
  have m1 : True := trivial; have m2 : True := trivial; have m3 : True := trivial; have m4 : True := trivial
  go_enter Tryz.func33, Tryz.ntmps33
  go_wp2_with (first | (go_at_call 9; clear m1; refine (HT1.out _).mono ?_; rintro e w1 ⟨rfl, hbw1⟩; have kbw1 : At w1 (w.heap.size) [.int .i64 ((T4).1 : Int), .int .i64 ((T4).2.1 : Int), .bool (T4).2.2] := (at_red); have hqw1 : Below w.heap.size w w1 := (below_by); have hzw1 := hqw1.size; obtain ⟨zbw1, cb0w1, cb1w1, cb2w1, fb0w1, fb1w1, fb2w1⟩ := kbw1.three; clear hbw1) | (go_at_call 9; clear m2; refine (HT2.out _).mono ?_; rintro e w2 ⟨rfl, hbw2⟩; have kcw2 : At w2 (w1.heap.size) [.int .i64 ((TX).1 : Int), .int .i64 ((TX).2.1 : Int), .bool (TX).2.2] := (at_red); have hqw2 : Below w.heap.size w w2 := (below_by); have hzw2 := hqw2.size; obtain ⟨zcw2, cc0w2, cc1w2, cc2w2, fc0w2, fc1w2, fc2w2⟩ := kcw2.three; clear kbw1 cb0w1 fb0w1 cb1w1 fb1w1 cb2w1 fb2w1 hqw1; clear hbw2) | (go_at_call 74; clear m3; refine (HP.out _).mono ?_; rintro e w3 ⟨rfl, hbw3⟩; have hqw3 : Below w.heap.size w w3 := (below_by); have hzw3 := hqw3.size; clear kcw2 cc0w2 fc0w2 cc1w2 fc1w2 cc2w2 fc2w2 hqw2; clear hbw3) | (go_at_call 30; clear m4; refine (row_two a _ _ u v _ (HL.out.below (show Below w.heap.size w _ from below_by)) (at_red) (by omega) (by omega)).mono ?_; rintro e w4 ⟨rfl, hb4⟩))
  exact bodyPost_ret (v := .tuple #[.string (pairB (digB u) (digB v)), .nilIface]) (by simp [results, Tryz.results33, go_sem, *]) rfl ⟨rfl, below_by⟩
set_option maxRecDepth 100000 in
set_option maxHeartbeats 4000000 in
theorem slt_ok (a : Addr) (p : Sn) (s : Nat) (w : World) (h : Lie a w) (h1 : p.1 ≤ 9999) (h2 : p.2.1 ≤ 9999) (hs : s ≤ 9999) : Calls Tryz.prog 35 #[.agg #[.int .i64 (p.1 : Int), .int .i64 (p.2.1 : Int), .bool p.2.2, .int .i64 (s : Int)], .nilIface] w fun e w' => e = .returned (.tuple #[.string (pairB (toldB p) (digB s)), .nilIface]) ∧ Below w.heap.size w w' := by
  have HL : Hid (Lie a w) := h
  have HS : Hid (∀ w, Lie a w → Calls Tryz.prog 69 #[.agg #[.int .i64 ((p).1 : Int), .int .i64 ((p).2.1 : Int), .bool (p).2.2]] w fun e w' => e = .returned (.string (toldB p)) ∧ Below w.heap.size w w') := fun w h => spot_is a p w h h1 h2
  have HR : Hid (∀ b c w, Lie a w → At w b [.int .i64 (s : Int)] → Calls Tryz.prog 30 #[.slice (some ⟨b, 0, none⟩) 1 c] w fun e w' => e = .returned (.string (digB s)) ∧ Below w.heap.size w w') := fun b c w h k => row_one a b c s w h k hs
  have HT : Hid (pairB (toldB p) (digB s) = toldB p ++ ⟨#[32]⟩ ++ digB s) := rfl
  rw [HT.out]
  have t1 : (toldB p).size ≤ 300 := by
    unfold toldB pairB
    have := digB_sz p.1
    have := digB_sz p.2.1
    cases p.2.2 with
    | true => rw [cond_true]; decide
    | false => rw [cond_false, ByteArray.size_append, ByteArray.size_append]; show _ + 1 + _ ≤ 300; omega
  have t2 := digB_sz s
  clear h h1 h2
  generalize toldB p = T at *
  generalize digB s = D at *
  obtain ⟨x, y, f⟩ := p
  dsimp only at HS
  have hc1 : ∀ w, (Op.stringOp .add T ⟨#[32]⟩).run Tryz.prog w = .ok (.string (T ++ ⟨#[32]⟩)) w := fun w => run_string_add_sum w T ⟨#[32]⟩ (by show _ + 1 ≤ _; omega)
  have hc2 : ∀ w, (Op.stringOp .add (T ++ ⟨#[32]⟩) D).run Tryz.prog w = .ok (.string (T ++ ⟨#[32]⟩ ++ D)) w := fun w => run_string_add_sum w (T ++ ⟨#[32]⟩) D (by rw [ByteArray.size_append]; show _ + 1 + _ ≤ _; omega)
  go_enter Tryz.func35, Tryz.ntmps35
  go_upto_region 3 with fail
  refine wp_gen (fun V => At V (w.heap.size) [.int .i64 (x : Int), .int .i64 (y : Int), .bool f, .int .i64 (s : Int)] ∧ Below w.heap.size w V) ⟨at_red, below_by⟩ ?_
  rintro V ⟨kbV, hqV⟩
  have hzV := hqV.size
  obtain ⟨zbV, cb0V, cb1V, cb2V, cb3V, fb0V, fb1V, fb2V, fb3V⟩ := kbV.four
  go_region_held3 (fun W => ((w.heap.size) < W.heap.size ∧ W.cell? ⟨w.heap.size, 0, none⟩ = some (.int .i64 (x : Int)) ∧ W.cell? ⟨w.heap.size, 1, none⟩ = some (.int .i64 (y : Int)) ∧ W.cell? ⟨w.heap.size, 2, none⟩ = some (.bool f) ∧ W.cell? ⟨w.heap.size, 3, none⟩ = some (.int .i64 (s : Int)) ∧ W.frozen? ⟨w.heap.size, 0, none⟩ = false ∧ W.frozen? ⟨w.heap.size, 1, none⟩ = false ∧ W.frozen? ⟨w.heap.size, 2, none⟩ = false ∧ W.frozen? ⟨w.heap.size, 3, none⟩ = false)) (exact At.four (at_red)) (first | (go_at_call 69; refine (HS.out _ (HL.out.below (show Below w.heap.size w _ from below_by))).mono ?_; rintro e w5 ⟨rfl, hb5⟩; obtain ⟨hc5, hf5⟩ := bcell hb5; have hl5 := rn_lt hb5; have hn5 := rn_ne hb5; have hm5 := rn_ne2 hb5; have hs5 := hb5.size; (try simp at hs5)) | (go_at_call 30; refine (HR.out _ _ _ (HL.out.below (show Below w.heap.size w _ from below_by)) (at_red)).mono ?_; rintro e w6 ⟨rfl, hb6⟩; obtain ⟨hc6, hf6⟩ := bcell hb6; have hl6 := rn_lt hb6; have hn6 := rn_ne hb6; have hm6 := rn_ne2 hb6; have hs6 := hb6.size; (try simp at hs6)))
  all_goals (go_wp2_with fail)
  all_goals (exact bodyPost_ret (v := .tuple #[.string (T ++ ⟨#[32]⟩ ++ D), .nilIface]) (by simp [results, Tryz.results35, go_sem, *]) rfl ⟨rfl, below_by⟩)
set_option maxRecDepth 100000 in
set_option maxHeartbeats 4000000 in
theorem slt_no (x y : Int) (f : Bool) (s n : Int) (w : World) : Calls Tryz.prog 35 #[.agg #[.int .i64 x, .int .i64 y, .bool f, .int .i64 s], errOf n] w fun e w' => e = .returned (.tuple #[.string ⟨#[]⟩, errOf n]) ∧ Below w.heap.size w w' := by
  go_enter Tryz.func35, Tryz.ntmps35
  go_wp2_with fail
  exact bodyPost_ret (v := .tuple #[.string ⟨#[]⟩, errOf n]) (by simp [results, Tryz.results35, go_sem, *]) rfl ⟨rfl, below_by⟩
set_option maxRecDepth 100000 in
set_option maxHeartbeats 4000000 in
theorem sht_no (sa : Option Addr) (m c : Nat) (n : Int) (w : World) : Calls Tryz.prog 42 #[.slice sa m c, errOf n] w fun e w' => e = .returned (.tuple #[.string ⟨#[]⟩, errOf n]) ∧ Below w.heap.size w w' := by
  go_enter Tryz.func42, Tryz.ntmps42
  go_wp2_with fail
  exact bodyPost_ret (v := .tuple #[.string ⟨#[]⟩, errOf n]) (by simp [results, Tryz.results42, go_sem, *]) rfl ⟨rfl, below_by⟩
theorem one_newC {w : World} {s : Nat} (x : Value) (t : TypeId) (h : w.heap.size = s) : ∀ j u, [x][j]? = some u → (w.alloc (.cells #[x] t)).cell? ((⟨s, 0, none⟩ : Addr).add j) = some u := by subst h; exact cell_one_new w x t
set_option maxRecDepth 100000 in
set_option maxHeartbeats 4000000 in
theorem sht_ok (a : Addr) (b o n c : Nat) (X : Nat → Int) (K : Nat → Nat) (w : World) (h : Lie a w) (hr : RowP w b o n X (fun i => (K i : Int))) (h0 : 0 < n) (hn : n ≤ 12) (hK : ∀ i, i < n → K i < 1000000000000000000) : Calls Tryz.prog 42 #[.slice (some ⟨b, o, none⟩) n c, .nilIface] w fun e w' => e = .returned (.tuple #[.string (joinB (digsL K n)), .nilIface]) ∧ Below w.heap.size w w' := by
  have HL : Hid (Lie a w) := h
  have HP : Hid (RowP w b o n X (fun i => (K i : Int))) := hr
  have HR : Hid (∀ b o c w, Lie a w → RowI w b o n (fun i => (K i : Int)) → Calls Tryz.prog 30 #[.slice (some ⟨b, o, none⟩) n c] w fun e w' => e = .returned (.string (joinB (digsL K n))) ∧ Below w.heap.size w w') := fun b o c w h k => row_is a b o n c K w h k hn hK
  have hb := hr.1
  clear h hr hK
  obtain ⟨i0, hi, hv0, hv1, hv2⟩ := info_parts iinfo
  go_enter Tryz.func42, Tryz.ntmps42
  go_wp2_with (at_make; refine wpList_make_own _ rfl _ _ 58 rfl w.heap.size 3 i0 (.int .i64 0) 1 Tryz.underlying58 hi hv0 hv1 _ _ _ n rfl rfl rfl ?b2 ?b3 ?b4 ?_)
  case b2 => rw [hv2]; omega
  case b3 => unfold maxLen; omega
  case b4 => omega
  intro w2 hown0 hgrow
  have hq2 : Below w.heap.size w w2 := (Below.refl w.heap.size w).grown hgrow (by omega) (fun k hk => by cases hk)
  clear hgrow
  go_wp2_with fail
  go_loopw [6, 17] (fun tv ti wl => ∃ i : Nat, i ≤ n ∧ ti = .int .i64 i ∧ wl.ownsRow w.heap.size 3 1 tv i (cellsI (fun i => (K i : Int)) i) ∧ Below w.heap.size w wl) (fun _ ti _ => n - (intOf ti).toNat)
  case atStart => exact ⟨0, by omega, rfl, hown0, below_by⟩
  case round =>
    clear hown0
    obtain ⟨i, hin, rfl, hown, hqV⟩ := hrel
    rename World => wV
    have hzV := hqV.size
    by_cases hlt : i < n
    · have hlt' : (i : Int) < n := by omega
      have hbV := Nat.lt_of_lt_of_le hb hzV
      have hrow := (HP.out.below hb hqV).2 i hlt
      have c0 : wV.cell? ⟨b, o + i * 2, none⟩ = some (.int .i64 (X i)) := hrow.1
      have c1 : wV.cell? ⟨b, o + i * 2 + 1, none⟩ = some (.int .i64 (K i : Int)) := hrow.2
      clear hrow
      go_wp2_with (at_builtin; refine wpList_append_own_at _ rfl _ _ 58 rfl w.heap.size 3 i0 (.int .i64 0) 1 8 Tryz.underlying58 hi hv0 hv1 hv2 rfl (by decide) _ _ _ rfl (own_stay hown (below_by)) ⟨_, 0, none⟩ 1 1 [.int .i64 (K i : Int)] rfl rfl ?c1 ?c2 ?c3 ?c4 ?c5 ?_)
      case c1 => exact one_newC _ _ (by simp)
      case c2 => intro u hu; simp at hu; subst hu; rfl
      case c3 => unfold maxLen; omega
      case c4 => omega
      case c5 => simp; omega
      · intro v' w13 hown' hgrow _ hat
        have hq13 : Below w.heap.size w w13 := grown_under (B := w.heap.size) (below_by) (own_stay (by assumption) (below_by)) hgrow (by simp; omega) (Nat.le_refl _)
        rw [← cellsI_succ (fun i => (K i : Int))] at hown'
        clear hgrow hat hown
        go_wp2_with fail
        go_roundw
        case rel => exact ⟨i + 1, by omega, by simp, hown', hq13⟩
        case measure => simp [intOf]; omega
    · have hlt' : ¬ (i : Int) < n := by omega
      obtain rfl : i = n := by omega
      have HJ : Hid (∀ v, wV.ownsRow w.heap.size 3 1 v i (cellsI (fun i => (K i : Int)) i) → Calls Tryz.prog 30 #[v] wV fun e w' => e = .returned (.string (joinB (digsL K i))) ∧ Below wV.heap.size wV w') := fun v hv => by
        obtain ⟨sa, c, rfl, h1⟩ := own_slice hv
        rcases h1 with h1 | ⟨g, rfl, h2, h3, h4⟩
        · omega
        · refine HR.out g 0 c wV (HL.out.below hqV) ⟨h4, fun j hj => ?_⟩
          have := hv.cells h2 j (.int .i64 (K j : Int)) (cellsI_at _ hj)
          rw [addr_add] at this
          rw [Nat.zero_add]
          exact this
      go_wp2_with (go_at_call 30; refine (HJ.out _ hown).mono ?_; rintro e w6 ⟨rfl, hb6⟩)
      exact bodyPost_ret (v := .tuple #[.string (joinB (digsL K i)), .nilIface]) (by simp [results, Tryz.results42, go_sem, *]) rfl ⟨rfl, below_by⟩
end Go.Proofs.YtgngdabfmbipaakGreatDoor

/- What each word of a session does. -/
namespace Go.Proofs.YtgngdabfmbipaakGreatDoor
open Go.RowKit Go.Sort Go.Shelf
set_option linter.unusedVariables false
set_option linter.unusedSimpArgs false
/-- What a word has done: the answer, or an error, which is answered by its name. -/
def DoneB (e : Ending) (s : ByteArray) : Prop :=
  e = .returned (.tuple #[.string s, .nilIface]) ∨ ∃ n : Nat, (n = 1 ∨ n = 4 ∨ n = 5) ∧ s = nameB n ∧ e = .returned (.tuple #[.string ⟨#[]⟩, errOf (n : Int)])
set_option maxRecDepth 100000 in
set_option maxHeartbeats 4000000 in
theorem do_base (a : Addr) (nb c pb x y z : Nat) (t : ByteArray) (w : World) (h : Lie a w) (hn : At w nb [.int .i64 (x : Int)]) (hp : At w pb [.int .i64 ((tM 4).1 : Int), .int .i64 ((tM 4).2.1 : Int), .bool (tM 4).2.2]) (hx : x ≤ 9999) : Calls Tryz.prog 24 #[.agg #[.slice (some ⟨nb, 0, none⟩) 1 c, .string t], .pointer (some ⟨pb, 0, none⟩)] w fun e w' => DoneB e (ansB 1 x y z t) ∧ Below w.heap.size w w' := by
  have HL : Hid (Lie a w) := h
  have HE : Hid (tM (4 * em (x : Int)) = tM (4 * x)) := tM_em 4 x
  obtain ⟨T4, h4⟩ : ∃ T, tM 4 = T := ⟨_, rfl⟩
  obtain ⟨b1, b2⟩ := tM_9 (4 * x)
  obtain ⟨TX, hX⟩ : ∃ T, tM (4 * x) = T := ⟨_, rfl⟩
  have HT : Hid (∀ w, Calls Tryz.prog 9 #[.agg #[.int .i64 ((T4).1 : Int), .int .i64 ((T4).2.1 : Int), .bool (T4).2.2], .int .i64 (x : Int)] w fun e w' => e = .returned (.tuple #[.agg #[.int .i64 ((TX).1 : Int), .int .i64 ((TX).2.1 : Int), .bool (TX).2.2], .nilIface]) ∧ Below w.heap.size w w') := fun w => by
    have := times_eq HE.out w
    rwa [h4, hX] at this
  rw [hX] at b1 b2
  have HS : Hid (∀ w, Lie a w → Calls Tryz.prog 25 #[.agg #[.int .i64 ((TX).1 : Int), .int .i64 ((TX).2.1 : Int), .bool (TX).2.2], .nilIface] w fun e w' => e = .returned (.tuple #[.string (toldB TX), .nilIface]) ∧ Below w.heap.size w w') := fun w h => stold_ok a TX w h b1 b2
  have HX : Hid (DoneB (.returned (.tuple #[.string (toldB TX), .nilIface])) (ansB 1 x y z t)) := Or.inl (by rw [← hX]; rfl)
  rw [h4] at hp
  clear h h4 hX HE
  generalize toldB TX = A at *
  go_enter Tryz.func24, Tryz.ntmps24
  go_upto_region 1 with fail
  refine wp_gen (fun V => At V (nb) [.int .i64 (x : Int)] ∧ At V (pb) [.int .i64 ((T4).1 : Int), .int .i64 ((T4).2.1 : Int), .bool (T4).2.2] ∧ At V (w.heap.size) [.slice (some ⟨nb, 0, none⟩) 1 c, .string t] ∧ Below w.heap.size w V) ⟨at_red, at_red, at_red, below_by⟩ ?_
  rintro V ⟨knV, kpV, kaV, hqV⟩
  have hzV := hqV.size
  obtain ⟨znV, cn0V, fn0V⟩ := knV.one
  obtain ⟨zpV, cp0V, cp1V, cp2V, fp0V, fp1V, fp2V⟩ := kpV.three
  obtain ⟨zaV, ca0V, ca1V, fa0V, fa1V⟩ := kaV.two
  have HLV : Hid (Lie a V) := HL.out.below hqV
  refine wp_region_quiet_below (by kernel_rfl) (by kernel_rfl) ?_
  repeat (go_big_quiet_step (first | (go_at_call 9; with_reducible exact Calls.regrown_of (HT.out _)) | (go_at_call 25; with_reducible exact Calls.regrown_of (HS.out _ (HLV.out.below (below_regrown _ _ _))))))
  refine wpQuiet_nil ?_
  intro U hw1
  have hrU := regrown_below hw1
  clear hw1
  have knU := knV.below hrU
  have kpU := kpV.below hrU
  have kaU := kaV.below hrU
  have hqU := bl_call hqV hrU (by omega)
  have hzU := hqU.size
  clear hrU knV cn0V fn0V kpV cp0V fp0V cp1V fp1V cp2V fp2V kaV ca0V fa0V ca1V fa1V hqV
  obtain ⟨znU, cn0U, fn0U⟩ := knU.one
  obtain ⟨zpU, cp0U, cp1U, cp2U, fp0U, fp1U, fp2U⟩ := kpU.three
  obtain ⟨zaU, ca0U, ca1U, fa0U, fa1U⟩ := kaU.two
  go_wp2_with fail
  exact bodyPost_ret (v := .tuple #[.string (A), .nilIface]) (by simp [results, Tryz.results24, go_sem, *]) rfl ⟨HX.out, below_by⟩
set_option maxRecDepth 100000 in
set_option maxHeartbeats 4000000 in
theorem do_order (a : Addr) (nb c pb x y z : Nat) (t : ByteArray) (w : World) (h : Lie a w) (hn : At w nb [.int .i64 (x : Int)]) (hp : At w pb [.int .i64 ((tM 4).1 : Int), .int .i64 ((tM 4).2.1 : Int), .bool (tM 4).2.2]) (hx : x ≤ 9999) : Calls Tryz.prog 27 #[.agg #[.slice (some ⟨nb, 0, none⟩) 1 c, .string t], .pointer (some ⟨pb, 0, none⟩)] w fun e w' => DoneB e (ansB 3 x y z t) ∧ Below w.heap.size w w' := by
  have HL : Hid (Lie a w) := h
  obtain ⟨T4, h4⟩ : ∃ T, tM 4 = T := ⟨_, rfl⟩
  obtain ⟨A, hA⟩ : ∃ A, digB (gM (4 * x)) = A := ⟨_, rfl⟩
  have HO : Hid (∀ w, Lie a w → Calls Tryz.prog 28 #[.agg #[.int .i64 ((T4).1 : Int), .int .i64 ((T4).2.1 : Int), .bool (T4).2.2], .int .i64 (x : Int)] w fun e w' => e = .returned (.tuple #[.string A, .nilIface]) ∧ Below w.heap.size w w') := fun w h => by
    have := otold a x w h hx
    rwa [h4, hA] at this
  have HX : Hid (DoneB (.returned (.tuple #[.string A, .nilIface])) (ansB 3 x y z t)) := Or.inl (by rw [← hA]; rfl)
  rw [h4] at hp
  clear h h4 hA
  go_enter Tryz.func27, Tryz.ntmps27
  go_upto_region 1 with fail
  refine wp_gen (fun V => At V (nb) [.int .i64 (x : Int)] ∧ At V (pb) [.int .i64 ((T4).1 : Int), .int .i64 ((T4).2.1 : Int), .bool (T4).2.2] ∧ At V (w.heap.size) [.slice (some ⟨nb, 0, none⟩) 1 c, .string t] ∧ Below w.heap.size w V) ⟨at_red, at_red, at_red, below_by⟩ ?_
  rintro V ⟨knV, kpV, kaV, hqV⟩
  have hzV := hqV.size
  obtain ⟨znV, cn0V, fn0V⟩ := knV.one
  obtain ⟨zpV, cp0V, cp1V, cp2V, fp0V, fp1V, fp2V⟩ := kpV.three
  obtain ⟨zaV, ca0V, ca1V, fa0V, fa1V⟩ := kaV.two
  have HLV : Hid (Lie a V) := HL.out.below hqV
  refine wp_region_quiet_below (by kernel_rfl) (by kernel_rfl) ?_
  repeat (go_big_quiet_step (first | (go_at_call 28; with_reducible exact Calls.regrown_of (HO.out _ (HLV.out.below (below_regrown _ _ _))))))
  refine wpQuiet_nil ?_
  intro U hw1
  have hrU := regrown_below hw1
  clear hw1
  have knU := knV.below hrU
  have kpU := kpV.below hrU
  have kaU := kaV.below hrU
  have hqU := bl_call hqV hrU (by omega)
  have hzU := hqU.size
  clear hrU knV cn0V fn0V kpV cp0V fp0V cp1V fp1V cp2V fp2V kaV ca0V fa0V ca1V fa1V hqV
  obtain ⟨znU, cn0U, fn0U⟩ := knU.one
  obtain ⟨zpU, cp0U, cp1U, cp2U, fp0U, fp1U, fp2U⟩ := kpU.three
  obtain ⟨zaU, ca0U, ca1U, fa0U, fa1U⟩ := kaU.two
  go_wp2_with fail
  exact bodyPost_ret (v := .tuple #[.string (A), .nilIface]) (by simp [results, Tryz.results27, go_sem, *]) rfl ⟨HX.out, below_by⟩
set_option maxRecDepth 100000 in
set_option maxHeartbeats 4000000 in
theorem do_pair (a : Addr) (nb c pb x y z : Nat) (t : ByteArray) (w : World) (h : Lie a w) (hn : At w nb [.int .i64 (x : Int), .int .i64 (y : Int)]) (hp : At w pb [.int .i64 ((tM 4).1 : Int), .int .i64 ((tM 4).2.1 : Int), .bool (tM 4).2.2]) (hx : x ≤ 9999) (hy : y ≤ 9999) : Calls Tryz.prog 32 #[.agg #[.slice (some ⟨nb, 0, none⟩) 2 c, .string t], .pointer (some ⟨pb, 0, none⟩)] w fun e w' => DoneB e (ansB 4 x y z t) ∧ Below w.heap.size w w' := by
  have HL : Hid (Lie a w) := h
  obtain ⟨T4, h4⟩ : ∃ T, tM 4 = T := ⟨_, rfl⟩
  obtain ⟨A, hA⟩ : ∃ A, pairB (digB (tp gI (x * y)).1.toNat) (digB (tp gI (x * y)).2.toNat) = A := ⟨_, rfl⟩
  have HO : Hid (∀ w, Lie a w → Calls Tryz.prog 33 #[.agg #[.int .i64 ((T4).1 : Int), .int .i64 ((T4).2.1 : Int), .bool (T4).2.2], .int .i64 (x : Int), .int .i64 (y : Int)] w fun e w' => e = .returned (.tuple #[.string A, .nilIface]) ∧ Below w.heap.size w w') := fun w h => by
    have := ptold a x y w h hx hy
    rwa [h4, hA] at this
  have HX : Hid (DoneB (.returned (.tuple #[.string A, .nilIface])) (ansB 4 x y z t)) := Or.inl (by rw [← hA]; rfl)
  rw [h4] at hp
  clear h h4 hA
  go_enter Tryz.func32, Tryz.ntmps32
  go_upto_region 1 with fail
  refine wp_gen (fun V => At V (nb) [.int .i64 (x : Int), .int .i64 (y : Int)] ∧ At V (pb) [.int .i64 ((T4).1 : Int), .int .i64 ((T4).2.1 : Int), .bool (T4).2.2] ∧ At V (w.heap.size) [.slice (some ⟨nb, 0, none⟩) 2 c, .string t] ∧ Below w.heap.size w V) ⟨at_red, at_red, at_red, below_by⟩ ?_
  rintro V ⟨knV, kpV, kaV, hqV⟩
  have hzV := hqV.size
  obtain ⟨znV, cn0V, cn1V, fn0V, fn1V⟩ := knV.two
  obtain ⟨zpV, cp0V, cp1V, cp2V, fp0V, fp1V, fp2V⟩ := kpV.three
  obtain ⟨zaV, ca0V, ca1V, fa0V, fa1V⟩ := kaV.two
  have HLV : Hid (Lie a V) := HL.out.below hqV
  refine wp_region_quiet_below (by kernel_rfl) (by kernel_rfl) ?_
  repeat (go_big_quiet_step (first | (go_at_call 33; with_reducible exact Calls.regrown_of (HO.out _ (HLV.out.below (below_regrown _ _ _))))))
  refine wpQuiet_nil ?_
  intro U hw1
  have hrU := regrown_below hw1
  clear hw1
  have knU := knV.below hrU
  have kpU := kpV.below hrU
  have kaU := kaV.below hrU
  have hqU := bl_call hqV hrU (by omega)
  have hzU := hqU.size
  clear hrU knV cn0V fn0V cn1V fn1V kpV cp0V fp0V cp1V fp1V cp2V fp2V kaV ca0V fa0V ca1V fa1V hqV
  obtain ⟨znU, cn0U, cn1U, fn0U, fn1U⟩ := knU.two
  obtain ⟨zpU, cp0U, cp1U, cp2U, fp0U, fp1U, fp2U⟩ := kpU.three
  obtain ⟨zaU, ca0U, ca1U, fa0U, fa1U⟩ := kaU.two
  go_wp2_with fail
  exact bodyPost_ret (v := .tuple #[.string (A), .nilIface]) (by simp [results, Tryz.results32, go_sem, *]) rfl ⟨HX.out, below_by⟩
set_option maxRecDepth 100000 in
set_option maxHeartbeats 4000000 in
theorem do_hash (a : Addr) (x y z : Nat) (t : ByteArray) (w : World) (h : Lie a w) (ht : t.size ≤ 3000) : Calls Tryz.prog 29 #[.agg #[.slice none 0 0, .string t]] w fun e w' => DoneB e (ansB 7 x y z t) ∧ Below w.heap.size w w' := by
  have HL : Hid (Lie a w) := h
  obtain ⟨q, hq⟩ : ∃ q, longN t % 1013 = q := ⟨_, rfl⟩
  have HN : Hid (∀ w, Calls Tryz.prog 31 #[.string t] w fun e w' => e = .returned (.int .i64 (q : Int)) ∧ w' = w) := fun w => by
    have := number_any t w (by omega)
    rwa [show (longN t : Int) % 1013 = (q : Int) by omega] at this
  have hl : q < 1013 := by rw [← hq]; exact Nat.mod_lt _ (by omega)
  have HX : Hid (DoneB (.returned (.tuple #[.string (digB q), .nilIface])) (ansB 7 x y z t)) := Or.inl (by rw [← hq]; rfl)
  clear h hq
  go_enter Tryz.func29, Tryz.ntmps29
  go_wp2_with (first | (go_at_call 31; refine (HN.out _).mono ?_; rintro e w1 ⟨rfl, rfl⟩) | (go_at_call 30; refine (row_one a _ _ q _ (HL.out.below (show Below w.heap.size w _ from below_by)) (at_red) (by omega)).mono ?_; rintro e w3 ⟨rfl, hb3⟩))
  exact bodyPost_ret (v := .tuple #[.string (digB q), .nilIface]) (by simp [results, Tryz.results29, go_sem, *]) rfl ⟨HX.out, below_by⟩
end Go.Proofs.YtgngdabfmbipaakGreatDoor
