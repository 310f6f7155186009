/- What the landed log answers: Crash, New. -/
import Derived.Test.YtpkkclcjiobgoajGreatDoorKM
import Derived.Lib.SliceRun
namespace Go.Proofs.YtpkkclcjiobgoajGreatDoor
open Go.RowKit Go.Sort
set_option linter.unusedVariables false
set_option linter.unusedSimpArgs false
set_option maxRecDepth 100000 in
set_option maxHeartbeats 4000000 in
theorem lcrash_at (p cc pb nb cap sf : Nat) (sc sa : Option Addr) (Kb : Nat → Nat) (Gb : Nat → Bool) (Qb : Nat → Prop) (L : List Nat) (fl : Int) (st : Bool) (r : Nat) (n : Nat → Nat) (K : Nat → Nat → Nat) (G : Nat → Nat → Bool) (dd : Nat → Rec) (k : Int) (hh r' : Nat) (w : World) (Q : Nat → Prop) (hk : -9223372036854775808 ≤ k ∧ k < 9223372036854775808) (hsf : sf ≤ L.length) (hLb : L.length ≤ 100000000) (he : hh = sf + min k.toNat (L.length - sf)) (hn0 : n 0 ≤ 12) (hG0 : G 0 = fun _ => false) (hWh : Whole dd r' (L.take hh)) (hch : ∀ i, i < r' → RecOk (n i) (K i) (G i) (dd i) (n (i + 1)) (K (i + 1)) (G (i + 1))) (h : LW w Q w p sc cc (n 0) (K 0) pb Qb nb Kb Gb sa cap L sf fl st) : Calls Tryz.prog 33 #[.pointer (some ⟨p, 0, none⟩), .int .i64 k] w fun e W' => e = .returned (.tuple #[]) ∧ ∃ pv Qv, LW w Q W' p sc cc (n 0) (K 0) pv Qv (n r') (K r') (G r') sa cap ((L.take hh).take (catN dd r')) (catN dd r') (-1) false := by
  have H : Hid (LW w Q w p sc cc (n 0) (K 0) pb Qb nb Kb Gb sa cap L sf fl st) := h
  obtain ⟨zw, c0w, c1w, c2w, c3w, c4w, c5w, f0w, f1w, f2w, f3w, f4w, f5w⟩ := h.mem.cells.six
  clear h
  go_enter Tryz.func33, Tryz.ntmps33
  go_upto_region 0 with fail
  go_region
  obtain ⟨kk, hkk⟩ : ∃ kk, min k.toNat (L.length - sf) = kk := ⟨_, rfl⟩
  have hkl : sf + kk ≤ L.length := by omega
  have hmm : min (max k 0) ((L.length : Int) - (sf : Int)) = (kk : Int) := by omega
  have hcap : L.length ≤ cap := own_room H.out.mem.laid
  have hsum : (sf : Int) + (kk : Int) ≤ (cap : Int) := by omega
  have hsm2 : 0 ≤ (sf : Int) + (kk : Int) := by omega
  rw [hmm]
  clear c0w c1w c2w c3w c4w c5w f0w f1w f2w f3w f4w f5w
  refine ethen_gen3 (fun V => LW w Q V p sc cc (n 0) (K 0) pb Qb nb Kb Gb sa cap L sf fl st) H.out.drew ?_
  intro V hV
  have HV : Hid (LW w Q V p sc cc (n 0) (K 0) pb Qb nb Kb Gb sa cap L sf fl st) := hV
  obtain ⟨zV, c0V, c1V, c2V, c3V, c4V, c5V, f0V, f1V, f2V, f3V, f4V, f5V⟩ := hV.mem.cells.six
  clear hV
  go_upto_region 1 with fail
  go_region
  have hc := HV.out.cut (k := hh) (by omega)
  have hl1 : (L.take hh).length = sf + kk := by rw [List.length_take]; omega
  obtain ⟨L1, hL1⟩ : ∃ L1, L.take hh = L1 := ⟨_, rfl⟩
  rw [hL1] at hc hl1 hWh
  rw [← hl1]
  clear c0V c1V c2V c3V c4V c5V f0V f1V f2V f3V f4V f5V
  refine ethen_gen3 (fun V => LW w Q V p sc cc (n 0) (K 0) pb Qb nb Kb Gb sa cap L1 sf fl st) hc.drew ?_
  clear hc
  intro U hU
  obtain ⟨t, ht⟩ : ∃ t, catN dd r' = t := ⟨_, rfl⟩
  have htl : t ≤ L1.length := by rw [← ht]; exact (whole_len hWh).1
  have HRP : Hid (Calls Tryz.prog 64 #[.pointer (some ⟨p, 0, none⟩)] U fun e w' => ∃ pv Q', e = .returned (.tuple #[.pointer (some ⟨pv, 0, none⟩), .int .i64 ((t : Nat) : Int)]) ∧ bookP w' (.pointer (some ⟨pv, 0, none⟩)) Q' (n r') (K r') (G r') ∧ (∀ i, Q' i → U.heap.size ≤ i) ∧ Below U.heap.size U w') := by
    refine (lreplay p r' cap cc n K G dd L1 sc sa _ _ _ _ U hU.mem.cells hn0 hG0 hU.mem.coins hU.mem.laid (by omega) hWh hch).mono ?_
    rintro e w' ⟨v, Q', rfl, h1, h2, h3⟩
    have h1' := h1
    obtain ⟨pv, u, rfl, _, _⟩ := h1'
    exact ⟨pv, Q', by rw [ht], h1, h2, h3⟩
  have HU : Hid (LW w Q U p sc cc (n 0) (K 0) pb Qb nb Kb Gb sa cap L1 sf fl st) := hU
  obtain ⟨zU, c0U, c1U, c2U, c3U, c4U, c5U, f0U, f1U, f2U, f3U, f4U, f5U⟩ := hU.mem.cells.six
  have hcap1 : (t : Int) ≤ (cap : Int) := by have := own_room hU.mem.laid; omega
  clear hU hWh hch hn0 hG0
  go_upto_region 3 with (go_at_call 64; refine HRP.out.mono ?_; rintro e E ⟨pv, Q9, rfl, hk9, hq9, hb9⟩; have kpE := HU.out.mem.cells.below hb9; have hF := (HU.out.rebook hb9 hk9 hq9).safe t; clear c0U c1U c2U c3U c4U c5U f0U f1U f2U f3U f4U f5U; obtain ⟨zE, c0E, c1E, c2E, c3E, c4E, c5E, f0E, f1E, f2E, f3E, f4E, f5E⟩ := kpE.six)
  
  refine wp_gen (fun V => LW w Q V p sc cc (n 0) (K 0) pv Q9 (n r') (K r') (G r') sa cap L1 t fl st) hF ?_
  clear c0E c1E c2E c3E c4E c5E f0E f1E f2E f3E f4E f5E
  clear hF kpE hk9 hq9 hb9
  intro X hX
  have HX : Hid (LW w Q X p sc cc (n 0) (K 0) pv Q9 (n r') (K r') (G r') sa cap L1 t fl st) := hX
  obtain ⟨zX, c0X, c1X, c2X, c3X, c4X, c5X, f0X, f1X, f2X, f3X, f4X, f5X⟩ := hX.mem.cells.six
  clear hX
  go_region
  have hc := HX.out.cut (k := t) htl
  have hl2 : (L1.take t).length = t := by rw [List.length_take]; omega
  rw [hl2] at hc
  
  clear c0X c1X c2X c3X c4X c5X f0X f1X f2X f3X f4X f5X
  refine ethen_gen3 (fun V => LW w Q V p sc cc (n 0) (K 0) pv Q9 (n r') (K r') (G r') sa cap (L1.take t) t fl st) hc.drew ?_
  intro Y hY
  have HY : Hid (LW w Q Y p sc cc (n 0) (K 0) pv Q9 (n r') (K r') (G r') sa cap (L1.take t) t fl st) := hY
  obtain ⟨zY, c0Y, c1Y, c2Y, c3Y, c4Y, c5Y, f0Y, f1Y, f2Y, f3Y, f4Y, f5Y⟩ := hY.mem.cells.six
  clear hY hc
  go_wp2_with fail
  
  have hZ := (HY.out.fail (-1)).stop false
  go_end0
  subst hL1 ht
  exact ⟨rfl, _, _, hZ⟩
theorem lninfo : (Tryz.prog.info? 25).map (fun i => (i.zero, i.size, i.bytes)) = some (some (.agg #[.int .i64 0, .int .i64 0, .bool false]), 3, 24) := by kernel_rfl
theorem cellsT_of {w W : World} {b o n : Nat} {X Y : Nat → Int} {F : Nat → Bool} (h : RowO w b o n X Y F) (hW : Below w.heap.size w W) : ∀ j u, (cellsT X Y F n)[j]? = some u → W.cell? ((⟨b, o, none⟩ : Addr).add j) = some u := by
  intro j u hj
  have hl : (cellsT X Y F n).length = n * 3 := by
    clear h hj
    induction n with
    | zero => rfl
    | succ n ih => rw [cellsT_succ, List.length_append, ih]; simp; omega
  have hjl : j < n * 3 := by have := (List.getElem?_eq_some_iff.1 hj).1; omega
  have hi : j / 3 < n := by omega
  obtain ⟨h1, h2, h3⟩ := (h.below h.1 hW).2 (j / 3) hi
  have f := fun k hk => flat_at 3 (fun i => [Value.int .i64 (X i), .int .i64 (Y i), .bool (F i)]) (fun _ => rfl) n (j / 3) k hi hk
  rw [Addr.add_lit]
  have hc : j % 3 = 0 ∨ j % 3 = 1 ∨ j % 3 = 2 := by omega
  unfold cellsT at hj
  rcases hc with hc | hc | hc
  · rw [show j = j / 3 * 3 + 0 by omega, f 0 (by omega)] at hj
    rw [show o + j = o + j / 3 * 3 by omega, h1]; exact hj
  · rw [show j = j / 3 * 3 + 1 by omega, f 1 (by omega)] at hj
    rw [show o + j = o + j / 3 * 3 + 1 by omega, h2]; exact hj
  · rw [show j = j / 3 * 3 + 2 by omega, f 2 (by omega)] at hj
    rw [show o + j = o + j / 3 * 3 + 2 by omega, h3]; exact hj
theorem cellsT_one (X Y : Nat → Int) (F : Nat → Bool) : ∀ n, ∀ u ∈ cellsT X Y F n, u.oneCell' = true
  | 0, u, h => by cases h
  | n + 1, u, h => by
    rw [cellsT_succ] at h
    rcases List.mem_append.1 h with h | h
    · exact cellsT_one X Y F n u h
    · simp at h
      rcases h with rfl | rfl | rfl <;> rfl
theorem cellsT_num (X Y : Nat → Int) (F : Nat → Bool) : ∀ n, (cellsT X Y F n).length = n * 3
  | 0 => rfl
  | n + 1 => by rw [cellsT_succ, List.length_append, cellsT_num X Y F n]; show n * 3 + 3 = _; omega
theorem cellsT_isC {X Y : Nat → Int} {F : Nat → Bool} {K : Nat → Nat} {n : Nat} (h : isC X Y F K n) : cellsT X Y F n = cellsK K n := by
  induction n with
  | zero => rfl
  | succ n ih =>
    obtain ⟨e1, e2, e3⟩ := h n (by omega)
    rw [cellsT_succ, cellsK_succ, ih fun i hi => h i (by omega), e1, e2, e3]
set_option maxRecDepth 100000 in
set_option maxHeartbeats 4000000 in
theorem lclone_some (a : Addr) (n d : Nat) (l : List Value) (w : World) (hn : n ≤ 12) (hl : l.length = n * 3) (h1 : ∀ u ∈ l, u.oneCell' = true) (hc : ∀ W, Below w.heap.size w W → ∀ j u, l[j]? = some u → W.cell? (a.add j) = some u) : Calls Tryz.prog 61 #[.slice (some a) n d] w fun ex w' => ∃ q, ex = .returned q ∧ w'.ownsRow w.heap.size 25 3 q n l ∧ Below w.heap.size w w' := by
  have q22 : ∀ (w : World) (a : Option Addr) (n c n' c' : Nat), (binOp .eql 22 (.slice a n c) (.slice none n' c')).run Tryz.prog w = .ok (.bool a.isNone) w := fun w a n c n' c' => Lib.run_eql_slice_nil w _ _ a n c n' c' Tryz.underlying22
  obtain ⟨i0, hi, hv0, hv1, hv2⟩ := info_parts lninfo
  have HC : Hid (∀ W, Below w.heap.size w W → ∀ j u, l[j]? = some u → W.cell? (a.add j) = some u) := hc
  clear hc
  go_enter Tryz.func61, Tryz.ntmps61
  go_wp2_with (at_builtin; refine wpList_append_own _ rfl _ _ 22 rfl w.heap.size 25 i0 (.agg #[.int .i64 0, .int .i64 0, .bool false]) 3 24 Tryz.underlying22 hi hv0 hv1 hv2 rfl (by decide) _ _ _ rfl (World.ownsRow_made w #[] 0 (Nat.le_refl _) (Nat.zero_le _) rfl) a n d l rfl ?c0 ?c1 ?c2 ?c3 ?c4 ?c5 ?_)
  
  case c0 => exact hl
  case c1 => exact HC.out _ (by repeat (first | (with_reducible first | exact Below.refl _ _ | assumption | refine Below.setCell ?_ (by first | simp <;> omega | omega) _ | refine Below.alloc ?_ (by first | simp <;> omega | omega) _) | refine bl_call ?_ (by assumption) (by first | simp <;> omega | omega) | (with_reducible first | refine bl_drewN ?_ | refine Below.drew ?_ | refine bl_grow ?_ (by first | simp <;> omega | omega))))
  case c2 => exact h1
  case c3 => unfold maxLen; omega
  case c4 => omega
  case c5 => simp
  intro v' w1 hown hgrow hnil
  have hq : Below w.heap.size w w1 := ((Below.refl _ w).alloc (Nat.le_refl _) _).grown hgrow (by simp) (by intro k hk; simp [Value.ownBlock] at hk; omega)
  have hown' : w1.ownsRow w.heap.size 25 3 v' n l := by
    first | exact hown | (rw [Nat.zero_add] at hown; exact hown)
  clear hgrow hnil hown
  go_wp2_with fail
  go_ret
  exact ⟨_, rfl, hown', hq⟩
set_option maxRecDepth 100000 in
set_option maxHeartbeats 4000000 in
theorem lclone_none (w : World) : Calls Tryz.prog 61 #[.slice none 0 0] w fun ex w' => ex = .returned (.slice none 0 0) ∧ Below w.heap.size w w' := by
  have q22 : ∀ (w : World) (a : Option Addr) (n c n' c' : Nat), (binOp .eql 22 (.slice a n c) (.slice none n' c')).run Tryz.prog w = .ok (.bool a.isNone) w := fun w a n c n' c' => Lib.run_eql_slice_nil w _ _ a n c n' c' Tryz.underlying22
  go_enter Tryz.func61, Tryz.ntmps61
  go_wp2_with fail
  go_ret
  exact ⟨rfl, by repeat (first | (with_reducible first | exact Below.refl _ _ | assumption | refine Below.setCell ?_ (by first | simp <;> omega | omega) _ | refine Below.alloc ?_ (by first | simp <;> omega | omega) _) | refine bl_call ?_ (by assumption) (by first | simp <;> omega | omega) | (with_reducible first | refine bl_drewN ?_ | refine Below.drew ?_ | refine bl_grow ?_ (by first | simp <;> omega | omega)))⟩
theorem lclone (sl : Option Addr) (n d : Nat) (X Y : Nat → Int) (F : Nat → Bool) (K : Nat → Nat) (w : World) (hn : n ≤ 12) (hd : n ≤ d) (h0 : sl = none → d = 0) (hr : n = 0 ∨ ∃ b o : Nat, sl = some ⟨b, o, none⟩ ∧ RowO w b o n X Y F) (hK : isC X Y F K n) : Calls Tryz.prog 61 #[.slice sl n d] w fun ex w' => ∃ q, ex = .returned q ∧ w'.ownsRow w.heap.size 25 3 q n (cellsK K n) ∧ Below w.heap.size w w' := by
  cases sl with
  | none =>
    obtain rfl : d = 0 := h0 rfl
    obtain rfl : n = 0 := by omega
    refine (lclone_none w).mono ?_
    rintro e w' ⟨rfl, h⟩
    exact ⟨_, rfl, World.ownsRow_nil _ _ _ _, h⟩
  | some a =>
    rw [← cellsT_isC hK]
    refine lclone_some a n d _ w hn (cellsT_num _ _ _ _) (cellsT_one _ _ _ _) fun W hW => ?_
    rcases hr with rfl | ⟨b, o, e, r⟩
    · intro j u hj; cases hj
    · injection e with e
      subst e
      exact cellsT_of r hW
set_option maxRecDepth 100000 in
set_option maxHeartbeats 4000000 in
theorem lnew_no (sl : Option Addr) (n d : Nat) (q : Int) (w : World) (h : ∀ W, Below w.heap.size w W → Calls Tryz.prog 16 #[.slice sl n d] W fun ex w' => ex = .returned (.tuple #[.pointer none, errOf q]) ∧ Below W.heap.size W w') : Calls Tryz.prog 29 #[.slice sl n d] w fun ex w' => ex = .returned (.tuple #[.pointer none, errOf q]) ∧ Below w.heap.size w w' := by
  have HB : Hid (Calls Tryz.prog 16 #[.slice sl n d] w fun ex w' => ex = .returned (.tuple #[.pointer none, errOf q]) ∧ Below w.heap.size w w') := h w (Below.refl _ _)
  clear h
  go_enter Tryz.func29, Tryz.ntmps29
  go_wp2_with (go_at_call 16; refine HB.out.mono ?_; rintro e V ⟨rfl, hV⟩)
  
  exact bodyPost_ret (v := .tuple #[.pointer none, errOf q]) (by simp [results, Tryz.results29, go_sem, *]) rfl ⟨rfl, hV⟩
set_option maxRecDepth 100000 in
set_option maxHeartbeats 4000000 in
theorem lnew_ok (sl : Option Addr) (n d : Nat) (X Y : Nat → Int) (F : Nat → Bool) (K : Nat → Nat) (w : World) (hn : n ≤ 12) (hd : n ≤ d) (h0 : sl = none → d = 0) (hr : n = 0 ∨ ∃ b o : Nat, sl = some ⟨b, o, none⟩ ∧ RowO w b o n X Y F) (hK : isC X Y F K n) : Calls Tryz.prog 29 #[.slice sl n d] w fun ex w' => ∃ p sc cc pb Qb, ex = .returned (.tuple #[.pointer (some ⟨p, 0, none⟩), .nilIface]) ∧ LogMem w' p sc cc n K pb Qb n K (fun _ => false) none 0 [] 0 (-1) false ∧ (∀ i, lq p (.slice sc n cc) (.slice none 0 0) Qb i → w.heap.size ≤ i) ∧ Below w.heap.size w w' := by
  have HB : Hid (Calls Tryz.prog 16 #[.slice sl n d] w fun ex w' => ∃ (pb : Nat) (Q : Nat → Prop), ex = .returned (.tuple #[.pointer (some ⟨pb, 0, none⟩), .nilIface]) ∧ bookP w' (.pointer (some ⟨pb, 0, none⟩)) Q n K (fun _ => false) ∧ (∀ i, Q i → w.heap.size ≤ i) ∧ Below w.heap.size w w') := by
    refine (bnew_is.2 sl n d X Y F K w hn hd h0 hr hK).mono ?_
    rintro e w' ⟨v, Q, rfl, h1, h2, h3⟩
    have h1' := h1
    obtain ⟨pb, u, rfl, _, _⟩ := h1'
    exact ⟨pb, Q, rfl, h1, h2, h3⟩
  have HC : Hid (∀ W, Below w.heap.size w W → Calls Tryz.prog 61 #[.slice sl n d] W fun ex w' => ∃ q, ex = .returned q ∧ w'.ownsRow W.heap.size 25 3 q n (cellsK K n) ∧ Below W.heap.size W w') := fun W hW => lclone sl n d X Y F K W hn hd h0 (brow_up hr hW) hK
  clear hr hK h0
  go_enter Tryz.func29, Tryz.ntmps29
  go_wp2_with (first | (go_at_call 16; refine HB.out.mono ?_; rintro e V ⟨pb, Qb, rfl, hk, hq, hV⟩; have hzV := hV.size) | (go_at_call 61; refine (HC.out _ hV).mono ?_; rintro e U ⟨q, rfl, ho, hU⟩; have hzU := hU.size; obtain ⟨sc, cc, rfl, _⟩ := own_slice ho))
  
  have hal : Below U.heap.size U (U.alloc (.cells #[.slice sc n cc, .pointer (some ⟨pb, 0, none⟩), .slice none 0 0, .int .i64 0, .int .i64 (-1), .bool false] 102)) := (Below.refl _ _).alloc (Nat.le_refl _) _
  have hk2 := bookP_ok.stay hk (But.of_below (fun _ => False) (hU.trans (hal.mono hzU))) fun _ _ e => e
  have hlt := fun i hi => bookP_ok.lt hk i hi
  have hM : LogMem (U.alloc (.cells #[.slice sc n cc, .pointer (some ⟨pb, 0, none⟩), .slice none 0 0, .int .i64 0, .int .i64 (-1), .bool false] 102)) U.heap.size sc cc n K pb Qb n K (fun _ => false) none 0 [] 0 (-1) false := by
    refine ⟨at_new U [.slice sc n cc, .pointer (some ⟨pb, 0, none⟩), .slice none 0 0, .int .i64 0, .int .i64 (-1), .bool false] 102, own_base (own_stay ho hal) (Nat.zero_le _), World.ownsRow_nil _ _ _ _, hk2, fun e => ?_, (fun e => by cases e), (fun g hg e => by cases e), fun i hi => ⟨fun e => ?_, fun e => ?_, (fun e => by cases e)⟩⟩
    · have := (ho.lt _ e).2; omega
    · have := hlt i hi; omega
    · have := hlt i hi; have := (ho.lt _ e).1; omega
  have hQ : ∀ i, lq U.heap.size (.slice sc n cc) (.slice none 0 0) Qb i → w.heap.size ≤ i := by
    rintro i (e | e | e | e)
    · omega
    · have := (ho.lt _ e).1; omega
    · cases e
    · exact hq i e
  have hB := hV.trans ((hU.trans (hal.mono hzU)).mono hzV)
  exact bodyPost_ret (v := .tuple #[.pointer (some ⟨U.heap.size, 0, none⟩), .nilIface]) (by simp [results, Tryz.results29, go_sem]) rfl ⟨_, _, _, _, _, rfl, hM, hQ, hB⟩
end Go.Proofs.YtpkkclcjiobgoajGreatDoor
