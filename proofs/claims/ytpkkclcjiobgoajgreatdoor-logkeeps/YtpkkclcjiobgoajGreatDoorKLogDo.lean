/- What the landed log answers: Do. -/
import Derived.Test.YtpkkclcjiobgoajGreatDoorKM
namespace Go.Proofs.YtpkkclcjiobgoajGreatDoor
open Go.RowKit Go.Sort
set_option linter.unusedVariables false
set_option linter.unusedSimpArgs false
set_option maxRecDepth 100000 in
set_option maxHeartbeats 4000000 in
theorem ldo_stop (p cc n0 pb nb cap sf : Nat) (sc sa : Option Addr) (K0 Kb : Nat → Nat) (Gb : Nat → Bool) (Qb : Nat → Prop) (L : List Nat) (fl : Int) (st : Bool) (m c d dz : Nat) (sz sl : Option Addr) (rx ry S : Int) (rf : Bool) (w : World) (Q : Nat → Prop) (h : LW w Q w p sc cc n0 K0 pb Qb nb Kb Gb sa cap L sf fl true) : Calls Tryz.prog 31 #[.pointer (some ⟨p, 0, none⟩), .agg #[.slice sz m dz, .slice sl c d, .int .i64 rx, .int .i64 ry, .bool rf, .int .i64 S]] w fun e W' => e = .returned (errOf 6) ∧ LW w Q W' p sc cc n0 K0 pb Qb nb Kb Gb sa cap L sf fl true := by
  have H : Hid (LW w Q w p sc cc n0 K0 pb Qb nb Kb Gb sa cap L sf fl true) := h
  obtain ⟨zw, c0w, c1w, c2w, c3w, c4w, c5w, f0w, f1w, f2w, f3w, f4w, f5w⟩ := h.mem.cells.six
  clear h
  go_enter Tryz.func31, Tryz.ntmps31
  go_wp2_with fail
  go_ret
  exact ⟨rfl, H.out.up (by repeat (first | (with_reducible first | exact Below.refl _ _ | assumption | refine Below.setCell ?_ (by first | simp <;> omega | omega) _ | refine Below.alloc ?_ (by first | simp <;> omega | omega) _) | refine bl_call ?_ (by assumption) (by first | simp <;> omega | omega) | (with_reducible first | refine bl_drewN ?_ | refine Below.drew ?_ | refine bl_grow ?_ (by first | simp <;> omega | omega))))⟩
set_option maxRecDepth 100000 in
set_option maxHeartbeats 4000000 in
theorem ldo_refuse (p cc n0 pb nb cap sf : Nat) (sc sa : Option Addr) (K0 Kb : Nat → Nat) (Gb : Nat → Bool) (Qb : Nat → Prop) (L : List Nat) (fl : Int) (st : Bool) (m c d dz : Nat) (sz sl : Option Addr) (rx ry S q : Int) (rf : Bool) (w : World) (Q : Nat → Prop) (h : LW w Q w p sc cc n0 K0 pb Qb nb Kb Gb sa cap L sf fl false) (hd : ∀ W, Below w.heap.size w W → Calls Tryz.prog 21 #[.pointer (some ⟨pb, 0, none⟩), .agg #[.slice sz m dz, .slice sl c d, .int .i64 rx, .int .i64 ry, .bool rf, .int .i64 S]] W fun e w' => e = .returned (errOf q) ∧ Below W.heap.size W w') : Calls Tryz.prog 31 #[.pointer (some ⟨p, 0, none⟩), .agg #[.slice sz m dz, .slice sl c d, .int .i64 rx, .int .i64 ry, .bool rf, .int .i64 S]] w fun e W' => e = .returned (errOf q) ∧ LW w Q W' p sc cc n0 K0 pb Qb nb Kb Gb sa cap L sf fl false := by
  have H : Hid (LW w Q w p sc cc n0 K0 pb Qb nb Kb Gb sa cap L sf fl false) := h
  have HD : Hid (∀ W, Below w.heap.size w W → Calls Tryz.prog 21 #[.pointer (some ⟨pb, 0, none⟩), .agg #[.slice sz m dz, .slice sl c d, .int .i64 rx, .int .i64 ry, .bool rf, .int .i64 S]] W fun e w' => e = .returned (errOf q) ∧ Below W.heap.size W w') := hd
  obtain ⟨zw, c0w, c1w, c2w, c3w, c4w, c5w, f0w, f1w, f2w, f3w, f4w, f5w⟩ := h.mem.cells.six
  clear h hd
  go_enter Tryz.func31, Tryz.ntmps31
  go_upto_region 3 with fail
  go_region_law ((go_simp); (go_at_call 21; refine (HD.out _ (by repeat (first | (with_reducible first | exact Below.refl _ _ | assumption | refine Below.setCell ?_ (by first | simp <;> omega | omega) _ | refine Below.alloc ?_ (by first | simp <;> omega | omega) _) | refine bl_call ?_ (by assumption) (by first | simp <;> omega | omega) | (with_reducible first | refine bl_drewN ?_ | refine Below.drew ?_ | refine bl_grow ?_ (by first | simp <;> omega | omega))))).mono ?_; rintro e V ⟨rfl, hb⟩; have hqV : Below w.heap.size w V := (by repeat (first | (with_reducible first | exact Below.refl _ _ | assumption | refine Below.setCell ?_ (by first | simp <;> omega | omega) _ | refine Below.alloc ?_ (by first | simp <;> omega | omega) _) | refine bl_call ?_ (by assumption) (by first | simp <;> omega | omega) | (with_reducible first | refine bl_drewN ?_ | refine Below.drew ?_ | refine bl_grow ?_ (by first | simp <;> omega | omega)))); clear c0w c1w c2w c3w c4w c5w f0w f1w f2w f3w f4w f5w; clear hb); (go_wp2_with fail))
  
  all_goals (
  go_wp2_with fail
  go_ret
  exact ⟨rfl, H.out.up hqV⟩)
set_option maxRecDepth 100000 in
set_option maxHeartbeats 4000000 in
theorem ldo_done (p cc n0 pb nb cap sf : Nat) (sc sa : Option Addr) (K0 Kb : Nat → Nat) (Gb : Nat → Bool) (Qb : Nat → Prop) (L : List Nat) (fl : Int) (st : Bool) (m c a s d dz n' : Nat) (sz sl : Option Addr) (Z : Nat → Int) (J : Nat → Nat) (X Y : Nat → Int) (F : Nat → Bool) (K' : Nat → Nat) (G' : Nat → Bool) (w : World) (Q : Nat → Prop) (hI : RecIn ⟨m, Z, c, J, a, s⟩) (hLb : L.length ≤ 100000000) (hz : m = 0 ∨ ∃ b o : Nat, sz = some ⟨b, o, none⟩ ∧ ¬ Q b ∧ RowI w b o m Z) (hr : c = 0 ∨ ∃ b o : Nat, sl = some ⟨b, o, none⟩ ∧ ¬ Q b ∧ RowO w b o c X Y F) (hK : isC X Y F J c) (hd : ∀ W, Below w.heap.size w W → Calls Tryz.prog 21 #[.pointer (some ⟨pb, 0, none⟩), .agg #[.slice sz m dz, .slice sl c d, .int .i64 ((tM a).1 : Int), .int .i64 ((tM a).2.1 : Int), .bool (tM a).2.2, .int .i64 (s : Int)]] W fun e w' => e = .returned .nilIface ∧ PBdone bookP W w' (.pointer (some ⟨pb, 0, none⟩)) Qb n' K' G') (hf : (fl == 0) = false) (hw : -9223372036854775808 ≤ fl ∧ fl < 9223372036854775808) (h : LW w Q w p sc cc n0 K0 pb Qb nb Kb Gb sa cap L sf fl false) : Calls Tryz.prog 31 #[.pointer (some ⟨p, 0, none⟩), .agg #[.slice sz m dz, .slice sl c d, .int .i64 ((tM a).1 : Int), .int .i64 ((tM a).2.1 : Int), .bool (tM a).2.2, .int .i64 (s : Int)]] w fun e W' => e = .returned .nilIface ∧ ∃ Qv sa' cap', LW w Q W' p sc cc n0 K0 pb Qv n' K' G' sa' cap' (L ++ (recL ⟨m, Z, c, J, a, s⟩)) sf (bif decide (fl > 0) then fl - 1 else fl) false := by
  obtain ⟨i0, hi, hv0, hv1, hv2⟩ := info_parts luinfo
  have HS : Hid (∀ W Qv, LW w Q W p sc cc n0 K0 pb Qv n' K' G' sa cap L sf fl false → Calls Tryz.prog 63 #[.pointer (some ⟨p, 0, none⟩)] W fun e W' => e = .returned .nilIface ∧ LW w Q W' p sc cc n0 K0 pb Qv n' K' G' sa cap L sf (bif decide (fl > 0) then fl - 1 else fl) false ∧ But (fun i => i = p) W W') := fun W Qv h => lstep_yes p cc n0 pb n' cap sf sc sa K0 K' G' Qv L fl false w W Q hf hw h
  clear hf hw
  have H : Hid (LW w Q w p sc cc n0 K0 pb Qb nb Kb Gb sa cap L sf fl false) := h
  have HD : Hid (∀ W, Below w.heap.size w W → Calls Tryz.prog 21 #[.pointer (some ⟨pb, 0, none⟩), .agg #[.slice sz m dz, .slice sl c d, .int .i64 ((tM a).1 : Int), .int .i64 ((tM a).2.1 : Int), .bool (tM a).2.2, .int .i64 (s : Int)]] W fun e w' => e = .returned .nilIface ∧ PBdone bookP W w' (.pointer (some ⟨pb, 0, none⟩)) Qb n' K' G') := hd
  have HW : Hid (∀ W, But Q w W → Calls Tryz.prog 62 #[.agg #[.slice sz m dz, .slice sl c d, .int .i64 ((tM a).1 : Int), .int .i64 ((tM a).2.1 : Int), .bool (tM a).2.2, .int .i64 (s : Int)]] W fun ex w' => ∃ v, ex = .returned v ∧ w'.ownsRow W.heap.size 5 1 v (recL ⟨m, Z, c, J, a, s⟩).length (cellsU (recL ⟨m, Z, c, J, a, s⟩)) ∧ Below W.heap.size W w') := fun W hW => lwritten m c a s dz d sz sl Z J X Y F W hI.m hI.z hI.c hI.s (hz.imp_right fun ⟨b, o, e, hb, r⟩ => ⟨b, o, e, r.but hW hb⟩) (hr.imp_right fun ⟨b, o, e, hb, r⟩ => ⟨b, o, e, r.but hW hb⟩) hK
  have HRl : Hid ((recL ⟨m, Z, c, J, a, s⟩).length ≤ 2047) := by have := bodyL_le hI; unfold Hid; rw [recL_len]; omega
  have HRg : Hid (9 ≤ (recL ⟨m, Z, c, J, a, s⟩).length) := recL_ge _
  have HQ : Hid (¬ Qb w.heap.size) := fun e => by have := h.mem.lt (Or.inr (Or.inr (Or.inr e))); omega
  obtain ⟨zw, c0w, c1w, c2w, c3w, c4w, c5w, f0w, f1w, f2w, f3w, f4w, f5w⟩ := h.mem.cells.six
  clear hz hr hK hd h hI
  go_enter Tryz.func31, Tryz.ntmps31
  go_upto_region 3 with fail
  go_region_law ((go_simp); (go_at_call 21; refine (HD.out _ (by repeat (first | (with_reducible first | exact Below.refl _ _ | assumption | refine Below.setCell ?_ (by first | simp <;> omega | omega) _ | refine Below.alloc ?_ (by first | simp <;> omega | omega) _) | refine bl_call ?_ (by assumption) (by first | simp <;> omega | omega) | (with_reducible first | refine bl_drewN ?_ | refine Below.drew ?_ | refine bl_grow ?_ (by first | simp <;> omega | omega))))).mono ?_; rintro e V ⟨rfl, hD⟩; have kd0 : At V w.heap.size [.slice sz m dz, .slice sl c d, .int .i64 ((tM a).1 : Int), .int .i64 ((tM a).2.1 : Int), .bool (tM a).2.2, .int .i64 (s : Int)] := At.but (by repeat (first | (with_reducible first | assumption | (refine at_new' _ _ _ _ ?_; first | rfl | (simp; done)) | refine At.alloc ?_ _ | refine At.drew ?_ | refine At.drewN ?_ | refine At.set ?_ (by omega) | apply At.store4 | apply At.store3 | apply At.store2 | apply At.put43) | refine At.below ?_ (by with_reducible assumption))) hD.1 HQ.out; obtain ⟨Qv, hV⟩ := (H.out.up (by repeat (first | (with_reducible first | exact Below.refl _ _ | assumption | refine Below.setCell ?_ (by first | simp <;> omega | omega) _ | refine Below.alloc ?_ (by first | simp <;> omega | omega) _) | refine bl_call ?_ (by assumption) (by first | simp <;> omega | omega) | (with_reducible first | refine bl_drewN ?_ | refine Below.drew ?_ | refine bl_grow ?_ (by first | simp <;> omega | omega))))).deal hD; have HV : Hid (LW w Q V p sc cc n0 K0 pb Qv n' K' G' sa cap L sf fl false) := hV; clear c0w c1w c2w c3w c4w c5w f0w f1w f2w f3w f4w f5w; obtain ⟨zV, c0V, c1V, c2V, c3V, c4V, c5V, f0V, f1V, f2V, f3V, f4V, f5V⟩ := hV.mem.cells.six; obtain ⟨zdV, cd0V, cd1V, cd2V, cd3V, cd4V, cd5V, fd0V, fd1V, fd2V, fd3V, fd4V, fd5V⟩ := kd0.six; clear hD hV kd0); (go_wp2_with fail))
  
  all_goals (
  go_wp2_with (first | (go_at_call 62; go_loud (refine (HW.out _ HV.out.but).mono ?_; rintro e U ⟨vr, rfl, hoU, hbU⟩; have HU0 := HV.out.up hbU; have HU : Hid (But Q w U → True) := fun _ => trivial; obtain ⟨sr, cr, rfl, hrow⟩ := own_slice hoU; obtain ⟨g, rfl, hgo, hg1, hg2⟩ := hrow.resolve_left (by have := HRg.out; omega); have HO : Hid (U.ownsRow V.heap.size 5 1 (.slice (some ⟨g, 0, none⟩) (recL ⟨m, Z, c, J, a, s⟩).length cr) (recL ⟨m, Z, c, J, a, s⟩).length (cellsU (recL ⟨m, Z, c, J, a, s⟩))) := hoU; clear c0V c1V c2V c3V c4V c5V f0V f1V f2V f3V f4V f5V; clear cd0V cd1V cd2V cd3V cd4V cd5V fd0V fd1V fd2V fd3V fd4V fd5V; obtain ⟨zU, c0U, c1U, c2U, c3U, c4U, c5U, f0U, f1U, f2U, f3U, f4U, f5U⟩ := HU0.mem.cells.six; have hzU := hbU.size; have hpU := HV.out.mem.lt (i := p) (Or.inl rfl); clear hoU hrow hbU)) | (go_at_call 63; go_loud (refine (HS.out _ _ HU0).mono ?_; rintro e T ⟨rfl, hT, hbT⟩; have HT0 := hT; have HO2 : Hid (T.ownsRow V.heap.size 5 1 (.slice (some ⟨g, 0, none⟩) (recL ⟨m, Z, c, J, a, s⟩).length cr) (recL ⟨m, Z, c, J, a, s⟩).length (cellsU (recL ⟨m, Z, c, J, a, s⟩))) := own_but HO.out hbT (fun q hq => by have := (HO.out.lt q hq).1; show ¬ (_ = _); omega); clear c0U c1U c2U c3U c4U c5U f0U f1U f2U f3U f4U f5U; obtain ⟨zT, c0T, c1T, c2T, c3T, c4T, c5T, f0T, f1T, f2T, f3T, f4T, f5T⟩ := hT.mem.cells.six; have hlT := hT.mem.laid; clear hT hbT)) | (at_builtin; refine wpList_append_own_at _ rfl _ _ 100 rfl 0 5 i0 (.int .u8 0) 1 1 Tryz.underlying100 hi hv0 hv1 hv2 rfl (by decide) _ _ _ rfl hlT ⟨g, 0, none⟩ (recL ⟨m, Z, c, J, a, s⟩).length cr (cellsU (recL ⟨m, Z, c, J, a, s⟩)) rfl ?c0 ?c1 ?c2 ?c3 ?c4 ?c5 ?_))
  
  case c0 => rw [cellsU_len]; omega
  case c1 => exact HO2.out.cells rfl
  case c2 => exact cellsU_one _
  case c3 => have := HRl.out; unfold maxLen; omega
  case c4 => have := HRl.out; omega
  case c5 => omega
  intro v' w9 hown hgrow _ hat
  obtain ⟨L9, hL9⟩ : ∃ L9, L ++ (recL ⟨m, Z, c, J, a, s⟩) = L9 := ⟨_, rfl⟩
  rw [← cellsU_app, ← List.length_append, hL9] at hown
  obtain ⟨sa', cap', rfl, _⟩ := own_slice hown
  have kp9 := At.grown HT0.mem.cells hgrow HT0.mem.al
  clear c0T c1T c2T c3T c4T c5T f0T f1T f2T f3T f4T f5T
  obtain ⟨z9, c09, c19, c29, c39, c49, c59, f09, f19, f29, f39, f49, f59⟩ := kp9.six
  have hL := HT0.grow hgrow hown hat
  clear hown hgrow hat kp9 hlT
  go_wp2_with fail
  go_ret
  subst hL9
  exact ⟨rfl, _, _, _, hL⟩)
set_option maxRecDepth 100000 in
set_option maxHeartbeats 4000000 in
theorem ldo_halt (p cc pb nb cap sf : Nat) (sc sa : Option Addr) (Kb : Nat → Nat) (Gb : Nat → Bool) (Qb : Nat → Prop) (L : List Nat) (fl : Int) (st : Bool) (r : Nat) (n : Nat → Nat) (K : Nat → Nat → Nat) (G : Nat → Nat → Bool) (dd : Nat → Rec) (m c a s d dz n' : Nat) (sz sl : Option Addr) (Z : Nat → Int) (J : Nat → Nat) (X Y : Nat → Int) (F : Nat → Bool) (K' : Nat → Nat) (G' : Nat → Bool) (w : World) (Q : Nat → Prop) (hI : RecIn ⟨m, Z, c, J, a, s⟩) (hLb : L.length ≤ 100000000) (hz : m = 0 ∨ ∃ b o : Nat, sz = some ⟨b, o, none⟩ ∧ ¬ Q b ∧ RowI w b o m Z) (hr : c = 0 ∨ ∃ b o : Nat, sl = some ⟨b, o, none⟩ ∧ ¬ Q b ∧ RowO w b o c X Y F) (hK : isC X Y F J c) (hd : ∀ W, Below w.heap.size w W → Calls Tryz.prog 21 #[.pointer (some ⟨pb, 0, none⟩), .agg #[.slice sz m dz, .slice sl c d, .int .i64 ((tM a).1 : Int), .int .i64 ((tM a).2.1 : Int), .bool (tM a).2.2, .int .i64 (s : Int)]] W fun e w' => e = .returned .nilIface ∧ PBdone bookP W w' (.pointer (some ⟨pb, 0, none⟩)) Qb n' K' G') (hn0 : n 0 ≤ 12) (hG0 : G 0 = fun _ => false) (hWh : Whole dd r (L ++ ((recL ⟨m, Z, c, J, a, s⟩).take ((recL ⟨m, Z, c, J, a, s⟩).length / 2)))) (hch : ∀ i, i < r → RecOk (n i) (K i) (G i) (dd i) (n (i + 1)) (K (i + 1)) (G (i + 1))) (h : LW w Q w p sc cc (n 0) (K 0) pb Qb nb Kb Gb sa cap L sf 0 false) : Calls Tryz.prog 31 #[.pointer (some ⟨p, 0, none⟩), .agg #[.slice sz m dz, .slice sl c d, .int .i64 ((tM a).1 : Int), .int .i64 ((tM a).2.1 : Int), .bool (tM a).2.2, .int .i64 (s : Int)]] w fun e W' => e = .returned (errOf 6) ∧ ∃ pv Qv sa' cap', LW w Q W' p sc cc (n 0) (K 0) pv Qv (n r) (K r) (G r) sa' cap' (L ++ ((recL ⟨m, Z, c, J, a, s⟩).take ((recL ⟨m, Z, c, J, a, s⟩).length / 2))) sf 0 true := by
  obtain ⟨i0, hi, hv0, hv1, hv2⟩ := info_parts luinfo
  have HS : Hid (∀ W Qv, LW w Q W p sc cc (n 0) (K 0) pb Qv n' K' G' sa cap L sf 0 false → Calls Tryz.prog 63 #[.pointer (some ⟨p, 0, none⟩)] W fun e W' => e = .returned (errOf 6) ∧ LW w Q W' p sc cc (n 0) (K 0) pb Qv n' K' G' sa cap L sf 0 true ∧ But (fun i => i = p) W W') := fun W Qv h => lstep_no p cc (n 0) pb n' cap sf sc sa (K 0) K' G' Qv L 0 false w W Q h
  have HRP : Hid (∀ O sa' cap' Qv, LW w Q O p sc cc (n 0) (K 0) pb Qv n' K' G' sa' cap' (L ++ ((recL ⟨m, Z, c, J, a, s⟩).take ((recL ⟨m, Z, c, J, a, s⟩).length / 2))) sf 0 true → Calls Tryz.prog 64 #[.pointer (some ⟨p, 0, none⟩)] O fun e w' => ∃ pv Q', e = .returned (.tuple #[.pointer (some ⟨pv, 0, none⟩), .int .i64 ((catN dd r : Nat) : Int)]) ∧ bookP w' (.pointer (some ⟨pv, 0, none⟩)) Q' (n r) (K r) (G r) ∧ (∀ i, Q' i → O.heap.size ≤ i) ∧ Below O.heap.size O w') := fun O sa' cap' Qv hO => by
    refine (lreplay p r cap' cc n K G dd (L ++ ((recL ⟨m, Z, c, J, a, s⟩).take ((recL ⟨m, Z, c, J, a, s⟩).length / 2))) sc sa' _ _ _ _ O hO.mem.cells hn0 hG0 hO.mem.coins hO.mem.laid ?_ hWh hch).mono ?_
    · have := bodyL_le hI
      rw [List.length_append, List.length_take, recL_len]; omega
    · rintro e w' ⟨v, Q', rfl, h1, h2, h3⟩
      have h1' := h1
      obtain ⟨pv, u, rfl, _, _⟩ := h1'
      exact ⟨pv, Q', rfl, h1, h2, h3⟩
  clear hn0 hG0 hWh hch
  have H : Hid (LW w Q w p sc cc (n 0) (K 0) pb Qb nb Kb Gb sa cap L sf 0 false) := h
  have HD : Hid (∀ W, Below w.heap.size w W → Calls Tryz.prog 21 #[.pointer (some ⟨pb, 0, none⟩), .agg #[.slice sz m dz, .slice sl c d, .int .i64 ((tM a).1 : Int), .int .i64 ((tM a).2.1 : Int), .bool (tM a).2.2, .int .i64 (s : Int)]] W fun e w' => e = .returned .nilIface ∧ PBdone bookP W w' (.pointer (some ⟨pb, 0, none⟩)) Qb n' K' G') := hd
  have HW : Hid (∀ W, But Q w W → Calls Tryz.prog 62 #[.agg #[.slice sz m dz, .slice sl c d, .int .i64 ((tM a).1 : Int), .int .i64 ((tM a).2.1 : Int), .bool (tM a).2.2, .int .i64 (s : Int)]] W fun ex w' => ∃ v, ex = .returned v ∧ w'.ownsRow W.heap.size 5 1 v (recL ⟨m, Z, c, J, a, s⟩).length (cellsU (recL ⟨m, Z, c, J, a, s⟩)) ∧ Below W.heap.size W w') := fun W hW => lwritten m c a s dz d sz sl Z J X Y F W hI.m hI.z hI.c hI.s (hz.imp_right fun ⟨b, o, e, hb, r⟩ => ⟨b, o, e, r.but hW hb⟩) (hr.imp_right fun ⟨b, o, e, hb, r⟩ => ⟨b, o, e, r.but hW hb⟩) hK
  have HRl : Hid ((recL ⟨m, Z, c, J, a, s⟩).length ≤ 2047) := by have := bodyL_le hI; unfold Hid; rw [recL_len]; omega
  have HRg : Hid (9 ≤ (recL ⟨m, Z, c, J, a, s⟩).length) := recL_ge _
  have HQ : Hid (¬ Qb w.heap.size) := fun e => by have := h.mem.lt (Or.inr (Or.inr (Or.inr e))); omega
  obtain ⟨zw, c0w, c1w, c2w, c3w, c4w, c5w, f0w, f1w, f2w, f3w, f4w, f5w⟩ := h.mem.cells.six
  clear hz hr hK hd h hI
  go_enter Tryz.func31, Tryz.ntmps31
  go_upto_region 3 with fail
  go_region_law ((go_simp); (go_at_call 21; refine (HD.out _ (by repeat (first | (with_reducible first | exact Below.refl _ _ | assumption | refine Below.setCell ?_ (by first | simp <;> omega | omega) _ | refine Below.alloc ?_ (by first | simp <;> omega | omega) _) | refine bl_call ?_ (by assumption) (by first | simp <;> omega | omega) | (with_reducible first | refine bl_drewN ?_ | refine Below.drew ?_ | refine bl_grow ?_ (by first | simp <;> omega | omega))))).mono ?_; rintro e V ⟨rfl, hD⟩; have kd0 : At V w.heap.size [.slice sz m dz, .slice sl c d, .int .i64 ((tM a).1 : Int), .int .i64 ((tM a).2.1 : Int), .bool (tM a).2.2, .int .i64 (s : Int)] := At.but (by repeat (first | (with_reducible first | assumption | (refine at_new' _ _ _ _ ?_; first | rfl | (simp; done)) | refine At.alloc ?_ _ | refine At.drew ?_ | refine At.drewN ?_ | refine At.set ?_ (by omega) | apply At.store4 | apply At.store3 | apply At.store2 | apply At.put43) | refine At.below ?_ (by with_reducible assumption))) hD.1 HQ.out; obtain ⟨Qv, hV⟩ := (H.out.up (by repeat (first | (with_reducible first | exact Below.refl _ _ | assumption | refine Below.setCell ?_ (by first | simp <;> omega | omega) _ | refine Below.alloc ?_ (by first | simp <;> omega | omega) _) | refine bl_call ?_ (by assumption) (by first | simp <;> omega | omega) | (with_reducible first | refine bl_drewN ?_ | refine Below.drew ?_ | refine bl_grow ?_ (by first | simp <;> omega | omega))))).deal hD; have HV : Hid (LW w Q V p sc cc (n 0) (K 0) pb Qv n' K' G' sa cap L sf 0 false) := hV; clear c0w c1w c2w c3w c4w c5w f0w f1w f2w f3w f4w f5w; obtain ⟨zV, c0V, c1V, c2V, c3V, c4V, c5V, f0V, f1V, f2V, f3V, f4V, f5V⟩ := hV.mem.cells.six; obtain ⟨zdV, cd0V, cd1V, cd2V, cd3V, cd4V, cd5V, fd0V, fd1V, fd2V, fd3V, fd4V, fd5V⟩ := kd0.six; clear hD hV kd0); (go_wp2_with fail))
  
  all_goals (
  go_upto_region 9 with (first | (go_at_call 62; go_loud (refine (HW.out _ HV.out.but).mono ?_; rintro e U ⟨vr, rfl, hoU, hbU⟩; have HU0 := HV.out.up hbU; have HU : Hid (But Q w U → True) := fun _ => trivial; obtain ⟨sr, cr, rfl, hrow⟩ := own_slice hoU; obtain ⟨g, rfl, hgo, hg1, hg2⟩ := hrow.resolve_left (by have := HRg.out; omega); have HO : Hid (U.ownsRow V.heap.size 5 1 (.slice (some ⟨g, 0, none⟩) (recL ⟨m, Z, c, J, a, s⟩).length cr) (recL ⟨m, Z, c, J, a, s⟩).length (cellsU (recL ⟨m, Z, c, J, a, s⟩))) := hoU; clear c0V c1V c2V c3V c4V c5V f0V f1V f2V f3V f4V f5V; clear cd0V cd1V cd2V cd3V cd4V cd5V fd0V fd1V fd2V fd3V fd4V fd5V; obtain ⟨zU, c0U, c1U, c2U, c3U, c4U, c5U, f0U, f1U, f2U, f3U, f4U, f5U⟩ := HU0.mem.cells.six; have hzU := hbU.size; have hpU := HV.out.mem.lt (i := p) (Or.inl rfl); clear hoU hrow hbU)) | (go_at_call 63; go_loud (refine (HS.out _ _ HU0).mono ?_; rintro e T ⟨rfl, hT, hbT⟩; have HT0 := hT; have HO2 : Hid (T.ownsRow V.heap.size 5 1 (.slice (some ⟨g, 0, none⟩) (recL ⟨m, Z, c, J, a, s⟩).length cr) (recL ⟨m, Z, c, J, a, s⟩).length (cellsU (recL ⟨m, Z, c, J, a, s⟩))) := own_but HO.out hbT (fun q hq => by have := (HO.out.lt q hq).1; show ¬ (_ = _); omega); clear c0U c1U c2U c3U c4U c5U f0U f1U f2U f3U f4U f5U; obtain ⟨zT, c0T, c1T, c2T, c3T, c4T, c5T, f0T, f1T, f2T, f3T, f4T, f5T⟩ := hT.mem.cells.six; have hlT := hT.mem.laid; clear hT hbT)))
  obtain ⟨hf, hhf⟩ : ∃ hf, (recL ⟨m, Z, c, J, a, s⟩).length / 2 = hf := ⟨_, rfl⟩
  have hh1 : 1 ≤ hf := by have := HRg.out; omega
  have hh2 : hf ≤ 1024 := by have := HRl.out; omega
  have hh3 : hf ≤ (recL ⟨m, Z, c, J, a, s⟩).length := by omega
  have hh4 : (recL ⟨m, Z, c, J, a, s⟩).length ≤ cr := own_room HO2.out
  have htd : Int.tdiv ((recL ⟨m, Z, c, J, a, s⟩).length : Int) 2 = (hf : Int) := by rw [← hhf]; exact (Int.ofNat_tdiv _ _).symm
  have hwr : IntKind.i64.wrap (hf : Int) = (hf : Int) := by rw [IntKind.wrap_i64]; omega
  have hcr : (hf : Int) ≤ (cr : Int) := by omega
  have hge : 0 ≤ (hf : Int) := by omega
  have hOf := own_first HO2.out hh3
  have HOh : Hid (∀ j u, (cellsU ((recL ⟨m, Z, c, J, a, s⟩).take hf))[j]? = some u → T.drew.cell? ((⟨g, 0, none⟩ : Addr).add j) = some u) := (own_drew hOf).cells rfl
  clear hOf
  go_region_law (((refine step_append_lies _ (by rfl) _ _ 100 (by rfl) 0 5 i0 (.int .u8 0) 1 1 Tryz.underlying100 hi hv0 hv1 hv2 (by rfl) (by decide) _ L.length _ (by rfl) (own_drew hlT) ⟨g, 0, none⟩ hf cr (cellsU ((recL ⟨m, Z, c, J, a, s⟩).take hf)) (by rfl) (by rw [cellsU_len, List.length_take]; omega) (fun j u hj => HOh.out j u hj) (cellsU_one _) (by omega) (by unfold maxLen; omega) (by omega) (Nat.zero_le _) T.heap.size (by rfl) ?_); (intro g7 cap7 w7 hown7 hgrow7 hat7 hlt7); (have kp7 := At.grown (At.drew HT0.mem.cells) hgrow7 HT0.mem.al); (obtain ⟨z7, c07, c17, c27, c37, c47, c57, f07, f17, f27, f37, f47, f57⟩ := kp7.six)))
  
  all_goals (
  obtain ⟨L9, hL9⟩ : ∃ L9, L ++ (recL ⟨m, Z, c, J, a, s⟩).take hf = L9 := ⟨_, rfl⟩
  have hl9 : L.length + hf = L9.length := by rw [← hL9, List.length_append, List.length_take]; omega
  rw [← cellsU_app, hL9, hl9] at hown7
  have hat8 : (Value.slice (some ⟨g7, 0, none⟩) L9.length cap7).ownBlock = (Value.slice sa L.length cap).ownBlock ∨ (Value.slice (some ⟨g7, 0, none⟩) L9.length cap7).ownBlock = some T.drew.heap.size := by
    rcases hat7 with e | e
    · exact Or.inl e.symm
    · exact Or.inr (by rw [e]; rfl)
  have hD := HT0.drew.grow hgrow7 hown7 hat8
  rw [hl9]
  refine ethen_gen3 (fun O => LW w Q O p sc cc (n 0) (K 0) pb Qv n' K' G' (some ⟨g7, 0, none⟩) cap7 L9 sf 0 true) hD ?_
  intro O hO
  have HO9 := HRP.out O (some ⟨g7, 0, none⟩) cap7 Qv (by rw [hhf, hL9]; exact hO)
  clear c07 c17 c27 c37 c47 c57 f07 f17 f27 f37 f47 f57
  clear hat8 hD hown7 hgrow7 hat7 kp7 hlT HT0 HO2 HO
  obtain ⟨zO, c0O, c1O, c2O, c3O, c4O, c5O, f0O, f1O, f2O, f3O, f4O, f5O⟩ := hO.mem.cells.six
  go_wp2_with (go_at_call 64; refine HO9.mono ?_; rintro e E ⟨pv, Q9, rfl, hk9, hq9, hb9⟩; have kpE := hO.mem.cells.below hb9; clear c0O c1O c2O c3O c4O c5O f0O f1O f2O f3O f4O f5O; obtain ⟨zE, c0E, c1E, c2E, c3E, c4E, c5E, f0E, f1E, f2E, f3E, f4E, f5E⟩ := kpE.six; have hF := hO.rebook hb9 hk9 hq9; clear HO9)
  
  go_ret
  subst hhf hL9
  exact ⟨rfl, _, _, _, _, hF⟩))
end Go.Proofs.YtpkkclcjiobgoajGreatDoor
