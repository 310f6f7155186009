/- What the landed log is: its memory, and how each of its steps leaves it; what is told of it without a step: Fail, Live, Total, Bytes, Safe, step, Sync. -/
import Derived.Test.YtpkkclcjiobgoajGreatDoorKLogPlay
import Derived.Test.YtpkkclcjiobgoajGreatDoorKJ
import Derived.Test.YtpkkclcjiobgoajGreatDoorKE
namespace Go.Proofs.YtpkkclcjiobgoajGreatDoor
open Go.RowKit Go.Sort
set_option linter.unusedVariables false
set_option linter.unusedSimpArgs false
/-- In block p lies a log: its coins, its book, its bytes. -/
structure LogMem (W : World) (p : Nat) (sc : Option Addr) (cc n0 : Nat) (K0 : Nat → Nat) (pb : Nat) (Qb : Nat → Prop) (nb : Nat) (Kb : Nat → Nat) (Gb : Nat → Bool) (sa : Option Addr) (cap : Nat) (L : List Nat) (sf : Nat) (fl : Int) (st : Bool) : Prop where
  cells : At W p [.slice sc n0 cc, .pointer (some ⟨pb, 0, none⟩), .slice sa L.length cap, .int .i64 ((sf : Nat) : Int), .int .i64 fl, .bool st]
  coins : W.ownsRow 0 25 3 (.slice sc n0 cc) n0 (cellsK K0 n0)
  laid : W.ownsRow 0 5 1 (.slice sa L.length cap) L.length (cellsU L)
  book : bookP W (.pointer (some ⟨pb, 0, none⟩)) Qb nb Kb Gb
  ac : (Value.slice sc n0 cc).ownBlock ≠ some p
  al : (Value.slice sa L.length cap).ownBlock ≠ some p
  acl : ∀ g, (Value.slice sc n0 cc).ownBlock = some g → (Value.slice sa L.length cap).ownBlock ≠ some g
  ab : ∀ i, Qb i → i ≠ p ∧ (Value.slice sc n0 cc).ownBlock ≠ some i ∧ (Value.slice sa L.length cap).ownBlock ≠ some i
/-- Its blocks. -/
def lq (p : Nat) (cv lv : Value) (Qb : Nat → Prop) : Nat → Prop := fun i => i = p ∨ cv.ownBlock = some i ∨ lv.ownBlock = some i ∨ Qb i
/-- It, behind some steps of a method that began in w. -/
structure LW (w : World) (Q : Nat → Prop) (W : World) (p : Nat) (sc : Option Addr) (cc n0 : Nat) (K0 : Nat → Nat) (pb : Nat) (Qb : Nat → Prop) (nb : Nat) (Kb : Nat → Nat) (Gb : Nat → Bool) (sa : Option Addr) (cap : Nat) (L : List Nat) (sf : Nat) (fl : Int) (st : Bool) : Prop where
  but : But Q w W
  mem : LogMem W p sc cc n0 K0 pb Qb nb Kb Gb sa cap L sf fl st
  inq : ∀ i, lq p (.slice sc n0 cc) (.slice sa L.length cap) Qb i → Q i ∨ w.heap.size ≤ i
section
variable {w W W' W7 : World} {Q Qb' : Nat → Prop} {p cc n0 pb nb cap sf : Nat} {sc sa : Option Addr} {K0 Kb : Nat → Nat} {Gb : Nat → Bool} {Qb : Nat → Prop} {L : List Nat} {fl : Int} {st : Bool}
theorem LogMem.lt (h : LogMem W p sc cc n0 K0 pb Qb nb Kb Gb sa cap L sf fl st) {i : Nat} (hi : lq p (.slice sc n0 cc) (.slice sa L.length cap) Qb i) : i < W.heap.size := by
  rcases hi with rfl | hi | hi | hi
  · exact h.cells.1
  · exact (h.coins.lt i hi).2
  · exact (h.laid.lt i hi).2
  · exact bookP_ok.lt h.book i hi
theorem LogMem.but (h : LogMem W p sc cc n0 K0 pb Qb nb Kb Gb sa cap L sf fl st) {F : Nat → Prop} (hb : But F W W') (hF : ∀ i, lq p (.slice sc n0 cc) (.slice sa L.length cap) Qb i → ¬ F i) : LogMem W' p sc cc n0 K0 pb Qb nb Kb Gb sa cap L sf fl st :=
  ⟨h.cells.but hb (hF p (Or.inl rfl)), own_but h.coins hb (fun g hg => hF g (Or.inr (Or.inl hg))), own_but h.laid hb (fun g hg => hF g (Or.inr (Or.inr (Or.inl hg)))), bookP_ok.stay h.book hb (fun i hi => hF i (Or.inr (Or.inr (Or.inr hi)))), h.ac, h.al, h.acl, h.ab⟩
theorem LogMem.start (h : LogMem w p sc cc n0 K0 pb Qb nb Kb Gb sa cap L sf fl st) : LW w (lq p (.slice sc n0 cc) (.slice sa L.length cap) Qb) w p sc cc n0 K0 pb Qb nb Kb Gb sa cap L sf fl st := ⟨But.refl _ _, h, fun i hi => Or.inl hi⟩
theorem LW.up (h : LW w Q W p sc cc n0 K0 pb Qb nb Kb Gb sa cap L sf fl st) (hb : Below W.heap.size W W') : LW w Q W' p sc cc n0 K0 pb Qb nb Kb Gb sa cap L sf fl st :=
  ⟨h.but.call hb, h.mem.but (But.of_below (fun _ => False) hb) (fun _ _ e => e), h.inq⟩
theorem LW.drew (h : LW w Q W p sc cc n0 K0 pb Qb nb Kb Gb sa cap L sf fl st) : LW w Q W.drew p sc cc n0 K0 pb Qb nb Kb Gb sa cap L sf fl st := h.up (Below.drew (Below.refl _ _))
/-- A cell is stored, of a number or a flag. -/
theorem LW.cell (h : LW w Q W p sc cc n0 K0 pb Qb nb Kb Gb sa cap L sf fl st) {j sf' : Nat} {fl' : Int} {st' : Bool} {u : Value} (hc : At (W.setCell ⟨p, j, none⟩ u) p [.slice sc n0 cc, .pointer (some ⟨pb, 0, none⟩), .slice sa L.length cap, .int .i64 ((sf' : Nat) : Int), .int .i64 fl', .bool st']) : LW w Q (W.setCell ⟨p, j, none⟩ u) p sc cc n0 K0 pb Qb nb Kb Gb sa cap L sf' fl' st' := by
  have hb : But (fun i => i = p) W (W.setCell ⟨p, j, none⟩ u) := (But.refl (fun i => i = p) W).setCell (Or.inl rfl) u
  refine ⟨h.but.setCell (h.inq p (Or.inl rfl)) u, ⟨hc, own_but h.mem.coins hb (fun g hg e => h.mem.ac (e ▸ hg)), own_but h.mem.laid hb (fun g hg e => h.mem.al (e ▸ hg)), bookP_ok.stay h.mem.book hb (fun i hi => (h.mem.ab i hi).1), h.mem.ac, h.mem.al, h.mem.acl, h.mem.ab⟩, h.inq⟩
theorem LW.safe (h : LW w Q W p sc cc n0 K0 pb Qb nb Kb Gb sa cap L sf fl st) (sf' : Nat) : LW w Q (W.setCell ⟨p, 3, none⟩ (.int .i64 ((sf' : Nat) : Int))) p sc cc n0 K0 pb Qb nb Kb Gb sa cap L sf' fl st := h.cell (h.mem.cells.at (i := 3) (by simp))
theorem LW.fail (h : LW w Q W p sc cc n0 K0 pb Qb nb Kb Gb sa cap L sf fl st) (fl' : Int) : LW w Q (W.setCell ⟨p, 4, none⟩ (.int .i64 fl')) p sc cc n0 K0 pb Qb nb Kb Gb sa cap L sf fl' st := h.cell (h.mem.cells.at (i := 4) (by simp))
theorem LW.stop (h : LW w Q W p sc cc n0 K0 pb Qb nb Kb Gb sa cap L sf fl st) (st' : Bool) : LW w Q (W.setCell ⟨p, 5, none⟩ (.bool st')) p sc cc n0 K0 pb Qb nb Kb Gb sa cap L sf fl st' := h.cell (h.mem.cells.at (i := 5) (by simp))
/-- Its book does a deal. -/
theorem LW.deal (h : LW w Q W p sc cc n0 K0 pb Qb nb Kb Gb sa cap L sf fl st) {n' : Nat} {K' : Nat → Nat} {G' : Nat → Bool} (hd : PBdone bookP W W' (.pointer (some ⟨pb, 0, none⟩)) Qb n' K' G') : ∃ Qb', LW w Q W' p sc cc n0 K0 pb Qb' n' K' G' sa cap L sf fl st := by
  obtain ⟨hb, Qb', hk, hq⟩ := hd
  have hlt := fun i hi => h.mem.lt (i := i) hi
  have hz := h.but.size
  have ap : ∀ i, lq p (.slice sc n0 cc) (.slice sa L.length cap) (fun _ => False) i → ¬ Qb i := by
    rintro i (e | e | e | e) hi
    · exact (h.mem.ab i hi).1 e
    · exact (h.mem.ab i hi).2.1 e
    · exact (h.mem.ab i hi).2.2 e
    · exact e
  refine ⟨Qb', h.but.trans hb fun i hi e => ?_, ⟨h.mem.cells.but hb (ap p (Or.inl rfl)), own_but h.mem.coins hb (fun g hg => ap g (Or.inr (Or.inl hg))), own_but h.mem.laid hb (fun g hg => ap g (Or.inr (Or.inr (Or.inl hg)))), hk, h.mem.ac, h.mem.al, h.mem.acl, fun i hi => ?_⟩, fun i hi => ?_⟩
  · rcases h.inq i (Or.inr (Or.inr (Or.inr e))) with e2 | e2
    · exact e2
    · omega
  · rcases hq i hi with e | e
    · exact h.mem.ab i e
    · refine ⟨fun e2 => ?_, fun e2 => ?_, fun e2 => ?_⟩
      · have := hlt p (Or.inl rfl); omega
      · have := hlt i (Or.inr (Or.inl e2)); omega
      · have := hlt i (Or.inr (Or.inr (Or.inl e2))); omega
  · rcases hi with e | e | e | e
    · exact h.inq i (Or.inl e)
    · exact h.inq i (Or.inr (Or.inl e))
    · exact h.inq i (Or.inr (Or.inr (Or.inl e)))
    · rcases hq i e with e2 | e2
      · exact h.inq i (Or.inr (Or.inr (Or.inr e2)))
      · exact Or.inr (by omega)
/-- Its bytes grow, and are stored. -/
theorem LW.grow (h : LW w Q W p sc cc n0 K0 pb Qb nb Kb Gb sa cap L sf fl st) {sa' : Option Addr} {cap' : Nat} {L' : List Nat} (hg : W.grownBy W7 (Value.slice sa L.length cap).ownBlock) (ho : W7.ownsRow 0 5 1 (.slice sa' L'.length cap') L'.length (cellsU L')) (hat : (Value.slice sa' L'.length cap').ownBlock = (Value.slice sa L.length cap).ownBlock ∨ (Value.slice sa' L'.length cap').ownBlock = some W.heap.size) :
    LW w Q (W7.setCell ⟨p, 2, none⟩ (.slice sa' L'.length cap')) p sc cc n0 K0 pb Qb nb Kb Gb sa' cap' L' sf fl st := by
  have hb : But (fun i => (Value.slice sa L.length cap).ownBlock = some i) W W7 := (But.refl _ W).grown hg fun i hi => Or.inl hi
  have hs : But (fun i => i = p) W7 (W7.setCell ⟨p, 2, none⟩ (.slice sa' L'.length cap')) := (But.refl (fun i => i = p) W7).setCell (Or.inl rfl) _
  have hall : But (fun i => (Value.slice sa L.length cap).ownBlock = some i ∨ i = p) W (W7.setCell ⟨p, 2, none⟩ (.slice sa' L'.length cap')) := (hb.mono (F' := fun i => (Value.slice sa L.length cap).ownBlock = some i ∨ i = p) fun i _ e => Or.inl e).trans hs fun i _ e => Or.inr e
  have hlt := fun i hi => h.mem.lt (i := i) hi
  have hz := h.but.size
  have hnew : ∀ i, (Value.slice sa' L'.length cap').ownBlock = some i → (Value.slice sa L.length cap).ownBlock = some i ∨ W.heap.size ≤ i := fun i hi => by
    rcases hat with e | e
    · exact Or.inl (e ▸ hi)
    · rw [e] at hi; injection hi with hi; exact Or.inr (by omega)
  refine ⟨h.but.trans hall fun i hi e => ?_, ⟨(h.mem.cells.but hb h.mem.al).at (by simp), own_but h.mem.coins hall ?_, own_but ho hs ?_, bookP_ok.stay h.mem.book hall ?_, h.mem.ac, ?_, ?_, ?_⟩, ?_⟩
  · rcases e with e | e
    · rcases h.inq i (Or.inr (Or.inr (Or.inl e))) with e2 | e2
      · exact e2
      · omega
    · rcases h.inq i (Or.inl e) with e2 | e2
      · exact e2
      · omega
  · rintro g hg (e | e)
    · exact h.mem.acl g hg e
    · exact h.mem.ac (e ▸ hg)
  · rintro g hg rfl
    rcases hnew g hg with e | e
    · exact h.mem.al e
    · have := hlt g (Or.inl rfl); omega
  · rintro i hi (e | e)
    · exact (h.mem.ab i hi).2.2 e
    · exact (h.mem.ab i hi).1 e
  · intro e
    rcases hnew p e with e | e
    · exact h.mem.al e
    · have := hlt p (Or.inl rfl); omega
  · intro g hg e
    rcases hnew g e with e | e
    · exact h.mem.acl g hg e
    · have := hlt g (Or.inr (Or.inl hg)); omega
  · intro i hi
    refine ⟨(h.mem.ab i hi).1, (h.mem.ab i hi).2.1, fun e => ?_⟩
    rcases hnew i e with e | e
    · exact (h.mem.ab i hi).2.2 e
    · have := hlt i (Or.inr (Or.inr (Or.inr hi))); omega
  · rintro i (e | e | e | e)
    · exact h.inq i (Or.inl e)
    · exact h.inq i (Or.inr (Or.inl e))
    · rcases hnew i e with e | e
      · exact h.inq i (Or.inr (Or.inr (Or.inl e)))
      · exact Or.inr (by omega)
    · exact h.inq i (Or.inr (Or.inr (Or.inr e)))
/-- They are cut. -/
theorem LW.cut (h : LW w Q W p sc cc n0 K0 pb Qb nb Kb Gb sa cap L sf fl st) {k : Nat} (hk : k ≤ L.length) : LW w Q (W.setCell ⟨p, 2, none⟩ (.slice sa (L.take k).length cap)) p sc cc n0 K0 pb Qb nb Kb Gb sa cap (L.take k) sf fl st := by
  have hl : (L.take k).length = k := by rw [List.length_take]; omega
  have ho := own_first h.mem.laid hk
  rw [← hl] at ho
  have e2 : (L.take (L.take k).length) = L.take k := by rw [hl]
  rw [e2] at ho
  have hown : (Value.slice sa (L.take k).length cap).ownBlock = (Value.slice sa L.length cap).ownBlock := by cases sa <;> rfl
  exact h.grow (grown_same W _) ho (Or.inl hown)
/-- Its book comes anew. -/
theorem LW.rebook (h : LW w Q W p sc cc n0 K0 pb Qb nb Kb Gb sa cap L sf fl st) (hb : Below W.heap.size W W') {pb' n' : Nat} {K' : Nat → Nat} {G' : Nat → Bool} (hk : bookP W' (.pointer (some ⟨pb', 0, none⟩)) Qb' n' K' G') (hq : ∀ i, Qb' i → W.heap.size ≤ i) : LW w Q (W'.setCell ⟨p, 1, none⟩ (.pointer (some ⟨pb', 0, none⟩))) p sc cc n0 K0 pb' Qb' n' K' G' sa cap L sf fl st := by
  have h' := h.up hb
  have hs : But (fun i => i = p) W' (W'.setCell ⟨p, 1, none⟩ (.pointer (some ⟨pb', 0, none⟩))) := (But.refl (fun i => i = p) W').setCell (Or.inl rfl) _
  have hlt := fun i hi => h.mem.lt (i := i) hi
  have hz := h.but.size
  have hpl := hlt p (Or.inl rfl)
  refine ⟨h'.but.setCell (h.inq p (Or.inl rfl)) _, ⟨h'.mem.cells.at (i := 1) (by simp), own_but h'.mem.coins hs (fun g hg e => h.mem.ac (e ▸ hg)), own_but h'.mem.laid hs (fun g hg e => h.mem.al (e ▸ hg)), bookP_ok.stay hk hs (fun i hi e => by have := hq i hi; have : i = p := e; omega), h.mem.ac, h.mem.al, h.mem.acl, fun i hi => ⟨fun e => by have := hq i hi; omega, fun e => ?_, fun e => ?_⟩⟩, ?_⟩
  · have := hq i hi; have := hlt i (Or.inr (Or.inl e)); omega
  · have := hq i hi; have := hlt i (Or.inr (Or.inr (Or.inl e))); omega
  · rintro i (e | e | e | e)
    · exact h.inq i (Or.inl e)
    · exact h.inq i (Or.inr (Or.inl e))
    · exact h.inq i (Or.inr (Or.inr (Or.inl e)))
    · have := hq i e; exact Or.inr (by omega)
end
set_option maxRecDepth 100000 in
set_option maxHeartbeats 4000000 in
theorem lstep_no (p cc n0 pb nb cap sf : Nat) (sc sa : Option Addr) (K0 Kb : Nat → Nat) (Gb : Nat → Bool) (Qb : Nat → Prop) (L : List Nat) (fl : Int) (st : Bool) (w W : World) (Q : Nat → Prop) (h : LW w Q W p sc cc n0 K0 pb Qb nb Kb Gb sa cap L sf 0 st) : Calls Tryz.prog 63 #[.pointer (some ⟨p, 0, none⟩)] W fun e W' => e = .returned (errOf 6) ∧ LW w Q W' p sc cc n0 K0 pb Qb nb Kb Gb sa cap L sf 0 true ∧ But (fun i => i = p) W W' := by
  have H : Hid (LW w Q W p sc cc n0 K0 pb Qb nb Kb Gb sa cap L sf 0 st) := h
  obtain ⟨zW, c0W, c1W, c2W, c3W, c4W, c5W, f0W, f1W, f2W, f3W, f4W, f5W⟩ := h.mem.cells.six
  clear h
  go_enter Tryz.func63, Tryz.ntmps63
  go_wp2_with fail
  go_ret
  exact ⟨rfl, H.out.stop true, (But.refl (fun i => i = p) W).setCell (Or.inl rfl) _⟩
set_option maxRecDepth 100000 in
set_option maxHeartbeats 4000000 in
theorem lstep_yes (p cc n0 pb nb cap sf : Nat) (sc sa : Option Addr) (K0 Kb : Nat → Nat) (Gb : Nat → Bool) (Qb : Nat → Prop) (L : List Nat) (fl : Int) (st : Bool) (w W : World) (Q : Nat → Prop) (hf : (fl == 0) = false) (hw : -9223372036854775808 ≤ fl ∧ fl < 9223372036854775808) (h : LW w Q W p sc cc n0 K0 pb Qb nb Kb Gb sa cap L sf fl st) : Calls Tryz.prog 63 #[.pointer (some ⟨p, 0, none⟩)] W fun e W' => e = .returned .nilIface ∧ LW w Q W' p sc cc n0 K0 pb Qb nb Kb Gb sa cap L sf (bif decide (fl > 0) then fl - 1 else fl) st ∧ But (fun i => i = p) W W' := by
  have H : Hid (LW w Q W p sc cc n0 K0 pb Qb nb Kb Gb sa cap L sf fl st) := h
  obtain ⟨zW, c0W, c1W, c2W, c3W, c4W, c5W, f0W, f1W, f2W, f3W, f4W, f5W⟩ := h.mem.cells.six
  obtain ⟨hw1, hw2⟩ := hw
  clear h
  cases hg : decide (fl > 0) with
  | true =>
    have hg2 : fl > 0 := of_decide_eq_true hg
    clear hg
    go_enter Tryz.func63, Tryz.ntmps63
    go_wp2_with fail
    go_ret
    exact ⟨rfl, H.out.fail (fl - 1), (But.refl (fun i => i = p) W).setCell (Or.inl rfl) _⟩
  | false =>
    have hg2 : ¬ fl > 0 := of_decide_eq_false hg
    clear hg
    go_enter Tryz.func63, Tryz.ntmps63
    go_wp2_with fail
    go_ret
    exact ⟨rfl, H.out, But.refl _ _⟩
set_option maxRecDepth 100000 in
set_option maxHeartbeats 4000000 in
theorem lfail_at (p cc n0 pb nb cap sf : Nat) (sc sa : Option Addr) (K0 Kb : Nat → Nat) (Gb : Nat → Bool) (Qb : Nat → Prop) (L : List Nat) (fl : Int) (st : Bool) (k : Int) (w W : World) (Q : Nat → Prop) (h : LW w Q W p sc cc n0 K0 pb Qb nb Kb Gb sa cap L sf fl st) : Calls Tryz.prog 30 #[.pointer (some ⟨p, 0, none⟩), .int .i64 k] W fun e W' => e = .returned (.tuple #[]) ∧ LW w Q W' p sc cc n0 K0 pb Qb nb Kb Gb sa cap L sf k st := by
  have H : Hid (LW w Q W p sc cc n0 K0 pb Qb nb Kb Gb sa cap L sf fl st) := h
  obtain ⟨zW, c0W, c1W, c2W, c3W, c4W, c5W, f0W, f1W, f2W, f3W, f4W, f5W⟩ := h.mem.cells.six
  clear h
  go_enter Tryz.func30, Tryz.ntmps30
  go_wp2_with fail
  
  go_end0
  exact ⟨rfl, H.out.fail k⟩
set_option maxRecDepth 100000 in
set_option maxHeartbeats 4000000 in
theorem lbytes_at (p cc n0 pb nb cap sf : Nat) (sc sa : Option Addr) (K0 Kb : Nat → Nat) (Gb : Nat → Bool) (Qb : Nat → Prop) (L : List Nat) (fl : Int) (st : Bool) (w : World) (h : LogMem w p sc cc n0 K0 pb Qb nb Kb Gb sa cap L sf fl st) : Calls Tryz.prog 34 #[.pointer (some ⟨p, 0, none⟩)] w fun e w' => e = .returned (.int .i64 (L.length : Int)) ∧ Below w.heap.size w w' := by
  obtain ⟨zw, c0w, c1w, c2w, c3w, c4w, c5w, f0w, f1w, f2w, f3w, f4w, f5w⟩ := h.cells.six
  clear h
  go_enter Tryz.func34, Tryz.ntmps34
  go_wp2_with fail
  go_ret
  exact ⟨rfl, by repeat (first | (with_reducible first | exact Below.refl _ _ | assumption | refine Below.setCell ?_ (by first | simp <;> omega | omega) _ | refine Below.alloc ?_ (by first | simp <;> omega | omega) _) | refine bl_call ?_ (by assumption) (by first | simp <;> omega | omega) | (with_reducible first | refine bl_drewN ?_ | refine Below.drew ?_ | refine bl_grow ?_ (by first | simp <;> omega | omega)))⟩
set_option maxRecDepth 100000 in
set_option maxHeartbeats 4000000 in
theorem lsafe_at (p cc n0 pb nb cap sf : Nat) (sc sa : Option Addr) (K0 Kb : Nat → Nat) (Gb : Nat → Bool) (Qb : Nat → Prop) (L : List Nat) (fl : Int) (st : Bool) (w : World) (h : LogMem w p sc cc n0 K0 pb Qb nb Kb Gb sa cap L sf fl st) : Calls Tryz.prog 35 #[.pointer (some ⟨p, 0, none⟩)] w fun e w' => e = .returned (.int .i64 (sf : Int)) ∧ Below w.heap.size w w' := by
  obtain ⟨zw, c0w, c1w, c2w, c3w, c4w, c5w, f0w, f1w, f2w, f3w, f4w, f5w⟩ := h.cells.six
  clear h
  go_enter Tryz.func35, Tryz.ntmps35
  go_wp2_with fail
  go_ret
  exact ⟨rfl, by repeat (first | (with_reducible first | exact Below.refl _ _ | assumption | refine Below.setCell ?_ (by first | simp <;> omega | omega) _ | refine Below.alloc ?_ (by first | simp <;> omega | omega) _) | refine bl_call ?_ (by assumption) (by first | simp <;> omega | omega) | (with_reducible first | refine bl_drewN ?_ | refine Below.drew ?_ | refine bl_grow ?_ (by first | simp <;> omega | omega)))⟩
set_option maxRecDepth 100000 in
set_option maxHeartbeats 4000000 in
theorem lsync_stop (p cc n0 pb nb cap sf : Nat) (sc sa : Option Addr) (K0 Kb : Nat → Nat) (Gb : Nat → Bool) (Qb : Nat → Prop) (L : List Nat) (fl : Int) (st : Bool) (w W : World) (Q : Nat → Prop) (h : LW w Q W p sc cc n0 K0 pb Qb nb Kb Gb sa cap L sf fl true) : Calls Tryz.prog 32 #[.pointer (some ⟨p, 0, none⟩)] W fun e W' => e = .returned (errOf 6) ∧ LW w Q W' p sc cc n0 K0 pb Qb nb Kb Gb sa cap L sf fl true := by
  have H : Hid (LW w Q W p sc cc n0 K0 pb Qb nb Kb Gb sa cap L sf fl true) := h
  obtain ⟨zW, c0W, c1W, c2W, c3W, c4W, c5W, f0W, f1W, f2W, f3W, f4W, f5W⟩ := h.mem.cells.six
  clear h
  go_enter Tryz.func32, Tryz.ntmps32
  go_wp2_with fail
  go_ret
  exact ⟨rfl, H.out⟩
set_option maxRecDepth 100000 in
set_option maxHeartbeats 4000000 in
theorem lsync_no (p cc n0 pb nb cap sf : Nat) (sc sa : Option Addr) (K0 Kb : Nat → Nat) (Gb : Nat → Bool) (Qb : Nat → Prop) (L : List Nat) (fl : Int) (st : Bool) (w W : World) (Q : Nat → Prop) (h : LW w Q W p sc cc n0 K0 pb Qb nb Kb Gb sa cap L sf 0 false) : Calls Tryz.prog 32 #[.pointer (some ⟨p, 0, none⟩)] W fun e W' => e = .returned (errOf 6) ∧ LW w Q W' p sc cc n0 K0 pb Qb nb Kb Gb sa cap L sf 0 true := by
  have H : Hid (LW w Q W p sc cc n0 K0 pb Qb nb Kb Gb sa cap L sf 0 false) := h
  obtain ⟨zW, c0W, c1W, c2W, c3W, c4W, c5W, f0W, f1W, f2W, f3W, f4W, f5W⟩ := h.mem.cells.six
  clear h
  have m1 : True := trivial
  go_enter Tryz.func32, Tryz.ntmps32
  go_wp2_with (go_at_call 63; clear m1; refine (lstep_no p cc n0 pb nb cap sf sc sa K0 Kb Gb Qb L 0 false w W Q H.out).mono ?_; rintro e V ⟨rfl, hV, _⟩)
  go_ret
  exact ⟨rfl, hV⟩
set_option maxRecDepth 100000 in
set_option maxHeartbeats 4000000 in
theorem lsync_yes (p cc n0 pb nb cap sf : Nat) (sc sa : Option Addr) (K0 Kb : Nat → Nat) (Gb : Nat → Bool) (Qb : Nat → Prop) (L : List Nat) (fl : Int) (st : Bool) (w W : World) (Q : Nat → Prop) (hf : (fl == 0) = false) (hw : -9223372036854775808 ≤ fl ∧ fl < 9223372036854775808) (h : LW w Q W p sc cc n0 K0 pb Qb nb Kb Gb sa cap L sf fl false) : Calls Tryz.prog 32 #[.pointer (some ⟨p, 0, none⟩)] W fun e W' => e = .returned .nilIface ∧ LW w Q W' p sc cc n0 K0 pb Qb nb Kb Gb sa cap L L.length (bif decide (fl > 0) then fl - 1 else fl) false := by
  have HS : Hid (Calls Tryz.prog 63 #[.pointer (some ⟨p, 0, none⟩)] W fun e W' => e = .returned .nilIface ∧ LW w Q W' p sc cc n0 K0 pb Qb nb Kb Gb sa cap L sf (bif decide (fl > 0) then fl - 1 else fl) false ∧ But (fun i => i = p) W W') := lstep_yes p cc n0 pb nb cap sf sc sa K0 Kb Gb Qb L fl false w W Q hf hw h
  obtain ⟨zW, c0W, c1W, c2W, c3W, c4W, c5W, f0W, f1W, f2W, f3W, f4W, f5W⟩ := h.mem.cells.six
  clear h hf hw
  have m1 : True := trivial
  go_enter Tryz.func32, Tryz.ntmps32
  go_wp2_with (go_at_call 63; clear m1; refine HS.out.mono ?_; rintro e V ⟨rfl, hV, _⟩; have HV := (show Hid _ from hV); obtain ⟨zV, c0V, c1V, c2V, c3V, c4V, c5V, f0V, f1V, f2V, f3V, f4V, f5V⟩ := hV.mem.cells.six; clear hV)
  
  go_ret
  exact ⟨rfl, HV.out.safe _⟩
set_option maxRecDepth 100000 in
set_option maxHeartbeats 4000000 in
theorem llive_at (p cc n0 pb nb cap sf : Nat) (sc sa : Option Addr) (K0 Kb : Nat → Nat) (Gb : Nat → Bool) (Qb : Nat → Prop) (L : List Nat) (fl : Int) (st : Bool) (w : World) (hn : nb ≤ 1000) (h : LogMem w p sc cc n0 K0 pb Qb nb Kb Gb sa cap L sf fl st) : Calls Tryz.prog 38 #[.pointer (some ⟨p, 0, none⟩)] w fun ex w' => ∃ q, ex = .returned q ∧ w'.ownsRow w.heap.size 3 1 q (lvL Gb nb).length (lvC Gb nb) ∧ Below w.heap.size w w' := by
  have HB : Hid (Calls Tryz.prog 23 #[.pointer (some ⟨pb, 0, none⟩)] w fun ex w' => ∃ q, ex = .returned q ∧ w'.ownsRow w.heap.size 3 1 q (lvL Gb nb).length (lvC Gb nb) ∧ Below w.heap.size w w') := blive_is _ _ _ _ _ w hn h.book
  obtain ⟨zw, c0w, c1w, c2w, c3w, c4w, c5w, f0w, f1w, f2w, f3w, f4w, f5w⟩ := h.cells.six
  clear h
  go_enter Tryz.func38, Tryz.ntmps38
  go_wp2_with (go_at_call 23; refine HB.out.mono ?_; rintro e V ⟨q, rfl, h1, h2⟩)
  go_ret
  exact ⟨_, rfl, h1, h2⟩
set_option maxRecDepth 100000 in
set_option maxHeartbeats 4000000 in
theorem ltotal_at (p cc n0 pb nb cap sf : Nat) (sc sa : Option Addr) (K0 Kb : Nat → Nat) (Gb : Nat → Bool) (Qb : Nat → Prop) (L : List Nat) (fl : Int) (st : Bool) (w : World) (hn : nb ≤ 1000) (h : LogMem w p sc cc n0 K0 pb Qb nb Kb Gb sa cap L sf fl st) : Calls Tryz.prog 36 #[.pointer (some ⟨p, 0, none⟩)] w fun ex w' => ex = .returned (.agg #[.int .i64 ((tM (4 * ttN Kb Gb nb)).1 : Int), .int .i64 ((tM (4 * ttN Kb Gb nb)).2.1 : Int), .bool (tM (4 * ttN Kb Gb nb)).2.2]) ∧ Below w.heap.size w w' := by
  obtain ⟨T, hT⟩ : ∃ T, tM (4 * ttN Kb Gb nb) = T := ⟨_, rfl⟩
  have HB : Hid (∀ W, Below w.heap.size w W → Calls Tryz.prog 27 #[.pointer (some ⟨pb, 0, none⟩)] W fun ex w' => ex = .returned (.agg #[.int .i64 ((T).1 : Int), .int .i64 ((T).2.1 : Int), .bool (T).2.2]) ∧ Below W.heap.size W w') := fun W hW => by
    have := btotal_is _ _ _ _ _ W hn (bookP_ok.stay h.book (But.of_below (fun _ => False) hW) fun _ _ e => e)
    rwa [hT] at this
  obtain ⟨zw, c0w, c1w, c2w, c3w, c4w, c5w, f0w, f1w, f2w, f3w, f4w, f5w⟩ := h.cells.six
  rw [hT]
  clear h hT
  have m1 : True := trivial
  go_enter Tryz.func36, Tryz.ntmps36
  go_wp2_with (go_at_call 27; clear m1; refine (HB.out _ (by repeat (first | (with_reducible first | exact Below.refl _ _ | assumption | refine Below.setCell ?_ (by first | simp <;> omega | omega) _ | refine Below.alloc ?_ (by first | simp <;> omega | omega) _) | refine bl_call ?_ (by assumption) (by first | simp <;> omega | omega) | (with_reducible first | refine bl_drewN ?_ | refine Below.drew ?_ | refine bl_grow ?_ (by first | simp <;> omega | omega))))).mono ?_; rintro e V ⟨rfl, hbV⟩; have krV : At V (w.heap.size) [.int .i64 0, .int .i64 0, .bool false] := (by repeat (first | (with_reducible first | assumption | (refine at_new' _ _ _ _ ?_; first | rfl | (simp; done)) | refine At.alloc ?_ _ | refine At.drew ?_ | refine At.drewN ?_ | refine At.set ?_ (by omega) | apply At.store4 | apply At.store3 | apply At.store2 | apply At.put43) | refine At.below ?_ (by with_reducible assumption))); have hqV : Below w.heap.size w V := (by repeat (first | (with_reducible first | exact Below.refl _ _ | assumption | refine Below.setCell ?_ (by first | simp <;> omega | omega) _ | refine Below.alloc ?_ (by first | simp <;> omega | omega) _) | refine bl_call ?_ (by assumption) (by first | simp <;> omega | omega) | (with_reducible first | refine bl_drewN ?_ | refine Below.drew ?_ | refine bl_grow ?_ (by first | simp <;> omega | omega)))); have hzV := hqV.size; obtain ⟨zrV, cr0V, cr1V, cr2V, fr0V, fr1V, fr2V⟩ := krV.three; clear hbV)
  
  exact bodyPost_ret (v := .agg #[.int .i64 ((T).1 : Int), .int .i64 ((T).2.1 : Int), .bool (T).2.2]) (by simp [results, Tryz.results36, go_sem, *]) rfl ⟨rfl, by repeat (first | (with_reducible first | exact Below.refl _ _ | assumption | refine Below.setCell ?_ (by first | simp <;> omega | omega) _ | refine Below.alloc ?_ (by first | simp <;> omega | omega) _) | refine bl_call ?_ (by assumption) (by first | simp <;> omega | omega) | (with_reducible first | refine bl_drewN ?_ | refine Below.drew ?_ | refine bl_grow ?_ (by first | simp <;> omega | omega)))⟩
end Go.Proofs.YtpkkclcjiobgoajGreatDoor

/- What package log writes of a deal: written. -/
namespace Go.Proofs.YtpkkclcjiobgoajGreatDoor
open Go.RowKit Go.Sort
set_option linter.unusedVariables false
set_option linter.unusedSimpArgs false
/-- Bytes that are written of a deal in block w.heap.size. -/
structure Wr (U : TypeId) (w : World) (D : List Value) (V : World) (v : Value) (L : List Nat) : Prop where
  own : V.ownsRow (w.heap.size + 1) U 1 v L.length (cellsU L)
  box : At V w.heap.size D
  below : Below w.heap.size w V
theorem Wr.turn {U : TypeId} {w V : World} {D : List Value} {v : Value} {L L' : List Nat} (h : Wr U w D V v L) (e : L = L') : Wr U w D V v L' := e ▸ h
theorem Wr.grew {U : TypeId} {w V V' : World} {D : List Value} {v v' : Value} {L L' : List Nat} (h : Wr U w D V v L) (g : Grew U (w.heap.size + 1) V V' v v' L') : Wr U w D V' v' L' :=
  ⟨g.own, h.box.but g.but (fun e => by have := (h.own.lt _ e).1; omega), But.under h.below g.but (fun k hk => by have := (h.own.lt _ hk).1; omega) h.below.size⟩
theorem Wr.up {U : TypeId} {w V V' : World} {D : List Value} {v : Value} {L : List Nat} (h : Wr U w D V v L) (g : Below V.heap.size V V') : Wr U w D V' v L :=
  ⟨own_stay h.own g, h.box.below g, h.below.trans (g.mono h.below.size)⟩
set_option maxRecDepth 100000 in
set_option maxHeartbeats 1000000 in
theorem lwritten (m c a s dz dl : Nat) (sz sl : Option Addr) (Z : Nat → Int) (J : Nat → Nat) (X Y : Nat → Int) (F : Nat → Bool) (w : World) (hm : m ≤ 1000) (hZ : ∀ i, i < m → 0 ≤ Z i ∧ Z i < 1000) (hc : c ≤ 12) (hs : s < 1013) (hz : m = 0 ∨ ∃ b o : Nat, sz = some ⟨b, o, none⟩ ∧ RowI w b o m Z) (hr : c = 0 ∨ ∃ b o : Nat, sl = some ⟨b, o, none⟩ ∧ RowO w b o c X Y F) (hK : isC X Y F J c) :
    Calls Tryz.prog 62 #[.agg #[.slice sz m dz, .slice sl c dl, .int .i64 ((tM a).1 : Int), .int .i64 ((tM a).2.1 : Int), .bool (tM a).2.2, .int .i64 (s : Int)]] w fun ex w' => ∃ v, ex = .returned v ∧ w'.ownsRow w.heap.size 5 1 v (recL ⟨m, Z, c, J, a, s⟩).length (cellsU (recL ⟨m, Z, c, J, a, s⟩)) ∧ Below w.heap.size w w' := by
  have HZ : Hid (m = 0 ∨ ∃ b o : Nat, sz = some ⟨b, o, none⟩ ∧ RowI w b o m Z) := hz
  have HZi : Hid (∀ i, i < m → 0 ≤ Z i ∧ Z i < 1000) := hZ
  have HR : Hid (c = 0 ∨ ∃ b o : Nat, sl = some ⟨b, o, none⟩ ∧ RowO w b o c X Y F) := hr
  have HK : Hid (isC X Y F J c) := hK
  have HLZ : Hid (∀ k, (bodyZ Z k).length = 2 * k) := bodyZ_len Z
  have HLK : Hid (∀ k, (bodyK J k).length ≤ 3 * k) := bodyK_le J
  have HLa : Hid ((spL a).length ≤ 3) := spL_le a
  clear hz hr hK hZ
  obtain ⟨i0, hi, hv0, hv1, hv2⟩ := info_parts luinfo
  have m1 : True := trivial; have m2 : True := trivial; have m3 : True := trivial; have m4 : True := trivial; have m5 : True := trivial; have m6 : True := trivial; have m7 : True := trivial; have m8 : True := trivial
  have HA : Wr 5 w [.slice sz m dz, .slice sl c dl, .int .i64 ((tM a).1 : Int), .int .i64 ((tM a).2.1 : Int), .bool (tM a).2.2, .int .i64 (s : Int)] (w.alloc (.cells #[.slice sz m dz, .slice sl c dl, .int .i64 ((tM a).1 : Int), .int .i64 ((tM a).2.1 : Int), .bool (tM a).2.2, .int .i64 (s : Int)] 50)) (.slice none 0 0) [] := ⟨World.ownsRow_nil _ _ _ _, at_new w [.slice sz m dz, .slice sl c dl, .int .i64 ((tM a).1 : Int), .int .i64 ((tM a).2.1 : Int), .bool (tM a).2.2, .int .i64 (s : Int)] _, (Below.refl _ w).alloc (Nat.le_refl _) _⟩
  obtain ⟨zdA, cd0A, cd1A, cd2A, cd3A, cd4A, cd5A, fd0A, fd1A, fd2A, fd3A, fd4A, fd5A⟩ := HA.box.six; have hzA := HA.below.size
  go_enter Tryz.func62, Tryz.ntmps62
  go_upto_region 3 with (go_at_call 86; clear m1; refine (lput_number (w.heap.size + 1) _ [] m _ (by omega) (by simp) (by have := HA.below.size; have := HA.box.1; omega) HA.own).mono ?_; rintro e B ⟨vB, rfl, hGB⟩; have HB : Wr 5 w [.slice sz m dz, .slice sl c dl, .int .i64 ((tM a).1 : Int), .int .i64 ((tM a).2.1 : Int), .bool (tM a).2.2, .int .i64 (s : Int)] B vB (nbL m) := (HA.grew hGB).turn (by simp [bodyZ, bodyK, List.append_assoc, *]); clear hGB; clear cd0A cd1A cd2A cd3A cd4A cd5A fd0A fd1A fd2A fd3A fd4A fd5A; obtain ⟨zdB, cd0B, cd1B, cd2B, cd3B, cd4B, cd5B, fd0B, fd1B, fd2B, fd3B, fd4B, fd5B⟩ := HB.box.six; have hzB := HB.below.size)
  
  go_wp2_with fail
  go_loopw [3, 16] (fun tv ti wl => ∃ k : Nat, k ≤ m ∧ ti = .int .i64 k ∧ Wr 5 w [.slice sz m dz, .slice sl c dl, .int .i64 ((tM a).1 : Int), .int .i64 ((tM a).2.1 : Int), .bool (tM a).2.2, .int .i64 (s : Int)] wl tv (nbL m ++ bodyZ Z k)) (fun _ ti _ => m - (intOf ti).toNat)
  case atStart => exact ⟨0, by omega, rfl, HB.turn (by simp [bodyZ])⟩
  case round =>
    clear HA HB hzA hzB zdA zdB
    clear cd0B cd1B cd2B cd3B cd4B cd5B fd0B fd1B fd2B fd3B fd4B fd5B
    obtain ⟨k, hk, rfl, HV⟩ := hrel
    rename World => V
    obtain ⟨zdV, cd0V, cd1V, cd2V, cd3V, cd4V, cd5V, fd0V, fd1V, fd2V, fd3V, fd4V, fd5V⟩ := HV.box.six; have hzV := HV.below.size
    have HLk : (nbL m ++ bodyZ Z k).length ≤ 1000000 := by rw [List.length_append, nbL_len, HLZ.out]; omega
    by_cases hlt : k < m
    · have hlt' : (k : Int) < m := by omega
      obtain ⟨b1, o1, rfl, hzr⟩ := HZ.out.resolve_left (by omega)
      obtain ⟨z, hz⟩ : ∃ z : Nat, Z k = (z : Int) := ⟨(Z k).toNat, by have := (HZi.out k hlt).1; omega⟩
      have hzl : z < 65536 := by have := (HZi.out k hlt).2; omega
      have c0 := (hzr.below hzr.1 HV.below).2 k hlt
      have hb1 := Nat.lt_of_lt_of_le hzr.1 hzV
      rw [hz] at c0
      have HT : Hid ((Z k).toNat = z) := by unfold Hid; omega
      clear hzr hz
      go_wp2_with (go_at_call 86; clear m2; refine (lput_number (w.heap.size + 1) _ (nbL m ++ bodyZ Z k) z _ hzl HLk (by have := HV.below.size; have := HV.box.1; omega) HV.own).mono ?_; rintro e C ⟨vC, rfl, hGC⟩; have HC : Wr 5 w [.slice (some ⟨b1, o1, none⟩) m dz, .slice sl c dl, .int .i64 ((tM a).1 : Int), .int .i64 ((tM a).2.1 : Int), .bool (tM a).2.2, .int .i64 (s : Int)] C vC (nbL m ++ bodyZ Z (k + 1)) := (HV.grew hGC).turn (by show _ = nbL m ++ (bodyZ Z k ++ nbL (Z k).toNat); rw [HT.out, List.append_assoc]); clear hGC; clear cd0V cd1V cd2V cd3V cd4V cd5V fd0V fd1V fd2V fd3V fd4V fd5V; obtain ⟨zdC, cd0C, cd1C, cd2C, cd3C, cd4C, cd5C, fd0C, fd1C, fd2C, fd3C, fd4C, fd5C⟩ := HC.box.six; have hzC := HC.below.size)
      
      go_roundw
      case rel => exact ⟨k + 1, by omega, by simp, HC⟩
      case measure => simp [intOf]; omega
    · have hlt' : ¬ (k : Int) < m := by omega
      obtain rfl : k = m := by omega
      
      go_upto_region 9 with (go_at_call 86; clear m3; refine (lput_number (w.heap.size + 1) _ (nbL k ++ bodyZ Z k) c _ (by omega) HLk (by have := HV.below.size; have := HV.box.1; omega) HV.own).mono ?_; rintro e C ⟨vC, rfl, hGC⟩; have HC : Wr 5 w [.slice sz k dz, .slice sl c dl, .int .i64 ((tM a).1 : Int), .int .i64 ((tM a).2.1 : Int), .bool (tM a).2.2, .int .i64 (s : Int)] C vC (nbL k ++ (bodyZ Z k ++ nbL c)) := (HV.grew hGC).turn (by simp [bodyZ, bodyK, List.append_assoc, *]); clear hGC; clear cd0V cd1V cd2V cd3V cd4V cd5V fd0V fd1V fd2V fd3V fd4V fd5V; obtain ⟨zdC, cd0C, cd1C, cd2C, cd3C, cd4C, cd5C, fd0C, fd1C, fd2C, fd3C, fd4C, fd5C⟩ := HC.box.six; have hzC := HC.below.size)
      go_wp2_with fail
      go_loopw [3, 32] (fun tv ti wl => ∃ j : Nat, j ≤ c ∧ ti = .int .i64 j ∧ Wr 5 w [.slice sz k dz, .slice sl c dl, .int .i64 ((tM a).1 : Int), .int .i64 ((tM a).2.1 : Int), .bool (tM a).2.2, .int .i64 (s : Int)] wl tv (nbL k ++ (bodyZ Z k ++ (nbL c ++ bodyK J j)))) (fun _ ti _ => c - (intOf ti).toNat)
      case atStart => exact ⟨0, by omega, rfl, HC.turn (by simp [bodyK])⟩
      case round =>
        clear HV HC hzC zdC hzV zdV
        clear cd0C cd1C cd2C cd3C cd4C cd5C fd0C fd1C fd2C fd3C fd4C fd5C
        obtain ⟨j, hj, rfl, HW⟩ := hrel
        rename World => W
        obtain ⟨zdW, cd0W, cd1W, cd2W, cd3W, cd4W, cd5W, fd0W, fd1W, fd2W, fd3W, fd4W, fd5W⟩ := HW.box.six; have hzW := HW.below.size
        have HLj : (nbL k ++ (bodyZ Z k ++ (nbL c ++ bodyK J j))).length ≤ 1000000 := by have := HLK.out j; simp only [List.length_append, nbL_len, HLZ.out]; omega
        by_cases hltj : j < c
        · have hltj' : (j : Int) < c := by omega
          obtain ⟨b2, o2, rfl, hrr⟩ := HR.out.resolve_left (by omega)
          obtain ⟨e1, e2, e3⟩ := HK.out j hltj
          obtain ⟨c0, c1, c2⟩ := (hrr.below hrr.1 HW.below).2 j hltj
          have hb2 := Nat.lt_of_lt_of_le hrr.1 hzW
          rw [e1] at c0
          rw [e2] at c1
          rw [e3] at c2
          clear hrr e1 e2 e3
          go_wp2_with (go_at_call 87; clear m4; refine (lput_spot (w.heap.size + 1) _ (nbL k ++ (bodyZ Z k ++ (nbL c ++ bodyK J j))) (4 * J j) _ HLj (by simp; omega) (HW.up ((Below.refl _ _).alloc (Nat.le_refl _) _)).own).mono ?_; rintro e E ⟨vE, rfl, hGE⟩; have HE : Wr 5 w [.slice sz k dz, .slice (some ⟨b2, o2, none⟩) c dl, .int .i64 ((tM a).1 : Int), .int .i64 ((tM a).2.1 : Int), .bool (tM a).2.2, .int .i64 (s : Int)] E vE (nbL k ++ (bodyZ Z k ++ (nbL c ++ bodyK J (j + 1)))) := ((HW.up ((Below.refl _ _).alloc (Nat.le_refl _) _)).grew hGE).turn (by show _ = nbL k ++ (bodyZ Z k ++ (nbL c ++ (bodyK J j ++ spL (4 * J j)))); simp only [List.append_assoc]); clear hGE; clear cd0W cd1W cd2W cd3W cd4W cd5W fd0W fd1W fd2W fd3W fd4W fd5W; obtain ⟨zdE, cd0E, cd1E, cd2E, cd3E, cd4E, cd5E, fd0E, fd1E, fd2E, fd3E, fd4E, fd5E⟩ := HE.box.six; have hzE := HE.below.size)
          
          go_roundw
          case rel => exact ⟨j + 1, by omega, by simp, HE⟩
          case measure => simp [intOf]; omega
        · have hltj' : ¬ (j : Int) < c := by omega
          obtain rfl : j = c := by omega
          have HLa2 : (nbL k ++ (bodyZ Z k ++ (nbL j ++ (bodyK J j ++ spL a)))).length ≤ 1000000 := by have := HLK.out j; have := HLa.out; simp only [List.length_append, nbL_len, HLZ.out]; omega
          go_upto_region 16 with (first | (go_at_call 87; clear m5; refine (lput_spot (w.heap.size + 1) _ (nbL k ++ (bodyZ Z k ++ (nbL j ++ bodyK J j))) a _ HLj (by have := HW.below.size; have := HW.box.1; omega) HW.own).mono ?_; rintro e E ⟨vE, rfl, hGE⟩; have HE : Wr 5 w [.slice sz k dz, .slice sl j dl, .int .i64 ((tM a).1 : Int), .int .i64 ((tM a).2.1 : Int), .bool (tM a).2.2, .int .i64 (s : Int)] E vE (nbL k ++ (bodyZ Z k ++ (nbL j ++ (bodyK J j ++ spL a)))) := (HW.grew hGE).turn (by simp only [List.append_assoc]); clear hGE; clear cd0W cd1W cd2W cd3W cd4W cd5W fd0W fd1W fd2W fd3W fd4W fd5W; obtain ⟨zdE, cd0E, cd1E, cd2E, cd3E, cd4E, cd5E, fd0E, fd1E, fd2E, fd3E, fd4E, fd5E⟩ := HE.box.six; have hzE := HE.below.size) | (go_at_call 86; clear m6; refine (lput_number (w.heap.size + 1) _ (nbL k ++ (bodyZ Z k ++ (nbL j ++ (bodyK J j ++ spL a)))) s _ (by omega) HLa2 (by have := HE.below.size; have := HE.box.1; omega) HE.own).mono ?_; rintro e G ⟨vG, rfl, hGG⟩; have HG : Wr 5 w [.slice sz k dz, .slice sl j dl, .int .i64 ((tM a).1 : Int), .int .i64 ((tM a).2.1 : Int), .bool (tM a).2.2, .int .i64 (s : Int)] G vG (bodyL ⟨k, Z, j, J, a, s⟩) := (HE.grew hGG).turn (by unfold bodyL; simp only [List.append_assoc]); clear hGG; clear cd0E cd1E cd2E cd3E cd4E cd5E fd0E fd1E fd2E fd3E fd4E fd5E; obtain ⟨zdG, cd0G, cd1G, cd2G, cd3G, cd4G, cd5G, fd0G, fd1G, fd2G, fd3G, fd4G, fd5G⟩ := HG.box.six; have hzG := HG.below.size))
          
          have hLn : (bodyL ⟨k, Z, j, J, a, s⟩).length ≤ 2045 := bodyL_le ⟨hm, HZi.out, hc, hs⟩
          have hLp : 6 ≤ (bodyL ⟨k, Z, j, J, a, s⟩).length := by rw [bodyL_len]; omega
          have HE2 : Hid (recL ⟨k, Z, j, J, a, s⟩ = nbL (bodyL ⟨k, Z, j, J, a, s⟩).length ++ bodyL ⟨k, Z, j, J, a, s⟩) := rfl
          have HEl : Hid ((recL ⟨k, Z, j, J, a, s⟩).length = 2 + (bodyL ⟨k, Z, j, J, a, s⟩).length) := by unfold Hid; rw [recL_len]; omega
          generalize bodyL ⟨k, Z, j, J, a, s⟩ = L at HG hLn hLp HE2 HEl
          obtain ⟨n, hn⟩ : ∃ n, L.length = n := ⟨_, rfl⟩
          have HO : Wr 5 w [.slice sz k dz, .slice sl j dl, .int .i64 ((tM a).1 : Int), .int .i64 ((tM a).2.1 : Int), .bool (tM a).2.2, .int .i64 (s : Int)] G vG (L) := HG
          obtain ⟨sg, cg, rfl, e1, hgc, hgs⟩ := own_bytes HG.own
          have hne : L ≠ [] := by intro e; rw [e] at hLp; simp at hLp
          rcases hgs with ⟨_, e2, _⟩ | ⟨g, rfl, _, hgg, hgr⟩
          · omega
          have HOw : Hid (G.ownsRow (w.heap.size + 1) 5 1 (.slice (some ⟨g, 0, none⟩) L.length cg) L.length (cellsU L)) := HO.own
          have HBw : Hid (Below w.heap.size w G) := HO.below
          clear HG hgr e1
          clear cd0G cd1G cd2G cd3G cd4G cd5G fd0G fd1G fd2G fd3G fd4G fd5G
          have HN : Hid (L.length = n) := hn
          rw [hn] at hLn hLp hgc HOw HEl ⊢
          clear hn HO
          have HP := lput_number (w.heap.size + 1) (.slice none 0 0) [] n G (by omega) (by simp) (by omega) (World.ownsRow_nil _ _ _ _)
          go_wp2_with (first | (go_at_call 86; clear m7; refine HP.mono ?_; rintro e I ⟨vI, rfl, hGI⟩; have HI1 : Hid (I.ownsRow (w.heap.size + 1) 5 1 vI 2 (cellsU (nbL n))) := hGI.own; have HIb : Hid (Below G.heap.size G I) := ⟨hGI.but.os, hGI.but.tape, hGI.but.output, hGI.but.size, fun q hq => hGI.but.block q hq (fun e => by simp [Value.ownBlock] at e)⟩; have hzI := hGI.but.size; clear hGI HP) | (at_builtin; refine wpList_append_own_at _ rfl _ _ 100 rfl (w.heap.size + 1) 5 i0 (.int .u8 0) 1 1 Tryz.underlying100 hi hv0 hv1 hv2 rfl (by decide) _ _ _ rfl HI1.out ⟨g, 0, none⟩ n cg (cellsU L) rfl ?c0 ?c1 ?c2 ?c3 ?c4 ?c5 ?_))
          
          case c0 => rw [cellsU_len, HN.out]; omega
          case c1 => exact (own_stay HOw.out HIb.out).cells rfl
          case c2 => exact cellsU_one L
          case c3 => unfold maxLen; omega
          case c4 => omega
          case c5 => omega
          intro v' w9 hown hgrow _ hat
          have hq9 : Below w.heap.size w w9 := (HBw.out.trans (HIb.out.mono (by omega))).grown hgrow (by omega) (fun q hq => by have := (HI1.out.lt q hq).1; omega)
          have hown9 : w9.ownsRow w.heap.size 5 1 v' (recL ⟨k, Z, j, J, a, s⟩).length (cellsU (recL ⟨k, Z, j, J, a, s⟩)) := by
            rw [HEl.out, HE2.out, HN.out, cellsU_app]
            exact own_base hown (by omega)
          clear hown hgrow hat
          go_wp2_with fail
          go_ret
          exact ⟨_, rfl, hown9, hq9⟩
end Go.Proofs.YtpkkclcjiobgoajGreatDoor
