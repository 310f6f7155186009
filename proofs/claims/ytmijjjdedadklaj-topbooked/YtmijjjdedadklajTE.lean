/- Texts joined: LogOwn LogWrite LogDo LogCrash Log TopBookedWalk Open. What the landed log is: its memory, and how each of its steps leaves it; what is told of it without a step: Fail, Live, Total, Bytes, Safe, step, Sync. What package log writes of a deal: written. What the landed log answers: Do. What the landed log answers: Crash, New. What the landed log is, and what package log answers, in the words of LogIs. Proved: stonetop.TopBooked answers true for every three lists of numbers and every two numbers: deals that are closed as they should be keep the sum of what is hidden, behind crashes, too: the total opens by the sums of values and numbers. No condition stands behind it. Slices of ints, of structs of two ints and of texts, opened at every place. -/
import Derived.Test.YtmijjjdedadklajTD
import Derived.Test.YtmijjjdedadklajLogIs
import Derived.Lib.SliceRun
import Derived.Test.YtmijjjdedadklajTopBookedBy
import Derived.Test.YtmijjjdedadklajTA
import Derived.Test.YtmijjjdedadklajTC
import Derived.Test.YtmijjjdedadklajOwn
import Derived.SizedLaws
/- LogOwn -/
namespace Go.Proofs.Ytmijjjdedadklaj
open Go.RowKit Go.Sort
set_option linter.unusedVariables false
set_option linter.unusedSimpArgs false
/-- In block p lies a log: its coins, its book, its bytes. -/
structure LogMem (W : World) (p : Nat) (sc : Option Addr) (cc n0 : Nat) (K0 : Nat → Nat) (pb : Nat) (Qb : Nat → Prop) (nb : Nat) (Kb : Nat → Nat) (Gb : Nat → Bool) (sa : Option Addr) (cap : Nat) (L : List Nat) (sf : Nat) (fl : Int) (st : Bool) : Prop where
  cells : At W p [.slice sc n0 cc, .pointer (some ⟨pb, 0, none⟩), .slice sa L.length cap, .int .i64 ((sf : Nat) : Int), .int .i64 fl, .bool st]
  coins : W.ownsRow 0 26 3 (.slice sc n0 cc) n0 (cellsK K0 n0)
  laid : W.ownsRow 0 5 1 (.slice sa L.length cap) L.length (cellsU L)
  book : bookP W (.pointer (some ⟨pb, 0, none⟩)) Qb nb Kb Gb
  ac : (Value.slice sc n0 cc).ownBlock ≠ some p
  al : (Value.slice sa L.length cap).ownBlock ≠ some p
  acl : ∀ g, (Value.slice sc n0 cc).ownBlock = some g → (Value.slice sa L.length cap).ownBlock ≠ some g
  ab : ∀ i, Qb i → i ≠ p ∧ (Value.slice sc n0 cc).ownBlock ≠ some i ∧ (Value.slice sa L.length cap).ownBlock ≠ some i
/-- Its blocks. -/
def lq (p : Nat) (cv lv : Value) (Qb : Nat → Prop) : Nat → Prop := fun i => i = p ∨ cv.ownBlock = some i ∨ lv.ownBlock = some i ∨ Qb i
/-- It, behind some steps of a method that began in w. -/
structure LW (w : World) (Q : Nat → Prop) (W : World) (p : Nat) (sc : Option Addr) (cc n0 : Nat) (K0 : Nat → Nat) (pb : Nat) (Qb : Nat → Prop) (nb : Nat) (Kb : Nat → Nat) (Gb : Nat → Bool) (sa : Option Addr) (cap : Nat) (L : List Nat) (sf : Nat) (fl : Int) (st : Bool) : Prop where
  but : But Q w W
  mem : LogMem W p sc cc n0 K0 pb Qb nb Kb Gb sa cap L sf fl st
  inq : ∀ i, lq p (.slice sc n0 cc) (.slice sa L.length cap) Qb i → Q i ∨ w.heap.size ≤ i
section
variable {w W W' W7 : World} {Q Qb' : Nat → Prop} {p cc n0 pb nb cap sf : Nat} {sc sa : Option Addr} {K0 Kb : Nat → Nat} {Gb : Nat → Bool} {Qb : Nat → Prop} {L : List Nat} {fl : Int} {st : Bool}
theorem LogMem.lt (h : LogMem W p sc cc n0 K0 pb Qb nb Kb Gb sa cap L sf fl st) {i : Nat} (hi : lq p (.slice sc n0 cc) (.slice sa L.length cap) Qb i) : i < W.heap.size := by
  rcases hi with rfl | hi | hi | hi
  · exact h.cells.1
  · exact (h.coins.lt i hi).2
  · exact (h.laid.lt i hi).2
  · exact bookP_ok.lt h.book i hi
theorem LogMem.but (h : LogMem W p sc cc n0 K0 pb Qb nb Kb Gb sa cap L sf fl st) {F : Nat → Prop} (hb : But F W W') (hF : ∀ i, lq p (.slice sc n0 cc) (.slice sa L.length cap) Qb i → ¬ F i) : LogMem W' p sc cc n0 K0 pb Qb nb Kb Gb sa cap L sf fl st :=
  ⟨h.cells.but hb (hF p (Or.inl rfl)), own_but h.coins hb (fun g hg => hF g (Or.inr (Or.inl hg))), own_but h.laid hb (fun g hg => hF g (Or.inr (Or.inr (Or.inl hg)))), bookP_ok.stay h.book hb (fun i hi => hF i (Or.inr (Or.inr (Or.inr hi)))), h.ac, h.al, h.acl, h.ab⟩
theorem LogMem.start (h : LogMem w p sc cc n0 K0 pb Qb nb Kb Gb sa cap L sf fl st) : LW w (lq p (.slice sc n0 cc) (.slice sa L.length cap) Qb) w p sc cc n0 K0 pb Qb nb Kb Gb sa cap L sf fl st := ⟨But.refl _ _, h, fun i hi => Or.inl hi⟩
theorem LW.up (h : LW w Q W p sc cc n0 K0 pb Qb nb Kb Gb sa cap L sf fl st) (hb : Below W.heap.size W W') : LW w Q W' p sc cc n0 K0 pb Qb nb Kb Gb sa cap L sf fl st :=
  ⟨h.but.call hb, h.mem.but (But.of_below (fun _ => False) hb) (fun _ _ e => e), h.inq⟩
theorem LW.drew (h : LW w Q W p sc cc n0 K0 pb Qb nb Kb Gb sa cap L sf fl st) : LW w Q W.drew p sc cc n0 K0 pb Qb nb Kb Gb sa cap L sf fl st := h.up (Below.drew (Below.refl _ _))
/-- A cell is stored, of a number or a flag. -/
theorem LW.cell (h : LW w Q W p sc cc n0 K0 pb Qb nb Kb Gb sa cap L sf fl st) {j sf' : Nat} {fl' : Int} {st' : Bool} {u : Value} (hc : At (W.setCell ⟨p, j, none⟩ u) p [.slice sc n0 cc, .pointer (some ⟨pb, 0, none⟩), .slice sa L.length cap, .int .i64 ((sf' : Nat) : Int), .int .i64 fl', .bool st']) : LW w Q (W.setCell ⟨p, j, none⟩ u) p sc cc n0 K0 pb Qb nb Kb Gb sa cap L sf' fl' st' := by
  have hb : But (fun i => i = p) W (W.setCell ⟨p, j, none⟩ u) := (But.refl (fun i => i = p) W).setCell (Or.inl rfl) u
  refine ⟨h.but.setCell (h.inq p (Or.inl rfl)) u, ⟨hc, own_but h.mem.coins hb (fun g hg e => h.mem.ac (e ▸ hg)), own_but h.mem.laid hb (fun g hg e => h.mem.al (e ▸ hg)), bookP_ok.stay h.mem.book hb (fun i hi => (h.mem.ab i hi).1), h.mem.ac, h.mem.al, h.mem.acl, h.mem.ab⟩, h.inq⟩
theorem LW.safe (h : LW w Q W p sc cc n0 K0 pb Qb nb Kb Gb sa cap L sf fl st) (sf' : Nat) : LW w Q (W.setCell ⟨p, 3, none⟩ (.int .i64 ((sf' : Nat) : Int))) p sc cc n0 K0 pb Qb nb Kb Gb sa cap L sf' fl st := h.cell (h.mem.cells.at (i := 3) (by simp))
theorem LW.fail (h : LW w Q W p sc cc n0 K0 pb Qb nb Kb Gb sa cap L sf fl st) (fl' : Int) : LW w Q (W.setCell ⟨p, 4, none⟩ (.int .i64 fl')) p sc cc n0 K0 pb Qb nb Kb Gb sa cap L sf fl' st := h.cell (h.mem.cells.at (i := 4) (by simp))
theorem LW.stop (h : LW w Q W p sc cc n0 K0 pb Qb nb Kb Gb sa cap L sf fl st) (st' : Bool) : LW w Q (W.setCell ⟨p, 5, none⟩ (.bool st')) p sc cc n0 K0 pb Qb nb Kb Gb sa cap L sf fl st' := h.cell (h.mem.cells.at (i := 5) (by simp))
/-- Its book does a deal. -/
theorem LW.deal (h : LW w Q W p sc cc n0 K0 pb Qb nb Kb Gb sa cap L sf fl st) {n' : Nat} {K' : Nat → Nat} {G' : Nat → Bool} (hd : PBdone bookP W W' (.pointer (some ⟨pb, 0, none⟩)) Qb n' K' G') : ∃ Qb', LW w Q W' p sc cc n0 K0 pb Qb' n' K' G' sa cap L sf fl st := by
  obtain ⟨hb, Qb', hk, hq⟩ := hd
  have hlt := fun i hi => h.mem.lt (i := i) hi
  have hz := h.but.size
  have ap : ∀ i, lq p (.slice sc n0 cc) (.slice sa L.length cap) (fun _ => False) i → ¬ Qb i := by
    rintro i (e | e | e | e) hi
    · exact (h.mem.ab i hi).1 e
    · exact (h.mem.ab i hi).2.1 e
    · exact (h.mem.ab i hi).2.2 e
    · exact e
  refine ⟨Qb', h.but.trans hb fun i hi e => ?_, ⟨h.mem.cells.but hb (ap p (Or.inl rfl)), own_but h.mem.coins hb (fun g hg => ap g (Or.inr (Or.inl hg))), own_but h.mem.laid hb (fun g hg => ap g (Or.inr (Or.inr (Or.inl hg)))), hk, h.mem.ac, h.mem.al, h.mem.acl, fun i hi => ?_⟩, fun i hi => ?_⟩
  · rcases h.inq i (Or.inr (Or.inr (Or.inr e))) with e2 | e2
    · exact e2
    · omega
  · rcases hq i hi with e | e
    · exact h.mem.ab i e
    · refine ⟨fun e2 => ?_, fun e2 => ?_, fun e2 => ?_⟩
      · have := hlt p (Or.inl rfl); omega
      · have := hlt i (Or.inr (Or.inl e2)); omega
      · have := hlt i (Or.inr (Or.inr (Or.inl e2))); omega
  · rcases hi with e | e | e | e
    · exact h.inq i (Or.inl e)
    · exact h.inq i (Or.inr (Or.inl e))
    · exact h.inq i (Or.inr (Or.inr (Or.inl e)))
    · rcases hq i e with e2 | e2
      · exact h.inq i (Or.inr (Or.inr (Or.inr e2)))
      · exact Or.inr (by omega)
/-- Its bytes grow, and are stored. -/
theorem LW.grow (h : LW w Q W p sc cc n0 K0 pb Qb nb Kb Gb sa cap L sf fl st) {sa' : Option Addr} {cap' : Nat} {L' : List Nat} (hg : W.grownBy W7 (Value.slice sa L.length cap).ownBlock) (ho : W7.ownsRow 0 5 1 (.slice sa' L'.length cap') L'.length (cellsU L')) (hat : (Value.slice sa' L'.length cap').ownBlock = (Value.slice sa L.length cap).ownBlock ∨ (Value.slice sa' L'.length cap').ownBlock = some W.heap.size) :
    LW w Q (W7.setCell ⟨p, 2, none⟩ (.slice sa' L'.length cap')) p sc cc n0 K0 pb Qb nb Kb Gb sa' cap' L' sf fl st := by
  have hb : But (fun i => (Value.slice sa L.length cap).ownBlock = some i) W W7 := (But.refl _ W).grown hg fun i hi => Or.inl hi
  have hs : But (fun i => i = p) W7 (W7.setCell ⟨p, 2, none⟩ (.slice sa' L'.length cap')) := (But.refl (fun i => i = p) W7).setCell (Or.inl rfl) _
  have hall : But (fun i => (Value.slice sa L.length cap).ownBlock = some i ∨ i = p) W (W7.setCell ⟨p, 2, none⟩ (.slice sa' L'.length cap')) := (hb.mono (F' := fun i => (Value.slice sa L.length cap).ownBlock = some i ∨ i = p) fun i _ e => Or.inl e).trans hs fun i _ e => Or.inr e
  have hlt := fun i hi => h.mem.lt (i := i) hi
  have hz := h.but.size
  have hnew : ∀ i, (Value.slice sa' L'.length cap').ownBlock = some i → (Value.slice sa L.length cap).ownBlock = some i ∨ W.heap.size ≤ i := fun i hi => by
    rcases hat with e | e
    · exact Or.inl (e ▸ hi)
    · rw [e] at hi; injection hi with hi; exact Or.inr (by omega)
  refine ⟨h.but.trans hall fun i hi e => ?_, ⟨(h.mem.cells.but hb h.mem.al).at (by simp), own_but h.mem.coins hall ?_, own_but ho hs ?_, bookP_ok.stay h.mem.book hall ?_, h.mem.ac, ?_, ?_, ?_⟩, ?_⟩
  · rcases e with e | e
    · rcases h.inq i (Or.inr (Or.inr (Or.inl e))) with e2 | e2
      · exact e2
      · omega
    · rcases h.inq i (Or.inl e) with e2 | e2
      · exact e2
      · omega
  · rintro g hg (e | e)
    · exact h.mem.acl g hg e
    · exact h.mem.ac (e ▸ hg)
  · rintro g hg rfl
    rcases hnew g hg with e | e
    · exact h.mem.al e
    · have := hlt g (Or.inl rfl); omega
  · rintro i hi (e | e)
    · exact (h.mem.ab i hi).2.2 e
    · exact (h.mem.ab i hi).1 e
  · intro e
    rcases hnew p e with e | e
    · exact h.mem.al e
    · have := hlt p (Or.inl rfl); omega
  · intro g hg e
    rcases hnew g e with e | e
    · exact h.mem.acl g hg e
    · have := hlt g (Or.inr (Or.inl hg)); omega
  · intro i hi
    refine ⟨(h.mem.ab i hi).1, (h.mem.ab i hi).2.1, fun e => ?_⟩
    rcases hnew i e with e | e
    · exact (h.mem.ab i hi).2.2 e
    · have := hlt i (Or.inr (Or.inr (Or.inr hi))); omega
  · rintro i (e | e | e | e)
    · exact h.inq i (Or.inl e)
    · exact h.inq i (Or.inr (Or.inl e))
    · rcases hnew i e with e | e
      · exact h.inq i (Or.inr (Or.inr (Or.inl e)))
      · exact Or.inr (by omega)
    · exact h.inq i (Or.inr (Or.inr (Or.inr e)))
/-- They are cut. -/
theorem LW.cut (h : LW w Q W p sc cc n0 K0 pb Qb nb Kb Gb sa cap L sf fl st) {k : Nat} (hk : k ≤ L.length) : LW w Q (W.setCell ⟨p, 2, none⟩ (.slice sa (L.take k).length cap)) p sc cc n0 K0 pb Qb nb Kb Gb sa cap (L.take k) sf fl st := by
  have hl : (L.take k).length = k := by rw [List.length_take]; omega
  have ho := own_first h.mem.laid hk
  rw [← hl] at ho
  have e2 : (L.take (L.take k).length) = L.take k := by rw [hl]
  rw [e2] at ho
  have hown : (Value.slice sa (L.take k).length cap).ownBlock = (Value.slice sa L.length cap).ownBlock := by cases sa <;> rfl
  exact h.grow (grown_same W _) ho (Or.inl hown)
/-- Its book comes anew. -/
theorem LW.rebook (h : LW w Q W p sc cc n0 K0 pb Qb nb Kb Gb sa cap L sf fl st) (hb : Below W.heap.size W W') {pb' n' : Nat} {K' : Nat → Nat} {G' : Nat → Bool} (hk : bookP W' (.pointer (some ⟨pb', 0, none⟩)) Qb' n' K' G') (hq : ∀ i, Qb' i → W.heap.size ≤ i) : LW w Q (W'.setCell ⟨p, 1, none⟩ (.pointer (some ⟨pb', 0, none⟩))) p sc cc n0 K0 pb' Qb' n' K' G' sa cap L sf fl st := by
  have h' := h.up hb
  have hs : But (fun i => i = p) W' (W'.setCell ⟨p, 1, none⟩ (.pointer (some ⟨pb', 0, none⟩))) := (But.refl (fun i => i = p) W').setCell (Or.inl rfl) _
  have hlt := fun i hi => h.mem.lt (i := i) hi
  have hz := h.but.size
  have hpl := hlt p (Or.inl rfl)
  refine ⟨h'.but.setCell (h.inq p (Or.inl rfl)) _, ⟨h'.mem.cells.at (i := 1) (by simp), own_but h'.mem.coins hs (fun g hg e => h.mem.ac (e ▸ hg)), own_but h'.mem.laid hs (fun g hg e => h.mem.al (e ▸ hg)), bookP_ok.stay hk hs (fun i hi e => by have := hq i hi; have : i = p := e; omega), h.mem.ac, h.mem.al, h.mem.acl, fun i hi => ⟨fun e => by have := hq i hi; omega, fun e => ?_, fun e => ?_⟩⟩, ?_⟩
  · have := hq i hi; have := hlt i (Or.inr (Or.inl e)); omega
  · have := hq i hi; have := hlt i (Or.inr (Or.inr (Or.inl e))); omega
  · rintro i (e | e | e | e)
    · exact h.inq i (Or.inl e)
    · exact h.inq i (Or.inr (Or.inl e))
    · exact h.inq i (Or.inr (Or.inr (Or.inl e)))
    · have := hq i e; exact Or.inr (by omega)
end
set_option maxRecDepth 100000 in
set_option maxHeartbeats 4000000 in
theorem lstep_no (p cc n0 pb nb cap sf : Nat) (sc sa : Option Addr) (K0 Kb : Nat → Nat) (Gb : Nat → Bool) (Qb : Nat → Prop) (L : List Nat) (fl : Int) (st : Bool) (w W : World) (Q : Nat → Prop) (h : LW w Q W p sc cc n0 K0 pb Qb nb Kb Gb sa cap L sf 0 st) : Calls Try.prog 41 #[.pointer (some ⟨p, 0, none⟩)] W fun e W' => e = .returned (errOf 6) ∧ LW w Q W' p sc cc n0 K0 pb Qb nb Kb Gb sa cap L sf 0 true ∧ But (fun i => i = p) W W' := by
  have H : Hid (LW w Q W p sc cc n0 K0 pb Qb nb Kb Gb sa cap L sf 0 st) := h
  obtain ⟨zW, c0W, c1W, c2W, c3W, c4W, c5W, f0W, f1W, f2W, f3W, f4W, f5W⟩ := h.mem.cells.six
  clear h
  go_enter Try.func41, Try.ntmps41
  go_wp2_with fail
  go_ret
  exact ⟨rfl, H.out.stop true, (But.refl (fun i => i = p) W).setCell (Or.inl rfl) _⟩
set_option maxRecDepth 100000 in
set_option maxHeartbeats 4000000 in
theorem lstep_yes (p cc n0 pb nb cap sf : Nat) (sc sa : Option Addr) (K0 Kb : Nat → Nat) (Gb : Nat → Bool) (Qb : Nat → Prop) (L : List Nat) (fl : Int) (st : Bool) (w W : World) (Q : Nat → Prop) (hf : (fl == 0) = false) (hw : -9223372036854775808 ≤ fl ∧ fl < 9223372036854775808) (h : LW w Q W p sc cc n0 K0 pb Qb nb Kb Gb sa cap L sf fl st) : Calls Try.prog 41 #[.pointer (some ⟨p, 0, none⟩)] W fun e W' => e = .returned .nilIface ∧ LW w Q W' p sc cc n0 K0 pb Qb nb Kb Gb sa cap L sf (bif decide (fl > 0) then fl - 1 else fl) st ∧ But (fun i => i = p) W W' := by
  have H : Hid (LW w Q W p sc cc n0 K0 pb Qb nb Kb Gb sa cap L sf fl st) := h
  obtain ⟨zW, c0W, c1W, c2W, c3W, c4W, c5W, f0W, f1W, f2W, f3W, f4W, f5W⟩ := h.mem.cells.six
  obtain ⟨hw1, hw2⟩ := hw
  clear h
  cases hg : decide (fl > 0) with
  | true =>
    have hg2 : fl > 0 := of_decide_eq_true hg
    clear hg
    go_enter Try.func41, Try.ntmps41
    go_wp2_with fail
    go_ret
    exact ⟨rfl, H.out.fail (fl - 1), (But.refl (fun i => i = p) W).setCell (Or.inl rfl) _⟩
  | false =>
    have hg2 : ¬ fl > 0 := of_decide_eq_false hg
    clear hg
    go_enter Try.func41, Try.ntmps41
    go_wp2_with fail
    go_ret
    exact ⟨rfl, H.out, But.refl _ _⟩
set_option maxRecDepth 100000 in
set_option maxHeartbeats 4000000 in
theorem lsync_stop (p cc n0 pb nb cap sf : Nat) (sc sa : Option Addr) (K0 Kb : Nat → Nat) (Gb : Nat → Bool) (Qb : Nat → Prop) (L : List Nat) (fl : Int) (st : Bool) (w W : World) (Q : Nat → Prop) (h : LW w Q W p sc cc n0 K0 pb Qb nb Kb Gb sa cap L sf fl true) : Calls Try.prog 14 #[.pointer (some ⟨p, 0, none⟩)] W fun e W' => e = .returned (errOf 6) ∧ LW w Q W' p sc cc n0 K0 pb Qb nb Kb Gb sa cap L sf fl true := by
  have H : Hid (LW w Q W p sc cc n0 K0 pb Qb nb Kb Gb sa cap L sf fl true) := h
  obtain ⟨zW, c0W, c1W, c2W, c3W, c4W, c5W, f0W, f1W, f2W, f3W, f4W, f5W⟩ := h.mem.cells.six
  clear h
  go_enter Try.func14, Try.ntmps14
  go_wp2_with fail
  go_ret
  exact ⟨rfl, H.out⟩
set_option maxRecDepth 100000 in
set_option maxHeartbeats 4000000 in
theorem lsync_no (p cc n0 pb nb cap sf : Nat) (sc sa : Option Addr) (K0 Kb : Nat → Nat) (Gb : Nat → Bool) (Qb : Nat → Prop) (L : List Nat) (fl : Int) (st : Bool) (w W : World) (Q : Nat → Prop) (h : LW w Q W p sc cc n0 K0 pb Qb nb Kb Gb sa cap L sf 0 false) : Calls Try.prog 14 #[.pointer (some ⟨p, 0, none⟩)] W fun e W' => e = .returned (errOf 6) ∧ LW w Q W' p sc cc n0 K0 pb Qb nb Kb Gb sa cap L sf 0 true := by
  have H : Hid (LW w Q W p sc cc n0 K0 pb Qb nb Kb Gb sa cap L sf 0 false) := h
  obtain ⟨zW, c0W, c1W, c2W, c3W, c4W, c5W, f0W, f1W, f2W, f3W, f4W, f5W⟩ := h.mem.cells.six
  clear h
  have m1 : True := trivial
  go_enter Try.func14, Try.ntmps14
  go_wp2_with (go_at_call 41; clear m1; refine (lstep_no p cc n0 pb nb cap sf sc sa K0 Kb Gb Qb L 0 false w W Q H.out).mono ?_; rintro e V ⟨rfl, hV, _⟩)
  go_ret
  exact ⟨rfl, hV⟩
set_option maxRecDepth 100000 in
set_option maxHeartbeats 4000000 in
theorem lsync_yes (p cc n0 pb nb cap sf : Nat) (sc sa : Option Addr) (K0 Kb : Nat → Nat) (Gb : Nat → Bool) (Qb : Nat → Prop) (L : List Nat) (fl : Int) (st : Bool) (w W : World) (Q : Nat → Prop) (hf : (fl == 0) = false) (hw : -9223372036854775808 ≤ fl ∧ fl < 9223372036854775808) (h : LW w Q W p sc cc n0 K0 pb Qb nb Kb Gb sa cap L sf fl false) : Calls Try.prog 14 #[.pointer (some ⟨p, 0, none⟩)] W fun e W' => e = .returned .nilIface ∧ LW w Q W' p sc cc n0 K0 pb Qb nb Kb Gb sa cap L L.length (bif decide (fl > 0) then fl - 1 else fl) false := by
  have HS : Hid (Calls Try.prog 41 #[.pointer (some ⟨p, 0, none⟩)] W fun e W' => e = .returned .nilIface ∧ LW w Q W' p sc cc n0 K0 pb Qb nb Kb Gb sa cap L sf (bif decide (fl > 0) then fl - 1 else fl) false ∧ But (fun i => i = p) W W') := lstep_yes p cc n0 pb nb cap sf sc sa K0 Kb Gb Qb L fl false w W Q hf hw h
  obtain ⟨zW, c0W, c1W, c2W, c3W, c4W, c5W, f0W, f1W, f2W, f3W, f4W, f5W⟩ := h.mem.cells.six
  clear h hf hw
  have m1 : True := trivial
  go_enter Try.func14, Try.ntmps14
  go_wp2_with (go_at_call 41; clear m1; refine HS.out.mono ?_; rintro e V ⟨rfl, hV, _⟩; have HV := (show Hid _ from hV); obtain ⟨zV, c0V, c1V, c2V, c3V, c4V, c5V, f0V, f1V, f2V, f3V, f4V, f5V⟩ := hV.mem.cells.six; clear hV)
  
  go_ret
  exact ⟨rfl, HV.out.safe _⟩
set_option maxRecDepth 100000 in
set_option maxHeartbeats 4000000 in
theorem llive_at (p cc n0 pb nb cap sf : Nat) (sc sa : Option Addr) (K0 Kb : Nat → Nat) (Gb : Nat → Bool) (Qb : Nat → Prop) (L : List Nat) (fl : Int) (st : Bool) (w : World) (hn : nb ≤ 1000) (h : LogMem w p sc cc n0 K0 pb Qb nb Kb Gb sa cap L sf fl st) : Calls Try.prog 19 #[.pointer (some ⟨p, 0, none⟩)] w fun ex w' => ∃ q, ex = .returned q ∧ w'.ownsRow w.heap.size 3 1 q (lvL Gb nb).length (lvC Gb nb) ∧ Below w.heap.size w w' := by
  have HB : Hid (Calls Try.prog 44 #[.pointer (some ⟨pb, 0, none⟩)] w fun ex w' => ∃ q, ex = .returned q ∧ w'.ownsRow w.heap.size 3 1 q (lvL Gb nb).length (lvC Gb nb) ∧ Below w.heap.size w w') := blive_is _ _ _ _ _ w hn h.book
  obtain ⟨zw, c0w, c1w, c2w, c3w, c4w, c5w, f0w, f1w, f2w, f3w, f4w, f5w⟩ := h.cells.six
  clear h
  go_enter Try.func19, Try.ntmps19
  go_wp2_with (go_at_call 44; refine HB.out.mono ?_; rintro e V ⟨q, rfl, h1, h2⟩)
  go_ret
  exact ⟨_, rfl, h1, h2⟩
set_option maxRecDepth 100000 in
set_option maxHeartbeats 4000000 in
theorem ltotal_at (p cc n0 pb nb cap sf : Nat) (sc sa : Option Addr) (K0 Kb : Nat → Nat) (Gb : Nat → Bool) (Qb : Nat → Prop) (L : List Nat) (fl : Int) (st : Bool) (w : World) (hn : nb ≤ 1000) (h : LogMem w p sc cc n0 K0 pb Qb nb Kb Gb sa cap L sf fl st) : Calls Try.prog 17 #[.pointer (some ⟨p, 0, none⟩)] w fun ex w' => ex = .returned (.agg #[.int .i64 ((tM (4 * ttN Kb Gb nb)).1 : Int), .int .i64 ((tM (4 * ttN Kb Gb nb)).2.1 : Int), .bool (tM (4 * ttN Kb Gb nb)).2.2]) ∧ Below w.heap.size w w' := by
  obtain ⟨T, hT⟩ : ∃ T, tM (4 * ttN Kb Gb nb) = T := ⟨_, rfl⟩
  have HB : Hid (∀ W, Below w.heap.size w W → Calls Try.prog 16 #[.pointer (some ⟨pb, 0, none⟩)] W fun ex w' => ex = .returned (.agg #[.int .i64 ((T).1 : Int), .int .i64 ((T).2.1 : Int), .bool (T).2.2]) ∧ Below W.heap.size W w') := fun W hW => by
    have := btotal_is _ _ _ _ _ W hn (bookP_ok.stay h.book (But.of_below (fun _ => False) hW) fun _ _ e => e)
    rwa [hT] at this
  obtain ⟨zw, c0w, c1w, c2w, c3w, c4w, c5w, f0w, f1w, f2w, f3w, f4w, f5w⟩ := h.cells.six
  rw [hT]
  clear h hT
  have m1 : True := trivial
  go_enter Try.func17, Try.ntmps17
  go_wp2_with (go_at_call 16; clear m1; refine (HB.out _ (by repeat (first | (with_reducible exact Below.refl _ _) | (with_reducible assumption) | (with_reducible refine Below.setCell ?_ (by first | (simp; done) | (simp; omega) | omega) _) | (with_reducible refine Below.alloc ?_ (by first | (simp; done) | (simp; omega) | omega) _) | (refine bl_call ?_ (by assumption) (by first | (simp; done) | (simp; omega) | omega)) | (with_reducible refine bl_drewN ?_) | (with_reducible refine Below.drew ?_) | (with_reducible refine bl_grow ?_ (by first | (simp; done) | (simp; omega) | omega))))).mono ?_; rintro e V ⟨rfl, hbV⟩; have krV : At V (w.heap.size) [.int .i64 0, .int .i64 0, .bool false] := (by repeat (first | (with_reducible assumption) | ((with_reducible refine at_new' _ _ _ _ ?_); (first | rfl | (simp; done))) | (with_reducible refine At.alloc ?_ _) | (with_reducible refine At.drew ?_) | (with_reducible refine At.drewN ?_) | (with_reducible refine At.set ?_ (by omega)) | (with_reducible apply At.store4) | (with_reducible apply At.store3) | (with_reducible apply At.store2) | (with_reducible apply At.put43) | (refine At.below ?_ (by with_reducible assumption)))); have hqV : Below w.heap.size w V := (by repeat (first | (with_reducible exact Below.refl _ _) | (with_reducible assumption) | (with_reducible refine Below.setCell ?_ (by first | (simp; done) | (simp; omega) | omega) _) | (with_reducible refine Below.alloc ?_ (by first | (simp; done) | (simp; omega) | omega) _) | (refine bl_call ?_ (by assumption) (by first | (simp; done) | (simp; omega) | omega)) | (with_reducible refine bl_drewN ?_) | (with_reducible refine Below.drew ?_) | (with_reducible refine bl_grow ?_ (by first | (simp; done) | (simp; omega) | omega)))); have hzV := hqV.size; obtain ⟨zrV, cr0V, cr1V, cr2V, fr0V, fr1V, fr2V⟩ := krV.three; clear hbV)
  
  exact bodyPost_ret (v := .agg #[.int .i64 ((T).1 : Int), .int .i64 ((T).2.1 : Int), .bool (T).2.2]) (by simp [results, Try.results17, go_sem, *]) rfl ⟨rfl, by repeat (first | (with_reducible exact Below.refl _ _) | (with_reducible assumption) | (with_reducible refine Below.setCell ?_ (by first | (simp; done) | (simp; omega) | omega) _) | (with_reducible refine Below.alloc ?_ (by first | (simp; done) | (simp; omega) | omega) _) | (refine bl_call ?_ (by assumption) (by first | (simp; done) | (simp; omega) | omega)) | (with_reducible refine bl_drewN ?_) | (with_reducible refine Below.drew ?_) | (with_reducible refine bl_grow ?_ (by first | (simp; done) | (simp; omega) | omega)))⟩
end Go.Proofs.Ytmijjjdedadklaj
/- LogWrite -/
namespace Go.Proofs.Ytmijjjdedadklaj
open Go.RowKit Go.Sort
set_option linter.unusedVariables false
set_option linter.unusedSimpArgs false
/-- Bytes that are written of a deal in block w.heap.size. -/
structure Wr (U : TypeId) (w : World) (D : List Value) (V : World) (v : Value) (L : List Nat) : Prop where
  own : V.ownsRow (w.heap.size + 1) U 1 v L.length (cellsU L)
  box : At V w.heap.size D
  below : Below w.heap.size w V
theorem Wr.turn {U : TypeId} {w V : World} {D : List Value} {v : Value} {L L' : List Nat} (h : Wr U w D V v L) (e : L = L') : Wr U w D V v L' := e ▸ h
theorem Wr.grew {U : TypeId} {w V V' : World} {D : List Value} {v v' : Value} {L L' : List Nat} (h : Wr U w D V v L) (g : Grew U (w.heap.size + 1) V V' v v' L') : Wr U w D V' v' L' :=
  ⟨g.own, h.box.but g.but (fun e => by have := (h.own.lt _ e).1; omega), But.under h.below g.but (fun k hk => by have := (h.own.lt _ hk).1; omega) h.below.size⟩
theorem Wr.up {U : TypeId} {w V V' : World} {D : List Value} {v : Value} {L : List Nat} (h : Wr U w D V v L) (g : Below V.heap.size V V') : Wr U w D V' v L :=
  ⟨own_stay h.own g, h.box.below g, h.below.trans (g.mono h.below.size)⟩
set_option maxRecDepth 100000 in
set_option maxHeartbeats 1000000 in
theorem lwritten (m c a s dz dl : Nat) (sz sl : Option Addr) (Z : Nat → Int) (J : Nat → Nat) (X Y : Nat → Int) (F : Nat → Bool) (w : World) (hm : m ≤ 1000) (hZ : ∀ i, i < m → 0 ≤ Z i ∧ Z i < 1000) (hc : c ≤ 12) (hs : s < 1013) (hz : m = 0 ∨ ∃ b o : Nat, sz = some ⟨b, o, none⟩ ∧ RowI w b o m Z) (hr : c = 0 ∨ ∃ b o : Nat, sl = some ⟨b, o, none⟩ ∧ RowO w b o c X Y F) (hK : isC X Y F J c) :
    Calls Try.prog 40 #[.agg #[.slice sz m dz, .slice sl c dl, .int .i64 ((tM a).1 : Int), .int .i64 ((tM a).2.1 : Int), .bool (tM a).2.2, .int .i64 (s : Int)]] w fun ex w' => ∃ v, ex = .returned v ∧ w'.ownsRow w.heap.size 5 1 v (recL ⟨m, Z, c, J, a, s⟩).length (cellsU (recL ⟨m, Z, c, J, a, s⟩)) ∧ Below w.heap.size w w' := by
  have HZ : Hid (m = 0 ∨ ∃ b o : Nat, sz = some ⟨b, o, none⟩ ∧ RowI w b o m Z) := hz
  have HZi : Hid (∀ i, i < m → 0 ≤ Z i ∧ Z i < 1000) := hZ
  have HR : Hid (c = 0 ∨ ∃ b o : Nat, sl = some ⟨b, o, none⟩ ∧ RowO w b o c X Y F) := hr
  have HK : Hid (isC X Y F J c) := hK
  have HLZ : Hid (∀ k, (bodyZ Z k).length = 2 * k) := bodyZ_len Z
  have HLK : Hid (∀ k, (bodyK J k).length ≤ 3 * k) := bodyK_le J
  have HLa : Hid ((spL a).length ≤ 3) := spL_le a
  clear hz hr hK hZ
  obtain ⟨i0, hi, hv0, hv1, hv2⟩ := info_parts luinfo
  have m1 : True := trivial; have m2 : True := trivial; have m3 : True := trivial; have m4 : True := trivial; have m5 : True := trivial; have m6 : True := trivial; have m7 : True := trivial; have m8 : True := trivial
  have HA : Wr 5 w [.slice sz m dz, .slice sl c dl, .int .i64 ((tM a).1 : Int), .int .i64 ((tM a).2.1 : Int), .bool (tM a).2.2, .int .i64 (s : Int)] (w.alloc (.cells #[.slice sz m dz, .slice sl c dl, .int .i64 ((tM a).1 : Int), .int .i64 ((tM a).2.1 : Int), .bool (tM a).2.2, .int .i64 (s : Int)] 44)) (.slice none 0 0) [] := ⟨World.ownsRow_nil _ _ _ _, at_new w [.slice sz m dz, .slice sl c dl, .int .i64 ((tM a).1 : Int), .int .i64 ((tM a).2.1 : Int), .bool (tM a).2.2, .int .i64 (s : Int)] _, (Below.refl _ w).alloc (Nat.le_refl _) _⟩
  obtain ⟨zdA, cd0A, cd1A, cd2A, cd3A, cd4A, cd5A, fd0A, fd1A, fd2A, fd3A, fd4A, fd5A⟩ := HA.box.six; have hzA := HA.below.size
  go_enter Try.func40, Try.ntmps40
  go_upto_region 3 with (go_at_call 64; clear m1; refine (lput_number (w.heap.size + 1) _ [] m _ (by omega) (by simp) (by have := HA.below.size; have := HA.box.1; omega) HA.own).mono ?_; rintro e B ⟨vB, rfl, hGB⟩; have HB : Wr 5 w [.slice sz m dz, .slice sl c dl, .int .i64 ((tM a).1 : Int), .int .i64 ((tM a).2.1 : Int), .bool (tM a).2.2, .int .i64 (s : Int)] B vB (nbL m) := (HA.grew hGB).turn (by simp [bodyZ, bodyK, List.append_assoc, *]); clear hGB; clear cd0A cd1A cd2A cd3A cd4A cd5A fd0A fd1A fd2A fd3A fd4A fd5A; obtain ⟨zdB, cd0B, cd1B, cd2B, cd3B, cd4B, cd5B, fd0B, fd1B, fd2B, fd3B, fd4B, fd5B⟩ := HB.box.six; have hzB := HB.below.size)
  
  go_wp2_with fail
  go_loopw [3, 16] (fun tv ti wl => ∃ k : Nat, k ≤ m ∧ ti = .int .i64 k ∧ Wr 5 w [.slice sz m dz, .slice sl c dl, .int .i64 ((tM a).1 : Int), .int .i64 ((tM a).2.1 : Int), .bool (tM a).2.2, .int .i64 (s : Int)] wl tv (nbL m ++ bodyZ Z k)) (fun _ ti _ => m - (intOf ti).toNat)
  case atStart => exact ⟨0, by omega, rfl, HB.turn (by simp [bodyZ])⟩
  case round =>
    clear HA HB hzA hzB zdA zdB
    clear cd0B cd1B cd2B cd3B cd4B cd5B fd0B fd1B fd2B fd3B fd4B fd5B
    obtain ⟨k, hk, rfl, HV⟩ := hrel
    rename World => V
    obtain ⟨zdV, cd0V, cd1V, cd2V, cd3V, cd4V, cd5V, fd0V, fd1V, fd2V, fd3V, fd4V, fd5V⟩ := HV.box.six; have hzV := HV.below.size
    have HLk : (nbL m ++ bodyZ Z k).length ≤ 1000000 := by rw [List.length_append, nbL_len, HLZ.out]; omega
    by_cases hlt : k < m
    · have hlt' : (k : Int) < m := by omega
      obtain ⟨b1, o1, rfl, hzr⟩ := HZ.out.resolve_left (by omega)
      obtain ⟨z, hz⟩ : ∃ z : Nat, Z k = (z : Int) := ⟨(Z k).toNat, by have := (HZi.out k hlt).1; omega⟩
      have hzl : z < 65536 := by have := (HZi.out k hlt).2; omega
      have c0 := (hzr.below hzr.1 HV.below).2 k hlt
      have hb1 := Nat.lt_of_lt_of_le hzr.1 hzV
      rw [hz] at c0
      have HT : Hid ((Z k).toNat = z) := by unfold Hid; omega
      clear hzr hz
      go_wp2_with (go_at_call 64; clear m2; refine (lput_number (w.heap.size + 1) _ (nbL m ++ bodyZ Z k) z _ hzl HLk (by have := HV.below.size; have := HV.box.1; omega) HV.own).mono ?_; rintro e C ⟨vC, rfl, hGC⟩; have HC : Wr 5 w [.slice (some ⟨b1, o1, none⟩) m dz, .slice sl c dl, .int .i64 ((tM a).1 : Int), .int .i64 ((tM a).2.1 : Int), .bool (tM a).2.2, .int .i64 (s : Int)] C vC (nbL m ++ bodyZ Z (k + 1)) := (HV.grew hGC).turn (by show _ = nbL m ++ (bodyZ Z k ++ nbL (Z k).toNat); rw [HT.out, List.append_assoc]); clear hGC; clear cd0V cd1V cd2V cd3V cd4V cd5V fd0V fd1V fd2V fd3V fd4V fd5V; obtain ⟨zdC, cd0C, cd1C, cd2C, cd3C, cd4C, cd5C, fd0C, fd1C, fd2C, fd3C, fd4C, fd5C⟩ := HC.box.six; have hzC := HC.below.size)
      
      go_roundw
      case rel => exact ⟨k + 1, by omega, by simp, HC⟩
      case measure => simp [intOf]; omega
    · have hlt' : ¬ (k : Int) < m := by omega
      obtain rfl : k = m := by omega
      
      go_upto_region 9 with (go_at_call 64; clear m3; refine (lput_number (w.heap.size + 1) _ (nbL k ++ bodyZ Z k) c _ (by omega) HLk (by have := HV.below.size; have := HV.box.1; omega) HV.own).mono ?_; rintro e C ⟨vC, rfl, hGC⟩; have HC : Wr 5 w [.slice sz k dz, .slice sl c dl, .int .i64 ((tM a).1 : Int), .int .i64 ((tM a).2.1 : Int), .bool (tM a).2.2, .int .i64 (s : Int)] C vC (nbL k ++ (bodyZ Z k ++ nbL c)) := (HV.grew hGC).turn (by simp [bodyZ, bodyK, List.append_assoc, *]); clear hGC; clear cd0V cd1V cd2V cd3V cd4V cd5V fd0V fd1V fd2V fd3V fd4V fd5V; obtain ⟨zdC, cd0C, cd1C, cd2C, cd3C, cd4C, cd5C, fd0C, fd1C, fd2C, fd3C, fd4C, fd5C⟩ := HC.box.six; have hzC := HC.below.size)
      go_wp2_with fail
      go_loopw [3, 32] (fun tv ti wl => ∃ j : Nat, j ≤ c ∧ ti = .int .i64 j ∧ Wr 5 w [.slice sz k dz, .slice sl c dl, .int .i64 ((tM a).1 : Int), .int .i64 ((tM a).2.1 : Int), .bool (tM a).2.2, .int .i64 (s : Int)] wl tv (nbL k ++ (bodyZ Z k ++ (nbL c ++ bodyK J j)))) (fun _ ti _ => c - (intOf ti).toNat)
      case atStart => exact ⟨0, by omega, rfl, HC.turn (by simp [bodyK])⟩
      case round =>
        clear HV HC hzC zdC hzV zdV
        clear cd0C cd1C cd2C cd3C cd4C cd5C fd0C fd1C fd2C fd3C fd4C fd5C
        obtain ⟨j, hj, rfl, HW⟩ := hrel
        rename World => W
        obtain ⟨zdW, cd0W, cd1W, cd2W, cd3W, cd4W, cd5W, fd0W, fd1W, fd2W, fd3W, fd4W, fd5W⟩ := HW.box.six; have hzW := HW.below.size
        have HLj : (nbL k ++ (bodyZ Z k ++ (nbL c ++ bodyK J j))).length ≤ 1000000 := by have := HLK.out j; simp only [List.length_append, nbL_len, HLZ.out]; omega
        by_cases hltj : j < c
        · have hltj' : (j : Int) < c := by omega
          obtain ⟨b2, o2, rfl, hrr⟩ := HR.out.resolve_left (by omega)
          obtain ⟨e1, e2, e3⟩ := HK.out j hltj
          obtain ⟨c0, c1, c2⟩ := (hrr.below hrr.1 HW.below).2 j hltj
          have hb2 := Nat.lt_of_lt_of_le hrr.1 hzW
          rw [e1] at c0
          rw [e2] at c1
          rw [e3] at c2
          clear hrr e1 e2 e3
          go_wp2_with (go_at_call 65; clear m4; refine (lput_spot (w.heap.size + 1) _ (nbL k ++ (bodyZ Z k ++ (nbL c ++ bodyK J j))) (4 * J j) _ HLj (by simp; omega) (HW.up ((Below.refl _ _).alloc (Nat.le_refl _) _)).own).mono ?_; rintro e E ⟨vE, rfl, hGE⟩; have HE : Wr 5 w [.slice sz k dz, .slice (some ⟨b2, o2, none⟩) c dl, .int .i64 ((tM a).1 : Int), .int .i64 ((tM a).2.1 : Int), .bool (tM a).2.2, .int .i64 (s : Int)] E vE (nbL k ++ (bodyZ Z k ++ (nbL c ++ bodyK J (j + 1)))) := ((HW.up ((Below.refl _ _).alloc (Nat.le_refl _) _)).grew hGE).turn (by show _ = nbL k ++ (bodyZ Z k ++ (nbL c ++ (bodyK J j ++ spL (4 * J j)))); simp only [List.append_assoc]); clear hGE; clear cd0W cd1W cd2W cd3W cd4W cd5W fd0W fd1W fd2W fd3W fd4W fd5W; obtain ⟨zdE, cd0E, cd1E, cd2E, cd3E, cd4E, cd5E, fd0E, fd1E, fd2E, fd3E, fd4E, fd5E⟩ := HE.box.six; have hzE := HE.below.size)
          
          go_roundw
          case rel => exact ⟨j + 1, by omega, by simp, HE⟩
          case measure => simp [intOf]; omega
        · have hltj' : ¬ (j : Int) < c := by omega
          obtain rfl : j = c := by omega
          have HLa2 : (nbL k ++ (bodyZ Z k ++ (nbL j ++ (bodyK J j ++ spL a)))).length ≤ 1000000 := by have := HLK.out j; have := HLa.out; simp only [List.length_append, nbL_len, HLZ.out]; omega
          go_upto_region 16 with (first | (go_at_call 65; clear m5; refine (lput_spot (w.heap.size + 1) _ (nbL k ++ (bodyZ Z k ++ (nbL j ++ bodyK J j))) a _ HLj (by have := HW.below.size; have := HW.box.1; omega) HW.own).mono ?_; rintro e E ⟨vE, rfl, hGE⟩; have HE : Wr 5 w [.slice sz k dz, .slice sl j dl, .int .i64 ((tM a).1 : Int), .int .i64 ((tM a).2.1 : Int), .bool (tM a).2.2, .int .i64 (s : Int)] E vE (nbL k ++ (bodyZ Z k ++ (nbL j ++ (bodyK J j ++ spL a)))) := (HW.grew hGE).turn (by simp only [List.append_assoc]); clear hGE; clear cd0W cd1W cd2W cd3W cd4W cd5W fd0W fd1W fd2W fd3W fd4W fd5W; obtain ⟨zdE, cd0E, cd1E, cd2E, cd3E, cd4E, cd5E, fd0E, fd1E, fd2E, fd3E, fd4E, fd5E⟩ := HE.box.six; have hzE := HE.below.size) | (go_at_call 64; clear m6; refine (lput_number (w.heap.size + 1) _ (nbL k ++ (bodyZ Z k ++ (nbL j ++ (bodyK J j ++ spL a)))) s _ (by omega) HLa2 (by have := HE.below.size; have := HE.box.1; omega) HE.own).mono ?_; rintro e G ⟨vG, rfl, hGG⟩; have HG : Wr 5 w [.slice sz k dz, .slice sl j dl, .int .i64 ((tM a).1 : Int), .int .i64 ((tM a).2.1 : Int), .bool (tM a).2.2, .int .i64 (s : Int)] G vG (bodyL ⟨k, Z, j, J, a, s⟩) := (HE.grew hGG).turn (by unfold bodyL; simp only [List.append_assoc]); clear hGG; clear cd0E cd1E cd2E cd3E cd4E cd5E fd0E fd1E fd2E fd3E fd4E fd5E; obtain ⟨zdG, cd0G, cd1G, cd2G, cd3G, cd4G, cd5G, fd0G, fd1G, fd2G, fd3G, fd4G, fd5G⟩ := HG.box.six; have hzG := HG.below.size))
          
          have hLn : (bodyL ⟨k, Z, j, J, a, s⟩).length ≤ 2045 := bodyL_le ⟨hm, HZi.out, hc, hs⟩
          have hLp : 6 ≤ (bodyL ⟨k, Z, j, J, a, s⟩).length := by rw [bodyL_len]; omega
          have HE2 : Hid (recL ⟨k, Z, j, J, a, s⟩ = nbL (bodyL ⟨k, Z, j, J, a, s⟩).length ++ bodyL ⟨k, Z, j, J, a, s⟩) := rfl
          have HEl : Hid ((recL ⟨k, Z, j, J, a, s⟩).length = 2 + (bodyL ⟨k, Z, j, J, a, s⟩).length) := by unfold Hid; rw [recL_len]; omega
          generalize bodyL ⟨k, Z, j, J, a, s⟩ = L at HG hLn hLp HE2 HEl
          obtain ⟨n, hn⟩ : ∃ n, L.length = n := ⟨_, rfl⟩
          have HO : Wr 5 w [.slice sz k dz, .slice sl j dl, .int .i64 ((tM a).1 : Int), .int .i64 ((tM a).2.1 : Int), .bool (tM a).2.2, .int .i64 (s : Int)] G vG (L) := HG
          obtain ⟨sg, cg, rfl, e1, hgc, hgs⟩ := own_bytes HG.own
          have hne : L ≠ [] := by intro e; rw [e] at hLp; simp at hLp
          rcases hgs with ⟨_, e2, _⟩ | ⟨g, rfl, _, hgg, hgr⟩
          · omega
          have HOw : Hid (G.ownsRow (w.heap.size + 1) 5 1 (.slice (some ⟨g, 0, none⟩) L.length cg) L.length (cellsU L)) := HO.own
          have HBw : Hid (Below w.heap.size w G) := HO.below
          clear HG hgr e1
          clear cd0G cd1G cd2G cd3G cd4G cd5G fd0G fd1G fd2G fd3G fd4G fd5G
          have HN : Hid (L.length = n) := hn
          rw [hn] at hLn hLp hgc HOw HEl ⊢
          clear hn HO
          have HP := lput_number (w.heap.size + 1) (.slice none 0 0) [] n G (by omega) (by simp) (by omega) (World.ownsRow_nil _ _ _ _)
          go_wp2_with (first | (go_at_call 64; clear m7; refine HP.mono ?_; rintro e I ⟨vI, rfl, hGI⟩; have HI1 : Hid (I.ownsRow (w.heap.size + 1) 5 1 vI 2 (cellsU (nbL n))) := hGI.own; have HIb : Hid (Below G.heap.size G I) := ⟨hGI.but.os, hGI.but.tape, hGI.but.output, hGI.but.size, fun q hq => hGI.but.block q hq (fun e => by simp [Value.ownBlock] at e)⟩; have hzI := hGI.but.size; clear hGI HP) | (at_builtin; refine wpList_append_own_at _ rfl _ _ 72 rfl (w.heap.size + 1) 5 i0 (.int .u8 0) 1 1 Try.underlying72 hi hv0 hv1 hv2 rfl (by decide) _ _ _ rfl HI1.out ⟨g, 0, none⟩ n cg (cellsU L) rfl ?c0 ?c1 ?c2 ?c3 ?c4 ?c5 ?_))
          
          case c0 => rw [cellsU_len, HN.out]; omega
          case c1 => exact (own_stay HOw.out HIb.out).cells rfl
          case c2 => exact cellsU_one L
          case c3 => unfold maxLen; omega
          case c4 => omega
          case c5 => omega
          intro v' w9 hown hgrow _ hat
          have hq9 : Below w.heap.size w w9 := (HBw.out.trans (HIb.out.mono (by omega))).grown hgrow (by omega) (fun q hq => by have := (HI1.out.lt q hq).1; omega)
          have hown9 : w9.ownsRow w.heap.size 5 1 v' (recL ⟨k, Z, j, J, a, s⟩).length (cellsU (recL ⟨k, Z, j, J, a, s⟩)) := by
            rw [HEl.out, HE2.out, HN.out, cellsU_app]
            exact own_base hown (by omega)
          clear hown hgrow hat
          go_wp2_with fail
          go_ret
          exact ⟨_, rfl, hown9, hq9⟩
end Go.Proofs.Ytmijjjdedadklaj
/- LogDo -/
namespace Go.Proofs.Ytmijjjdedadklaj
open Go.RowKit Go.Sort
set_option linter.unusedVariables false
set_option linter.unusedSimpArgs false
set_option maxRecDepth 100000 in
set_option maxHeartbeats 4000000 in
theorem ldo_stop (p cc n0 pb nb cap sf : Nat) (sc sa : Option Addr) (K0 Kb : Nat → Nat) (Gb : Nat → Bool) (Qb : Nat → Prop) (L : List Nat) (fl : Int) (st : Bool) (m c d dz : Nat) (sz sl : Option Addr) (rx ry S : Int) (rf : Bool) (w : World) (Q : Nat → Prop) (h : LW w Q w p sc cc n0 K0 pb Qb nb Kb Gb sa cap L sf fl true) : Calls Try.prog 13 #[.pointer (some ⟨p, 0, none⟩), .agg #[.slice sz m dz, .slice sl c d, .int .i64 rx, .int .i64 ry, .bool rf, .int .i64 S]] w fun e W' => e = .returned (errOf 6) ∧ LW w Q W' p sc cc n0 K0 pb Qb nb Kb Gb sa cap L sf fl true := by
  have H : Hid (LW w Q w p sc cc n0 K0 pb Qb nb Kb Gb sa cap L sf fl true) := h
  obtain ⟨zw, c0w, c1w, c2w, c3w, c4w, c5w, f0w, f1w, f2w, f3w, f4w, f5w⟩ := h.mem.cells.six
  clear h
  go_enter Try.func13, Try.ntmps13
  go_wp2_with fail
  go_ret
  exact ⟨rfl, H.out.up (by repeat (first | (with_reducible exact Below.refl _ _) | (with_reducible assumption) | (with_reducible refine Below.setCell ?_ (by first | (simp; done) | (simp; omega) | omega) _) | (with_reducible refine Below.alloc ?_ (by first | (simp; done) | (simp; omega) | omega) _) | (refine bl_call ?_ (by assumption) (by first | (simp; done) | (simp; omega) | omega)) | (with_reducible refine bl_drewN ?_) | (with_reducible refine Below.drew ?_) | (with_reducible refine bl_grow ?_ (by first | (simp; done) | (simp; omega) | omega))))⟩
set_option maxRecDepth 100000 in
set_option maxHeartbeats 4000000 in
theorem ldo_refuse (p cc n0 pb nb cap sf : Nat) (sc sa : Option Addr) (K0 Kb : Nat → Nat) (Gb : Nat → Bool) (Qb : Nat → Prop) (L : List Nat) (fl : Int) (st : Bool) (m c d dz : Nat) (sz sl : Option Addr) (rx ry S q : Int) (rf : Bool) (w : World) (Q : Nat → Prop) (h : LW w Q w p sc cc n0 K0 pb Qb nb Kb Gb sa cap L sf fl false) (hd : ∀ W, Below w.heap.size w W → Calls Try.prog 12 #[.pointer (some ⟨pb, 0, none⟩), .agg #[.slice sz m dz, .slice sl c d, .int .i64 rx, .int .i64 ry, .bool rf, .int .i64 S]] W fun e w' => e = .returned (errOf q) ∧ Below W.heap.size W w') : Calls Try.prog 13 #[.pointer (some ⟨p, 0, none⟩), .agg #[.slice sz m dz, .slice sl c d, .int .i64 rx, .int .i64 ry, .bool rf, .int .i64 S]] w fun e W' => e = .returned (errOf q) ∧ LW w Q W' p sc cc n0 K0 pb Qb nb Kb Gb sa cap L sf fl false := by
  have H : Hid (LW w Q w p sc cc n0 K0 pb Qb nb Kb Gb sa cap L sf fl false) := h
  have HD : Hid (∀ W, Below w.heap.size w W → Calls Try.prog 12 #[.pointer (some ⟨pb, 0, none⟩), .agg #[.slice sz m dz, .slice sl c d, .int .i64 rx, .int .i64 ry, .bool rf, .int .i64 S]] W fun e w' => e = .returned (errOf q) ∧ Below W.heap.size W w') := hd
  obtain ⟨zw, c0w, c1w, c2w, c3w, c4w, c5w, f0w, f1w, f2w, f3w, f4w, f5w⟩ := h.mem.cells.six
  clear h hd
  go_enter Try.func13, Try.ntmps13
  go_upto_region 3 with fail
  go_region_law ((go_simp); (go_at_call 12; refine (HD.out _ (by repeat (first | (with_reducible exact Below.refl _ _) | (with_reducible assumption) | (with_reducible refine Below.setCell ?_ (by first | (simp; done) | (simp; omega) | omega) _) | (with_reducible refine Below.alloc ?_ (by first | (simp; done) | (simp; omega) | omega) _) | (refine bl_call ?_ (by assumption) (by first | (simp; done) | (simp; omega) | omega)) | (with_reducible refine bl_drewN ?_) | (with_reducible refine Below.drew ?_) | (with_reducible refine bl_grow ?_ (by first | (simp; done) | (simp; omega) | omega))))).mono ?_; rintro e V ⟨rfl, hb⟩; have hqV : Below w.heap.size w V := (by repeat (first | (with_reducible exact Below.refl _ _) | (with_reducible assumption) | (with_reducible refine Below.setCell ?_ (by first | (simp; done) | (simp; omega) | omega) _) | (with_reducible refine Below.alloc ?_ (by first | (simp; done) | (simp; omega) | omega) _) | (refine bl_call ?_ (by assumption) (by first | (simp; done) | (simp; omega) | omega)) | (with_reducible refine bl_drewN ?_) | (with_reducible refine Below.drew ?_) | (with_reducible refine bl_grow ?_ (by first | (simp; done) | (simp; omega) | omega)))); clear c0w c1w c2w c3w c4w c5w f0w f1w f2w f3w f4w f5w; clear hb); (go_wp2_with fail))
  
  all_goals (
  go_wp2_with fail
  go_ret
  exact ⟨rfl, H.out.up hqV⟩)
set_option maxRecDepth 100000 in
set_option maxHeartbeats 4000000 in
theorem ldo_done (p cc n0 pb nb cap sf : Nat) (sc sa : Option Addr) (K0 Kb : Nat → Nat) (Gb : Nat → Bool) (Qb : Nat → Prop) (L : List Nat) (fl : Int) (st : Bool) (m c a s d dz n' : Nat) (sz sl : Option Addr) (Z : Nat → Int) (J : Nat → Nat) (X Y : Nat → Int) (F : Nat → Bool) (K' : Nat → Nat) (G' : Nat → Bool) (w : World) (Q : Nat → Prop) (hI : RecIn ⟨m, Z, c, J, a, s⟩) (hLb : L.length ≤ 100000000) (hz : m = 0 ∨ ∃ b o : Nat, sz = some ⟨b, o, none⟩ ∧ ¬ Q b ∧ RowI w b o m Z) (hr : c = 0 ∨ ∃ b o : Nat, sl = some ⟨b, o, none⟩ ∧ ¬ Q b ∧ RowO w b o c X Y F) (hK : isC X Y F J c) (hd : ∀ W, Below w.heap.size w W → Calls Try.prog 12 #[.pointer (some ⟨pb, 0, none⟩), .agg #[.slice sz m dz, .slice sl c d, .int .i64 ((tM a).1 : Int), .int .i64 ((tM a).2.1 : Int), .bool (tM a).2.2, .int .i64 (s : Int)]] W fun e w' => e = .returned .nilIface ∧ PBdone bookP W w' (.pointer (some ⟨pb, 0, none⟩)) Qb n' K' G') (hf : (fl == 0) = false) (hw : -9223372036854775808 ≤ fl ∧ fl < 9223372036854775808) (h : LW w Q w p sc cc n0 K0 pb Qb nb Kb Gb sa cap L sf fl false) : Calls Try.prog 13 #[.pointer (some ⟨p, 0, none⟩), .agg #[.slice sz m dz, .slice sl c d, .int .i64 ((tM a).1 : Int), .int .i64 ((tM a).2.1 : Int), .bool (tM a).2.2, .int .i64 (s : Int)]] w fun e W' => e = .returned .nilIface ∧ ∃ Qv sa' cap', LW w Q W' p sc cc n0 K0 pb Qv n' K' G' sa' cap' (L ++ (recL ⟨m, Z, c, J, a, s⟩)) sf (bif decide (fl > 0) then fl - 1 else fl) false := by
  obtain ⟨i0, hi, hv0, hv1, hv2⟩ := info_parts luinfo
  have HS : Hid (∀ W Qv, LW w Q W p sc cc n0 K0 pb Qv n' K' G' sa cap L sf fl false → Calls Try.prog 41 #[.pointer (some ⟨p, 0, none⟩)] W fun e W' => e = .returned .nilIface ∧ LW w Q W' p sc cc n0 K0 pb Qv n' K' G' sa cap L sf (bif decide (fl > 0) then fl - 1 else fl) false ∧ But (fun i => i = p) W W') := fun W Qv h => lstep_yes p cc n0 pb n' cap sf sc sa K0 K' G' Qv L fl false w W Q hf hw h
  clear hf hw
  have H : Hid (LW w Q w p sc cc n0 K0 pb Qb nb Kb Gb sa cap L sf fl false) := h
  have HD : Hid (∀ W, Below w.heap.size w W → Calls Try.prog 12 #[.pointer (some ⟨pb, 0, none⟩), .agg #[.slice sz m dz, .slice sl c d, .int .i64 ((tM a).1 : Int), .int .i64 ((tM a).2.1 : Int), .bool (tM a).2.2, .int .i64 (s : Int)]] W fun e w' => e = .returned .nilIface ∧ PBdone bookP W w' (.pointer (some ⟨pb, 0, none⟩)) Qb n' K' G') := hd
  have HW : Hid (∀ W, But Q w W → Calls Try.prog 40 #[.agg #[.slice sz m dz, .slice sl c d, .int .i64 ((tM a).1 : Int), .int .i64 ((tM a).2.1 : Int), .bool (tM a).2.2, .int .i64 (s : Int)]] W fun ex w' => ∃ v, ex = .returned v ∧ w'.ownsRow W.heap.size 5 1 v (recL ⟨m, Z, c, J, a, s⟩).length (cellsU (recL ⟨m, Z, c, J, a, s⟩)) ∧ Below W.heap.size W w') := fun W hW => lwritten m c a s dz d sz sl Z J X Y F W hI.m hI.z hI.c hI.s (hz.imp_right fun ⟨b, o, e, hb, r⟩ => ⟨b, o, e, r.but hW hb⟩) (hr.imp_right fun ⟨b, o, e, hb, r⟩ => ⟨b, o, e, r.but hW hb⟩) hK
  have HRl : Hid ((recL ⟨m, Z, c, J, a, s⟩).length ≤ 2047) := by have := bodyL_le hI; unfold Hid; rw [recL_len]; omega
  have HRg : Hid (9 ≤ (recL ⟨m, Z, c, J, a, s⟩).length) := recL_ge _
  have HQ : Hid (¬ Qb w.heap.size) := fun e => by have := h.mem.lt (Or.inr (Or.inr (Or.inr e))); omega
  obtain ⟨zw, c0w, c1w, c2w, c3w, c4w, c5w, f0w, f1w, f2w, f3w, f4w, f5w⟩ := h.mem.cells.six
  clear hz hr hK hd h hI
  go_enter Try.func13, Try.ntmps13
  go_upto_region 3 with fail
  go_region_law ((go_simp); (go_at_call 12; refine (HD.out _ (by repeat (first | (with_reducible exact Below.refl _ _) | (with_reducible assumption) | (with_reducible refine Below.setCell ?_ (by first | (simp; done) | (simp; omega) | omega) _) | (with_reducible refine Below.alloc ?_ (by first | (simp; done) | (simp; omega) | omega) _) | (refine bl_call ?_ (by assumption) (by first | (simp; done) | (simp; omega) | omega)) | (with_reducible refine bl_drewN ?_) | (with_reducible refine Below.drew ?_) | (with_reducible refine bl_grow ?_ (by first | (simp; done) | (simp; omega) | omega))))).mono ?_; rintro e V ⟨rfl, hD⟩; have kd0 : At V w.heap.size [.slice sz m dz, .slice sl c d, .int .i64 ((tM a).1 : Int), .int .i64 ((tM a).2.1 : Int), .bool (tM a).2.2, .int .i64 (s : Int)] := At.but (by repeat (first | (with_reducible assumption) | ((with_reducible refine at_new' _ _ _ _ ?_); (first | rfl | (simp; done))) | (with_reducible refine At.alloc ?_ _) | (with_reducible refine At.drew ?_) | (with_reducible refine At.drewN ?_) | (with_reducible refine At.set ?_ (by omega)) | (with_reducible apply At.store4) | (with_reducible apply At.store3) | (with_reducible apply At.store2) | (with_reducible apply At.put43) | (refine At.below ?_ (by with_reducible assumption)))) hD.1 HQ.out; obtain ⟨Qv, hV⟩ := (H.out.up (by repeat (first | (with_reducible exact Below.refl _ _) | (with_reducible assumption) | (with_reducible refine Below.setCell ?_ (by first | (simp; done) | (simp; omega) | omega) _) | (with_reducible refine Below.alloc ?_ (by first | (simp; done) | (simp; omega) | omega) _) | (refine bl_call ?_ (by assumption) (by first | (simp; done) | (simp; omega) | omega)) | (with_reducible refine bl_drewN ?_) | (with_reducible refine Below.drew ?_) | (with_reducible refine bl_grow ?_ (by first | (simp; done) | (simp; omega) | omega))))).deal hD; have HV : Hid (LW w Q V p sc cc n0 K0 pb Qv n' K' G' sa cap L sf fl false) := hV; clear c0w c1w c2w c3w c4w c5w f0w f1w f2w f3w f4w f5w; obtain ⟨zV, c0V, c1V, c2V, c3V, c4V, c5V, f0V, f1V, f2V, f3V, f4V, f5V⟩ := hV.mem.cells.six; obtain ⟨zdV, cd0V, cd1V, cd2V, cd3V, cd4V, cd5V, fd0V, fd1V, fd2V, fd3V, fd4V, fd5V⟩ := kd0.six; clear hD hV kd0); (go_wp2_with fail))
  
  all_goals (
  go_wp2_with (first | (go_at_call 40; go_loud (refine (HW.out _ HV.out.but).mono ?_; rintro e U ⟨vr, rfl, hoU, hbU⟩; have HU0 := HV.out.up hbU; have HU : Hid (But Q w U → True) := fun _ => trivial; obtain ⟨sr, cr, rfl, hrow⟩ := own_slice hoU; obtain ⟨g, rfl, hgo, hg1, hg2⟩ := hrow.resolve_left (by have := HRg.out; omega); have HO : Hid (U.ownsRow V.heap.size 5 1 (.slice (some ⟨g, 0, none⟩) (recL ⟨m, Z, c, J, a, s⟩).length cr) (recL ⟨m, Z, c, J, a, s⟩).length (cellsU (recL ⟨m, Z, c, J, a, s⟩))) := hoU; clear c0V c1V c2V c3V c4V c5V f0V f1V f2V f3V f4V f5V; clear cd0V cd1V cd2V cd3V cd4V cd5V fd0V fd1V fd2V fd3V fd4V fd5V; obtain ⟨zU, c0U, c1U, c2U, c3U, c4U, c5U, f0U, f1U, f2U, f3U, f4U, f5U⟩ := HU0.mem.cells.six; have hzU := hbU.size; have hpU := HV.out.mem.lt (i := p) (Or.inl rfl); clear hoU hrow hbU)) | (go_at_call 41; go_loud (refine (HS.out _ _ HU0).mono ?_; rintro e T ⟨rfl, hT, hbT⟩; have HT0 := hT; have HO2 : Hid (T.ownsRow V.heap.size 5 1 (.slice (some ⟨g, 0, none⟩) (recL ⟨m, Z, c, J, a, s⟩).length cr) (recL ⟨m, Z, c, J, a, s⟩).length (cellsU (recL ⟨m, Z, c, J, a, s⟩))) := own_but HO.out hbT (fun q hq => by have := (HO.out.lt q hq).1; show ¬ (_ = _); omega); clear c0U c1U c2U c3U c4U c5U f0U f1U f2U f3U f4U f5U; obtain ⟨zT, c0T, c1T, c2T, c3T, c4T, c5T, f0T, f1T, f2T, f3T, f4T, f5T⟩ := hT.mem.cells.six; have hlT := hT.mem.laid; clear hT hbT)) | (at_builtin; refine wpList_append_own_at _ rfl _ _ 72 rfl 0 5 i0 (.int .u8 0) 1 1 Try.underlying72 hi hv0 hv1 hv2 rfl (by decide) _ _ _ rfl hlT ⟨g, 0, none⟩ (recL ⟨m, Z, c, J, a, s⟩).length cr (cellsU (recL ⟨m, Z, c, J, a, s⟩)) rfl ?c0 ?c1 ?c2 ?c3 ?c4 ?c5 ?_))
  
  case c0 => rw [cellsU_len]; omega
  case c1 => exact HO2.out.cells rfl
  case c2 => exact cellsU_one _
  case c3 => have := HRl.out; unfold maxLen; omega
  case c4 => have := HRl.out; omega
  case c5 => omega
  intro v' w9 hown hgrow _ hat
  obtain ⟨L9, hL9⟩ : ∃ L9, L ++ (recL ⟨m, Z, c, J, a, s⟩) = L9 := ⟨_, rfl⟩
  rw [← cellsU_app, ← List.length_append, hL9] at hown
  obtain ⟨sa', cap', rfl, _⟩ := own_slice hown
  have kp9 := At.grown HT0.mem.cells hgrow HT0.mem.al
  clear c0T c1T c2T c3T c4T c5T f0T f1T f2T f3T f4T f5T
  obtain ⟨z9, c09, c19, c29, c39, c49, c59, f09, f19, f29, f39, f49, f59⟩ := kp9.six
  have hL := HT0.grow hgrow hown hat
  clear hown hgrow hat kp9 hlT
  go_wp2_with fail
  go_ret
  subst hL9
  exact ⟨rfl, _, _, _, hL⟩)
set_option maxRecDepth 100000 in
set_option maxHeartbeats 4000000 in
theorem ldo_halt (p cc pb nb cap sf : Nat) (sc sa : Option Addr) (Kb : Nat → Nat) (Gb : Nat → Bool) (Qb : Nat → Prop) (L : List Nat) (fl : Int) (st : Bool) (r : Nat) (n : Nat → Nat) (K : Nat → Nat → Nat) (G : Nat → Nat → Bool) (dd : Nat → Rec) (m c a s d dz n' : Nat) (sz sl : Option Addr) (Z : Nat → Int) (J : Nat → Nat) (X Y : Nat → Int) (F : Nat → Bool) (K' : Nat → Nat) (G' : Nat → Bool) (w : World) (Q : Nat → Prop) (hI : RecIn ⟨m, Z, c, J, a, s⟩) (hLb : L.length ≤ 100000000) (hz : m = 0 ∨ ∃ b o : Nat, sz = some ⟨b, o, none⟩ ∧ ¬ Q b ∧ RowI w b o m Z) (hr : c = 0 ∨ ∃ b o : Nat, sl = some ⟨b, o, none⟩ ∧ ¬ Q b ∧ RowO w b o c X Y F) (hK : isC X Y F J c) (hd : ∀ W, Below w.heap.size w W → Calls Try.prog 12 #[.pointer (some ⟨pb, 0, none⟩), .agg #[.slice sz m dz, .slice sl c d, .int .i64 ((tM a).1 : Int), .int .i64 ((tM a).2.1 : Int), .bool (tM a).2.2, .int .i64 (s : Int)]] W fun e w' => e = .returned .nilIface ∧ PBdone bookP W w' (.pointer (some ⟨pb, 0, none⟩)) Qb n' K' G') (hn0 : n 0 ≤ 12) (hG0 : G 0 = fun _ => false) (hWh : Whole dd r (L ++ ((recL ⟨m, Z, c, J, a, s⟩).take ((recL ⟨m, Z, c, J, a, s⟩).length / 2)))) (hch : ∀ i, i < r → RecOk (n i) (K i) (G i) (dd i) (n (i + 1)) (K (i + 1)) (G (i + 1))) (h : LW w Q w p sc cc (n 0) (K 0) pb Qb nb Kb Gb sa cap L sf 0 false) : Calls Try.prog 13 #[.pointer (some ⟨p, 0, none⟩), .agg #[.slice sz m dz, .slice sl c d, .int .i64 ((tM a).1 : Int), .int .i64 ((tM a).2.1 : Int), .bool (tM a).2.2, .int .i64 (s : Int)]] w fun e W' => e = .returned (errOf 6) ∧ ∃ pv Qv sa' cap', LW w Q W' p sc cc (n 0) (K 0) pv Qv (n r) (K r) (G r) sa' cap' (L ++ ((recL ⟨m, Z, c, J, a, s⟩).take ((recL ⟨m, Z, c, J, a, s⟩).length / 2))) sf 0 true := by
  obtain ⟨i0, hi, hv0, hv1, hv2⟩ := info_parts luinfo
  have HS : Hid (∀ W Qv, LW w Q W p sc cc (n 0) (K 0) pb Qv n' K' G' sa cap L sf 0 false → Calls Try.prog 41 #[.pointer (some ⟨p, 0, none⟩)] W fun e W' => e = .returned (errOf 6) ∧ LW w Q W' p sc cc (n 0) (K 0) pb Qv n' K' G' sa cap L sf 0 true ∧ But (fun i => i = p) W W') := fun W Qv h => lstep_no p cc (n 0) pb n' cap sf sc sa (K 0) K' G' Qv L 0 false w W Q h
  have HRP : Hid (∀ O sa' cap' Qv, LW w Q O p sc cc (n 0) (K 0) pb Qv n' K' G' sa' cap' (L ++ ((recL ⟨m, Z, c, J, a, s⟩).take ((recL ⟨m, Z, c, J, a, s⟩).length / 2))) sf 0 true → Calls Try.prog 42 #[.pointer (some ⟨p, 0, none⟩)] O fun e w' => ∃ pv Q', e = .returned (.tuple #[.pointer (some ⟨pv, 0, none⟩), .int .i64 ((catN dd r : Nat) : Int)]) ∧ bookP w' (.pointer (some ⟨pv, 0, none⟩)) Q' (n r) (K r) (G r) ∧ (∀ i, Q' i → O.heap.size ≤ i) ∧ Below O.heap.size O w') := fun O sa' cap' Qv hO => by
    refine (lreplay p r cap' cc n K G dd (L ++ ((recL ⟨m, Z, c, J, a, s⟩).take ((recL ⟨m, Z, c, J, a, s⟩).length / 2))) sc sa' _ _ _ _ O hO.mem.cells hn0 hG0 hO.mem.coins hO.mem.laid ?_ hWh hch).mono ?_
    · have := bodyL_le hI
      rw [List.length_append, List.length_take, recL_len]; omega
    · rintro e w' ⟨v, Q', rfl, h1, h2, h3⟩
      have h1' := h1
      obtain ⟨pv, u, rfl, _, _⟩ := h1'
      exact ⟨pv, Q', rfl, h1, h2, h3⟩
  clear hn0 hG0 hWh hch
  have H : Hid (LW w Q w p sc cc (n 0) (K 0) pb Qb nb Kb Gb sa cap L sf 0 false) := h
  have HD : Hid (∀ W, Below w.heap.size w W → Calls Try.prog 12 #[.pointer (some ⟨pb, 0, none⟩), .agg #[.slice sz m dz, .slice sl c d, .int .i64 ((tM a).1 : Int), .int .i64 ((tM a).2.1 : Int), .bool (tM a).2.2, .int .i64 (s : Int)]] W fun e w' => e = .returned .nilIface ∧ PBdone bookP W w' (.pointer (some ⟨pb, 0, none⟩)) Qb n' K' G') := hd
  have HW : Hid (∀ W, But Q w W → Calls Try.prog 40 #[.agg #[.slice sz m dz, .slice sl c d, .int .i64 ((tM a).1 : Int), .int .i64 ((tM a).2.1 : Int), .bool (tM a).2.2, .int .i64 (s : Int)]] W fun ex w' => ∃ v, ex = .returned v ∧ w'.ownsRow W.heap.size 5 1 v (recL ⟨m, Z, c, J, a, s⟩).length (cellsU (recL ⟨m, Z, c, J, a, s⟩)) ∧ Below W.heap.size W w') := fun W hW => lwritten m c a s dz d sz sl Z J X Y F W hI.m hI.z hI.c hI.s (hz.imp_right fun ⟨b, o, e, hb, r⟩ => ⟨b, o, e, r.but hW hb⟩) (hr.imp_right fun ⟨b, o, e, hb, r⟩ => ⟨b, o, e, r.but hW hb⟩) hK
  have HRl : Hid ((recL ⟨m, Z, c, J, a, s⟩).length ≤ 2047) := by have := bodyL_le hI; unfold Hid; rw [recL_len]; omega
  have HRg : Hid (9 ≤ (recL ⟨m, Z, c, J, a, s⟩).length) := recL_ge _
  have HQ : Hid (¬ Qb w.heap.size) := fun e => by have := h.mem.lt (Or.inr (Or.inr (Or.inr e))); omega
  obtain ⟨zw, c0w, c1w, c2w, c3w, c4w, c5w, f0w, f1w, f2w, f3w, f4w, f5w⟩ := h.mem.cells.six
  clear hz hr hK hd h hI
  go_enter Try.func13, Try.ntmps13
  go_upto_region 3 with fail
  go_region_law ((go_simp); (go_at_call 12; refine (HD.out _ (by repeat (first | (with_reducible exact Below.refl _ _) | (with_reducible assumption) | (with_reducible refine Below.setCell ?_ (by first | (simp; done) | (simp; omega) | omega) _) | (with_reducible refine Below.alloc ?_ (by first | (simp; done) | (simp; omega) | omega) _) | (refine bl_call ?_ (by assumption) (by first | (simp; done) | (simp; omega) | omega)) | (with_reducible refine bl_drewN ?_) | (with_reducible refine Below.drew ?_) | (with_reducible refine bl_grow ?_ (by first | (simp; done) | (simp; omega) | omega))))).mono ?_; rintro e V ⟨rfl, hD⟩; have kd0 : At V w.heap.size [.slice sz m dz, .slice sl c d, .int .i64 ((tM a).1 : Int), .int .i64 ((tM a).2.1 : Int), .bool (tM a).2.2, .int .i64 (s : Int)] := At.but (by repeat (first | (with_reducible assumption) | ((with_reducible refine at_new' _ _ _ _ ?_); (first | rfl | (simp; done))) | (with_reducible refine At.alloc ?_ _) | (with_reducible refine At.drew ?_) | (with_reducible refine At.drewN ?_) | (with_reducible refine At.set ?_ (by omega)) | (with_reducible apply At.store4) | (with_reducible apply At.store3) | (with_reducible apply At.store2) | (with_reducible apply At.put43) | (refine At.below ?_ (by with_reducible assumption)))) hD.1 HQ.out; obtain ⟨Qv, hV⟩ := (H.out.up (by repeat (first | (with_reducible exact Below.refl _ _) | (with_reducible assumption) | (with_reducible refine Below.setCell ?_ (by first | (simp; done) | (simp; omega) | omega) _) | (with_reducible refine Below.alloc ?_ (by first | (simp; done) | (simp; omega) | omega) _) | (refine bl_call ?_ (by assumption) (by first | (simp; done) | (simp; omega) | omega)) | (with_reducible refine bl_drewN ?_) | (with_reducible refine Below.drew ?_) | (with_reducible refine bl_grow ?_ (by first | (simp; done) | (simp; omega) | omega))))).deal hD; have HV : Hid (LW w Q V p sc cc (n 0) (K 0) pb Qv n' K' G' sa cap L sf 0 false) := hV; clear c0w c1w c2w c3w c4w c5w f0w f1w f2w f3w f4w f5w; obtain ⟨zV, c0V, c1V, c2V, c3V, c4V, c5V, f0V, f1V, f2V, f3V, f4V, f5V⟩ := hV.mem.cells.six; obtain ⟨zdV, cd0V, cd1V, cd2V, cd3V, cd4V, cd5V, fd0V, fd1V, fd2V, fd3V, fd4V, fd5V⟩ := kd0.six; clear hD hV kd0); (go_wp2_with fail))
  
  all_goals (
  go_upto_region 9 with (first | (go_at_call 40; go_loud (refine (HW.out _ HV.out.but).mono ?_; rintro e U ⟨vr, rfl, hoU, hbU⟩; have HU0 := HV.out.up hbU; have HU : Hid (But Q w U → True) := fun _ => trivial; obtain ⟨sr, cr, rfl, hrow⟩ := own_slice hoU; obtain ⟨g, rfl, hgo, hg1, hg2⟩ := hrow.resolve_left (by have := HRg.out; omega); have HO : Hid (U.ownsRow V.heap.size 5 1 (.slice (some ⟨g, 0, none⟩) (recL ⟨m, Z, c, J, a, s⟩).length cr) (recL ⟨m, Z, c, J, a, s⟩).length (cellsU (recL ⟨m, Z, c, J, a, s⟩))) := hoU; clear c0V c1V c2V c3V c4V c5V f0V f1V f2V f3V f4V f5V; clear cd0V cd1V cd2V cd3V cd4V cd5V fd0V fd1V fd2V fd3V fd4V fd5V; obtain ⟨zU, c0U, c1U, c2U, c3U, c4U, c5U, f0U, f1U, f2U, f3U, f4U, f5U⟩ := HU0.mem.cells.six; have hzU := hbU.size; have hpU := HV.out.mem.lt (i := p) (Or.inl rfl); clear hoU hrow hbU)) | (go_at_call 41; go_loud (refine (HS.out _ _ HU0).mono ?_; rintro e T ⟨rfl, hT, hbT⟩; have HT0 := hT; have HO2 : Hid (T.ownsRow V.heap.size 5 1 (.slice (some ⟨g, 0, none⟩) (recL ⟨m, Z, c, J, a, s⟩).length cr) (recL ⟨m, Z, c, J, a, s⟩).length (cellsU (recL ⟨m, Z, c, J, a, s⟩))) := own_but HO.out hbT (fun q hq => by have := (HO.out.lt q hq).1; show ¬ (_ = _); omega); clear c0U c1U c2U c3U c4U c5U f0U f1U f2U f3U f4U f5U; obtain ⟨zT, c0T, c1T, c2T, c3T, c4T, c5T, f0T, f1T, f2T, f3T, f4T, f5T⟩ := hT.mem.cells.six; have hlT := hT.mem.laid; clear hT hbT)))
  obtain ⟨hf, hhf⟩ : ∃ hf, (recL ⟨m, Z, c, J, a, s⟩).length / 2 = hf := ⟨_, rfl⟩
  have hh1 : 1 ≤ hf := by have := HRg.out; omega
  have hh2 : hf ≤ 1024 := by have := HRl.out; omega
  have hh3 : hf ≤ (recL ⟨m, Z, c, J, a, s⟩).length := by omega
  have hh4 : (recL ⟨m, Z, c, J, a, s⟩).length ≤ cr := own_room HO2.out
  have htd : Int.tdiv ((recL ⟨m, Z, c, J, a, s⟩).length : Int) 2 = (hf : Int) := by rw [← hhf]; exact (Int.ofNat_tdiv _ _).symm
  have hwr : IntKind.i64.wrap (hf : Int) = (hf : Int) := by rw [IntKind.wrap_i64]; omega
  have hcr : (hf : Int) ≤ (cr : Int) := by omega
  have hge : 0 ≤ (hf : Int) := by omega
  have hOf := own_first HO2.out hh3
  have HOh : Hid (∀ j u, (cellsU ((recL ⟨m, Z, c, J, a, s⟩).take hf))[j]? = some u → T.drew.cell? ((⟨g, 0, none⟩ : Addr).add j) = some u) := (own_drew hOf).cells rfl
  clear hOf
  go_region_law (((refine step_append_lies _ (by rfl) _ _ 72 (by rfl) 0 5 i0 (.int .u8 0) 1 1 Try.underlying72 hi hv0 hv1 hv2 (by rfl) (by decide) _ L.length _ (by rfl) (own_drew hlT) ⟨g, 0, none⟩ hf cr (cellsU ((recL ⟨m, Z, c, J, a, s⟩).take hf)) (by rfl) (by rw [cellsU_len, List.length_take]; omega) (fun j u hj => HOh.out j u hj) (cellsU_one _) (by omega) (by unfold maxLen; omega) (by omega) (Nat.zero_le _) T.heap.size (by rfl) ?_); (intro g7 cap7 w7 hown7 hgrow7 hat7 hlt7); (have kp7 := At.grown (At.drew HT0.mem.cells) hgrow7 HT0.mem.al); (obtain ⟨z7, c07, c17, c27, c37, c47, c57, f07, f17, f27, f37, f47, f57⟩ := kp7.six)))
  
  all_goals (
  obtain ⟨L9, hL9⟩ : ∃ L9, L ++ (recL ⟨m, Z, c, J, a, s⟩).take hf = L9 := ⟨_, rfl⟩
  have hl9 : L.length + hf = L9.length := by rw [← hL9, List.length_append, List.length_take]; omega
  rw [← cellsU_app, hL9, hl9] at hown7
  have hat8 : (Value.slice (some ⟨g7, 0, none⟩) L9.length cap7).ownBlock = (Value.slice sa L.length cap).ownBlock ∨ (Value.slice (some ⟨g7, 0, none⟩) L9.length cap7).ownBlock = some T.drew.heap.size := by
    rcases hat7 with e | e
    · exact Or.inl e.symm
    · exact Or.inr (by rw [e]; rfl)
  have hD := HT0.drew.grow hgrow7 hown7 hat8
  rw [hl9]
  refine ethen_gen3 (fun O => LW w Q O p sc cc (n 0) (K 0) pb Qv n' K' G' (some ⟨g7, 0, none⟩) cap7 L9 sf 0 true) hD ?_
  intro O hO
  have HO9 := HRP.out O (some ⟨g7, 0, none⟩) cap7 Qv (by rw [hhf, hL9]; exact hO)
  clear c07 c17 c27 c37 c47 c57 f07 f17 f27 f37 f47 f57
  clear hat8 hD hown7 hgrow7 hat7 kp7 hlT HT0 HO2 HO
  obtain ⟨zO, c0O, c1O, c2O, c3O, c4O, c5O, f0O, f1O, f2O, f3O, f4O, f5O⟩ := hO.mem.cells.six
  go_wp2_with (go_at_call 42; refine HO9.mono ?_; rintro e E ⟨pv, Q9, rfl, hk9, hq9, hb9⟩; have kpE := hO.mem.cells.below hb9; clear c0O c1O c2O c3O c4O c5O f0O f1O f2O f3O f4O f5O; obtain ⟨zE, c0E, c1E, c2E, c3E, c4E, c5E, f0E, f1E, f2E, f3E, f4E, f5E⟩ := kpE.six; have hF := hO.rebook hb9 hk9 hq9; clear HO9)
  
  go_ret
  subst hhf hL9
  exact ⟨rfl, _, _, _, _, hF⟩))
end Go.Proofs.Ytmijjjdedadklaj
/- LogCrash -/
namespace Go.Proofs.Ytmijjjdedadklaj
open Go.RowKit Go.Sort
set_option linter.unusedVariables false
set_option linter.unusedSimpArgs false
set_option maxRecDepth 100000 in
set_option maxHeartbeats 4000000 in
theorem lcrash_at (p cc pb nb cap sf : Nat) (sc sa : Option Addr) (Kb : Nat → Nat) (Gb : Nat → Bool) (Qb : Nat → Prop) (L : List Nat) (fl : Int) (st : Bool) (r : Nat) (n : Nat → Nat) (K : Nat → Nat → Nat) (G : Nat → Nat → Bool) (dd : Nat → Rec) (k : Int) (hh r' : Nat) (w : World) (Q : Nat → Prop) (hk : -9223372036854775808 ≤ k ∧ k < 9223372036854775808) (hsf : sf ≤ L.length) (hLb : L.length ≤ 100000000) (he : hh = sf + min k.toNat (L.length - sf)) (hn0 : n 0 ≤ 12) (hG0 : G 0 = fun _ => false) (hWh : Whole dd r' (L.take hh)) (hch : ∀ i, i < r' → RecOk (n i) (K i) (G i) (dd i) (n (i + 1)) (K (i + 1)) (G (i + 1))) (h : LW w Q w p sc cc (n 0) (K 0) pb Qb nb Kb Gb sa cap L sf fl st) : Calls Try.prog 18 #[.pointer (some ⟨p, 0, none⟩), .int .i64 k] w fun e W' => e = .returned (.tuple #[]) ∧ ∃ pv Qv, LW w Q W' p sc cc (n 0) (K 0) pv Qv (n r') (K r') (G r') sa cap ((L.take hh).take (catN dd r')) (catN dd r') (-1) false := by
  have H : Hid (LW w Q w p sc cc (n 0) (K 0) pb Qb nb Kb Gb sa cap L sf fl st) := h
  obtain ⟨zw, c0w, c1w, c2w, c3w, c4w, c5w, f0w, f1w, f2w, f3w, f4w, f5w⟩ := h.mem.cells.six
  clear h
  go_enter Try.func18, Try.ntmps18
  go_upto_region 0 with fail
  go_region
  obtain ⟨kk, hkk⟩ : ∃ kk, min k.toNat (L.length - sf) = kk := ⟨_, rfl⟩
  have hkl : sf + kk ≤ L.length := by omega
  have hmm : min (max k 0) ((L.length : Int) - (sf : Int)) = (kk : Int) := by omega
  have hcap : L.length ≤ cap := own_room H.out.mem.laid
  have hsum : (sf : Int) + (kk : Int) ≤ (cap : Int) := by omega
  have hsm2 : 0 ≤ (sf : Int) + (kk : Int) := by omega
  rw [hmm]
  clear c0w c1w c2w c3w c4w c5w f0w f1w f2w f3w f4w f5w
  refine ethen_gen3 (fun V => LW w Q V p sc cc (n 0) (K 0) pb Qb nb Kb Gb sa cap L sf fl st) H.out.drew ?_
  intro V hV
  have HV : Hid (LW w Q V p sc cc (n 0) (K 0) pb Qb nb Kb Gb sa cap L sf fl st) := hV
  obtain ⟨zV, c0V, c1V, c2V, c3V, c4V, c5V, f0V, f1V, f2V, f3V, f4V, f5V⟩ := hV.mem.cells.six
  clear hV
  go_upto_region 1 with fail
  go_region
  have hc := HV.out.cut (k := hh) (by omega)
  have hl1 : (L.take hh).length = sf + kk := by rw [List.length_take]; omega
  obtain ⟨L1, hL1⟩ : ∃ L1, L.take hh = L1 := ⟨_, rfl⟩
  rw [hL1] at hc hl1 hWh
  rw [← hl1]
  clear c0V c1V c2V c3V c4V c5V f0V f1V f2V f3V f4V f5V
  refine ethen_gen3 (fun V => LW w Q V p sc cc (n 0) (K 0) pb Qb nb Kb Gb sa cap L1 sf fl st) hc.drew ?_
  clear hc
  intro U hU
  obtain ⟨t, ht⟩ : ∃ t, catN dd r' = t := ⟨_, rfl⟩
  have htl : t ≤ L1.length := by rw [← ht]; exact (whole_len hWh).1
  have HRP : Hid (Calls Try.prog 42 #[.pointer (some ⟨p, 0, none⟩)] U fun e w' => ∃ pv Q', e = .returned (.tuple #[.pointer (some ⟨pv, 0, none⟩), .int .i64 ((t : Nat) : Int)]) ∧ bookP w' (.pointer (some ⟨pv, 0, none⟩)) Q' (n r') (K r') (G r') ∧ (∀ i, Q' i → U.heap.size ≤ i) ∧ Below U.heap.size U w') := by
    refine (lreplay p r' cap cc n K G dd L1 sc sa _ _ _ _ U hU.mem.cells hn0 hG0 hU.mem.coins hU.mem.laid (by omega) hWh hch).mono ?_
    rintro e w' ⟨v, Q', rfl, h1, h2, h3⟩
    have h1' := h1
    obtain ⟨pv, u, rfl, _, _⟩ := h1'
    exact ⟨pv, Q', by rw [ht], h1, h2, h3⟩
  have HU : Hid (LW w Q U p sc cc (n 0) (K 0) pb Qb nb Kb Gb sa cap L1 sf fl st) := hU
  obtain ⟨zU, c0U, c1U, c2U, c3U, c4U, c5U, f0U, f1U, f2U, f3U, f4U, f5U⟩ := hU.mem.cells.six
  have hcap1 : (t : Int) ≤ (cap : Int) := by have := own_room hU.mem.laid; omega
  clear hU hWh hch hn0 hG0
  go_upto_region 3 with (go_at_call 42; refine HRP.out.mono ?_; rintro e E ⟨pv, Q9, rfl, hk9, hq9, hb9⟩; have kpE := HU.out.mem.cells.below hb9; have hF := (HU.out.rebook hb9 hk9 hq9).safe t; clear c0U c1U c2U c3U c4U c5U f0U f1U f2U f3U f4U f5U; obtain ⟨zE, c0E, c1E, c2E, c3E, c4E, c5E, f0E, f1E, f2E, f3E, f4E, f5E⟩ := kpE.six)
  
  refine wp_gen (fun V => LW w Q V p sc cc (n 0) (K 0) pv Q9 (n r') (K r') (G r') sa cap L1 t fl st) hF ?_
  clear c0E c1E c2E c3E c4E c5E f0E f1E f2E f3E f4E f5E
  clear hF kpE hk9 hq9 hb9
  intro X hX
  have HX : Hid (LW w Q X p sc cc (n 0) (K 0) pv Q9 (n r') (K r') (G r') sa cap L1 t fl st) := hX
  obtain ⟨zX, c0X, c1X, c2X, c3X, c4X, c5X, f0X, f1X, f2X, f3X, f4X, f5X⟩ := hX.mem.cells.six
  clear hX
  go_region
  have hc := HX.out.cut (k := t) htl
  have hl2 : (L1.take t).length = t := by rw [List.length_take]; omega
  rw [hl2] at hc
  
  clear c0X c1X c2X c3X c4X c5X f0X f1X f2X f3X f4X f5X
  refine ethen_gen3 (fun V => LW w Q V p sc cc (n 0) (K 0) pv Q9 (n r') (K r') (G r') sa cap (L1.take t) t fl st) hc.drew ?_
  intro Y hY
  have HY : Hid (LW w Q Y p sc cc (n 0) (K 0) pv Q9 (n r') (K r') (G r') sa cap (L1.take t) t fl st) := hY
  obtain ⟨zY, c0Y, c1Y, c2Y, c3Y, c4Y, c5Y, f0Y, f1Y, f2Y, f3Y, f4Y, f5Y⟩ := hY.mem.cells.six
  clear hY hc
  go_wp2_with fail
  
  have hZ := (HY.out.fail (-1)).stop false
  go_end0
  subst hL1 ht
  exact ⟨rfl, _, _, hZ⟩
theorem lninfo : (Try.prog.info? 26).map (fun i => (i.zero, i.size, i.bytes)) = some (some (.agg #[.int .i64 0, .int .i64 0, .bool false]), 3, 24) := by kernel_rfl
theorem cellsT_of {w W : World} {b o n : Nat} {X Y : Nat → Int} {F : Nat → Bool} (h : RowO w b o n X Y F) (hW : Below w.heap.size w W) : ∀ j u, (cellsT X Y F n)[j]? = some u → W.cell? ((⟨b, o, none⟩ : Addr).add j) = some u := by
  intro j u hj
  have hl : (cellsT X Y F n).length = n * 3 := by
    clear h hj
    induction n with
    | zero => rfl
    | succ n ih => rw [cellsT_succ, List.length_append, ih]; simp; omega
  have hjl : j < n * 3 := by have := (List.getElem?_eq_some_iff.1 hj).1; omega
  have hi : j / 3 < n := by omega
  obtain ⟨h1, h2, h3⟩ := (h.below h.1 hW).2 (j / 3) hi
  have f := fun k hk => flat_at 3 (fun i => [Value.int .i64 (X i), .int .i64 (Y i), .bool (F i)]) (fun _ => rfl) n (j / 3) k hi hk
  rw [Addr.add_lit]
  have hc : j % 3 = 0 ∨ j % 3 = 1 ∨ j % 3 = 2 := by omega
  unfold cellsT at hj
  rcases hc with hc | hc | hc
  · rw [show j = j / 3 * 3 + 0 by omega, f 0 (by omega)] at hj
    rw [show o + j = o + j / 3 * 3 by omega, h1]; exact hj
  · rw [show j = j / 3 * 3 + 1 by omega, f 1 (by omega)] at hj
    rw [show o + j = o + j / 3 * 3 + 1 by omega, h2]; exact hj
  · rw [show j = j / 3 * 3 + 2 by omega, f 2 (by omega)] at hj
    rw [show o + j = o + j / 3 * 3 + 2 by omega, h3]; exact hj
theorem cellsT_one (X Y : Nat → Int) (F : Nat → Bool) : ∀ n, ∀ u ∈ cellsT X Y F n, u.oneCell' = true
  | 0, u, h => by cases h
  | n + 1, u, h => by
    rw [cellsT_succ] at h
    rcases List.mem_append.1 h with h | h
    · exact cellsT_one X Y F n u h
    · simp at h
      rcases h with rfl | rfl | rfl <;> rfl
theorem cellsT_num (X Y : Nat → Int) (F : Nat → Bool) : ∀ n, (cellsT X Y F n).length = n * 3
  | 0 => rfl
  | n + 1 => by rw [cellsT_succ, List.length_append, cellsT_num X Y F n]; show n * 3 + 3 = _; omega
theorem cellsT_isC {X Y : Nat → Int} {F : Nat → Bool} {K : Nat → Nat} {n : Nat} (h : isC X Y F K n) : cellsT X Y F n = cellsK K n := by
  induction n with
  | zero => rfl
  | succ n ih =>
    obtain ⟨e1, e2, e3⟩ := h n (by omega)
    rw [cellsT_succ, cellsK_succ, ih fun i hi => h i (by omega), e1, e2, e3]
set_option maxRecDepth 100000 in
set_option maxHeartbeats 4000000 in
theorem lclone_some (a : Addr) (n d : Nat) (l : List Value) (w : World) (hn : n ≤ 12) (hl : l.length = n * 3) (h1 : ∀ u ∈ l, u.oneCell' = true) (hc : ∀ W, Below w.heap.size w W → ∀ j u, l[j]? = some u → W.cell? (a.add j) = some u) : Calls Try.prog 32 #[.slice (some a) n d] w fun ex w' => ∃ q, ex = .returned q ∧ w'.ownsRow w.heap.size 26 3 q n l ∧ Below w.heap.size w w' := by
  have q22 : ∀ (w : World) (a : Option Addr) (n c n' c' : Nat), (binOp .eql 24 (.slice a n c) (.slice none n' c')).run Try.prog w = .ok (.bool a.isNone) w := fun w a n c n' c' => Lib.run_eql_slice_nil w _ _ a n c n' c' Try.underlying24
  obtain ⟨i0, hi, hv0, hv1, hv2⟩ := info_parts lninfo
  have HC : Hid (∀ W, Below w.heap.size w W → ∀ j u, l[j]? = some u → W.cell? (a.add j) = some u) := hc
  clear hc
  go_enter Try.func32, Try.ntmps32
  go_wp2_with (at_builtin; refine wpList_append_own _ rfl _ _ 24 rfl w.heap.size 26 i0 (.agg #[.int .i64 0, .int .i64 0, .bool false]) 3 24 Try.underlying24 hi hv0 hv1 hv2 rfl (by decide) _ _ _ rfl (World.ownsRow_made w #[] 0 (Nat.le_refl _) (Nat.zero_le _) rfl) a n d l rfl ?c0 ?c1 ?c2 ?c3 ?c4 ?c5 ?_)
  
  case c0 => exact hl
  case c1 => exact HC.out _ (by repeat (first | (with_reducible exact Below.refl _ _) | (with_reducible assumption) | (with_reducible refine Below.setCell ?_ (by first | (simp; done) | (simp; omega) | omega) _) | (with_reducible refine Below.alloc ?_ (by first | (simp; done) | (simp; omega) | omega) _) | (refine bl_call ?_ (by assumption) (by first | (simp; done) | (simp; omega) | omega)) | (with_reducible refine bl_drewN ?_) | (with_reducible refine Below.drew ?_) | (with_reducible refine bl_grow ?_ (by first | (simp; done) | (simp; omega) | omega))))
  case c2 => exact h1
  case c3 => unfold maxLen; omega
  case c4 => omega
  case c5 => simp
  intro v' w1 hown hgrow hnil
  have hq : Below w.heap.size w w1 := ((Below.refl _ w).alloc (Nat.le_refl _) _).grown hgrow (by simp) (by intro k hk; simp [Value.ownBlock] at hk; omega)
  have hown' : w1.ownsRow w.heap.size 26 3 v' n l := by
    first | exact hown | (rw [Nat.zero_add] at hown; exact hown)
  clear hgrow hnil hown
  go_wp2_with fail
  go_ret
  exact ⟨_, rfl, hown', hq⟩
set_option maxRecDepth 100000 in
set_option maxHeartbeats 4000000 in
theorem lclone_none (w : World) : Calls Try.prog 32 #[.slice none 0 0] w fun ex w' => ex = .returned (.slice none 0 0) ∧ Below w.heap.size w w' := by
  have q22 : ∀ (w : World) (a : Option Addr) (n c n' c' : Nat), (binOp .eql 24 (.slice a n c) (.slice none n' c')).run Try.prog w = .ok (.bool a.isNone) w := fun w a n c n' c' => Lib.run_eql_slice_nil w _ _ a n c n' c' Try.underlying24
  go_enter Try.func32, Try.ntmps32
  go_wp2_with fail
  go_ret
  exact ⟨rfl, by repeat (first | (with_reducible exact Below.refl _ _) | (with_reducible assumption) | (with_reducible refine Below.setCell ?_ (by first | (simp; done) | (simp; omega) | omega) _) | (with_reducible refine Below.alloc ?_ (by first | (simp; done) | (simp; omega) | omega) _) | (refine bl_call ?_ (by assumption) (by first | (simp; done) | (simp; omega) | omega)) | (with_reducible refine bl_drewN ?_) | (with_reducible refine Below.drew ?_) | (with_reducible refine bl_grow ?_ (by first | (simp; done) | (simp; omega) | omega)))⟩
theorem lclone (sl : Option Addr) (n d : Nat) (X Y : Nat → Int) (F : Nat → Bool) (K : Nat → Nat) (w : World) (hn : n ≤ 12) (hd : n ≤ d) (h0 : sl = none → d = 0) (hr : n = 0 ∨ ∃ b o : Nat, sl = some ⟨b, o, none⟩ ∧ RowO w b o n X Y F) (hK : isC X Y F K n) : Calls Try.prog 32 #[.slice sl n d] w fun ex w' => ∃ q, ex = .returned q ∧ w'.ownsRow w.heap.size 26 3 q n (cellsK K n) ∧ Below w.heap.size w w' := by
  cases sl with
  | none =>
    obtain rfl : d = 0 := h0 rfl
    obtain rfl : n = 0 := by omega
    refine (lclone_none w).mono ?_
    rintro e w' ⟨rfl, h⟩
    exact ⟨_, rfl, World.ownsRow_nil _ _ _ _, h⟩
  | some a =>
    rw [← cellsT_isC hK]
    refine lclone_some a n d _ w hn (cellsT_num _ _ _ _) (cellsT_one _ _ _ _) fun W hW => ?_
    rcases hr with rfl | ⟨b, o, e, r⟩
    · intro j u hj; cases hj
    · injection e with e
      subst e
      exact cellsT_of r hW
set_option maxRecDepth 100000 in
set_option maxHeartbeats 4000000 in
theorem lnew_no (sl : Option Addr) (n d : Nat) (q : Int) (w : World) (h : ∀ W, Below w.heap.size w W → Calls Try.prog 7 #[.slice sl n d] W fun ex w' => ex = .returned (.tuple #[.pointer none, errOf q]) ∧ Below W.heap.size W w') : Calls Try.prog 8 #[.slice sl n d] w fun ex w' => ex = .returned (.tuple #[.pointer none, errOf q]) ∧ Below w.heap.size w w' := by
  have HB : Hid (Calls Try.prog 7 #[.slice sl n d] w fun ex w' => ex = .returned (.tuple #[.pointer none, errOf q]) ∧ Below w.heap.size w w') := h w (Below.refl _ _)
  clear h
  go_enter Try.func8, Try.ntmps8
  go_wp2_with (go_at_call 7; refine HB.out.mono ?_; rintro e V ⟨rfl, hV⟩)
  
  exact bodyPost_ret (v := .tuple #[.pointer none, errOf q]) (by simp [results, Try.results8, go_sem, *]) rfl ⟨rfl, hV⟩
set_option maxRecDepth 100000 in
set_option maxHeartbeats 4000000 in
theorem lnew_ok (sl : Option Addr) (n d : Nat) (X Y : Nat → Int) (F : Nat → Bool) (K : Nat → Nat) (w : World) (hn : n ≤ 12) (hd : n ≤ d) (h0 : sl = none → d = 0) (hr : n = 0 ∨ ∃ b o : Nat, sl = some ⟨b, o, none⟩ ∧ RowO w b o n X Y F) (hK : isC X Y F K n) : Calls Try.prog 8 #[.slice sl n d] w fun ex w' => ∃ p sc cc pb Qb, ex = .returned (.tuple #[.pointer (some ⟨p, 0, none⟩), .nilIface]) ∧ LogMem w' p sc cc n K pb Qb n K (fun _ => false) none 0 [] 0 (-1) false ∧ (∀ i, lq p (.slice sc n cc) (.slice none 0 0) Qb i → w.heap.size ≤ i) ∧ Below w.heap.size w w' := by
  have HB : Hid (Calls Try.prog 7 #[.slice sl n d] w fun ex w' => ∃ (pb : Nat) (Q : Nat → Prop), ex = .returned (.tuple #[.pointer (some ⟨pb, 0, none⟩), .nilIface]) ∧ bookP w' (.pointer (some ⟨pb, 0, none⟩)) Q n K (fun _ => false) ∧ (∀ i, Q i → w.heap.size ≤ i) ∧ Below w.heap.size w w') := by
    refine (bnew_is.2 sl n d X Y F K w hn hd h0 hr hK).mono ?_
    rintro e w' ⟨v, Q, rfl, h1, h2, h3⟩
    have h1' := h1
    obtain ⟨pb, u, rfl, _, _⟩ := h1'
    exact ⟨pb, Q, rfl, h1, h2, h3⟩
  have HC : Hid (∀ W, Below w.heap.size w W → Calls Try.prog 32 #[.slice sl n d] W fun ex w' => ∃ q, ex = .returned q ∧ w'.ownsRow W.heap.size 26 3 q n (cellsK K n) ∧ Below W.heap.size W w') := fun W hW => lclone sl n d X Y F K W hn hd h0 (brow_up hr hW) hK
  clear hr hK h0
  go_enter Try.func8, Try.ntmps8
  go_wp2_with (first | (go_at_call 7; refine HB.out.mono ?_; rintro e V ⟨pb, Qb, rfl, hk, hq, hV⟩; have hzV := hV.size) | (go_at_call 32; refine (HC.out _ hV).mono ?_; rintro e U ⟨q, rfl, ho, hU⟩; have hzU := hU.size; obtain ⟨sc, cc, rfl, _⟩ := own_slice ho))
  
  have hal : Below U.heap.size U (U.alloc (.cells #[.slice sc n cc, .pointer (some ⟨pb, 0, none⟩), .slice none 0 0, .int .i64 0, .int .i64 (-1), .bool false] 74)) := (Below.refl _ _).alloc (Nat.le_refl _) _
  have hk2 := bookP_ok.stay hk (But.of_below (fun _ => False) (hU.trans (hal.mono hzU))) fun _ _ e => e
  have hlt := fun i hi => bookP_ok.lt hk i hi
  have hM : LogMem (U.alloc (.cells #[.slice sc n cc, .pointer (some ⟨pb, 0, none⟩), .slice none 0 0, .int .i64 0, .int .i64 (-1), .bool false] 74)) U.heap.size sc cc n K pb Qb n K (fun _ => false) none 0 [] 0 (-1) false := by
    refine ⟨at_new U [.slice sc n cc, .pointer (some ⟨pb, 0, none⟩), .slice none 0 0, .int .i64 0, .int .i64 (-1), .bool false] 74, own_base (own_stay ho hal) (Nat.zero_le _), World.ownsRow_nil _ _ _ _, hk2, fun e => ?_, (fun e => by cases e), (fun g hg e => by cases e), fun i hi => ⟨fun e => ?_, fun e => ?_, (fun e => by cases e)⟩⟩
    · have := (ho.lt _ e).2; omega
    · have := hlt i hi; omega
    · have := hlt i hi; have := (ho.lt _ e).1; omega
  have hQ : ∀ i, lq U.heap.size (.slice sc n cc) (.slice none 0 0) Qb i → w.heap.size ≤ i := by
    rintro i (e | e | e | e)
    · omega
    · have := (ho.lt _ e).1; omega
    · cases e
    · exact hq i e
  have hB := hV.trans ((hU.trans (hal.mono hzU)).mono hzV)
  exact bodyPost_ret (v := .tuple #[.pointer (some ⟨U.heap.size, 0, none⟩), .nilIface]) (by simp [results, Try.results8, go_sem]) rfl ⟨_, _, _, _, _, rfl, hM, hQ, hB⟩
end Go.Proofs.Ytmijjjdedadklaj
/- Log -/
namespace Go.Proofs.Ytmijjjdedadklaj
open Go.RowKit Go.Sort
set_option linter.unusedVariables false
set_option linter.unusedSimpArgs false
theorem lwf_range {k : Int} (h : (Lit.int .i64 k).wf = true) : -9223372036854775808 ≤ k ∧ k < 9223372036854775808 := by
  have h2 : (decide ((-9223372036854775808 : Int) ≤ k) && decide (k ≤ 9223372036854775807)) = true := h
  rw [Bool.and_eq_true, decide_eq_true_eq, decide_eq_true_eq] at h2
  omega
theorem lastM_congr {M N : Nat → Nat} {h : Nat} : ∀ {r : Nat}, (∀ i, i ≤ r → M i = N i) → lastM M h r = lastM N h r
  | 0, _ => rfl
  | r + 1, e => by
    have e1 := e (r + 1) (Nat.le_refl _)
    have e2 := lastM_congr (h := h) (r := r) fun i hi => e i (by omega)
    by_cases hk : N (r + 1) ≤ h
    · rw [lastM_yes hk, lastM_yes (by omega)]
    · rw [lastM_no hk, lastM_no (by omega), e2]
theorem whole_take {d : Nat → Rec} {r : Nat} {L : List Nat} (h : Whole d r L) : L.take (catN d r) = catL d r := by
  obtain ⟨e, t, _, _, rfl⟩ := h
  unfold catN
  exact List.take_left
/-- How the log apart from memory and its bytes fit: its records are d. -/
structure LogFit (s : LogS) (L : List Nat) (fl : Int) (d : Nat → Rec) : Prop where
  n12 : s.n 0 ≤ 12
  g0 : s.G 0 = fun _ => false
  whole : Whole d s.r L
  len : L.length = s.all
  marks : ∀ i, i ≤ s.r → s.M i = catN d i
  chain : ∀ i, i < s.r → RecOk (s.n i) (s.K i) (s.G i) (d i) (s.n (i + 1)) (s.K (i + 1)) (s.G (i + 1))
  full : s.stop = false → L = catL d s.r
  left : s.left = bif decide (fl < 0) then none else some fl.toNat
  flw : -9223372036854775808 ≤ fl ∧ fl < 9223372036854775808
  ok : LogOk s
/-- What the landed log is. -/
def logP (W : World) (v : Value) (Q : Nat → Prop) (s : LogS) : Prop :=
  ∃ (p : Nat) (sc : Option Addr) (cc pb : Nat) (Qb : Nat → Prop) (sa : Option Addr) (cap : Nat) (L : List Nat) (fl : Int) (d : Nat → Rec), v = .pointer (some ⟨p, 0, none⟩) ∧ Q = lq p (.slice sc (s.n 0) cc) (.slice sa L.length cap) Qb ∧
    LogMem W p sc cc (s.n 0) (s.K 0) pb Qb (s.n s.r) (s.K s.r) (s.G s.r) sa cap L s.safe fl s.stop ∧ LogFit s L fl d
theorem logP_ok : PLok logP := by
  refine ⟨fun h i hi => ?_, fun h k hF => ?_, fun h => ?_⟩
  · obtain ⟨p, sc, cc, pb, Qb, sa, cap, L, fl, d, rfl, rfl, hm, hf⟩ := h
    exact hm.lt hi
  · obtain ⟨p, sc, cc, pb, Qb, sa, cap, L, fl, d, rfl, rfl, hm, hf⟩ := h
    exact ⟨p, sc, cc, pb, Qb, sa, cap, L, fl, d, rfl, rfl, hm.but k hF, hf⟩
  · obtain ⟨p, sc, cc, pb, Qb, sa, cap, L, fl, d, rfl, rfl, hm, hf⟩ := h
    exact hf.ok
theorem logP_done {w W : World} {Q : Nat → Prop} {s : LogS} {p : Nat} {sc : Option Addr} {cc pb : Nat} {Qb : Nat → Prop} {sa : Option Addr} {cap : Nat} {L : List Nat} {fl : Int} {d : Nat → Rec} (h : LW w Q W p sc cc (s.n 0) (s.K 0) pb Qb (s.n s.r) (s.K s.r) (s.G s.r) sa cap L s.safe fl s.stop) (hf : LogFit s L fl d) : PLdone logP w W (.pointer (some ⟨p, 0, none⟩)) Q s :=
  ⟨h.but, lq p (.slice sc (s.n 0) cc) (.slice sa L.length cap) Qb, ⟨p, sc, cc, pb, Qb, sa, cap, L, fl, d, rfl, rfl, h.mem, hf⟩, h.inq⟩
theorem left_zero {s : LogS} {L : List Nat} {fl : Int} {d : Nat → Rec} (hf : LogFit s L fl d) (h : s.left = some 0) : fl = 0 := by
  have := hf.left
  rw [h] at this
  by_cases h1 : fl < 0
  · rw [decide_eq_true h1] at this; cases this
  · rw [decide_eq_false h1] at this
    have h2 : (0 : Nat) = fl.toNat := by injection this
    omega
theorem left_not {s : LogS} {L : List Nat} {fl : Int} {d : Nat → Rec} (hf : LogFit s L fl d) (h : s.left ≠ some 0) : (fl == 0) = false := by
  rw [beq_eq_false_iff_ne]
  rintro rfl
  exact h (hf.left.trans rfl)
theorem left_less {s : LogS} {L : List Nat} {fl : Int} {d : Nat → Rec} (hf : LogFit s L fl d) (h : (fl == 0) = false) : lessO s.left = bif decide ((bif decide (fl > 0) then fl - 1 else fl) < 0) then none else some (bif decide (fl > 0) then fl - 1 else fl).toNat := by
  rw [hf.left]
  have h0 : fl ≠ 0 := by rwa [beq_eq_false_iff_ne] at h
  by_cases h1 : fl > 0
  · rw [decide_eq_true h1, decide_eq_false (show ¬ fl < 0 by omega)]
    simp only [cond_true, cond_false]
    rw [decide_eq_false (show ¬ fl - 1 < 0 by omega)]
    show some (fl.toNat - 1) = some (fl - 1).toNat
    congr 1
    omega
  · rw [decide_eq_false h1, decide_eq_true (show fl < 0 by omega)]
    simp only [cond_true, cond_false]
    rw [decide_eq_true (show fl < 0 by omega)]
    rfl
theorem flw_less {fl : Int} (h : -9223372036854775808 ≤ fl ∧ fl < 9223372036854775808) : -9223372036854775808 ≤ (bif decide (fl > 0) then fl - 1 else fl) ∧ (bif decide (fl > 0) then fl - 1 else fl) < 9223372036854775808 := by
  by_cases h1 : fl > 0
  · rw [decide_eq_true h1]; simp only [cond_true]; omega
  · rw [decide_eq_false h1]; simp only [cond_false]; omega
theorem fit_len {s : LogS} {L : List Nat} {fl : Int} {d : Nat → Rec} (hf : LogFit s L fl d) (hr : s.r ≤ 1000) : L.length ≤ 100000000 := by
  have h1 := (whole_len hf.whole).2
  have h2 := catN_le (k := s.r) fun i hi => (hf.chain i hi).in
  omega
/-- It stops: its bytes may be more, no more records. -/
theorem fit_halt {s : LogS} {L L' : List Nat} {fl : Int} {d : Nat → Rec} (hf : LogFit s L fl d) (hw : Whole d s.r L') (hl : s.all ≤ L'.length) (hu : L'.length ≤ s.all + 2047) (hall : s.all ≤ (s.r + 1) * 2047) : LogFit (s.halt L'.length) L' fl d :=
  ⟨hf.n12, hf.g0, hw, rfl, hf.marks, hf.chain, (fun e => by cases e), hf.left, hf.flw, ⟨hf.ok.m0, hf.ok.m1, Nat.le_trans hf.ok.m2 hl, Nat.le_trans hf.ok.m3 hl, by
    show L'.length ≤ (s.r + 1) * 1099511627776
    omega, hf.ok.m5⟩⟩
theorem fit_all {s : LogS} {L : List Nat} {fl : Int} {d : Nat → Rec} (hf : LogFit s L fl d) : s.all ≤ (s.r + 1) * 2047 := by
  have h1 := (whole_len hf.whole).2
  have h2 := catN_le (k := s.r) fun i hi => (hf.chain i hi).in
  have := hf.len
  omega
/-- A record more. -/
theorem fit_add {s : LogS} {L : List Nat} {fl fl' : Int} {d : Nat → Rec} {e : Rec} {n : Nat} {K : Nat → Nat} {G : Nat → Bool} (hf : LogFit s L fl d) (hs : s.stop = false) (he : RecOk (s.n s.r) (s.K s.r) (s.G s.r) e n K G) (hl : lessO s.left = bif decide (fl' < 0) then none else some fl'.toNat) (hw : -9223372036854775808 ≤ fl' ∧ fl' < 9223372036854775808) : LogFit (s.add (L ++ recL e).length n K G) (L ++ recL e) fl' (extN d s.r e) := by
  have hcat : ∀ i, i ≤ s.r → catL (extN d s.r e) i = catL d i := fun i hi => catL_congr fun j hj => extN_lt d e (by omega)
  have hL : L ++ recL e = catL (extN d s.r e) (s.r + 1) := by
    rw [hf.full hs]
    show _ = catL (extN d s.r e) s.r ++ recL (extN d s.r e s.r)
    rw [hcat s.r (Nat.le_refl _), extN_at]
  have hrl := recL_ge e
  have hru : (recL e).length ≤ 2047 := by have := bodyL_le he.in; rw [recL_len]; omega
  have hall := fit_all hf
  have hlen : (L ++ recL e).length = s.all + (recL e).length := by rw [List.length_append, hf.len]
  have hlt : ∀ {α : Type} (f : Nat → α) (a : α) {i : Nat}, i ≤ s.r → extN f (s.r + 1) a i = f i := fun {α} f a {i} hi => extN_lt f a (by omega)
  have hle : n ≤ 1000 := by rw [he.en]; exact he.le
  have hok := hf.ok
  refine ⟨?_, ?_, ?_, rfl, ?_, ?_, fun _ => hL, hl, hw, ⟨?_, ?_, ?_, ?_, ?_, ?_⟩⟩
  · show extN s.n (s.r + 1) n 0 ≤ 12
    rw [hlt s.n n (Nat.zero_le _)]; exact hf.n12
  · show extN s.G (s.r + 1) G 0 = _
    rw [hlt s.G G (Nat.zero_le _)]; exact hf.g0
  · show Whole _ (s.r + 1) _
    rw [hL]; exact whole_all _ _
  · intro i hi
    show extN s.M (s.r + 1) (L ++ recL e).length i = _
    by_cases h1 : i ≤ s.r
    · rw [hlt s.M _ h1, hf.marks i h1]; unfold catN; rw [hcat i h1]
    · obtain rfl : i = s.r + 1 := by have : i ≤ s.r + 1 := hi; omega
      rw [extN_at, hL]; rfl
  · intro i hi
    show RecOk (extN s.n (s.r + 1) n i) (extN s.K (s.r + 1) K i) (extN s.G (s.r + 1) G i) (extN d s.r e i) (extN s.n (s.r + 1) n (i + 1)) (extN s.K (s.r + 1) K (i + 1)) (extN s.G (s.r + 1) G (i + 1))
    have hi' : i < s.r + 1 := hi
    rw [hlt s.n n (by omega), hlt s.K K (by omega), hlt s.G G (by omega)]
    by_cases h1 : i < s.r
    · rw [extN_lt d e h1, hlt s.n n (by omega), hlt s.K K (by omega), hlt s.G G (by omega)]
      exact hf.chain i h1
    · obtain rfl : i = s.r := by omega
      rw [extN_at, extN_at, extN_at, extN_at]
      exact he
  · show extN s.M (s.r + 1) (L ++ recL e).length 0 = 0
    rw [hlt s.M _ (Nat.zero_le _)]; exact hok.m0
  · intro i hi
    show extN s.M (s.r + 1) (L ++ recL e).length i + 2 ≤ extN s.M (s.r + 1) (L ++ recL e).length (i + 1)
    have hi' : i < s.r + 1 := hi
    rw [hlt s.M _ (by omega)]
    by_cases h1 : i < s.r
    · rw [hlt s.M _ (by omega)]; exact hok.m1 i h1
    · obtain rfl : i = s.r := by omega
      rw [extN_at]
      have := hok.m2
      omega
  · show extN s.M (s.r + 1) (L ++ recL e).length (s.r + 1) ≤ (L ++ recL e).length
    rw [extN_at]; exact Nat.le_refl _
  · show s.safe ≤ (L ++ recL e).length
    have := hok.m3; omega
  · show (L ++ recL e).length ≤ (s.r + 1 + 1) * 1099511627776
    omega
  · intro i hi
    show extN s.n (s.r + 1) n i ≤ 1000
    by_cases h1 : i ≤ s.r
    · rw [hlt s.n n h1]; exact hok.m5 i h1
    · obtain rfl : i = s.r + 1 := by have : i ≤ s.r + 1 := hi; omega
      rw [extN_at]; exact hle
/-- A fault of the book's. -/
theorem ldeal_no {v : Value} {Q : Nat → Prop} {n : Nat} {K : Nat → Nat} {G : Nat → Bool} {D : DealN} {sz sl : Option Addr} {dz d : Nat} {e : Int} {n' : Nat} {K' : Nat → Nat} {G' : Nat → Bool} {W : World} (hn : n ≤ 1000) (hm : D.m ≤ 9223372036854775807) (hdz : D.m ≤ dz) (hcd : D.c ≤ d) (h0 : sl = none → d = 0) (ws : (Lit.int .i64 D.s).wf = true) (hb : bookP W v Q n K G) (hz : D.m = 0 ∨ ∃ b o : Nat, sz = some ⟨b, o, none⟩ ∧ RowI W b o D.m D.Z) (hr : D.c = 0 ∨ ∃ b o : Nat, sl = some ⟨b, o, none⟩ ∧ RowO W b o D.c D.X D.Y D.F) (h : DealIs n K G D e n' K' G') (he : (e == 0) = false) :
    Calls Try.prog 12 #[v, .agg #[.slice sz D.m dz, .slice sl D.c d, .int .i64 D.rx, .int .i64 D.ry, .bool D.rf, .int .i64 D.s]] W fun ex w' => ex = .returned (errOf e) ∧ Below W.heap.size W w' := by
  rcases h with ⟨q, hq, hx, rfl, rfl, rfl, rfl⟩ | ⟨J, hok, hc, hJ, ⟨hf, rfl, rfl, rfl, rfl⟩ | ⟨hf, hS, rfl, rfl, rfl, rfl⟩ | ⟨hf, hS, hR, rfl, rfl, rfl, rfl⟩ | ⟨a, s, hf, hs3, hs, r1, r2, r3, hw⟩⟩
  · exact bdo_is.1 v Q _ D.m D.c d dz sz sl _ _ D.Z D.X D.Y D.F D.rx D.ry D.s q D.rf W hn hm hdz hcd h0 hb hz hr hq hx
  · exact bdo_is.2.1 v Q _ D.m D.c d dz sz sl _ _ D.Z D.X D.Y D.F J D.rx D.ry D.s D.rf W hn hm hdz hcd h0 hb hz hr hok hc hJ hf
  · exact bdo_is.2.2.1 v Q _ D.m D.c d dz sz sl _ _ D.Z D.X D.Y D.F J D.rx D.ry D.s D.rf W hn hm hdz hcd h0 hb hz hr hok hc hJ hf ws hS
  · exact bdo_is.2.2.2.1 v Q _ D.m D.c d dz sz sl _ _ D.Z D.X D.Y D.F J D.rx D.ry D.s D.rf W hn hm hdz hcd h0 hb hz hr hok hc hJ hf hS hR
  · rw [r1, r2, r3, hs]
    rcases hw with ⟨hw, rfl, rfl, rfl, rfl⟩ | ⟨hw, rfl, rfl, rfl, rfl⟩
    · exact bdo_is.2.2.2.2.1 v Q _ D.m D.c d dz sz sl _ _ D.Z D.X D.Y D.F J a s W hn hm hdz hcd h0 hb hz hr hok hc hJ hf hs3 hw
    · cases he
/-- A deal that is done is a record. -/
theorem ldeal_rec {n : Nat} {K : Nat → Nat} {G : Nat → Bool} {D : DealN} {e : Int} {n' : Nat} {K' : Nat → Nat} {G' : Nat → Bool} (h : DealIs n K G D e n' K' G') (he : e = 0) : ∃ (J : Nat → Nat) (a s : Nat), isC D.X D.Y D.F J D.c ∧ D.s = (s : Int) ∧ D.rx = ((tM a).1 : Int) ∧ D.ry = ((tM a).2.1 : Int) ∧ D.rf = (tM a).2.2 ∧ RecOk n K G ⟨D.m, D.Z, D.c, J, a, s⟩ n' K' G' := by
  subst he
  rcases h with ⟨q, hq, hx, h1, _⟩ | ⟨J, hok, hc, hJ, ⟨hf, h1, _⟩ | ⟨hf, hS, h1, _⟩ | ⟨hf, hS, hR, h1, _⟩ | ⟨a, s, hf, hs3, hs, r1, r2, r3, hw⟩⟩
  · rw [← h1] at hx; cases hx
  · cases h1
  · cases h1
  · rw [← h1] at hR; cases hR
  · rcases hw with ⟨hw, h1, _⟩ | ⟨hw, _, e1, e2, e3⟩
    · cases h1
    · exact ⟨J, a, s, hJ, hs, r1, r2, r3, ⟨hok, hc, hf, hs3, hw, e1, e2, e3⟩⟩
/-- It is done by the book. -/
theorem ldeal_yes {v : Value} {Q : Nat → Prop} {n : Nat} {K : Nat → Nat} {G : Nat → Bool} {m c a s : Nat} {Z X Y : Nat → Int} {F : Nat → Bool} {J : Nat → Nat} {sz sl : Option Addr} {dz d : Nat} {n' : Nat} {K' : Nat → Nat} {G' : Nat → Bool} {W : World} (hn : n ≤ 1000) (hdz : m ≤ dz) (hcd : c ≤ d) (h0 : sl = none → d = 0) (hb : bookP W v Q n K G) (hz : m = 0 ∨ ∃ b o : Nat, sz = some ⟨b, o, none⟩ ∧ ¬ Q b ∧ RowI W b o m Z) (hr : c = 0 ∨ ∃ b o : Nat, sl = some ⟨b, o, none⟩ ∧ ¬ Q b ∧ RowO W b o c X Y F) (hJ : isC X Y F J c) (h : RecOk n K G ⟨m, Z, c, J, a, s⟩ n' K' G') :
    Calls Try.prog 12 #[v, .agg #[.slice sz m dz, .slice sl c d, .int .i64 ((tM a).1 : Int), .int .i64 ((tM a).2.1 : Int), .bool (tM a).2.2, .int .i64 (s : Int)]] W fun ex w' => ex = .returned .nilIface ∧ PBdone bookP W w' v Q n' K' G' := by
  have hm : m ≤ 1000 := h.in.m
  rw [h.en, h.ek, h.eg]
  refine bdo_is.2.2.2.2.2 v Q n m c d dz sz sl K G Z X Y F J a s W hn (by omega) hdz hcd h0 hb (hz.imp_right fun ⟨b, o, e, _, r⟩ => ⟨b, o, e, r⟩) (hr.imp_right fun ⟨b, o, e, _, r⟩ => ⟨b, o, e, r⟩) ?_ ?_ h.go h.c hJ h.le h.s h.cl
  · intro hn0 b o e
    obtain ⟨b2, o2, e2, h1, _⟩ := hz.resolve_left hn0
    rw [e2] at e
    injection e with e
    injection e with e
    exact e ▸ h1
  · intro hn0 b o e
    obtain ⟨b2, o2, e2, h1, _⟩ := hr.resolve_left hn0
    rw [e2] at e
    injection e with e
    injection e with e
    exact e ▸ h1
theorem ldo_is : LDoIs logP := by
  refine ⟨?_, ?_, ?_, ?_⟩
  · intro v Q s D sz sl dz d e n K G w hr hm hdz hcd h0 wz wx wy ws hz hc hP hD hs
    obtain ⟨p, sc, cc, pb, Qb, sa, cap, L, fl, dd, rfl, rfl, hM, hf⟩ := hP
    have hM2 := hM.start
    rw [hs] at hM2
    refine (ldo_stop p cc (s.n 0) pb (s.n s.r) cap s.safe sc sa (s.K 0) (s.K s.r) (s.G s.r) Qb L fl true D.m D.c d dz sz sl D.rx D.ry D.s D.rf w _ hM2).mono ?_
    rintro e w' ⟨rfl, h⟩
    rw [← hs] at h
    exact ⟨rfl, logP_done h hf⟩
  · intro v Q s D sz sl dz d e n K G w hr hm hdz hcd h0 wz wx wy ws hz hc hP hD hs he
    obtain ⟨p, sc, cc, pb, Qb, sa, cap, L, fl, dd, rfl, rfl, hM, hf⟩ := hP
    have hM2 := hM.start
    rw [hs] at hM2
    refine (ldo_refuse p cc (s.n 0) pb (s.n s.r) cap s.safe sc sa (s.K 0) (s.K s.r) (s.G s.r) Qb L fl false D.m D.c d dz sz sl D.rx D.ry D.s e D.rf w _ hM2 fun W hW => ?_).mono ?_
    · exact ldeal_no (hf.ok.m5 _ (Nat.le_refl _)) hm hdz hcd h0 ws (bookP_ok.stay hM.book (But.of_below (fun _ => False) hW) fun _ _ e => e) (brz_up (hz.imp_right fun ⟨b, o, e, _, r⟩ => ⟨b, o, e, r⟩) hW) (brow_up (hc.imp_right fun ⟨b, o, e, _, r⟩ => ⟨b, o, e, r⟩) hW) hD he
    · rintro e w' ⟨rfl, h⟩
      rw [← hs] at h
      exact ⟨rfl, logP_done h hf⟩
  · intro v Q s D sz sl dz d e n K G w hr hm hdz hcd h0 wz wx wy ws hz hc hP hD hs he hl
    obtain ⟨p, sc, cc, pb, Qb, sa, cap, L, fl, dd, rfl, rfl, hM, hf⟩ := hP
    obtain ⟨J, a, t, hJ, e1, e2, e3, e4, hR⟩ := ldeal_rec hD he
    obtain rfl := left_zero hf hl
    have hM2 := hM.start
    rw [hs] at hM2
    rw [e1, e2, e3, e4]
    have hLb := fit_len hf hr
    have hcat := hf.full hs
    refine (ldo_halt p cc pb (s.n s.r) cap s.safe sc sa (s.K s.r) (s.G s.r) Qb L 0 false s.r s.n s.K s.G dd D.m D.c a t d dz n sz sl D.Z J D.X D.Y D.F K G w _ hR.in hLb hz hc hJ (fun W hW => ?_) hf.n12 hf.g0 ?_ hf.chain hM2).mono ?_
    · refine ldeal_yes (hf.ok.m5 _ (Nat.le_refl _)) hdz hcd h0 (bookP_ok.stay hM.book (But.of_below (fun _ => False) hW) fun _ _ e => e) (hz.imp_right fun ⟨b, o, e, hq, r⟩ => ⟨b, o, e, fun k => hq (Or.inr (Or.inr (Or.inr k))), r.below r.1 hW⟩) (hc.imp_right fun ⟨b, o, e, hq, r⟩ => ⟨b, o, e, fun k => hq (Or.inr (Or.inr (Or.inr k))), r.below r.1 hW⟩) hJ hR
    · rw [hcat]; exact whole_half dd s.r hR.in
    · rintro e w' ⟨rfl, pv, Qv, sa', cap', h⟩
      have hh : (recL ⟨D.m, D.Z, D.c, J, a, t⟩).length ≤ 2047 := by have := bodyL_le hR.in; rw [recL_len]; omega
      have hfit := fit_halt (L' := L ++ (recL ⟨D.m, D.Z, D.c, J, a, t⟩).take ((recL ⟨D.m, D.Z, D.c, J, a, t⟩).length / 2)) hf (by rw [hcat]; exact whole_half dd s.r hR.in) (by rw [List.length_append, hf.len]; omega) (by rw [List.length_append, hf.len, List.length_take]; omega) (fit_all hf)
      exact ⟨rfl, _, by rw [← hf.len, List.length_append]; omega, logP_done h hfit⟩
  · intro v Q s D sz sl dz d e n K G w hr hm hdz hcd h0 wz wx wy ws hz hc hP hD hs he hl
    obtain ⟨p, sc, cc, pb, Qb, sa, cap, L, fl, dd, rfl, rfl, hM, hf⟩ := hP
    obtain ⟨J, a, t, hJ, e1, e2, e3, e4, hR⟩ := ldeal_rec hD he
    have hfl := left_not hf hl
    have hM2 := hM.start
    rw [hs] at hM2
    rw [e1, e2, e3, e4]
    have hLb := fit_len hf hr
    refine (ldo_done p cc (s.n 0) pb (s.n s.r) cap s.safe sc sa (s.K 0) (s.K s.r) (s.G s.r) Qb L fl false D.m D.c a t d dz n sz sl D.Z J D.X D.Y D.F K G w _ hR.in hLb hz hc hJ (fun W hW => ?_) hfl hf.flw hM2).mono ?_
    · refine ldeal_yes (hf.ok.m5 _ (Nat.le_refl _)) hdz hcd h0 (bookP_ok.stay hM.book (But.of_below (fun _ => False) hW) fun _ _ e => e) (hz.imp_right fun ⟨b, o, e, hq, r⟩ => ⟨b, o, e, fun k => hq (Or.inr (Or.inr (Or.inr k))), r.below r.1 hW⟩) (hc.imp_right fun ⟨b, o, e, hq, r⟩ => ⟨b, o, e, fun k => hq (Or.inr (Or.inr (Or.inr k))), r.below r.1 hW⟩) hJ hR
    · rintro e w' ⟨rfl, Qv, sa', cap', h⟩
      have hrl := recL_ge ⟨D.m, D.Z, D.c, J, a, t⟩
      refine ⟨rfl, _, ?_, logP_done (s := s.add (L ++ recL ⟨D.m, D.Z, D.c, J, a, t⟩).length n K G) (L := L ++ recL ⟨D.m, D.Z, D.c, J, a, t⟩) (pb := pb) (Qb := Qv) (sa := sa') (cap := cap') (cc := cc) (sc := sc) ?_ (fit_add hf hs hR (left_less hf hfl) (flw_less hf.flw))⟩
      · rw [List.length_append, hf.len]; omega
      · have q1 : (s.add (L ++ recL ⟨D.m, D.Z, D.c, J, a, t⟩).length n K G).n 0 = s.n 0 := extN_lt s.n (n := s.r + 1) n (Nat.succ_pos s.r)
        have q2 : (s.add (L ++ recL ⟨D.m, D.Z, D.c, J, a, t⟩).length n K G).K 0 = s.K 0 := extN_lt s.K (n := s.r + 1) K (Nat.succ_pos s.r)
        have q3 : (s.add (L ++ recL ⟨D.m, D.Z, D.c, J, a, t⟩).length n K G).n (s.r + 1) = n := extN_at s.n _ n
        have q4 : (s.add (L ++ recL ⟨D.m, D.Z, D.c, J, a, t⟩).length n K G).K (s.r + 1) = K := extN_at s.K _ K
        have q5 : (s.add (L ++ recL ⟨D.m, D.Z, D.c, J, a, t⟩).length n K G).G (s.r + 1) = G := extN_at s.G _ G
        rw [q1, q2]
        show LW w _ w' p sc cc (s.n 0) (s.K 0) pb Qv ((s.add (L ++ recL ⟨D.m, D.Z, D.c, J, a, t⟩).length n K G).n (s.r + 1)) ((s.add (L ++ recL ⟨D.m, D.Z, D.c, J, a, t⟩).length n K G).K (s.r + 1)) ((s.add (L ++ recL ⟨D.m, D.Z, D.c, J, a, t⟩).length n K G).G (s.r + 1)) sa' cap' (L ++ recL ⟨D.m, D.Z, D.c, J, a, t⟩) s.safe _ false
        rw [q3, q4, q5]
        exact h
theorem lsync_is : LSyncIs logP := by
  refine ⟨?_, ?_, ?_⟩
  · intro v Q s w hP hs
    obtain ⟨p, sc, cc, pb, Qb, sa, cap, L, fl, dd, rfl, rfl, hM, hf⟩ := hP
    have hM2 := hM.start
    rw [hs] at hM2
    refine (lsync_stop p cc (s.n 0) pb (s.n s.r) cap s.safe sc sa (s.K 0) (s.K s.r) (s.G s.r) Qb L fl true w w _ hM2).mono ?_
    rintro e w' ⟨rfl, h⟩
    rw [← hs] at h
    exact ⟨rfl, logP_done h hf⟩
  · intro v Q s w hP hs hl
    obtain ⟨p, sc, cc, pb, Qb, sa, cap, L, fl, dd, rfl, rfl, hM, hf⟩ := hP
    obtain rfl := left_zero hf hl
    have hM2 := hM.start
    rw [hs] at hM2
    refine (lsync_no p cc (s.n 0) pb (s.n s.r) cap s.safe sc sa (s.K 0) (s.K s.r) (s.G s.r) Qb L 0 false w w _ hM2).mono ?_
    rintro e w' ⟨rfl, h⟩
    have hfit := fit_halt (L' := L) hf hf.whole (by rw [hf.len]; exact Nat.le_refl _) (by rw [hf.len]; omega) (fit_all hf)
    rw [hf.len] at hfit
    exact ⟨rfl, logP_done h hfit⟩
  · intro v Q s w hP hs hl
    obtain ⟨p, sc, cc, pb, Qb, sa, cap, L, fl, dd, rfl, rfl, hM, hf⟩ := hP
    have hfl := left_not hf hl
    have hM2 := hM.start
    rw [hs] at hM2
    refine (lsync_yes p cc (s.n 0) pb (s.n s.r) cap s.safe sc sa (s.K 0) (s.K s.r) (s.G s.r) Qb L fl false w w _ hfl hf.flw hM2).mono ?_
    rintro e w' ⟨rfl, h⟩
    rw [← hs] at h
    have hfit : LogFit s.sync L (bif decide (fl > 0) then fl - 1 else fl) dd := ⟨hf.n12, hf.g0, hf.whole, hf.len, hf.marks, hf.chain, hf.full, left_less hf hfl, flw_less hf.flw, ⟨hf.ok.m0, hf.ok.m1, hf.ok.m2, Nat.le_refl _, hf.ok.m4, hf.ok.m5⟩⟩
    refine ⟨rfl, logP_done (s := s.sync) (L := L) (pb := pb) (Qb := Qb) (sa := sa) (cap := cap) (cc := cc) (sc := sc) ?_ hfit⟩
    show LW w _ w' p sc cc (s.n 0) (s.K 0) pb Qb (s.n s.r) (s.K s.r) (s.G s.r) sa cap L s.all _ s.stop
    rw [← hf.len]
    exact h
theorem llive_is : LLiveIs logP := by
  intro v Q s w hP
  obtain ⟨p, sc, cc, pb, Qb, sa, cap, L, fl, dd, rfl, rfl, hM, hf⟩ := hP
  exact llive_at p cc (s.n 0) pb (s.n s.r) cap s.safe sc sa (s.K 0) (s.K s.r) (s.G s.r) Qb L fl s.stop w (hf.ok.m5 _ (Nat.le_refl _)) hM
theorem ltotal_is : LTotalIs logP := by
  intro v Q s w hP
  obtain ⟨p, sc, cc, pb, Qb, sa, cap, L, fl, dd, rfl, rfl, hM, hf⟩ := hP
  exact ltotal_at p cc (s.n 0) pb (s.n s.r) cap s.safe sc sa (s.K 0) (s.K s.r) (s.G s.r) Qb L fl s.stop w (hf.ok.m5 _ (Nat.le_refl _)) hM
theorem lcrash_is : LCrashIs logP := by
  intro v Q s k w hP hr wk
  obtain ⟨p, sc, cc, pb, Qb, sa, cap, L, fl, d, rfl, rfl, hM, hf⟩ := hP
  obtain ⟨r', hr'⟩ : ∃ r', lastM s.M (s.high k) s.r = r' := ⟨_, rfl⟩
  have hle : r' ≤ s.r := by rw [← hr']; exact lastM_le _ _ _
  have hin : ∀ i, i < s.r → RecIn (d i) := fun i hi => (hf.chain i hi).in
  have hcut : Whole d r' (L.take (s.high k)) := by
    rw [← hr', lastM_congr hf.marks]
    exact whole_cut hin hf.whole
  have hm : s.M r' = catN d r' := hf.marks r' hle
  have hall := catN_le (d := d) (k := r') fun i hi => hin i (by omega)
  refine (lcrash_at p cc pb (s.n s.r) cap s.safe sc sa (s.K s.r) (s.G s.r) Qb L fl s.stop s.r s.n s.K s.G d k (s.high k) r' w _ (lwf_range wk) (by rw [hf.len]; exact hf.ok.m3) (fit_len hf hr) (by rw [hf.len]; rfl) hf.n12 hf.g0 hcut (fun i hi => hf.chain i (by omega)) hM.start).mono ?_
  rintro e w' ⟨rfl, pv, Qv, h⟩
  rw [whole_take hcut] at h
  have hfit : LogFit (s.crash k) (catL d r') (-1) d := by
    unfold LogS.crash
    rw [hr']
    exact ⟨hf.n12, hf.g0, whole_all d r', hm.symm, fun i hi => hf.marks i (Nat.le_trans hi hle), fun i hi => hf.chain i (Nat.lt_of_lt_of_le hi hle), fun _ => rfl, rfl, by omega, ⟨hf.ok.m0, fun i hi => hf.ok.m1 i (Nat.lt_of_lt_of_le hi hle), Nat.le_refl _, Nat.le_refl _, by
      show s.M r' ≤ (r' + 1) * 1099511627776
      omega, fun i hi => hf.ok.m5 i (Nat.le_trans hi hle)⟩⟩
  refine ⟨rfl, logP_done (s := s.crash k) (L := catL d r') (pb := pv) (Qb := Qv) (sa := sa) (cap := cap) (cc := cc) (sc := sc) (fl := -1) ?_ hfit⟩
  unfold LogS.crash
  rw [hr']
  show LW w _ w' p sc cc (s.n 0) (s.K 0) pv Qv (s.n r') (s.K r') (s.G r') sa cap (catL d r') (s.M r') (-1) false
  rw [hm]
  exact h
theorem lnew_is : LNewIs logP := by
  refine ⟨fun sl n d X Y F q w hd h0 hr hc hq => lnew_no sl n d q w fun W hW => bnew_is.1 sl n d X Y F q W hd h0 (brow_up hr hW) hc hq, fun sl n d X Y F K w hn hd h0 hr hK => ?_⟩
  refine (lnew_ok sl n d X Y F K w hn hd h0 hr hK).mono ?_
  rintro e w' ⟨p, sc, cc, pb, Qb, rfl, hM, hQ, hB⟩
  exact ⟨_, _, rfl, ⟨p, sc, cc, pb, Qb, none, 0, [], -1, fun _ => nilR, rfl, rfl, hM, ⟨hn, rfl, whole_all _ 0, rfl, fun i hi => by obtain rfl : i = 0 := Nat.le_zero.1 hi; rfl, (fun i hi => absurd hi (Nat.not_lt_zero _)), fun _ => rfl, rfl, by omega, ⟨rfl, (fun i hi => absurd hi (Nat.not_lt_zero _)), Nat.le_refl _, Nat.le_refl _, Nat.zero_le _, fun i hi => by show n ≤ 1000; omega⟩⟩⟩, hQ, hB⟩
end Go.Proofs.Ytmijjjdedadklaj
/- TopBookedWalk -/
namespace Go.Proofs.Ytmijjjdedadklaj
open Go.RowKit Go.Sort
set_option linter.unusedVariables false
theorem walkTopBooked (w : World) (sv : Option Addr) (nv dv : Nat) (sr : Option Addr) (nr dr : Nat) (sn : Option Addr) (nn dn : Nat) (sy kp : Int) (mv : nv ≤ maxLen) (uv : (nv = 0 ∨ ∃ (b o : Nat) (X : Nat → Int), sv = some ⟨b, o, none⟩ ∧ RowI w b o nv X ∧ ∀ i, i < nv → (Lit.int .i64 (X i)).wf = true)) (mr : nr ≤ maxLen) (ur : (nr = 0 ∨ ∃ (b o : Nat) (X : Nat → Int), sr = some ⟨b, o, none⟩ ∧ RowI w b o nr X ∧ ∀ i, i < nr → (Lit.int .i64 (X i)).wf = true)) (mn : nn ≤ maxLen) (un : (nn = 0 ∨ ∃ (b o : Nat) (X : Nat → Int), sn = some ⟨b, o, none⟩ ∧ RowI w b o nn X ∧ ∀ i, i < nn → (Lit.int .i64 (X i)).wf = true)) (wy : (Lit.int .i64 sy).wf = true) (wk : (Lit.int .i64 kp).wf = true) :
    Calls Try.prog 3 #[.slice sv nv dv, .slice sr nr dr, .slice sn nn dn, .int .i64 sy, .int .i64 kp] w fun e w' => e = .returned (.bool true) ∧ Below w.heap.size w w' :=
  topBooked_by bookP logP bookP_ok logP_ok tone_is hide_is open_is bclose_is bnew_is bexc_is bdo_is btotal_is lnew_is ldo_is lsync_is lcrash_is llive_is ltotal_is w sv nv dv sr nr dr sn nn dn sy kp uv ur un wk
end Go.Proofs.Ytmijjjdedadklaj
/- Open -/
namespace Go.Proofs.Ytmijjjdedadklaj
open Go.ChangeShapes Go.WideShapes Go.ChangeAt Go.RowKit Go.Joins Go.Deep Go.WideElems
set_option linter.unusedVariables false
set_option linter.unusedSimpArgs false

section
variable {H : Type} {enc : TypeId × Value → H} {P : Program} {w : World} {held : Bool}

theorem weights_in {e : TypeId} {d : DataW H} {x : Nat} : ∀ {l : List (DataW H)}, d ∈ l → x ∈ d.weights P e → x ∈ DataW.weightsAll P e l
  | [], h, _ => by cases h
  | c :: r, h, hx => by
    show x ∈ c.weights P e ++ DataW.weightsAll P e r
    rcases List.mem_cons.1 h with rfl | h
    · exact List.mem_append_left _ hx
    · exact List.mem_append_right _ (weights_in h hx)
/-- How long a slice is, by the form's own reach. -/
theorem len_slice {t e : TypeId} {sa : Option Addr} {n c : Nat} {d : DataW H} {p : List MemPlace} (ht : P.underlying t = some (.slice e))
    (h : DataW.Trod enc P w 0 (fun _ => true) held t (.slice sa n c) d p) (hw : ∀ x ∈ d.weights P t, x ≤ reachBytes) : n * P.bytesOf e ≤ reachBytes := by
  obtain ⟨fuel, hf⟩ := h
  rcases open_slice ht hf with ⟨hc, _⟩ | ⟨a, len, cap, m, k, D, Pl, hc, _, hl, hm, hmm, hx, hall⟩
  · simp [Value.cells] at hc
    obtain ⟨rfl, rfl, rfl⟩ := hc
    rw [Nat.zero_mul]; exact Nat.zero_le _
  · simp [Value.cells] at hc
    obtain ⟨rfl, rfl, rfl⟩ := hc
    simp only [if_true] at hmm
    subst hmm
    have hd : d = .slice ((List.range n).map D) ((List.range (m - n)).map fun j => D (n + j)) := congrArg Prod.fst hx
    have hmem : (n + (m - n)) * P.bytesOf e ∈ d.weights P t := by
      rw [hd]
      unfold DataW.weights
      rw [ht]
      simp
    have h1 := hw _ hmem
    have h2 : n * P.bytesOf e ≤ (n + (m - n)) * P.bytesOf e := Nat.mul_le_mul_right _ (by omega)
    exact Nat.le_trans h2 h1
/-- A slice has room for what it holds. -/
theorem room_slice {t e : TypeId} {sa : Option Addr} {n c : Nat} {d : DataW H} {p : List MemPlace} (ht : P.underlying t = some (.slice e))
    (h : DataW.Trod enc P w 0 (fun _ => true) held t (.slice sa n c) d p) : n ≤ c := by
  obtain ⟨fuel, hf⟩ := h
  rcases open_slice ht hf with ⟨hc, _⟩ | ⟨a, len, cap, m, k, D, Pl, hc, _, hl, hm, hmm, hx, hall⟩
  · simp [Value.cells] at hc
    obtain ⟨rfl, rfl, rfl⟩ := hc
    exact Nat.le_refl _
  · simp [Value.cells] at hc
    obtain ⟨rfl, rfl, rfl⟩ := hc
    exact hl
/-- A slice of texts: how long each one is, too. -/
theorem open_texts {r : Reach} {b0 : Nat} {t e : TypeId} {v : Value} {d : DataW H} {p : List MemPlace} (ht : P.underlying t = some (.slice e)) (he : P.underlying e = some .string) (ce : P.cellsOf e = 1)
    (hv : Value.okWide P w r b0 t v) (h : DataW.Trod enc P w 0 (fun _ => true) held t v d p) (hw : ∀ x ∈ d.weights P t, x ≤ reachBytes) :
    ∃ (sa : Option Addr) (n c : Nat), v = .slice sa n c ∧ n ≤ maxLen ∧ (n = 0 ∨ ∃ (b o : Nat) (T : Nat → ByteArray), sa = some ⟨b, o, none⟩ ∧ RowZ w b o n T ∧ ∀ i, i < n → (T i).size ≤ reachBytes) := by
  obtain ⟨sa, n, c, rfl⟩ := okWide_slice ht hv
  obtain ⟨fuel, hf⟩ := h
  rcases open_slice ht hf with ⟨hc, _⟩ | ⟨a, len, cap, m, k, D, Pl, hc, _, hl, hm, hmm, hx, hall⟩
  · simp [Value.cells] at hc
    obtain ⟨rfl, rfl, rfl⟩ := hc
    exact ⟨none, 0, 0, rfl, by decide, Or.inl rfl⟩
  · simp [Value.cells] at hc
    obtain ⟨rfl, rfl, rfl⟩ := hc
    simp only [if_true] at hmm
    subst hmm
    refine ⟨some a, n, m, rfl, by omega, ?_⟩
    rcases Nat.eq_zero_or_pos n with h0 | hn
    · exact Or.inl h0
    right
    have each : ∀ i, i < n → ∃ q : ByteArray, w.cell? (a.add i) = some (.string q) ∧ q.size ≤ reachBytes := by
      intro i hi
      obtain ⟨cs, h1, h2⟩ := hall i (by omega)
      rw [ce] at h1
      obtain ⟨_, hlen, hcell⟩ := World.cells?_some h1
      obtain ⟨s, rfl, hs, _⟩ := DataW.trod_string he h2
      have e0 := hcell 0 (by omega)
      refine ⟨s, by simpa [Addr.add, Nat.mul_one] using e0, ?_⟩
      have hd : d = .slice ((List.range n).map D) ((List.range (m - n)).map fun j => D (n + j)) := congrArg Prod.fst hx
      have hD : D i = .lit (.string s.data.toList) := congrArg Prod.fst hs
      have hmem : s.data.toList.length ∈ d.weights P t := by
        rw [hd]
        unfold DataW.weights
        rw [ht]
        refine List.mem_cons_of_mem _ (List.mem_append_left _ (weights_in (d := D i) (List.mem_map.2 ⟨i, List.mem_range.2 hi, rfl⟩) ?_))
        rw [hD]
        unfold DataW.weights
        simp
      have := hw _ hmem
      rw [Array.length_toList] at this
      exact this
    obtain ⟨q, hq⟩ := choose_lt (α := ByteArray) each
    obtain ⟨b, o, spot⟩ := a
    have hspot : spot = none := by simpa [Addr.add] using World.cell?_spot (hq 0 hn).1
    subst hspot
    refine ⟨b, o, q, rfl, ⟨?_, fun i hi => ?_⟩, fun i hi => (hq i hi).2⟩
    · have h1 := (hq 0 hn).1
      rw [Addr.add_lit] at h1; exact World.block_lt_of_cell? _ _ h1
    · have h1 := (hq i hi).1
      rwa [Addr.add_lit] at h1
/-- A slice of ints. -/
theorem open_nums {r : Reach} {b0 : Nat} {t e : TypeId} {v : Value} {d : DataW H} {p : List MemPlace} (ht : P.underlying t = some (.slice e)) (he : P.underlying e = some (.int .i64)) (ce : P.cellsOf e = 1)
    (hv : Value.okWide P w r b0 t v) (h : DataW.Trod enc P w 0 (fun _ => true) held t v d p) :
    ∃ (sa : Option Addr) (n c : Nat), v = .slice sa n c ∧ n ≤ maxLen ∧ (n = 0 ∨ ∃ (b o : Nat) (X : Nat → Int), sa = some ⟨b, o, none⟩ ∧ RowI w b o n X ∧ ∀ i, i < n → (Lit.int .i64 (X i)).wf = true) := by
  obtain ⟨sa, n, c, rfl⟩ := okWide_slice ht hv
  obtain ⟨fuel, hf⟩ := h
  rcases open_slice ht hf with ⟨hc, _⟩ | ⟨a, len, cap, m, k, D, Pl, hc, _, hl, hm, hmm, hx, hall⟩
  · simp [Value.cells] at hc
    obtain ⟨rfl, rfl, rfl⟩ := hc
    exact ⟨none, 0, 0, rfl, by decide, Or.inl rfl⟩
  · simp [Value.cells] at hc
    obtain ⟨rfl, rfl, rfl⟩ := hc
    simp only [if_true] at hmm
    subst hmm
    refine ⟨some a, n, m, rfl, by omega, ?_⟩
    rcases Nat.eq_zero_or_pos n with h0 | hn
    · exact Or.inl h0
    right
    have each : ∀ i, i < n → ∃ q : Int, w.cell? (a.add i) = some (.int .i64 q) ∧ (Lit.int .i64 q).wf = true := by
      intro i hi
      obtain ⟨cs, h1, h2⟩ := hall i (by omega)
      rw [ce] at h1
      obtain ⟨_, hlen, hcell⟩ := World.cells?_some h1
      obtain ⟨s, rfl, hs, ws⟩ := DataW.trod_int he h2
      have e0 := hcell 0 (by omega)
      exact ⟨s, by simpa [Addr.add, Nat.mul_one] using e0, ws⟩
    obtain ⟨q, hq⟩ := choose_lt (α := Int) each
    obtain ⟨b, o, spot⟩ := a
    have hspot : spot = none := by simpa [Addr.add] using World.cell?_spot (hq 0 hn).1
    subst hspot
    refine ⟨b, o, q, rfl, ⟨?_, fun i hi => ?_⟩, fun i hi => (hq i hi).2⟩
    · have h1 := (hq 0 hn).1
      rw [Addr.add_lit] at h1; exact World.block_lt_of_cell? _ _ h1
    · have h1 := (hq i hi).1
      rwa [Addr.add_lit] at h1
theorem cells_two {W : World} {base : Nat} {a : Addr} {cs : List Value} (h : W.cells? base a 2 = some cs) : ∃ v0 v1, cs = [v0, v1] ∧ W.cell? a = some v0 ∧ W.cell? (a.add 1) = some v1 := by
  obtain ⟨_, hlen, hcell⟩ := World.cells?_some h
  match cs, hlen with
  | [v0, v1], _ =>
    have e0 := hcell 0 (by omega)
    have e1 := hcell 1 (by omega)
    exact ⟨v0, v1, rfl, by simpa [Addr.add] using e0, by simpa using e1⟩
/-- A slice of structs of two ints. -/
theorem open_twos {r : Reach} {b0 : Nat} {t e : TypeId} {f0 f1 : Field} {v : Value} {d : DataW H} {p : List MemPlace} (ht : P.underlying t = some (.slice e)) (he : P.underlying e = some (.struct #[f0, f1])) (ce : P.cellsOf e = 2)
    (o0 : f0.offset = 0) (o1 : f1.offset = 1) (c0 : P.cellsOf f0.type = 1) (c1 : P.cellsOf f1.type = 1) (u0 : P.underlying f0.type = some (.int .i64)) (u1 : P.underlying f1.type = some (.int .i64))
    (hv : Value.okWide P w r b0 t v) (h : DataW.Trod enc P w 0 (fun _ => true) held t v d p) :
    ∃ (sa : Option Addr) (n c : Nat), v = .slice sa n c ∧ n ≤ maxLen ∧ (n = 0 ∨ ∃ (b o : Nat) (X Y : Nat → Int), sa = some ⟨b, o, none⟩ ∧ RowP w b o n X Y ∧ ∀ i, i < n → (Lit.int .i64 (X i)).wf = true ∧ (Lit.int .i64 (Y i)).wf = true) := by
  obtain ⟨sa, n, c, rfl⟩ := okWide_slice ht hv
  obtain ⟨fuel, hf⟩ := h
  rcases open_slice ht hf with ⟨hc, _⟩ | ⟨a, len, cap, m, k, D, Pl, hc, _, hl, hm, hmm, hx, hall⟩
  · simp [Value.cells] at hc
    obtain ⟨rfl, rfl, rfl⟩ := hc
    exact ⟨none, 0, 0, rfl, by decide, Or.inl rfl⟩
  · simp [Value.cells] at hc
    obtain ⟨rfl, rfl, rfl⟩ := hc
    simp only [if_true] at hmm
    subst hmm
    refine ⟨some a, n, m, rfl, by omega, ?_⟩
    rcases Nat.eq_zero_or_pos n with h0 | hn
    · exact Or.inl h0
    right
    have each : ∀ i, i < n → ∃ q : Int × Int, w.cell? (a.add (i * 2)) = some (.int .i64 q.1) ∧ w.cell? (a.add (i * 2 + 1)) = some (.int .i64 q.2) ∧ (Lit.int .i64 q.1).wf = true ∧ (Lit.int .i64 q.2).wf = true := by
      intro i hi
      obtain ⟨cs, h1, h2⟩ := hall i (by omega)
      rw [ce] at h1
      obtain ⟨v0, v1, rfl, g0, g1⟩ := cells_two h1
      rw [add_add] at g1
      obtain ⟨xs, k', hk, _, _, hxl, hfd⟩ := DataW.trod_struct he h2
      match xs, hxl with
      | [y0, y1], _ =>
        have q0 := hfd 0 f0 rfl
        have q1 := hfd 1 f1 rfl
        simp [o0, o1, c0, c1] at q0 q1
        obtain ⟨x, e0, _, wx⟩ := DataW.trod_int u0 q0
        obtain ⟨y, e1, _, wy⟩ := DataW.trod_int u1 q1
        simp at e0 e1
        subst e0 e1
        exact ⟨(x, y), g0, g1, wx, wy⟩
    obtain ⟨q, hq⟩ := choose_lt (α := Int × Int) each
    obtain ⟨b, o, spot⟩ := a
    have hspot : spot = none := by simpa [Addr.add] using World.cell?_spot (hq 0 hn).1
    subst hspot
    refine ⟨b, o, fun i => (q i).1, fun i => (q i).2, rfl, ⟨?_, fun i hi => ?_⟩, fun i hi => (hq i hi).2.2⟩
    · have h1 := (hq 0 hn).1
      rw [Addr.add_lit] at h1; exact World.block_lt_of_cell? _ _ h1
    · obtain ⟨h1, h2, _⟩ := hq i hi
      simp only [Addr.add_lit] at h1 h2
      exact ⟨h1, by rw [Nat.add_assoc]; exact h2⟩
end
end Go.Proofs.Ytmijjjdedadklaj
