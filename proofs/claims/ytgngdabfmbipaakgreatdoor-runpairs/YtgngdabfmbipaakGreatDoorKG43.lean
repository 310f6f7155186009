/- What package run answers to one line: done, answer. -/
import Derived.Test.YtgngdabfmbipaakGreatDoorKG42
import Derived.Laws.EntriesVeiled
namespace Go.Proofs.YtgngdabfmbipaakGreatDoor
open Go.RowKit Go.Sort Go.Shelf
set_option linter.unusedVariables false
set_option linter.unusedSimpArgs false
/-- What is done with a line: an answer, or an error that is answered by its name. -/
def DoneV (a : Addr) (X : ByteArray) (ev : Value) (ans : ByteArray) : Prop :=
  (ev = .nilIface ∧ X = ans) ∨ (∃ n : Nat, (n = 1 ∨ n = 4 ∨ n = 5) ∧ ans = nameB n ∧ ev = errOf (n : Int)) ∨ (ev = .iface 214 (.pointer (some a)) ∧ ans = badB)
theorem done_v {a : Addr} {F : FuncId} {args : Array Value} {w : World} {ans : ByteArray} (h : Calls Tryz.prog F args w fun e w' => DoneB e ans ∧ Below w.heap.size w w') :
    Calls Tryz.prog F args w fun e w' => (∃ X ev, e = .returned (.tuple #[.string X, ev]) ∧ DoneV a X ev ans) ∧ Below w.heap.size w w' := by
  refine h.mono ?_
  rintro e w' ⟨hd, k⟩
  refine ⟨?_, k⟩
  rcases hd with rfl | ⟨n, hn, hs, rfl⟩
  · exact ⟨_, _, rfl, Or.inl ⟨rfl, rfl⟩⟩
  · exact ⟨_, _, rfl, Or.inr (Or.inl ⟨n, hn, hs, rfl⟩)⟩
theorem beq_k {k : Nat} (h : k ≠ 0) : Nat.beq k 0 = false := by
  cases hq : Nat.beq k 0 with
  | false => rfl
  | true => exact absurd (Nat.eq_of_beq_eq_true hq) h
/-- A line by what is read of it. -/
theorem line_t {s : ByteArray} {k nb : Nat} (hk : kindB (wordA s) = k) (k0 : k ≠ 0) (ht : textB k = true) (hm : manyB k = nb) :
    lineB s = match readN nb true (tailW nb (wordM s) (wordR s)) with | none => badB | some q => ansB k (q.1.getD 0 0) (q.1.getD 1 0) (q.1.getD 2 0) q.2 := by
  rw [← read_text nb (wordR s) (wordM s)]
  unfold lineB
  rw [hk, beq_k k0, hm, ht]
  cases argsB nb (wordR s) (wordM s) with
  | none => rfl
  | some q =>
    obtain ⟨l, t, c⟩ := q
    cases c with
    | true => rfl
    | false => rfl
theorem line_n {s : ByteArray} {k n : Nat} (hk : kindB (wordA s) = k) (k0 : k ≠ 0) (ht : textB k = false) (hm : manyB k = n + 1) :
    lineB s = match readN (n + 1) false (tailW n (wordM s) (wordR s)) with | none => badB | some q => ansB k (q.1.getD 0 0) (q.1.getD 1 0) (q.1.getD 2 0) q.2 := by
  rw [← read_num n (wordR s) (wordM s)]
  unfold lineB
  rw [hk, beq_k k0, hm, ht]
  cases argsB (n + 1) (wordR s) (wordM s) with
  | none => rfl
  | some q =>
    obtain ⟨l, t, c⟩ := q
    cases c with
    | true => rfl
    | false => rfl
theorem line_none {s : ByteArray} (hk : kindB (wordA s) = 0) : lineB s = badB := by
  unfold lineB
  rw [hk]
  rfl
set_option maxRecDepth 100000 in
set_option maxHeartbeats 4000000 in
theorem done_none (a : Addr) (mb pb : Nat) (s : ByteArray) (w : World) (h : Lie a w) (hc : Cmds w mb pb) (hs : s.size ≤ 3000) (hlk : ∀ V, Cmds V mb pb → (Instr.lookup 40 (.map (some mb)) (.string (wordA s)) true).run Tryz.prog V = .ok (.tuple #[.agg #[.int .i64 0, .bool false, .nilFunc], .bool false]) V) : Calls Tryz.prog 47 #[.map (some mb), .string s] w fun e w' => e = .returned (.tuple #[.string ⟨#[]⟩, .iface 214 (.pointer (some a))]) ∧ Below w.heap.size w w' := by
  have HL : Hid (Lie a w) := h
  have HCM : Hid (Cmds w mb pb) := hc
  have HLK : Hid (∀ V, Cmds V mb pb → (Instr.lookup 40 (.map (some mb)) (.string (wordA s)) true).run Tryz.prog V = .ok (.tuple #[.agg #[.int .i64 0, .bool false, .nilFunc], .bool false]) V) := hlk
  clear h hc hlk
  have m1 : True := trivial
  go_enter Tryz.func47, Tryz.ntmps47
  go_upto_region 4 with (go_at_call 45; clear m1; refine (cut_first a s _ (HL.out.below (show Below w.heap.size w _ from below_by)) hs).mono ?_; rintro e w1 ⟨⟨v1, b1, rfl⟩, hb1⟩; have hq1 : Below w.heap.size w w1 := (below_by); have hz1 := hq1.size; have hlk := HLK.out w1 (HCM.out.below hq1); clear hb1)
  refine wp_gen (fun V => Below w.heap.size w V) (below_by) ?_
  intro V hqV
  have hzV := hqV.size
  have cbad : V.cell? ⟨0, 0, none⟩ = some (.iface 214 (.pointer (some a))) := (HL.out.below hqV).bad
  have hlt := (HL.out.below hqV).lt
  go_quiet (fail)
  go_wp2_with fail
  exact bodyPost_ret (v := .tuple #[.string ⟨#[]⟩, .iface 214 (.pointer (some a))]) (by simp [results, Tryz.results47, go_sem, *]) rfl ⟨rfl, below_by⟩
set_option maxRecDepth 100000 in
set_option maxHeartbeats 4000000 in
theorem done_bad (a : Addr) (mb pb nb : Nat) (tx : Bool) (fv : Value) (hf : ∃ f c r, fv = .func f c r) (s : ByteArray) (w : World) (h : Lie a w) (hc : Cmds w mb pb) (hs : s.size ≤ 3000) (hlk : ∀ V, Cmds V mb pb → (Instr.lookup 40 (.map (some mb)) (.string (wordA s)) true).run Tryz.prog V = .ok (.tuple #[.agg #[.int .i64 (nb : Int), .bool tx, fv], .bool true]) V)
    (hrd : ∀ w, Lie a w → Calls Tryz.prog 87 #[.agg #[.int .i64 (nb : Int), .bool tx, fv], .string s] w fun e w' => e = .returned (.tuple #[.agg #[.slice none 0 0, .string ⟨#[]⟩], .iface 214 (.pointer (some a))]) ∧ Below w.heap.size w w') : Calls Tryz.prog 47 #[.map (some mb), .string s] w fun e w' => e = .returned (.tuple #[.string ⟨#[]⟩, .iface 214 (.pointer (some a))]) ∧ Below w.heap.size w w' := by
  have HL : Hid (Lie a w) := h
  have HCM : Hid (Cmds w mb pb) := hc
  have HLK : Hid (∀ V, Cmds V mb pb → (Instr.lookup 40 (.map (some mb)) (.string (wordA s)) true).run Tryz.prog V = .ok (.tuple #[.agg #[.int .i64 (nb : Int), .bool tx, fv], .bool true]) V) := hlk
  have HRD : Hid (∀ w, Lie a w → Calls Tryz.prog 87 #[.agg #[.int .i64 (nb : Int), .bool tx, fv], .string s] w fun e w' => e = .returned (.tuple #[.agg #[.slice none 0 0, .string ⟨#[]⟩], .iface 214 (.pointer (some a))]) ∧ Below w.heap.size w w') := hrd
  obtain ⟨f, c, r, rfl⟩ := hf
  clear h hc hlk hrd
  have m1 : True := trivial; have m2 : True := trivial
  go_enter Tryz.func47, Tryz.ntmps47
  go_wp2_with (first | (go_at_call 45; clear m1; refine (cut_first a s _ (HL.out.below (show Below w.heap.size w _ from below_by)) hs).mono ?_; rintro e w1 ⟨⟨v1, b1, rfl⟩, hb1⟩; have hq1 : Below w.heap.size w w1 := (below_by); have hz1 := hq1.size; have hlk := HLK.out w1 (HCM.out.below hq1); clear hb1) | (go_at_call 87; clear m2; refine (HRD.out _ (HL.out.below (show Below w.heap.size w _ from below_by))).mono ?_; rintro e w2 ⟨rfl, hb2⟩; have hq2 : Below w.heap.size w w2 := (below_by); have hz2 := hq2.size; clear hb2))
  exact bodyPost_ret (v := .tuple #[.string ⟨#[]⟩, .iface 214 (.pointer (some a))]) (by simp [results, Tryz.results47, go_sem, *]) rfl ⟨rfl, below_by⟩
set_option maxRecDepth 100000 in
set_option maxHeartbeats 4000000 in
theorem done_base (a : Addr) (mb pb : Nat) (s : ByteArray) (w : World) (h : Lie a w) (hc : Cmds w mb pb) (hs : s.size ≤ 3000) (hk : kindB (wordA s) = 1) (hw : wordA s = ⟨#[98, 97, 115, 101]⟩) :
    Calls Tryz.prog 47 #[.map (some mb), .string s] w fun e w' => (∃ X ev, e = .returned (.tuple #[.string X, ev]) ∧ DoneV a X ev (lineB s)) ∧ Below w.heap.size w w' := by
  have HL : Hid (Lie a w) := h
  have HCM : Hid (Cmds w mb pb) := hc
  have hlk0 : ∀ V, Cmds V mb pb → (Instr.lookup 40 (.map (some mb)) (.string (wordA s)) true).run Tryz.prog V = .ok (.tuple #[.agg #[.int .i64 1, .bool false, .func (.func 24) #[] #[.pointer (some ⟨pb, 0, none⟩)]], .bool true]) V := fun V hV => look_hit Tryz.underlying40 Tryz.underlying9 hV.1 (by rw [hw]; exact find_base pb)
  have hln := line_n (k := 1) (n := 0) hk (by decide) rfl rfl
  have hs' := hs
  cases hR : readN 1 false (tailW 0 (wordM s) (wordR s)) with
  | none =>
    rw [hR] at hln
    refine (done_bad a mb pb 1 false _ ⟨_, _, _, rfl⟩ s w h hc hs hlk0 (fun w h => ?_)).mono ?_
    · refine (read_n a 1 _ s w h hs (by omega) (by omega)).mono ?_
      rintro e w' ⟨hr, q⟩
      refine ⟨?_, q⟩
      rcases hr with ⟨_, rfl⟩ | ⟨K, v, t, hR2, _⟩
      · rfl
      · have hR3 := hR.symm.trans hR2
        cases hR3
    · rintro e w' ⟨rfl, q⟩
      exact ⟨⟨_, _, rfl, Or.inr (Or.inr ⟨rfl, hln⟩)⟩, q⟩
  | some q =>
    rw [hR] at hln
    have HLK : Hid (∀ V, Cmds V mb pb → (Instr.lookup 40 (.map (some mb)) (.string (wordA s)) true).run Tryz.prog V = .ok (.tuple #[.agg #[.int .i64 1, .bool false, .func (.func 24) #[] #[.pointer (some ⟨pb, 0, none⟩)]], .bool true]) V) := hlk0
    have HRD : Hid (∀ w, Lie a w → Calls Tryz.prog 87 #[.agg #[.int .i64 1, .bool false, .func (.func 24) #[] #[.pointer (some ⟨pb, 0, none⟩)]], .string s] w fun e w' => (∃ (K : Nat → Nat) (g c : Nat) (t : ByteArray), lineB s = ansB 1 (K 0) (0) (0) t ∧ (∀ j, j < 1 → K j ≤ 9999) ∧ t.size ≤ 3000 ∧ 1 ≤ c ∧ e = .returned (.tuple #[.agg #[.slice (some ⟨g, 0, none⟩) 1 c, .string t], .nilIface]) ∧ At w' g [.int .i64 (K 0 : Int)]) ∧ Below w.heap.size w w') := fun w h => by
      refine (read_n a 1 _ s w h hs (by omega) (by omega)).mono ?_
      rintro e w' ⟨hr, q2⟩
      refine ⟨?_, q2⟩
      rcases hr with ⟨hR2, _⟩ | ⟨K, v, t, hR2, hK, ht, rfl, hgot⟩
      · have hR3 := hR.symm.trans hR2
        cases hR3
      · have hR3 : some q = some _ := hR.symm.trans hR2
        injection hR3 with hR3
        subst hR3
        rcases hgot with ⟨h0, _⟩ | ⟨g, c, _, rfl, hc, _, kg⟩
        · exact absurd h0 (by decide)
        · exact ⟨K, g, c, t, hln, hK, ht, hc, rfl, kg⟩
    have HS : Hid (s.size ≤ 3000) := hs
    clear h hc hlk0 hln hR hk hw hs'
    have m1 : True := trivial; have m2 : True := trivial; have m3 : True := trivial
    go_enter Tryz.func47, Tryz.ntmps47
    go_wp2_with (first | (go_at_call 45; clear m1; refine (cut_first a s _ (HL.out.below (show Below w.heap.size w _ from below_by)) hs).mono ?_; rintro e w1 ⟨⟨v1, b1, rfl⟩, hb1⟩; have hq1 : Below w.heap.size w w1 := (below_by); have hz1 := hq1.size; have hlk := HLK.out w1 (HCM.out.below hq1); clear hb1) | (go_at_call 87; clear m2; refine (HRD.out _ (HL.out.below (show Below w.heap.size w _ from below_by))).mono ?_; rintro e w2 ⟨⟨K, g, c, t, hln, hK, ht, hcc, rfl, kg2⟩, hb2⟩; have HLN : Hid (lineB s = ansB 1 (K 0) (0) (0) t) := hln; have kc2 : At w2 w1.heap.size [.int .i64 1, .bool false, .func (.func 24) #[] #[.pointer (some ⟨pb, 0, none⟩)]] := (at_red); obtain ⟨zc2, cc20, cc21, cc22, fc20, fc21, fc22⟩ := kc2.three; have hq2 : Below w.heap.size w w2 := (below_by); have hz2 := hq2.size; clear hb2 hln) | (go_at_call 24; clear m3; refine Calls.mono (done_v (a := a) (do_base a g c pb (K 0) 0 0 t _ ?p1 ?p3 ?p2 (hK 0 (by omega)))) ?p9; (case p1 => (refine HL.out.below ?_; exact (below_by))); (case p2 => (refine Cmds.at (Cmds.below HCM.out ?_); exact (below_by))); (case p3 => (refine kg2.below ?_; exact (below_by))); rintro e w3 ⟨⟨X, ev, rfl, hdv⟩, hb3⟩; have HDV : Hid (DoneV a X ev (lineB s)) := (by unfold Hid; rw [HLN.out]; exact hdv); have hq3 : Below w.heap.size w w3 := (below_by); clear hdv hb3))
    exact bodyPost_ret (v := .tuple #[.string X, ev]) (by simp [results, Tryz.results47, go_sem, *]) rfl ⟨⟨X, ev, rfl, HDV.out⟩, below_by⟩
set_option maxRecDepth 100000 in
set_option maxHeartbeats 4000000 in
theorem done_lift (a : Addr) (mb pb : Nat) (s : ByteArray) (w : World) (h : Lie a w) (hc : Cmds w mb pb) (hs : s.size ≤ 3000) (hk : kindB (wordA s) = 2) (hw : wordA s = ⟨#[108, 105, 102, 116]⟩) :
    Calls Tryz.prog 47 #[.map (some mb), .string s] w fun e w' => (∃ X ev, e = .returned (.tuple #[.string X, ev]) ∧ DoneV a X ev (lineB s)) ∧ Below w.heap.size w w' := by
  have HL : Hid (Lie a w) := h
  have HCM : Hid (Cmds w mb pb) := hc
  have hlk0 : ∀ V, Cmds V mb pb → (Instr.lookup 40 (.map (some mb)) (.string (wordA s)) true).run Tryz.prog V = .ok (.tuple #[.agg #[.int .i64 1, .bool false, .func (.func 26) #[] #[]], .bool true]) V := fun V hV => look_hit Tryz.underlying40 Tryz.underlying9 hV.1 (by rw [hw]; exact find_lift pb)
  have hln := line_n (k := 2) (n := 0) hk (by decide) rfl rfl
  have hs' := hs
  cases hR : readN 1 false (tailW 0 (wordM s) (wordR s)) with
  | none =>
    rw [hR] at hln
    refine (done_bad a mb pb 1 false _ ⟨_, _, _, rfl⟩ s w h hc hs hlk0 (fun w h => ?_)).mono ?_
    · refine (read_n a 1 _ s w h hs (by omega) (by omega)).mono ?_
      rintro e w' ⟨hr, q⟩
      refine ⟨?_, q⟩
      rcases hr with ⟨_, rfl⟩ | ⟨K, v, t, hR2, _⟩
      · rfl
      · have hR3 := hR.symm.trans hR2
        cases hR3
    · rintro e w' ⟨rfl, q⟩
      exact ⟨⟨_, _, rfl, Or.inr (Or.inr ⟨rfl, hln⟩)⟩, q⟩
  | some q =>
    rw [hR] at hln
    have HLK : Hid (∀ V, Cmds V mb pb → (Instr.lookup 40 (.map (some mb)) (.string (wordA s)) true).run Tryz.prog V = .ok (.tuple #[.agg #[.int .i64 1, .bool false, .func (.func 26) #[] #[]], .bool true]) V) := hlk0
    have HRD : Hid (∀ w, Lie a w → Calls Tryz.prog 87 #[.agg #[.int .i64 1, .bool false, .func (.func 26) #[] #[]], .string s] w fun e w' => (∃ (K : Nat → Nat) (g c : Nat) (t : ByteArray), lineB s = ansB 2 (K 0) (0) (0) t ∧ (∀ j, j < 1 → K j ≤ 9999) ∧ t.size ≤ 3000 ∧ 1 ≤ c ∧ e = .returned (.tuple #[.agg #[.slice (some ⟨g, 0, none⟩) 1 c, .string t], .nilIface]) ∧ At w' g [.int .i64 (K 0 : Int)]) ∧ Below w.heap.size w w') := fun w h => by
      refine (read_n a 1 _ s w h hs (by omega) (by omega)).mono ?_
      rintro e w' ⟨hr, q2⟩
      refine ⟨?_, q2⟩
      rcases hr with ⟨hR2, _⟩ | ⟨K, v, t, hR2, hK, ht, rfl, hgot⟩
      · have hR3 := hR.symm.trans hR2
        cases hR3
      · have hR3 : some q = some _ := hR.symm.trans hR2
        injection hR3 with hR3
        subst hR3
        rcases hgot with ⟨h0, _⟩ | ⟨g, c, _, rfl, hc, _, kg⟩
        · exact absurd h0 (by decide)
        · exact ⟨K, g, c, t, hln, hK, ht, hc, rfl, kg⟩
    have HS : Hid (s.size ≤ 3000) := hs
    clear h hc hlk0 hln hR hk hw hs'
    have m1 : True := trivial; have m2 : True := trivial; have m3 : True := trivial
    go_enter Tryz.func47, Tryz.ntmps47
    go_wp2_with (first | (go_at_call 45; clear m1; refine (cut_first a s _ (HL.out.below (show Below w.heap.size w _ from below_by)) hs).mono ?_; rintro e w1 ⟨⟨v1, b1, rfl⟩, hb1⟩; have hq1 : Below w.heap.size w w1 := (below_by); have hz1 := hq1.size; have hlk := HLK.out w1 (HCM.out.below hq1); clear hb1) | (go_at_call 87; clear m2; refine (HRD.out _ (HL.out.below (show Below w.heap.size w _ from below_by))).mono ?_; rintro e w2 ⟨⟨K, g, c, t, hln, hK, ht, hcc, rfl, kg2⟩, hb2⟩; have HLN : Hid (lineB s = ansB 2 (K 0) (0) (0) t) := hln; have kc2 : At w2 w1.heap.size [.int .i64 1, .bool false, .func (.func 26) #[] #[]] := (at_red); obtain ⟨zc2, cc20, cc21, cc22, fc20, fc21, fc22⟩ := kc2.three; have hq2 : Below w.heap.size w w2 := (below_by); have hz2 := hq2.size; clear hb2 hln) | (go_at_call 26; clear m3; refine Calls.mono (done_v (a := a) (do_lift a g c (K 0) 0 0 t _ ?p1 ?p3 (hK 0 (by omega)))) ?p9; (case p1 => (refine HL.out.below ?_; exact (below_by))); (case p3 => (refine kg2.below ?_; exact (below_by))); rintro e w3 ⟨⟨X, ev, rfl, hdv⟩, hb3⟩; have HDV : Hid (DoneV a X ev (lineB s)) := (by unfold Hid; rw [HLN.out]; exact hdv); have hq3 : Below w.heap.size w w3 := (below_by); clear hdv hb3))
    exact bodyPost_ret (v := .tuple #[.string X, ev]) (by simp [results, Tryz.results47, go_sem, *]) rfl ⟨⟨X, ev, rfl, HDV.out⟩, below_by⟩
set_option maxRecDepth 100000 in
set_option maxHeartbeats 4000000 in
theorem done_order (a : Addr) (mb pb : Nat) (s : ByteArray) (w : World) (h : Lie a w) (hc : Cmds w mb pb) (hs : s.size ≤ 3000) (hk : kindB (wordA s) = 3) (hw : wordA s = ⟨#[111, 114, 100, 101, 114]⟩) :
    Calls Tryz.prog 47 #[.map (some mb), .string s] w fun e w' => (∃ X ev, e = .returned (.tuple #[.string X, ev]) ∧ DoneV a X ev (lineB s)) ∧ Below w.heap.size w w' := by
  have HL : Hid (Lie a w) := h
  have HCM : Hid (Cmds w mb pb) := hc
  have hlk0 : ∀ V, Cmds V mb pb → (Instr.lookup 40 (.map (some mb)) (.string (wordA s)) true).run Tryz.prog V = .ok (.tuple #[.agg #[.int .i64 1, .bool false, .func (.func 27) #[] #[.pointer (some ⟨pb, 0, none⟩)]], .bool true]) V := fun V hV => look_hit Tryz.underlying40 Tryz.underlying9 hV.1 (by rw [hw]; exact find_order pb)
  have hln := line_n (k := 3) (n := 0) hk (by decide) rfl rfl
  have hs' := hs
  cases hR : readN 1 false (tailW 0 (wordM s) (wordR s)) with
  | none =>
    rw [hR] at hln
    refine (done_bad a mb pb 1 false _ ⟨_, _, _, rfl⟩ s w h hc hs hlk0 (fun w h => ?_)).mono ?_
    · refine (read_n a 1 _ s w h hs (by omega) (by omega)).mono ?_
      rintro e w' ⟨hr, q⟩
      refine ⟨?_, q⟩
      rcases hr with ⟨_, rfl⟩ | ⟨K, v, t, hR2, _⟩
      · rfl
      · have hR3 := hR.symm.trans hR2
        cases hR3
    · rintro e w' ⟨rfl, q⟩
      exact ⟨⟨_, _, rfl, Or.inr (Or.inr ⟨rfl, hln⟩)⟩, q⟩
  | some q =>
    rw [hR] at hln
    have HLK : Hid (∀ V, Cmds V mb pb → (Instr.lookup 40 (.map (some mb)) (.string (wordA s)) true).run Tryz.prog V = .ok (.tuple #[.agg #[.int .i64 1, .bool false, .func (.func 27) #[] #[.pointer (some ⟨pb, 0, none⟩)]], .bool true]) V) := hlk0
    have HRD : Hid (∀ w, Lie a w → Calls Tryz.prog 87 #[.agg #[.int .i64 1, .bool false, .func (.func 27) #[] #[.pointer (some ⟨pb, 0, none⟩)]], .string s] w fun e w' => (∃ (K : Nat → Nat) (g c : Nat) (t : ByteArray), lineB s = ansB 3 (K 0) (0) (0) t ∧ (∀ j, j < 1 → K j ≤ 9999) ∧ t.size ≤ 3000 ∧ 1 ≤ c ∧ e = .returned (.tuple #[.agg #[.slice (some ⟨g, 0, none⟩) 1 c, .string t], .nilIface]) ∧ At w' g [.int .i64 (K 0 : Int)]) ∧ Below w.heap.size w w') := fun w h => by
      refine (read_n a 1 _ s w h hs (by omega) (by omega)).mono ?_
      rintro e w' ⟨hr, q2⟩
      refine ⟨?_, q2⟩
      rcases hr with ⟨hR2, _⟩ | ⟨K, v, t, hR2, hK, ht, rfl, hgot⟩
      · have hR3 := hR.symm.trans hR2
        cases hR3
      · have hR3 : some q = some _ := hR.symm.trans hR2
        injection hR3 with hR3
        subst hR3
        rcases hgot with ⟨h0, _⟩ | ⟨g, c, _, rfl, hc, _, kg⟩
        · exact absurd h0 (by decide)
        · exact ⟨K, g, c, t, hln, hK, ht, hc, rfl, kg⟩
    have HS : Hid (s.size ≤ 3000) := hs
    clear h hc hlk0 hln hR hk hw hs'
    have m1 : True := trivial; have m2 : True := trivial; have m3 : True := trivial
    go_enter Tryz.func47, Tryz.ntmps47
    go_wp2_with (first | (go_at_call 45; clear m1; refine (cut_first a s _ (HL.out.below (show Below w.heap.size w _ from below_by)) hs).mono ?_; rintro e w1 ⟨⟨v1, b1, rfl⟩, hb1⟩; have hq1 : Below w.heap.size w w1 := (below_by); have hz1 := hq1.size; have hlk := HLK.out w1 (HCM.out.below hq1); clear hb1) | (go_at_call 87; clear m2; refine (HRD.out _ (HL.out.below (show Below w.heap.size w _ from below_by))).mono ?_; rintro e w2 ⟨⟨K, g, c, t, hln, hK, ht, hcc, rfl, kg2⟩, hb2⟩; have HLN : Hid (lineB s = ansB 3 (K 0) (0) (0) t) := hln; have kc2 : At w2 w1.heap.size [.int .i64 1, .bool false, .func (.func 27) #[] #[.pointer (some ⟨pb, 0, none⟩)]] := (at_red); obtain ⟨zc2, cc20, cc21, cc22, fc20, fc21, fc22⟩ := kc2.three; have hq2 : Below w.heap.size w w2 := (below_by); have hz2 := hq2.size; clear hb2 hln) | (go_at_call 27; clear m3; refine Calls.mono (done_v (a := a) (do_order a g c pb (K 0) 0 0 t _ ?p1 ?p3 ?p2 (hK 0 (by omega)))) ?p9; (case p1 => (refine HL.out.below ?_; exact (below_by))); (case p2 => (refine Cmds.at (Cmds.below HCM.out ?_); exact (below_by))); (case p3 => (refine kg2.below ?_; exact (below_by))); rintro e w3 ⟨⟨X, ev, rfl, hdv⟩, hb3⟩; have HDV : Hid (DoneV a X ev (lineB s)) := (by unfold Hid; rw [HLN.out]; exact hdv); have hq3 : Below w.heap.size w w3 := (below_by); clear hdv hb3))
    exact bodyPost_ret (v := .tuple #[.string X, ev]) (by simp [results, Tryz.results47, go_sem, *]) rfl ⟨⟨X, ev, rfl, HDV.out⟩, below_by⟩
set_option maxRecDepth 100000 in
set_option maxHeartbeats 4000000 in
theorem done_hash (a : Addr) (mb pb : Nat) (s : ByteArray) (w : World) (h : Lie a w) (hc : Cmds w mb pb) (hs : s.size ≤ 3000) (hk : kindB (wordA s) = 7) (hw : wordA s = ⟨#[104, 97, 115, 104]⟩) :
    Calls Tryz.prog 47 #[.map (some mb), .string s] w fun e w' => (∃ X ev, e = .returned (.tuple #[.string X, ev]) ∧ DoneV a X ev (lineB s)) ∧ Below w.heap.size w w' := by
  have HL : Hid (Lie a w) := h
  have HCM : Hid (Cmds w mb pb) := hc
  have hlk0 : ∀ V, Cmds V mb pb → (Instr.lookup 40 (.map (some mb)) (.string (wordA s)) true).run Tryz.prog V = .ok (.tuple #[.agg #[.int .i64 0, .bool true, .func (.func 29) #[] #[]], .bool true]) V := fun V hV => look_hit Tryz.underlying40 Tryz.underlying9 hV.1 (by rw [hw]; exact find_hash pb)
  have hln := line_t (k := 7) (nb := 0) hk (by decide) rfl rfl
  have hs' := hs
  cases hR : readN 0 true (tailW 0 (wordM s) (wordR s)) with
  | none =>
    rw [hR] at hln
    refine (done_bad a mb pb 0 true _ ⟨_, _, _, rfl⟩ s w h hc hs hlk0 (fun w h => ?_)).mono ?_
    · refine (read_t a 0 _ s w h hs (by omega)).mono ?_
      rintro e w' ⟨hr, q⟩
      refine ⟨?_, q⟩
      rcases hr with ⟨_, rfl⟩ | ⟨K, v, t, hR2, _⟩
      · rfl
      · have hR3 := hR.symm.trans hR2
        cases hR3
    · rintro e w' ⟨rfl, q⟩
      exact ⟨⟨_, _, rfl, Or.inr (Or.inr ⟨rfl, hln⟩)⟩, q⟩
  | some q =>
    rw [hR] at hln
    have HLK : Hid (∀ V, Cmds V mb pb → (Instr.lookup 40 (.map (some mb)) (.string (wordA s)) true).run Tryz.prog V = .ok (.tuple #[.agg #[.int .i64 0, .bool true, .func (.func 29) #[] #[]], .bool true]) V) := hlk0
    have HRD : Hid (∀ w, Lie a w → Calls Tryz.prog 87 #[.agg #[.int .i64 0, .bool true, .func (.func 29) #[] #[]], .string s] w fun e w' => (∃ (K : Nat → Nat) (g c : Nat) (t : ByteArray), lineB s = ansB 7 (0) (0) (0) t ∧ (∀ j, j < 0 → K j ≤ 9999) ∧ t.size ≤ 3000 ∧ 0 ≤ c ∧ e = .returned (.tuple #[.agg #[.slice none 0 0, .string t], .nilIface]) ∧ True) ∧ Below w.heap.size w w') := fun w h => by
      refine (read_t a 0 _ s w h hs (by omega)).mono ?_
      rintro e w' ⟨hr, q2⟩
      refine ⟨?_, q2⟩
      rcases hr with ⟨hR2, _⟩ | ⟨K, v, t, hR2, hK, ht, rfl, hgot⟩
      · have hR3 := hR.symm.trans hR2
        cases hR3
      · have hR3 : some q = some _ := hR.symm.trans hR2
        injection hR3 with hR3
        subst hR3
        rcases hgot with ⟨_, rfl⟩ | ⟨g, c, h0, rfl, hc, _, kg⟩
        · exact ⟨K, 0, 0, t, hln, hK, ht, Nat.le_refl _, rfl, trivial⟩
        · exact absurd rfl h0
    have HS : Hid (s.size ≤ 3000) := hs
    clear h hc hlk0 hln hR hk hw hs'
    have m1 : True := trivial; have m2 : True := trivial; have m3 : True := trivial
    go_enter Tryz.func47, Tryz.ntmps47
    go_wp2_with (first | (go_at_call 45; clear m1; refine (cut_first a s _ (HL.out.below (show Below w.heap.size w _ from below_by)) hs).mono ?_; rintro e w1 ⟨⟨v1, b1, rfl⟩, hb1⟩; have hq1 : Below w.heap.size w w1 := (below_by); have hz1 := hq1.size; have hlk := HLK.out w1 (HCM.out.below hq1); clear hb1) | (go_at_call 87; clear m2; refine (HRD.out _ (HL.out.below (show Below w.heap.size w _ from below_by))).mono ?_; rintro e w2 ⟨⟨K, g, c, t, hln, hK, ht, hcc, rfl, kg2⟩, hb2⟩; have HLN : Hid (lineB s = ansB 7 (0) (0) (0) t) := hln; have kc2 : At w2 w1.heap.size [.int .i64 0, .bool true, .func (.func 29) #[] #[]] := (at_red); obtain ⟨zc2, cc20, cc21, cc22, fc20, fc21, fc22⟩ := kc2.three; have hq2 : Below w.heap.size w w2 := (below_by); have hz2 := hq2.size; clear hb2 hln) | (go_at_call 29; clear m3; refine Calls.mono (done_v (a := a) (do_hash a 0 0 0 t _ ?p1 ht)) ?p9; (case p1 => (refine HL.out.below ?_; exact (below_by))); rintro e w3 ⟨⟨X, ev, rfl, hdv⟩, hb3⟩; have HDV : Hid (DoneV a X ev (lineB s)) := (by unfold Hid; rw [HLN.out]; exact hdv); have hq3 : Below w.heap.size w w3 := (below_by); clear hdv hb3))
    exact bodyPost_ret (v := .tuple #[.string X, ev]) (by simp [results, Tryz.results47, go_sem, *]) rfl ⟨⟨X, ev, rfl, HDV.out⟩, below_by⟩
set_option maxRecDepth 100000 in
set_option maxHeartbeats 4000000 in
theorem done_pair (a : Addr) (mb pb : Nat) (s : ByteArray) (w : World) (h : Lie a w) (hc : Cmds w mb pb) (hs : s.size ≤ 3000) (hk : kindB (wordA s) = 4) (hw : wordA s = ⟨#[112, 97, 105, 114]⟩) :
    Calls Tryz.prog 47 #[.map (some mb), .string s] w fun e w' => (∃ X ev, e = .returned (.tuple #[.string X, ev]) ∧ DoneV a X ev (lineB s)) ∧ Below w.heap.size w w' := by
  have HL : Hid (Lie a w) := h
  have HCM : Hid (Cmds w mb pb) := hc
  have hlk0 : ∀ V, Cmds V mb pb → (Instr.lookup 40 (.map (some mb)) (.string (wordA s)) true).run Tryz.prog V = .ok (.tuple #[.agg #[.int .i64 2, .bool false, .func (.func 32) #[] #[.pointer (some ⟨pb, 0, none⟩)]], .bool true]) V := fun V hV => look_hit Tryz.underlying40 Tryz.underlying9 hV.1 (by rw [hw]; exact find_pair pb)
  have hln := line_n (k := 4) (n := 1) hk (by decide) rfl rfl
  have hs' := hs
  cases hR : readN 2 false (tailW 1 (wordM s) (wordR s)) with
  | none =>
    rw [hR] at hln
    refine (done_bad a mb pb 2 false _ ⟨_, _, _, rfl⟩ s w h hc hs hlk0 (fun w h => ?_)).mono ?_
    · refine (read_n a 2 _ s w h hs (by omega) (by omega)).mono ?_
      rintro e w' ⟨hr, q⟩
      refine ⟨?_, q⟩
      rcases hr with ⟨_, rfl⟩ | ⟨K, v, t, hR2, _⟩
      · rfl
      · have hR3 := hR.symm.trans hR2
        cases hR3
    · rintro e w' ⟨rfl, q⟩
      exact ⟨⟨_, _, rfl, Or.inr (Or.inr ⟨rfl, hln⟩)⟩, q⟩
  | some q =>
    rw [hR] at hln
    have HLK : Hid (∀ V, Cmds V mb pb → (Instr.lookup 40 (.map (some mb)) (.string (wordA s)) true).run Tryz.prog V = .ok (.tuple #[.agg #[.int .i64 2, .bool false, .func (.func 32) #[] #[.pointer (some ⟨pb, 0, none⟩)]], .bool true]) V) := hlk0
    have HRD : Hid (∀ w, Lie a w → Calls Tryz.prog 87 #[.agg #[.int .i64 2, .bool false, .func (.func 32) #[] #[.pointer (some ⟨pb, 0, none⟩)]], .string s] w fun e w' => (∃ (K : Nat → Nat) (g c : Nat) (t : ByteArray), lineB s = ansB 4 (K 0) (K 1) (0) t ∧ (∀ j, j < 2 → K j ≤ 9999) ∧ t.size ≤ 3000 ∧ 2 ≤ c ∧ e = .returned (.tuple #[.agg #[.slice (some ⟨g, 0, none⟩) 2 c, .string t], .nilIface]) ∧ At w' g [.int .i64 (K 0 : Int), .int .i64 (K 1 : Int)]) ∧ Below w.heap.size w w') := fun w h => by
      refine (read_n a 2 _ s w h hs (by omega) (by omega)).mono ?_
      rintro e w' ⟨hr, q2⟩
      refine ⟨?_, q2⟩
      rcases hr with ⟨hR2, _⟩ | ⟨K, v, t, hR2, hK, ht, rfl, hgot⟩
      · have hR3 := hR.symm.trans hR2
        cases hR3
      · have hR3 : some q = some _ := hR.symm.trans hR2
        injection hR3 with hR3
        subst hR3
        rcases hgot with ⟨h0, _⟩ | ⟨g, c, _, rfl, hc, _, kg⟩
        · exact absurd h0 (by decide)
        · exact ⟨K, g, c, t, hln, hK, ht, hc, rfl, kg⟩
    have HS : Hid (s.size ≤ 3000) := hs
    clear h hc hlk0 hln hR hk hw hs'
    have m1 : True := trivial; have m2 : True := trivial; have m3 : True := trivial
    go_enter Tryz.func47, Tryz.ntmps47
    go_wp2_with (first | (go_at_call 45; clear m1; refine (cut_first a s _ (HL.out.below (show Below w.heap.size w _ from below_by)) hs).mono ?_; rintro e w1 ⟨⟨v1, b1, rfl⟩, hb1⟩; have hq1 : Below w.heap.size w w1 := (below_by); have hz1 := hq1.size; have hlk := HLK.out w1 (HCM.out.below hq1); clear hb1) | (go_at_call 87; clear m2; refine (HRD.out _ (HL.out.below (show Below w.heap.size w _ from below_by))).mono ?_; rintro e w2 ⟨⟨K, g, c, t, hln, hK, ht, hcc, rfl, kg2⟩, hb2⟩; have HLN : Hid (lineB s = ansB 4 (K 0) (K 1) (0) t) := hln; have kc2 : At w2 w1.heap.size [.int .i64 2, .bool false, .func (.func 32) #[] #[.pointer (some ⟨pb, 0, none⟩)]] := (at_red); obtain ⟨zc2, cc20, cc21, cc22, fc20, fc21, fc22⟩ := kc2.three; have hq2 : Below w.heap.size w w2 := (below_by); have hz2 := hq2.size; clear hb2 hln) | (go_at_call 32; clear m3; refine Calls.mono (done_v (a := a) (do_pair a g c pb (K 0) (K 1) 0 t _ ?p1 ?p3 ?p2 (hK 0 (by omega)) (hK 1 (by omega)))) ?p9; (case p1 => (refine HL.out.below ?_; exact (below_by))); (case p2 => (refine Cmds.at (Cmds.below HCM.out ?_); exact (below_by))); (case p3 => (refine kg2.below ?_; exact (below_by))); rintro e w3 ⟨⟨X, ev, rfl, hdv⟩, hb3⟩; have HDV : Hid (DoneV a X ev (lineB s)) := (by unfold Hid; rw [HLN.out]; exact hdv); have hq3 : Below w.heap.size w w3 := (below_by); clear hdv hb3))
    exact bodyPost_ret (v := .tuple #[.string X, ev]) (by simp [results, Tryz.results47, go_sem, *]) rfl ⟨⟨X, ev, rfl, HDV.out⟩, below_by⟩
set_option maxRecDepth 100000 in
set_option maxHeartbeats 4000000 in
theorem done_sign (a : Addr) (mb pb : Nat) (s : ByteArray) (w : World) (h : Lie a w) (hc : Cmds w mb pb) (hs : s.size ≤ 3000) (hk : kindB (wordA s) = 9) (hw : wordA s = ⟨#[115, 105, 103, 110]⟩) :
    Calls Tryz.prog 47 #[.map (some mb), .string s] w fun e w' => (∃ X ev, e = .returned (.tuple #[.string X, ev]) ∧ DoneV a X ev (lineB s)) ∧ Below w.heap.size w w' := by
  have HL : Hid (Lie a w) := h
  have HCM : Hid (Cmds w mb pb) := hc
  have hlk0 : ∀ V, Cmds V mb pb → (Instr.lookup 40 (.map (some mb)) (.string (wordA s)) true).run Tryz.prog V = .ok (.tuple #[.agg #[.int .i64 2, .bool true, .func (.func 34) #[] #[]], .bool true]) V := fun V hV => look_hit Tryz.underlying40 Tryz.underlying9 hV.1 (by rw [hw]; exact find_sign pb)
  have hln := line_t (k := 9) (nb := 2) hk (by decide) rfl rfl
  have hs' := hs
  cases hR : readN 2 true (tailW 2 (wordM s) (wordR s)) with
  | none =>
    rw [hR] at hln
    refine (done_bad a mb pb 2 true _ ⟨_, _, _, rfl⟩ s w h hc hs hlk0 (fun w h => ?_)).mono ?_
    · refine (read_t a 2 _ s w h hs (by omega)).mono ?_
      rintro e w' ⟨hr, q⟩
      refine ⟨?_, q⟩
      rcases hr with ⟨_, rfl⟩ | ⟨K, v, t, hR2, _⟩
      · rfl
      · have hR3 := hR.symm.trans hR2
        cases hR3
    · rintro e w' ⟨rfl, q⟩
      exact ⟨⟨_, _, rfl, Or.inr (Or.inr ⟨rfl, hln⟩)⟩, q⟩
  | some q =>
    rw [hR] at hln
    have HLK : Hid (∀ V, Cmds V mb pb → (Instr.lookup 40 (.map (some mb)) (.string (wordA s)) true).run Tryz.prog V = .ok (.tuple #[.agg #[.int .i64 2, .bool true, .func (.func 34) #[] #[]], .bool true]) V) := hlk0
    have HRD : Hid (∀ w, Lie a w → Calls Tryz.prog 87 #[.agg #[.int .i64 2, .bool true, .func (.func 34) #[] #[]], .string s] w fun e w' => (∃ (K : Nat → Nat) (g c : Nat) (t : ByteArray), lineB s = ansB 9 (K 0) (K 1) (0) t ∧ (∀ j, j < 2 → K j ≤ 9999) ∧ t.size ≤ 3000 ∧ 2 ≤ c ∧ e = .returned (.tuple #[.agg #[.slice (some ⟨g, 0, none⟩) 2 c, .string t], .nilIface]) ∧ At w' g [.int .i64 (K 0 : Int), .int .i64 (K 1 : Int)]) ∧ Below w.heap.size w w') := fun w h => by
      refine (read_t a 2 _ s w h hs (by omega)).mono ?_
      rintro e w' ⟨hr, q2⟩
      refine ⟨?_, q2⟩
      rcases hr with ⟨hR2, _⟩ | ⟨K, v, t, hR2, hK, ht, rfl, hgot⟩
      · have hR3 := hR.symm.trans hR2
        cases hR3
      · have hR3 : some q = some _ := hR.symm.trans hR2
        injection hR3 with hR3
        subst hR3
        rcases hgot with ⟨h0, _⟩ | ⟨g, c, _, rfl, hc, _, kg⟩
        · exact absurd h0 (by decide)
        · exact ⟨K, g, c, t, hln, hK, ht, hc, rfl, kg⟩
    have HS : Hid (s.size ≤ 3000) := hs
    clear h hc hlk0 hln hR hk hw hs'
    have m1 : True := trivial; have m2 : True := trivial; have m3 : True := trivial
    go_enter Tryz.func47, Tryz.ntmps47
    go_wp2_with (first | (go_at_call 45; clear m1; refine (cut_first a s _ (HL.out.below (show Below w.heap.size w _ from below_by)) hs).mono ?_; rintro e w1 ⟨⟨v1, b1, rfl⟩, hb1⟩; have hq1 : Below w.heap.size w w1 := (below_by); have hz1 := hq1.size; have hlk := HLK.out w1 (HCM.out.below hq1); clear hb1) | (go_at_call 87; clear m2; refine (HRD.out _ (HL.out.below (show Below w.heap.size w _ from below_by))).mono ?_; rintro e w2 ⟨⟨K, g, c, t, hln, hK, ht, hcc, rfl, kg2⟩, hb2⟩; have HLN : Hid (lineB s = ansB 9 (K 0) (K 1) (0) t) := hln; have kc2 : At w2 w1.heap.size [.int .i64 2, .bool true, .func (.func 34) #[] #[]] := (at_red); obtain ⟨zc2, cc20, cc21, cc22, fc20, fc21, fc22⟩ := kc2.three; have hq2 : Below w.heap.size w w2 := (below_by); have hz2 := hq2.size; clear hb2 hln) | (go_at_call 34; clear m3; refine Calls.mono (done_v (a := a) (do_sign a g c (K 0) (K 1) 0 t _ ?p1 ?p3 (hK 0 (by omega)) (hK 1 (by omega)) ht)) ?p9; (case p1 => (refine HL.out.below ?_; exact (below_by))); (case p3 => (refine kg2.below ?_; exact (below_by))); rintro e w3 ⟨⟨X, ev, rfl, hdv⟩, hb3⟩; have HDV : Hid (DoneV a X ev (lineB s)) := (by unfold Hid; rw [HLN.out]; exact hdv); have hq3 : Below w.heap.size w w3 := (below_by); clear hdv hb3))
    exact bodyPost_ret (v := .tuple #[.string X, ev]) (by simp [results, Tryz.results47, go_sem, *]) rfl ⟨⟨X, ev, rfl, HDV.out⟩, below_by⟩
set_option maxRecDepth 100000 in
set_option maxHeartbeats 4000000 in
theorem done_short (a : Addr) (mb pb : Nat) (s : ByteArray) (w : World) (h : Lie a w) (hc : Cmds w mb pb) (hs : s.size ≤ 3000) (hk : kindB (wordA s) = 8) (hw : wordA s = ⟨#[115, 104, 111, 114, 116]⟩) :
    Calls Tryz.prog 47 #[.map (some mb), .string s] w fun e w' => (∃ X ev, e = .returned (.tuple #[.string X, ev]) ∧ DoneV a X ev (lineB s)) ∧ Below w.heap.size w w' := by
  have HL : Hid (Lie a w) := h
  have HCM : Hid (Cmds w mb pb) := hc
  have hlk0 : ∀ V, Cmds V mb pb → (Instr.lookup 40 (.map (some mb)) (.string (wordA s)) true).run Tryz.prog V = .ok (.tuple #[.agg #[.int .i64 1, .bool true, .func (.func 37) #[] #[]], .bool true]) V := fun V hV => look_hit Tryz.underlying40 Tryz.underlying9 hV.1 (by rw [hw]; exact find_short pb)
  have hln := line_t (k := 8) (nb := 1) hk (by decide) rfl rfl
  have hs' := hs
  cases hR : readN 1 true (tailW 1 (wordM s) (wordR s)) with
  | none =>
    rw [hR] at hln
    refine (done_bad a mb pb 1 true _ ⟨_, _, _, rfl⟩ s w h hc hs hlk0 (fun w h => ?_)).mono ?_
    · refine (read_t a 1 _ s w h hs (by omega)).mono ?_
      rintro e w' ⟨hr, q⟩
      refine ⟨?_, q⟩
      rcases hr with ⟨_, rfl⟩ | ⟨K, v, t, hR2, _⟩
      · rfl
      · have hR3 := hR.symm.trans hR2
        cases hR3
    · rintro e w' ⟨rfl, q⟩
      exact ⟨⟨_, _, rfl, Or.inr (Or.inr ⟨rfl, hln⟩)⟩, q⟩
  | some q =>
    rw [hR] at hln
    have HLK : Hid (∀ V, Cmds V mb pb → (Instr.lookup 40 (.map (some mb)) (.string (wordA s)) true).run Tryz.prog V = .ok (.tuple #[.agg #[.int .i64 1, .bool true, .func (.func 37) #[] #[]], .bool true]) V) := hlk0
    have HRD : Hid (∀ w, Lie a w → Calls Tryz.prog 87 #[.agg #[.int .i64 1, .bool true, .func (.func 37) #[] #[]], .string s] w fun e w' => (∃ (K : Nat → Nat) (g c : Nat) (t : ByteArray), lineB s = ansB 8 (K 0) (0) (0) t ∧ (∀ j, j < 1 → K j ≤ 9999) ∧ t.size ≤ 3000 ∧ 1 ≤ c ∧ e = .returned (.tuple #[.agg #[.slice (some ⟨g, 0, none⟩) 1 c, .string t], .nilIface]) ∧ At w' g [.int .i64 (K 0 : Int)]) ∧ Below w.heap.size w w') := fun w h => by
      refine (read_t a 1 _ s w h hs (by omega)).mono ?_
      rintro e w' ⟨hr, q2⟩
      refine ⟨?_, q2⟩
      rcases hr with ⟨hR2, _⟩ | ⟨K, v, t, hR2, hK, ht, rfl, hgot⟩
      · have hR3 := hR.symm.trans hR2
        cases hR3
      · have hR3 : some q = some _ := hR.symm.trans hR2
        injection hR3 with hR3
        subst hR3
        rcases hgot with ⟨h0, _⟩ | ⟨g, c, _, rfl, hc, _, kg⟩
        · exact absurd h0 (by decide)
        · exact ⟨K, g, c, t, hln, hK, ht, hc, rfl, kg⟩
    have HS : Hid (s.size ≤ 3000) := hs
    clear h hc hlk0 hln hR hk hw hs'
    have m1 : True := trivial; have m2 : True := trivial; have m3 : True := trivial
    go_enter Tryz.func47, Tryz.ntmps47
    go_wp2_with (first | (go_at_call 45; clear m1; refine (cut_first a s _ (HL.out.below (show Below w.heap.size w _ from below_by)) hs).mono ?_; rintro e w1 ⟨⟨v1, b1, rfl⟩, hb1⟩; have hq1 : Below w.heap.size w w1 := (below_by); have hz1 := hq1.size; have hlk := HLK.out w1 (HCM.out.below hq1); clear hb1) | (go_at_call 87; clear m2; refine (HRD.out _ (HL.out.below (show Below w.heap.size w _ from below_by))).mono ?_; rintro e w2 ⟨⟨K, g, c, t, hln, hK, ht, hcc, rfl, kg2⟩, hb2⟩; have HLN : Hid (lineB s = ansB 8 (K 0) (0) (0) t) := hln; have kc2 : At w2 w1.heap.size [.int .i64 1, .bool true, .func (.func 37) #[] #[]] := (at_red); obtain ⟨zc2, cc20, cc21, cc22, fc20, fc21, fc22⟩ := kc2.three; have hq2 : Below w.heap.size w w2 := (below_by); have hz2 := hq2.size; clear hb2 hln) | (go_at_call 37; clear m3; refine Calls.mono (done_v (a := a) (do_short a g c (K 0) 0 0 t _ ?p1 ?p3 (hK 0 (by omega)) ht)) ?p9; (case p1 => (refine HL.out.below ?_; exact (below_by))); (case p3 => (refine kg2.below ?_; exact (below_by))); rintro e w3 ⟨⟨X, ev, rfl, hdv⟩, hb3⟩; have HDV : Hid (DoneV a X ev (lineB s)) := (by unfold Hid; rw [HLN.out]; exact hdv); have hq3 : Below w.heap.size w w3 := (below_by); clear hdv hb3))
    exact bodyPost_ret (v := .tuple #[.string X, ev]) (by simp [results, Tryz.results47, go_sem, *]) rfl ⟨⟨X, ev, rfl, HDV.out⟩, below_by⟩
set_option maxRecDepth 100000 in
set_option maxHeartbeats 4000000 in
theorem done_hide (a : Addr) (mb pb : Nat) (s : ByteArray) (w : World) (h : Lie a w) (hc : Cmds w mb pb) (hs : s.size ≤ 3000) (hk : kindB (wordA s) = 5) (hw : wordA s = ⟨#[104, 105, 100, 101]⟩) :
    Calls Tryz.prog 47 #[.map (some mb), .string s] w fun e w' => (∃ X ev, e = .returned (.tuple #[.string X, ev]) ∧ DoneV a X ev (lineB s)) ∧ Below w.heap.size w w' := by
  have HL : Hid (Lie a w) := h
  have HCM : Hid (Cmds w mb pb) := hc
  have hlk0 : ∀ V, Cmds V mb pb → (Instr.lookup 40 (.map (some mb)) (.string (wordA s)) true).run Tryz.prog V = .ok (.tuple #[.agg #[.int .i64 2, .bool false, .func (.func 39) #[] #[]], .bool true]) V := fun V hV => look_hit Tryz.underlying40 Tryz.underlying9 hV.1 (by rw [hw]; exact find_hide pb)
  have hln := line_n (k := 5) (n := 1) hk (by decide) rfl rfl
  have hs' := hs
  cases hR : readN 2 false (tailW 1 (wordM s) (wordR s)) with
  | none =>
    rw [hR] at hln
    refine (done_bad a mb pb 2 false _ ⟨_, _, _, rfl⟩ s w h hc hs hlk0 (fun w h => ?_)).mono ?_
    · refine (read_n a 2 _ s w h hs (by omega) (by omega)).mono ?_
      rintro e w' ⟨hr, q⟩
      refine ⟨?_, q⟩
      rcases hr with ⟨_, rfl⟩ | ⟨K, v, t, hR2, _⟩
      · rfl
      · have hR3 := hR.symm.trans hR2
        cases hR3
    · rintro e w' ⟨rfl, q⟩
      exact ⟨⟨_, _, rfl, Or.inr (Or.inr ⟨rfl, hln⟩)⟩, q⟩
  | some q =>
    rw [hR] at hln
    have HLK : Hid (∀ V, Cmds V mb pb → (Instr.lookup 40 (.map (some mb)) (.string (wordA s)) true).run Tryz.prog V = .ok (.tuple #[.agg #[.int .i64 2, .bool false, .func (.func 39) #[] #[]], .bool true]) V) := hlk0
    have HRD : Hid (∀ w, Lie a w → Calls Tryz.prog 87 #[.agg #[.int .i64 2, .bool false, .func (.func 39) #[] #[]], .string s] w fun e w' => (∃ (K : Nat → Nat) (g c : Nat) (t : ByteArray), lineB s = ansB 5 (K 0) (K 1) (0) t ∧ (∀ j, j < 2 → K j ≤ 9999) ∧ t.size ≤ 3000 ∧ 2 ≤ c ∧ e = .returned (.tuple #[.agg #[.slice (some ⟨g, 0, none⟩) 2 c, .string t], .nilIface]) ∧ At w' g [.int .i64 (K 0 : Int), .int .i64 (K 1 : Int)]) ∧ Below w.heap.size w w') := fun w h => by
      refine (read_n a 2 _ s w h hs (by omega) (by omega)).mono ?_
      rintro e w' ⟨hr, q2⟩
      refine ⟨?_, q2⟩
      rcases hr with ⟨hR2, _⟩ | ⟨K, v, t, hR2, hK, ht, rfl, hgot⟩
      · have hR3 := hR.symm.trans hR2
        cases hR3
      · have hR3 : some q = some _ := hR.symm.trans hR2
        injection hR3 with hR3
        subst hR3
        rcases hgot with ⟨h0, _⟩ | ⟨g, c, _, rfl, hc, _, kg⟩
        · exact absurd h0 (by decide)
        · exact ⟨K, g, c, t, hln, hK, ht, hc, rfl, kg⟩
    have HS : Hid (s.size ≤ 3000) := hs
    clear h hc hlk0 hln hR hk hw hs'
    have m1 : True := trivial; have m2 : True := trivial; have m3 : True := trivial
    go_enter Tryz.func47, Tryz.ntmps47
    go_wp2_with (first | (go_at_call 45; clear m1; refine (cut_first a s _ (HL.out.below (show Below w.heap.size w _ from below_by)) hs).mono ?_; rintro e w1 ⟨⟨v1, b1, rfl⟩, hb1⟩; have hq1 : Below w.heap.size w w1 := (below_by); have hz1 := hq1.size; have hlk := HLK.out w1 (HCM.out.below hq1); clear hb1) | (go_at_call 87; clear m2; refine (HRD.out _ (HL.out.below (show Below w.heap.size w _ from below_by))).mono ?_; rintro e w2 ⟨⟨K, g, c, t, hln, hK, ht, hcc, rfl, kg2⟩, hb2⟩; have HLN : Hid (lineB s = ansB 5 (K 0) (K 1) (0) t) := hln; have kc2 : At w2 w1.heap.size [.int .i64 2, .bool false, .func (.func 39) #[] #[]] := (at_red); obtain ⟨zc2, cc20, cc21, cc22, fc20, fc21, fc22⟩ := kc2.three; have hq2 : Below w.heap.size w w2 := (below_by); have hz2 := hq2.size; clear hb2 hln) | (go_at_call 39; clear m3; refine Calls.mono (done_v (a := a) (do_hide a g c (K 0) (K 1) 0 t _ ?p1 ?p3 (hK 0 (by omega)) (hK 1 (by omega)))) ?p9; (case p1 => (refine HL.out.below ?_; exact (below_by))); (case p3 => (refine kg2.below ?_; exact (below_by))); rintro e w3 ⟨⟨X, ev, rfl, hdv⟩, hb3⟩; have HDV : Hid (DoneV a X ev (lineB s)) := (by unfold Hid; rw [HLN.out]; exact hdv); have hq3 : Below w.heap.size w w3 := (below_by); clear hdv hb3))
    exact bodyPost_ret (v := .tuple #[.string X, ev]) (by simp [results, Tryz.results47, go_sem, *]) rfl ⟨⟨X, ev, rfl, HDV.out⟩, below_by⟩
set_option maxRecDepth 100000 in
set_option maxHeartbeats 4000000 in
theorem done_shares (a : Addr) (mb pb : Nat) (s : ByteArray) (w : World) (h : Lie a w) (hc : Cmds w mb pb) (hs : s.size ≤ 3000) (hk : kindB (wordA s) = 6) (hw : wordA s = ⟨#[115, 104, 97, 114, 101, 115]⟩) :
    Calls Tryz.prog 47 #[.map (some mb), .string s] w fun e w' => (∃ X ev, e = .returned (.tuple #[.string X, ev]) ∧ DoneV a X ev (lineB s)) ∧ Below w.heap.size w w' := by
  have HL : Hid (Lie a w) := h
  have HCM : Hid (Cmds w mb pb) := hc
  have hlk0 : ∀ V, Cmds V mb pb → (Instr.lookup 40 (.map (some mb)) (.string (wordA s)) true).run Tryz.prog V = .ok (.tuple #[.agg #[.int .i64 3, .bool false, .func (.func 41) #[] #[]], .bool true]) V := fun V hV => look_hit Tryz.underlying40 Tryz.underlying9 hV.1 (by rw [hw]; exact find_shares pb)
  have hln := line_n (k := 6) (n := 2) hk (by decide) rfl rfl
  have hs' := hs
  cases hR : readN 3 false (tailW 2 (wordM s) (wordR s)) with
  | none =>
    rw [hR] at hln
    refine (done_bad a mb pb 3 false _ ⟨_, _, _, rfl⟩ s w h hc hs hlk0 (fun w h => ?_)).mono ?_
    · refine (read_n a 3 _ s w h hs (by omega) (by omega)).mono ?_
      rintro e w' ⟨hr, q⟩
      refine ⟨?_, q⟩
      rcases hr with ⟨_, rfl⟩ | ⟨K, v, t, hR2, _⟩
      · rfl
      · have hR3 := hR.symm.trans hR2
        cases hR3
    · rintro e w' ⟨rfl, q⟩
      exact ⟨⟨_, _, rfl, Or.inr (Or.inr ⟨rfl, hln⟩)⟩, q⟩
  | some q =>
    rw [hR] at hln
    have HLK : Hid (∀ V, Cmds V mb pb → (Instr.lookup 40 (.map (some mb)) (.string (wordA s)) true).run Tryz.prog V = .ok (.tuple #[.agg #[.int .i64 3, .bool false, .func (.func 41) #[] #[]], .bool true]) V) := hlk0
    have HRD : Hid (∀ w, Lie a w → Calls Tryz.prog 87 #[.agg #[.int .i64 3, .bool false, .func (.func 41) #[] #[]], .string s] w fun e w' => (∃ (K : Nat → Nat) (g c : Nat) (t : ByteArray), lineB s = ansB 6 (K 0) (K 1) (K 2) t ∧ (∀ j, j < 3 → K j ≤ 9999) ∧ t.size ≤ 3000 ∧ 3 ≤ c ∧ e = .returned (.tuple #[.agg #[.slice (some ⟨g, 0, none⟩) 3 c, .string t], .nilIface]) ∧ At w' g [.int .i64 (K 0 : Int), .int .i64 (K 1 : Int), .int .i64 (K 2 : Int)]) ∧ Below w.heap.size w w') := fun w h => by
      refine (read_n a 3 _ s w h hs (by omega) (by omega)).mono ?_
      rintro e w' ⟨hr, q2⟩
      refine ⟨?_, q2⟩
      rcases hr with ⟨hR2, _⟩ | ⟨K, v, t, hR2, hK, ht, rfl, hgot⟩
      · have hR3 := hR.symm.trans hR2
        cases hR3
      · have hR3 : some q = some _ := hR.symm.trans hR2
        injection hR3 with hR3
        subst hR3
        rcases hgot with ⟨h0, _⟩ | ⟨g, c, _, rfl, hc, _, kg⟩
        · exact absurd h0 (by decide)
        · exact ⟨K, g, c, t, hln, hK, ht, hc, rfl, kg⟩
    have HS : Hid (s.size ≤ 3000) := hs
    clear h hc hlk0 hln hR hk hw hs'
    have m1 : True := trivial; have m2 : True := trivial; have m3 : True := trivial
    go_enter Tryz.func47, Tryz.ntmps47
    go_wp2_with (first | (go_at_call 45; clear m1; refine (cut_first a s _ (HL.out.below (show Below w.heap.size w _ from below_by)) hs).mono ?_; rintro e w1 ⟨⟨v1, b1, rfl⟩, hb1⟩; have hq1 : Below w.heap.size w w1 := (below_by); have hz1 := hq1.size; have hlk := HLK.out w1 (HCM.out.below hq1); clear hb1) | (go_at_call 87; clear m2; refine (HRD.out _ (HL.out.below (show Below w.heap.size w _ from below_by))).mono ?_; rintro e w2 ⟨⟨K, g, c, t, hln, hK, ht, hcc, rfl, kg2⟩, hb2⟩; have HLN : Hid (lineB s = ansB 6 (K 0) (K 1) (K 2) t) := hln; have kc2 : At w2 w1.heap.size [.int .i64 3, .bool false, .func (.func 41) #[] #[]] := (at_red); obtain ⟨zc2, cc20, cc21, cc22, fc20, fc21, fc22⟩ := kc2.three; have hq2 : Below w.heap.size w w2 := (below_by); have hz2 := hq2.size; clear hb2 hln) | (go_at_call 41; clear m3; refine Calls.mono (done_v (a := a) (do_shares a g c (K 0) (K 1) (K 2) t _ ?p1 ?p3 (hK 0 (by omega)) (hK 1 (by omega)) (hK 2 (by omega)) hcc)) ?p9; (case p1 => (refine HL.out.below ?_; exact (below_by))); (case p3 => (refine kg2.below ?_; exact (below_by))); rintro e w3 ⟨⟨X, ev, rfl, hdv⟩, hb3⟩; have HDV : Hid (DoneV a X ev (lineB s)) := (by unfold Hid; rw [HLN.out]; exact hdv); have hq3 : Below w.heap.size w w3 := (below_by); clear hdv hb3))
    exact bodyPost_ret (v := .tuple #[.string X, ev]) (by simp [results, Tryz.results47, go_sem, *]) rfl ⟨⟨X, ev, rfl, HDV.out⟩, below_by⟩end Go.Proofs.YtgngdabfmbipaakGreatDoor

/- What package run answers to one line: answer. -/
namespace Go.Proofs.YtgngdabfmbipaakGreatDoor
open Go.RowKit Go.Sort Go.Shelf
set_option linter.unusedVariables false
set_option linter.unusedSimpArgs false
theorem done_is (a : Addr) (mb pb : Nat) (s : ByteArray) (w : World) (h : Lie a w) (hc : Cmds w mb pb) (hs : s.size ≤ 3000) :
    Calls Tryz.prog 47 #[.map (some mb), .string s] w fun e w' => (∃ X ev, e = .returned (.tuple #[.string X, ev]) ∧ DoneV a X ev (lineB s)) ∧ Below w.heap.size w w' := by
  rcases kind_cases (wordA s) with ⟨hk, h0, h1, h2, h3, h4, h5, h6, h7, h8⟩ | hw | hw | hw | hw | hw | hw | hw | hw | hw
  · refine (done_none a mb pb s w h hc hs fun V hV => look_miss Tryz.underlying40 Tryz.underlying9 (Tryz.zeroValue65 V) hV.1 (find_none pb _ h0 h1 h2 h3 h4 h5 h6 h7 h8)).mono ?_
    rintro e w' ⟨rfl, q⟩
    exact ⟨⟨_, _, rfl, Or.inr (Or.inr ⟨rfl, line_none hk⟩)⟩, q⟩
  · exact done_base a mb pb s w h hc hs (by rw [hw]; decide +kernel) hw
  · exact done_lift a mb pb s w h hc hs (by rw [hw]; decide +kernel) hw
  · exact done_order a mb pb s w h hc hs (by rw [hw]; decide +kernel) hw
  · exact done_hash a mb pb s w h hc hs (by rw [hw]; decide +kernel) hw
  · exact done_pair a mb pb s w h hc hs (by rw [hw]; decide +kernel) hw
  · exact done_sign a mb pb s w h hc hs (by rw [hw]; decide +kernel) hw
  · exact done_short a mb pb s w h hc hs (by rw [hw]; decide +kernel) hw
  · exact done_hide a mb pb s w h hc hs (by rw [hw]; decide +kernel) hw
  · exact done_shares a mb pb s w h hc hs (by rw [hw]; decide +kernel) hw
set_option maxRecDepth 100000 in
set_option maxHeartbeats 4000000 in
theorem answer_is (a : Addr) (mb pb : Nat) (s : ByteArray) (w : World) (h : Lie a w) (hc : Cmds w mb pb) (hs : s.size ≤ 3000) : Calls Tryz.prog 15 #[.map (some mb), .string s] w fun e w' => e = .returned (.string (lineB s)) ∧ Below w.heap.size w w' := by
  have HL : Hid (Lie a w) := h
  have HCM : Hid (Cmds w mb pb) := hc
  have HD : Hid (∀ w, Lie a w → Cmds w mb pb → Calls Tryz.prog 47 #[.map (some mb), .string s] w fun e w' => (∃ X ev, e = .returned (.tuple #[.string X, ev]) ∧ DoneV a X ev (lineB s)) ∧ Below w.heap.size w w') := fun w h hc => done_is a mb pb s w h hc hs
  have HB : Hid (∀ w, Lie a w → Calls Tryz.prog 48 #[.agg #[.iface 214 (.pointer (some a))]] w fun e w' => e = .returned (.string badB) ∧ Below w.heap.size w w') := fun w h => rline_bad a w h
  have HN : Hid (∀ (n : Nat) w, Lie a w → (n = 1 ∨ n = 4 ∨ n = 5) → Calls Tryz.prog 48 #[.agg #[errOf (n : Int)]] w fun e w' => e = .returned (.string (nameB n)) ∧ Below w.heap.size w w') := fun n w h hn => rline_no a n w h hn
  clear h hc
  go_enter Tryz.func15, Tryz.ntmps15
  go_upto_region 2 with (go_at_call 47; refine (HD.out _ HL.out HCM.out).mono ?_; rintro e w1 ⟨⟨X, ev, rfl, hdv⟩, hb1⟩; have HDV : Hid (DoneV a X ev (lineB s)) := hdv; have hq1 : Below w.heap.size w w1 := (below_by); have hz1 := hq1.size; clear hb1 hdv)
  rcases HDV.out with ⟨rfl, hX⟩ | ⟨n, hn, hX, rfl⟩ | ⟨rfl, hX⟩
  · go_wp2_with fail
    go_ret
    exact ⟨by rw [hX]; rfl, below_by⟩
  · have HX : Hid (lineB s = nameB n) := hX
    have HNN : Hid (n = 1 ∨ n = 4 ∨ n = 5) := hn
    clear HDV hX hn
    go_wp2_with (go_at_call 48; refine (HN.out n _ (HL.out.below (show Below w.heap.size w _ from below_by)) HNN.out).mono ?_; rintro e w2 ⟨rfl, hb2⟩)
    go_ret
    exact ⟨by rw [HX.out]; rfl, below_by⟩
  · have HX : Hid (lineB s = badB) := hX
    clear HDV hX
    go_wp2_with (go_at_call 48; refine (HB.out _ (HL.out.below (show Below w.heap.size w _ from below_by))).mono ?_; rintro e w2 ⟨rfl, hb2⟩)
    go_ret
    exact ⟨by rw [HX.out]; rfl, below_by⟩
end Go.Proofs.YtgngdabfmbipaakGreatDoor
