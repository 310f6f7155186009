/- What package run answers: Run. -/
import Derived.Test.YtgngdabfmbipaakGreatDoorKG43
import Derived.Test.YtgngdabfmbipaakGreatDoorKRunIter
import Derived.Test.YtgngdabfmbipaakGreatDoorKRunSize
import Derived.Test.YtgngdabfmbipaakGreatDoorKRunAnswersBy
namespace Go.Proofs.YtgngdabfmbipaakGreatDoor
open Go.RowKit Go.Sort Go.Shelf
set_option linter.unusedVariables false
set_option linter.unusedSimpArgs false
attribute [local go_sem] Oper.semAt_some
theorem bld_grown {B b : Nat} {l : List UInt8} {w w' : World} {row : Option Nat} (h : Bld B b l w) (hg : w.grownBy w' row) (hr : ∀ r, row = some r → ∃ o : Obj, w.heap[r]? = some o ∧ o.isCells = false) : Bld B b l w' := by
  have one : ∀ {p : Value}, Lib.BuilderAtF 39 5 B b p (Lib.byteCells l) w → Lib.BuilderAtF 39 5 B b p (Lib.byteCells l) w' := by
    rintro p ⟨hB, v, hb, hown, hne⟩
    have lt : ∀ {i : Nat} {o : Obj}, w.heap[i]? = some o → i < w.heap.size := fun h => (Array.getElem?_eq_some_iff.1 h).1
    have nr : ∀ {i : Nat} {o : Obj}, w.heap[i]? = some o → o.isCells = true → some i ≠ row := fun {i o} hi ho e => by
      obtain ⟨o', h1, h2⟩ := hr i e.symm
      rw [hi] at h1
      injection h1 with h1
      rw [← h1, ho] at h2
      cases h2
    refine ⟨hB, v, (hg.block b (lt hb) (nr hb rfl)).trans hb, ⟨hown.1, ?_⟩, hne⟩
    rcases hown.2 with hn | ⟨g, cap, cur, fz, hv, hbg, hgg, rest⟩
    · exact .inl hn
    · exact .inr ⟨g, cap, cur, fz, hv, hbg, (hg.block g (lt hgg) (nr hgg rfl)).trans hgg, rest⟩
  exact h.elim (fun x => .inl (one x)) (fun x => .inr (one x))
/-- The box of the words, their map, and the base. -/
def Kn (W : World) (kb mb pb : Nat) : Prop := W.heap[kb]? = some (.cells #[.map (some mb)] 40 (0, 0)) ∧ Cmds W mb pb
theorem Kn.below {W W' : World} {kb mb pb : Nat} (h : Kn W kb mb pb) (k : Below W.heap.size W W') : Kn W' kb mb pb :=
  ⟨(k.block kb (Array.getElem?_eq_some_iff.1 h.1).1).trans h.1, h.2.below k⟩
/-- They stay when a builder is written. -/
theorem Kn.written {W W' : World} {kb mb pb b : Nat} (h : Kn W kb mb pb) (k : Lib.OthersKept 5 (some b) W W') (h1 : kb ≠ b) (h2 : mb ≠ b) (h3 : pb ≠ b) : Kn W' kb mb pb :=
  ⟨k kb _ h.1 (fun e => h1 (Option.some.inj e)) (fun c fz e => by injection e with _ e _; cases e),
   k mb _ h.2.1 (fun e => h2 (Option.some.inj e)) (fun c fz e => by cases e),
   k pb _ h.2.2 (fun e => h3 (Option.some.inj e)) (fun c fz e => by injection e with _ e _; cases e)⟩
theorem Kn.grown {W W' : World} {kb mb pb B : Nat} {row : Option Nat} (h : Kn W kb mb pb) (hg : W.grownBy W' row) (hr : ∀ r, row = some r → B ≤ r) (h1 : kb < B) (h2 : mb < B) (h3 : pb < B) : Kn W' kb mb pb := by
  have lt : ∀ {i : Nat} {o : Obj}, W.heap[i]? = some o → i < W.heap.size := fun h => (Array.getElem?_eq_some_iff.1 h).1
  exact ⟨(hg.block kb (lt h.1) (fun e => by have := hr _ e.symm; omega)).trans h.1, (hg.block mb (lt h.2.1) (fun e => by have := hr _ e.symm; omega)).trans h.2.1, (hg.block pb (lt h.2.2) (fun e => by have := hr _ e.symm; omega)).trans h.2.2⟩
theorem others_keeps {e : TypeId} {b B : Nat} {W W' : World} (k : Lib.OthersKept e (some b) W W') (hs : W.heap.size ≤ W'.heap.size) (hb : b < B) : KeepsFrom B W W' :=
  ⟨hs, fun i o hB hi ho => k i o hi (fun e => by injection e with e; omega) (fun c fz e => by rw [e] at ho; cases ho)⟩
theorem below_keeps {B : Nat} {W W' : World} (k : Below W.heap.size W W') : KeepsFrom B W W' :=
  ⟨k.size, fun i o _ hi _ => (k.block i (Array.getElem?_eq_some_iff.1 hi).1).trans hi⟩
/-- What has been written. -/
def outL (l : List LineT) : List UInt8 := (outB lineB (l.map (·.1))).data.toList
theorem outL_more (l : List LineT) (x : LineT) : outL (l ++ [x]) = outL l ++ (lineB x.1).data.toList ++ [10] := by
  unfold outL
  rw [List.map_append, outB_append]
  show (outB lineB (l.map (·.1)) ++ (lineB x.1 ++ ⟨#[10]⟩ ++ ⟨#[]⟩)).data.toList = _
  rw [ba_nil]
  simp [ByteArray.data_append]
theorem outL_len (l : List LineT) : (outL l).length ≤ l.length * 2001 := by
  have h := out_size (l.map (·.1))
  rw [List.length_map] at h
  have e : (outL l).length = (outB lineB (l.map (·.1))).size := Array.length_toList
  omega
theorem bytes_back (s : ByteArray) : (⟨s.data.toList.toArray⟩ : ByteArray) = s := by
  apply ByteArray.ext
  simp
theorem write_is (B b : Nat) (l : List UInt8) (s : ByteArray) (w : World) (h : Bld B b l w) (hl : l.length ≤ 100000000) (hs : s.size ≤ 2000) (hB : B ≤ w.heap.size) :
    Calls Tryz.prog 14 #[.pointer (some ⟨b, 0, none⟩), .string s] w fun e w' => e = .returned (.tuple #[.int .i64 s.size, .nilIface]) ∧ Bld B b (l ++ s.data.toList) w' ∧ Below B w w' ∧ Lib.OthersKept 5 (some b) w w' := by
  refine (Any.Builder_WriteString_k lays166 bextra B b (Lib.byteCells l) s w h (by rw [Lib.byteCells_length]; omega) hB).mono ?_
  rintro e w' ⟨he, h1, h2, h3⟩
  refine ⟨he, ?_, h2, h3⟩
  unfold Bld
  rw [Lib.byteCells_append]
  exact Or.inr h1
theorem string_kept (B b : Nat) (l : List UInt8) (w : World) (h : Bld B b l w) (hB : B ≤ w.heap.size) :
    Calls Tryz.prog 16 #[.pointer (some ⟨b, 0, none⟩)] w fun e w' => e = .returned (.string ⟨l.toArray⟩) ∧ Below B w w' ∧ Lib.OthersKept 5 (some b) w w' :=
  (Any.Builder_String_any_k lays169 bextra B b l w h hB).mono fun _ _ ⟨he, _, h2, h3⟩ => ⟨he, h2, h3⟩
theorem rwpIn_gen {F : Fence} {m : Nat} {P : Program} {c : Code} {Q : Exit → Act → World → Prop} {a : Act} {w : World} (S : World → Prop) (h : S w) (k : ∀ W, S W → c.wpIn F m P Q a W) : c.wpIn F m P Q a w := k w h
/-- What is kept from line to line. -/
def RunJ (w : World) (b kb mb pb : Nat) (pre : List LineT) (W : World) : Prop :=
  (Bld w.heap.size b (outL pre) W ∧ Kn W kb mb pb) ∧ Below w.heap.size w W
set_option maxRecDepth 100000 in
set_option maxHeartbeats 4000000 in
theorem run_long (t : ByteArray) (w : World) (h : 3000 < t.size) (ht : t.size ≤ 9223372036854775807) : Calls Tryz.prog 6 #[.string t] w fun e w' => e = .returned (.string ⟨#[116, 111, 111, 32, 108, 111, 110, 103, 10]⟩) ∧ Below w.heap.size w w' := by
  have h3 : (t.size : Int) > 3000 := by omega
  go_enter Tryz.func6, Tryz.ntmps6
  go_wp2_with fail
  go_ret
  exact ⟨rfl, below_by⟩
set_option maxRecDepth 100000 in
set_option maxHeartbeats 4000000 in
theorem run_in (F : Fence) (N : Nat) (f1 : F.fn 6) (f2 : F.fn 12) (f3 : F.fn 13) (f4 : F.fn 44) (f5 : F.fn 45) (f6 : F.fn 15) (f7 : F.fn 14) (f8 : F.fn 16) (hro : F.round = none) (hN : 5 ≤ N) (hF : RWideF F) (a : Addr) (t : ByteArray) (ht : t.size ≤ 3000) (w : World) (hL : Lie a w) :
    CallsIn F N Tryz.prog 6 #[.string t] w fun e w' => e = .returned (.string (outB lineB (linesB t))) ∧ Below w.heap.size w w' := by
  have h1N : 1 ≤ N := by omega
  have HF : Hid (RWideF F) := hF
  have HL : Hid (Lie a w) := hL
  have h3 : ¬ (t.size : Int) > 3000 := by omega
  clear hF hL
  refine callsIn_of_wp_marks Tryz.func6 rfl f1 ?_ hro
  simp only [Tryz.ntmps6, List.size_toArray, List.length_cons, List.length_nil, Nat.reduceAdd, Nat.reduceSub, Array.replicate_succ, Array.replicate_zero, List.push_toArray, List.append_toArray, List.nil_append, List.cons_append]
  gi_wp2_with (first | (gi_at_call 12; refine (HF.out _ _ _ _ _ (commands_is _)).mono ?_; rintro e w1 ⟨mb, pb, rfl, hcm, hmb, hpb, hb1⟩; have HCM : Hid (Cmds w1 mb pb) := hcm; have hz1 := hb1.size; have HB1 : Hid (Below (w.alloc (.cells #[.pointer none, .slice none 0 0] 39)).heap.size (w.alloc (.cells #[.pointer none, .slice none 0 0] 39)) w1) := hb1; clear hcm hb1) | (gi_at_call 13; refine (lines_is F _ f3 hro _ _).mono ?_; rintro e w' ⟨rfl, rfl⟩))
  obtain ⟨b, hb⟩ : ∃ b, w.heap.size = b := ⟨_, rfl⟩
  have hzW : (w.alloc (.cells #[.pointer none, .slice none 0 0] 39)).heap.size = b + 1 := by simp [hb]
  rw [hzW] at hmb hpb hz1
  obtain ⟨kb, hkb⟩ : ∃ kb, w1.heap.size = kb := ⟨_, rfl⟩
  have hmk : mb < kb := by rw [← hkb]; exact (Array.getElem?_eq_some_iff.1 HCM.out.1).1
  have hpk : pb < kb := by rw [← hkb]; exact (Array.getElem?_eq_some_iff.1 HCM.out.2).1
  have hk1 : Below w1.heap.size w1 (w1.alloc (.cells #[.map (some mb)] 40)) := (Below.refl _ _).alloc (Nat.le_refl _) _
  have hk2 : Below (w1.alloc (.cells #[.map (some mb)] 40)).heap.size (w1.alloc (.cells #[.map (some mb)] 40)) ((w1.alloc (.cells #[.map (some mb)] 40)).alloc (.cells #[.string t] 9)) := (Below.refl _ _).alloc (Nat.le_refl _) _
  have hBd : Bld w.heap.size b [] w1 := by
    have := bld_new w
    rw [hb] at this ⊢
    exact this.below HB1.out
  have hBw : Below w.heap.size w w1 := by
    have h1 : Below w.heap.size w (w.alloc (.cells #[.pointer none, .slice none 0 0] 39)) := (Below.refl _ _).alloc (Nat.le_refl _) _
    exact bl_call h1 HB1.out (by simp)
  refine rwpIn_gen (fun W => RunJ w b kb mb pb [] W ∧ W.cell? ⟨kb + 1, 0, none⟩ = some (.string t) ∧ W.heap.size = kb + 2) ⟨⟨⟨(hBd.below hk1).below hk2, ?_, (HCM.out.below hk1).below hk2⟩, bl_call (bl_call hBw hk1 hBw.size) hk2 (by have := hBw.size; simp; omega)⟩, ?_, by simp [hkb]⟩ ?_
  · have h1 := heap_new w1 (.cells #[.map (some mb)] 40)
    rw [hkb] at h1
    exact (hk2.block kb (by simp [hkb])).trans h1
  · have h1 := (at_new (w1.alloc (.cells #[.map (some mb)] 40)) [.string t] 9).2.1 0 (by simp)
    have h2 : (w1.alloc (.cells #[.map (some mb)] 40)).heap.size = kb + 1 := by simp [hkb]
    rw [h2] at h1
    exact h1
  clear hk1 hk2 hBd hBw
  rintro W0 ⟨hJ0, hct, hs0⟩
  simp only [hkb, hb]
  have HJ0 : Hid (RunJ w b kb mb pb [] W0) := hJ0
  have hbB := hb
  refine wpIn_rangeFunc_ownG hro h1N (gf := 44) (lb := #[.pointer (some ⟨kb + 1, 0, none⟩)]) rfl f4 (enters_of Tryz.func44 (by kernel_rfl) rfl)
    (lines_stops F (N - 1) f4 f5 hro (by omega) HF.out (kb + 1) a t ht w W0 HL.out hJ0.2 (by omega) hct) (fun h k => h.trans k) (belowK_b (by omega)) (Below.refl _ _) (fun _ => rfl)
    (RunJ w b kb mb pb) (fun _ _ _ => False)
    (fun s A B row hs hg hr => ⟨⟨bld_grown hs.1.1 hg (fun r e => (hr r e).2), hs.1.2.grown hg (fun r e => (hr r e).1) (by omega) (by omega) (by omega)⟩, hs.2.grown hg (hs.2.size) (fun k e => by have := (hr k e).1; omega)⟩)
    (fun _ _ _ _ _ hs _ _ => hs) hJ0
    (fun x => { tmps := #[.string t, undef, .string ⟨#[]⟩, .pointer (some ⟨b, 0, none⟩), .pointer (some ⟨kb, 0, none⟩), .string x.1, .string t, .int .i64 t.size, .bool false, .map (some mb), .string t, .func (.func 44) #[] #[.pointer (some ⟨kb + 1, 0, none⟩)], .string x.1, undef, undef, undef, undef, undef, undef], defers := [] }) ?assign ?body ?done ?stop
  case assign =>
    intro l x W K hK
    gi_wp2
    exact hK
  case body =>
    rintro l pre x W hJ hlen
    have HJ : Hid (RunJ w b kb mb pb pre W) := hJ
    have hNN : 1 ≤ N - 1 - 1 := by omega
    have hzB := hJ.2.size
    obtain ⟨zk, ck, fk⟩ := (at_of_heap (vs := [.map (some mb)]) hJ.1.2.1).one
    have ho := outL_len pre
    have hl1 := line_size x.1
    have HA : Hid (Calls Tryz.prog 15 #[.map (some mb), .string x.1] W fun e w' => e = .returned (.string (lineB x.1)) ∧ Below W.heap.size W w') := answer_is a mb pb x.1 W (HL.out.below hJ.2) hJ.1.2.2 x.2
    have HW : Hid (∀ (l : List UInt8) (s : ByteArray) (V : World), Bld w.heap.size b l V → l.length ≤ 100000000 → s.size ≤ 2000 → w.heap.size ≤ V.heap.size → Calls Tryz.prog 14 #[.pointer (some ⟨b, 0, none⟩), .string s] V fun e w' => e = .returned (.tuple #[.int .i64 s.size, .nilIface]) ∧ Bld w.heap.size b (l ++ s.data.toList) w' ∧ Below w.heap.size V w' ∧ Lib.OthersKept 5 (some b) V w') := fun l s V h1 h2 h3 h4 => write_is _ b l s V h1 h2 h3 h4
    have HX : Hid (outL (pre ++ [x]) = outL pre ++ (lineB x.1).data.toList ++ [10]) := outL_more pre x
    have hLL : (lineB x.1).data.toList.length = (lineB x.1).size := Array.length_toList
    have hol : (outL pre).length ≤ 50000000 := by omega
    clear hJ ho
    generalize lineB x.1 = Y at *
    have m1 : True := trivial
    have m2 : True := trivial
    gi_wp2_with (first | (gi_at_call 15; refine (CallsIn.inRound l (HF.out _ _ _ _ _ HA.out)).mono ?_; rintro e w5 ⟨rfl, hb5⟩; have HJ5 : Hid (Bld w.heap.size b (outL pre) w5 ∧ Kn w5 kb mb pb) := ⟨HJ.out.1.1.below hb5, HJ.out.1.2.below hb5⟩; have hz5 := hb5.size) | (gi_at_call 14; clear m1; refine (CallsIn.inRound l (HF.out _ _ _ _ _ (HW.out (outL pre) Y _ HJ5.out.1 (by omega) (by omega) (by omega)))).mono ?_; rintro e w6 ⟨rfl, hB6, hb6, ho6⟩; have HB6 : Hid (Bld w.heap.size b (outL pre ++ Y.data.toList) w6) := hB6; have hz6 := hb6.size; have HK6 : Hid (Kn w6 kb mb pb) := HJ5.out.2.written ho6 (by omega) (by omega) (by omega); have HO6 : Hid (Lib.OthersKept 5 (some b) w5 w6) := ho6; clear hB6 ho6) | (gi_at_call 14; clear m2; refine (CallsIn.inRound l (HF.out _ _ _ _ _ (HW.out (outL pre ++ Y.data.toList) ⟨#[10]⟩ _ HB6.out (by rw [List.length_append]; omega) (by decide) (by omega)))).mono ?_; rintro e w7 ⟨rfl, hB7, hb7, ho7⟩; have HB7 : Hid (Bld w.heap.size b (outL pre ++ Y.data.toList ++ [10]) w7) := hB7; have hz7 := hb7.size; have HK7 : Hid (Kn w7 kb mb pb) := HK6.out.written ho7 (by omega) (by omega) (by omega); have HO7 : Hid (Lib.OthersKept 5 (some b) w6 w7) := ho7; clear hB7 ho7))
    have hb57 : Below w.heap.size W w7 := ((hb5.mono hzB).trans hb6).trans hb7
    exact ⟨(below_keeps hb5).trans ((others_keeps HO6.out hz6 (by omega)).trans (others_keeps HO7.out hz7 (by omega))), hb57, ⟨by rw [HX.out]; exact HB7.out, HK7.out⟩, HJ.out.2.trans hb57⟩
  case done =>
    rintro D ys W hD hS ⟨⟨hBl, hkn⟩, hB⟩ hK
    have hzB := hB.size
    have e : outL ys = (outB lineB (linesB t)).data.toList := by unfold outL; rw [hS]
    have HSB : Hid (Calls Tryz.prog 16 #[.pointer (some ⟨b, 0, none⟩)] W fun e w' => e = .returned (.string (outB lineB (linesB t))) ∧ Below w.heap.size W w' ∧ w'.heap[D]? = some (.deferred (some []))) := by
      rw [e] at hBl
      refine (string_kept _ b _ W hBl hzB).mono ?_
      rintro e w' ⟨rfl, h1, h2⟩
      exact ⟨by rw [bytes_back], h1, h2 D _ hK (fun e => by injection e with e; omega) (fun c fz e => by cases e)⟩
    clear hBl hkn e hS
    gi_wp2_with (gi_at_call 16; refine (HF.out _ _ _ _ _ HSB.out).mono ?_; rintro e w8 ⟨rfl, hb8, hK8⟩; have HB8 : Hid (Below w.heap.size w w8) := hB.trans hb8)
    refine ⟨by simp, .inl ⟨_, _, rfl, run_takeDeferred hK8, ?_⟩⟩
    exact ⟨_, results_tmp rfl _ _ _, rfl, HB8.out.trans (belowK_b (w := w) (Nat.le_refl _) w8 D _ _ (by omega) hK8 rfl rfl)⟩
  case stop =>
    rintro D c pre W _ _ h _
    exact h.elim
theorem run_is : RunIs := fun t ht a w hL => by
  unfold runB
  by_cases h : 3000 < t.size
  · rw [decide_eq_true h, cond_true]
    exact run_long t w h ht
  · rw [decide_eq_false h, cond_false]
    exact (callsIn_wide (n := 5)).1 (run_in Fence.wide 5 trivial trivial trivial trivial trivial trivial trivial trivial rfl (Nat.le_refl _) (fun _ _ _ _ _ h => callsIn_wide.2 h) a t (by omega) w hL)
end Go.Proofs.YtgngdabfmbipaakGreatDoor

/- stonelaw3.RunAnswers answers true. -/
namespace Go.Proofs.YtgngdabfmbipaakGreatDoor
open Go.RowKit
theorem walkRunAnswers (w : World) (t : ByteArray) (ht : t.size ≤ maxLen) (a : Addr) (hL : Lie a w) : Calls Tryz.prog 3 #[.string t] w fun e w' => e = .returned (.bool true) ∧ Below w.heap.size w w' :=
  runAnswers_by run_is a w hL t ht
end Go.Proofs.YtgngdabfmbipaakGreatDoor
