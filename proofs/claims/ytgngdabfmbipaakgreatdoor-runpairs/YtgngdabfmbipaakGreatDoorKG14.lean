/- What pair.gone answers: the lines by which 1013 times the first came about. -/
import Derived.Test.YtgngdabfmbipaakGreatDoorKG10
import Derived.Deep.CutRange
import Derived.Test.YtgngdabfmbipaakGreatDoorKGate
namespace Go.Proofs.YtgngdabfmbipaakGreatDoor
open Go.RowKit Go.Sort
set_option linter.unusedVariables false
set_option linter.unusedSimpArgs false
theorem below_lt {W w1 : World} (hb : Below W.heap.size W w1) : ∀ b, b < W.heap.size → b < w1.heap.size := fun b h => Nat.lt_of_lt_of_le h hb.size
theorem below_ne {W w1 : World} (hb : Below W.heap.size W w1) : ∀ b, b < W.heap.size → (b = w1.heap.size) = False := fun b h => eq_false (Nat.ne_of_lt (below_lt hb b h))
theorem below_ne2 {W w1 : World} (hb : Below W.heap.size W w1) : ∀ b, b < W.heap.size → (w1.heap.size = b) = False := fun b h => eq_false (Nat.ne_of_gt (below_lt hb b h))
theorem len_Q (w : World) : Calls Tryz.prog 66 #[.int .u64 1013] w fun e w' => e = .returned (.int .i64 10) ∧ w' = w := by
  have := len_small 1013 w (by omega) (by omega)
  rwa [show ((Lib.bitLen (1013 : Int).toNat : Nat) : Int) = 10 by decide] at this
/-- What is answered, and what is left of the memory. -/
def GoneP (i k : Nat) (w : World) (e : Ending) (w' : World) : Prop :=
  ∃ f : Int × Int, e = .returned (.tuple #[.agg #[.int .i64 (f).1, .int .i64 (f).2], .nilIface]) ∧ Below w.heap.size w w' ∧ Ch (tM k) i 1013 f
theorem GoneP.mk {i k : Nat} {w w' : World} (f : Int × Int) (h : Below w.heap.size w w') (hc : Ch (tM k) i 1013 f) : GoneP i k w (.returned (.tuple #[.agg #[.int .i64 (f).1, .int .i64 (f).2], .nilIface])) w' := ⟨f, rfl, h, hc⟩
set_option maxRecDepth 100000 in
set_option maxHeartbeats 2000000 in
theorem gone_tM (i k : Nat) (w : World) (hg : Good (tM k)) :
    Calls Tryz.prog 116 #[.agg #[.int .i64 ((tM i).1 : Int), .int .i64 ((tM i).2.1 : Int), .bool (tM i).2.2], .agg #[.int .i64 ((tM k).1 : Int), .int .i64 ((tM k).2.1 : Int), .bool (tM k).2.2]] w fun e w' => GoneP i k w e w' := by
  have HG : Hid (Good (tM k)) := hg
  clear hg
  go_enter Tryz.func116, Tryz.ntmps116
  go_upto_region 1 with fail
  refine wp_gen (fun V => At V (w.heap.size) [.int .i64 ((tM i).1 : Int), .int .i64 ((tM i).2.1 : Int), .bool (tM i).2.2] ∧ At V (w.heap.size + 1) [.int .i64 ((tM k).1 : Int), .int .i64 ((tM k).2.1 : Int), .bool (tM k).2.2] ∧ At V (w.heap.size + 2) [.int .i64 0, .int .i64 0] ∧ Below w.heap.size w V) ⟨at_by, at_by, at_by, below_by⟩ ?_
  rintro V ⟨kaV, kbV, krV, hqV⟩
  have hzV := hqV.size
  obtain ⟨zaV, ca0V, ca1V, ca2V, fa0V, fa1V, fa2V⟩ := kaV.three
  obtain ⟨zbV, cb0V, cb1V, cb2V, fb0V, fb1V, fb2V⟩ := kbV.three
  obtain ⟨zrV, cr0V, cr1V, fr0V, fr1V⟩ := krV.two
  go_cut [6, 7] from 11 to 12 (fun t6 t7 wx => ∃ b6 b7 : Nat, t6 = .pointer (some ⟨b6, 0, none⟩) ∧ t7 = .pointer (some ⟨b7, 0, none⟩) ∧ At wx (w.heap.size) [.int .i64 ((tM i).1 : Int), .int .i64 ((tM i).2.1 : Int), .bool (tM i).2.2] ∧ At wx (w.heap.size + 1) [.int .i64 ((tM k).1 : Int), .int .i64 ((tM k).2.1 : Int), .bool (tM k).2.2] ∧ At wx (w.heap.size + 2) [.int .i64 0, .int .i64 0] ∧ At wx b6 [.int .i64 1, .int .i64 0] ∧ At wx b7 [.int .i64 ((tM i).1 : Int), .int .i64 ((tM i).2.1 : Int), .bool (tM i).2.2] ∧ b6 ≠ b7 ∧ w.heap.size + 2 < b6 ∧ w.heap.size + 2 < b7 ∧ Below w.heap.size w wx)
  case first =>
    go_region_held3 (fun W => ((w.heap.size) < W.heap.size ∧ W.cell? ⟨w.heap.size, 0, none⟩ = some (.int .i64 ((tM i).1 : Int)) ∧ W.cell? ⟨w.heap.size, 1, none⟩ = some (.int .i64 ((tM i).2.1 : Int)) ∧ W.cell? ⟨w.heap.size, 2, none⟩ = some (.bool (tM i).2.2) ∧ W.frozen? ⟨w.heap.size, 0, none⟩ = false ∧ W.frozen? ⟨w.heap.size, 1, none⟩ = false ∧ W.frozen? ⟨w.heap.size, 2, none⟩ = false)) (exact At.three (at_red)) (first | (go_at_call 115; refine (one_is _).mono ?_; rintro e w1 ⟨rfl, hb1⟩; obtain ⟨hc1, hf1⟩ := bcell hb1; have hl1 := below_lt hb1; have hn1 := below_ne hb1; have hm1 := below_ne2 hb1))
    all_goals (go_wp2_with fail)
    all_goals go_meet
    all_goals (case rel => (have hs1 := hb1.size; simp at hs1; exact ⟨_, _, rfl, rfl, at_red, at_red, at_red, at_red, at_red, by omega, by omega, by omega, below_by⟩))
  case rest =>
    obtain ⟨b6, b7, rfl, rfl, kawc, kbwc, krwc, knwc, ktwc, hne, hb6, hb7, hqwc⟩ := hcut
    have hzwc := hqwc.size
    obtain ⟨zawc, ca0wc, ca1wc, ca2wc, fa0wc, fa1wc, fa2wc⟩ := kawc.three
    obtain ⟨zbwc, cb0wc, cb1wc, cb2wc, fb0wc, fb1wc, fb2wc⟩ := kbwc.three
    obtain ⟨zrwc, cr0wc, cr1wc, fr0wc, fr1wc⟩ := krwc.two
    obtain ⟨znwc, cn0wc, cn1wc, fn0wc, fn1wc⟩ := knwc.two
    obtain ⟨ztwc, ct0wc, ct1wc, ct2wc, ft0wc, ft1wc, ft2wc⟩ := ktwc.three
    go_wp2_with (go_at_call 66; refine (len_Q _).mono ?_; rintro e v1 ⟨rfl, hv1⟩; subst v1)
    go_loopw [16] (fun ti wl => ∃ (c : Nat) (f : Int × Int), c ≤ 9 ∧ ti = .int .i64 c ∧ At wl (w.heap.size) [.int .i64 ((tM i).1 : Int), .int .i64 ((tM i).2.1 : Int), .bool (tM i).2.2] ∧ At wl (w.heap.size + 1) [.int .i64 ((tM k).1 : Int), .int .i64 ((tM k).2.1 : Int), .bool (tM k).2.2] ∧ At wl (w.heap.size + 2) [.int .i64 0, .int .i64 0] ∧ At wl b6 [.int .i64 (f).1, .int .i64 (f).2] ∧ At wl b7 [.int .i64 ((tM (upN c * i)).1 : Int), .int .i64 ((tM (upN c * i)).2.1 : Int), .bool (tM (upN c * i)).2.2] ∧ Below w.heap.size w wl ∧ Hid (Ch (tM k) i (upN c) f)) (fun ti _ => 9 - (intOf ti).toNat)
    case atStart => exact ⟨0, (1, 0), by omega, rfl, kawc, kbwc, krwc, knwc, by rw [up_zero, Nat.one_mul]; exact ktwc, hqwc, ch_one _ _⟩
    case round =>
      obtain ⟨c, f, hc, rfl, kaV, kbV, krV, knV, ktV, hqV, HC⟩ := hrel
      have hzV := hqV.size
      obtain ⟨J, hJ⟩ : ∃ J, upN c * i = J := ⟨_, rfl⟩
      rw [hJ] at ktV
      obtain ⟨zaV, ca0V, ca1V, ca2V, fa0V, fa1V, fa2V⟩ := kaV.three
      obtain ⟨zbV, cb0V, cb1V, cb2V, fb0V, fb1V, fb2V⟩ := kbV.three
      obtain ⟨zrV, cr0V, cr1V, fr0V, fr1V⟩ := krV.two
      obtain ⟨znV, cn0V, cn1V, fn0V, fn1V⟩ := knV.two
      obtain ⟨ztV, ct0V, ct1V, ct2V, ft0V, ft1V, ft2V⟩ := ktV.three
      have HJ : Hid (upN c * i = J) := hJ
      clear hJ
      by_cases hlt : c < 9
      · have hlt' : (c : Int) < 9 := by omega
        have hul := up_le (c + 1)
        have hb := Go.Proofs.and_one (upN (c + 1)) (by omega)
        rw [← up_bit c hlt] at hb
        obtain ⟨g, hg⟩ : ∃ g, tm (tm f f) (toI (hvN (tM J) (tM J) (tM k))) = g := ⟨_, rfl⟩
        by_cases hbit : upN (c + 1) % 2 = 0
        · have hbt : (bits BinOp.and IntKind.i64 (1013 / 2 ^ (8 - c)) 1 == 0) = true := by rw [hb, hbit]; rfl
          have HJ2 : Hid (J + J = upN (c + 1) * i) := upJ_even hlt hbit HJ.out
          have HC2 : Hid (Ch (tM k) i (upN (c + 1)) g) := by have := ch_even HG.out hlt hbit HJ.out HC.out; rwa [hg] at this
          have HGG : Hid (tm (tm f f) (toI (hvN (tM J) (tM J) (tM k))) = g) := hg
          clear hg hb hbit HJ HC hul
          go_wp2_with fail
          refine below_gate 8 6 #[true, true, true, true, true, true, true, true, false, false, false, false, false, false] (by kernel_rfl) (by kernel_rfl) rfl rfl ?_
          dsimp only [List.take]
          repeat (go_big_quiet_step (first | (go_at_call 137; with_reducible exact Calls.regrown_of (tmul_any _ _ _)) | (go_at_call 136; with_reducible exact Calls.regrown_of (step_eq HGG.out _))))
          refine wpQuiet_nil ?_
          intro W1 hw1
          have hrW1 := regrown_below hw1
          clear hw1
          have kaW1 := kaV.below hrW1
          have kbW1 := kbV.below hrW1
          have krW1 := krV.below hrW1
          have knW1 := knV.below hrW1
          have ktW1 := ktV.below hrW1
          have hqW1 := bl_call hqV hrW1 (by omega)
          have hzW1 := hqW1.size
          clear hrW1 kaV ca0V fa0V ca1V fa1V ca2V fa2V kbV cb0V fb0V cb1V fb1V cb2V fb2V krV cr0V fr0V cr1V fr1V knV cn0V fn0V cn1V fn1V ktV ct0V ft0V ct1V ft1V ct2V ft2V hqV
          obtain ⟨zaW1, ca0W1, ca1W1, ca2W1, fa0W1, fa1W1, fa2W1⟩ := kaW1.three
          obtain ⟨zbW1, cb0W1, cb1W1, cb2W1, fb0W1, fb1W1, fb2W1⟩ := kbW1.three
          obtain ⟨zrW1, cr0W1, cr1W1, fr0W1, fr1W1⟩ := krW1.two
          obtain ⟨znW1, cn0W1, cn1W1, fn0W1, fn1W1⟩ := knW1.two
          obtain ⟨ztW1, ct0W1, ct1W1, ct2W1, ft0W1, ft1W1, ft2W1⟩ := ktW1.three
          refine wpAny_take (i := 8) (v := ?v8) rfl (by kernel_rfl) (by kernel_rfl) (by kernel_rfl) (fun _ _ _ h => h) (Or.inl ⟨by rfl, ?y8⟩) ?z8
          case y8 => ((intro w); (go_simp); (try with_reducible rfl))
          case z8 =>
          refine wpAny_take (i := 9) (v := ?v9) rfl (by kernel_rfl) (by kernel_rfl) (by kernel_rfl) (fun _ _ _ h => h) (Or.inl ⟨by rfl, ?y9⟩) ?z9
          case y9 => ((intro w); (go_simp); (try with_reducible rfl))
          case z9 =>
          refine wpAny_take (i := 10) (v := ?v10) rfl (by kernel_rfl) (by kernel_rfl) (by kernel_rfl) (fun _ _ _ h => h) (Or.inl ⟨by rfl, ?y10⟩) ?z10
          case y10 => ((intro w); (go_simp); (try with_reducible rfl))
          case z10 =>
          refine wpAny_ready (rs := [11]) (by kernel_rfl) (by simp) (AllReady.cons rfl (fun K hK => ?_) AllReady.nil)
          go_simp
          refine hK _ _ ?_
          clear hK K
          refine wpAny_ready (rs := [12]) (by kernel_rfl) (by simp) (AllReady.cons rfl (fun K hK => ?_) AllReady.nil)
          go_simp
          refine hK _ _ ?_
          clear hK K
          refine wpAny_ready (rs := [13]) (by kernel_rfl) (by simp) (AllReady.cons rfl (fun K hK => ?_) AllReady.nil)
          go_simp
          refine hK _ _ ?_
          clear hK K
          refine wpAny_done (by kernel_rfl) ?_ _
          go_wp2_with fail
          go_roundw
          case rel => exact ⟨c + 1, g, by omega, by simp, at_red, at_red, at_red, at_red, by rw [← HJ2.out]; exact (at_red), below_by, HC2⟩
          case measure => simp [intOf]; omega
        · have hbit' : upN (c + 1) % 2 = 1 := by omega
          obtain ⟨d, hd⟩ : ∃ d, tm g (toI (hvN (tM (J + J)) (tM i) (tM k))) = d := ⟨_, rfl⟩
          have hbt : (bits BinOp.and IntKind.i64 (1013 / 2 ^ (8 - c)) 1 == 0) = false := by rw [hb, hbit']; rfl
          have HJ2 : Hid (J + J + i = upN (c + 1) * i) := upJ_odd hlt hbit' HJ.out
          have HC2 : Hid (Ch (tM k) i (upN (c + 1)) d) := by have := ch_odd HG.out hlt hbit' HJ.out HC.out; rwa [hg, hd] at this
          have HGG : Hid (tm (tm f f) (toI (hvN (tM J) (tM J) (tM k))) = g) := hg
          have HDD : Hid (tm g (toI (hvN (tM (J + J)) (tM i) (tM k))) = d) := hd
          clear hg hd hb hbit hbit' HJ HC hul
          have m1 : True := trivial
          go_wp2_with fail
          refine below_gate 8 6 #[true, true, true, true, true, true, true, true, false, false, false, false, false, false] (by kernel_rfl) (by kernel_rfl) rfl rfl ?_
          dsimp only [List.take]
          repeat (go_big_quiet_step (first | (go_at_call 137; with_reducible exact Calls.regrown_of (tmul_any _ _ _)) | (go_at_call 136; with_reducible exact Calls.regrown_of (step_eq HGG.out _))))
          refine wpQuiet_nil ?_
          intro W1 hw1
          have hrW1 := regrown_below hw1
          clear hw1
          have kaW1 := kaV.below hrW1
          have kbW1 := kbV.below hrW1
          have krW1 := krV.below hrW1
          have knW1 := knV.below hrW1
          have ktW1 := ktV.below hrW1
          have hqW1 := bl_call hqV hrW1 (by omega)
          have hzW1 := hqW1.size
          clear hrW1 kaV ca0V fa0V ca1V fa1V ca2V fa2V kbV cb0V fb0V cb1V fb1V cb2V fb2V krV cr0V fr0V cr1V fr1V knV cn0V fn0V cn1V fn1V ktV ct0V ft0V ct1V ft1V ct2V ft2V hqV
          obtain ⟨zaW1, ca0W1, ca1W1, ca2W1, fa0W1, fa1W1, fa2W1⟩ := kaW1.three
          obtain ⟨zbW1, cb0W1, cb1W1, cb2W1, fb0W1, fb1W1, fb2W1⟩ := kbW1.three
          obtain ⟨zrW1, cr0W1, cr1W1, fr0W1, fr1W1⟩ := krW1.two
          obtain ⟨znW1, cn0W1, cn1W1, fn0W1, fn1W1⟩ := knW1.two
          obtain ⟨ztW1, ct0W1, ct1W1, ct2W1, ft0W1, ft1W1, ft2W1⟩ := ktW1.three
          refine wpAny_take (i := 8) (v := ?v8) rfl (by kernel_rfl) (by kernel_rfl) (by kernel_rfl) (fun _ _ _ h => h) (Or.inl ⟨by rfl, ?y8⟩) ?z8
          case y8 => ((intro w); (go_simp); (try with_reducible rfl))
          case z8 =>
          refine wpAny_take (i := 9) (v := ?v9) rfl (by kernel_rfl) (by kernel_rfl) (by kernel_rfl) (fun _ _ _ h => h) (Or.inl ⟨by rfl, ?y9⟩) ?z9
          case y9 => ((intro w); (go_simp); (try with_reducible rfl))
          case z9 =>
          refine wpAny_take (i := 10) (v := ?v10) rfl (by kernel_rfl) (by kernel_rfl) (by kernel_rfl) (fun _ _ _ h => h) (Or.inl ⟨by rfl, ?y10⟩) ?z10
          case y10 => ((intro w); (go_simp); (try with_reducible rfl))
          case z10 =>
          refine wpAny_ready (rs := [11]) (by kernel_rfl) (by simp) (AllReady.cons rfl (fun K hK => ?_) AllReady.nil)
          go_simp
          refine hK _ _ ?_
          clear hK K
          refine wpAny_ready (rs := [12]) (by kernel_rfl) (by simp) (AllReady.cons rfl (fun K hK => ?_) AllReady.nil)
          go_simp
          refine hK _ _ ?_
          clear hK K
          refine wpAny_ready (rs := [13]) (by kernel_rfl) (by simp) (AllReady.cons rfl (fun K hK => ?_) AllReady.nil)
          go_simp
          refine hK _ _ ?_
          clear hK K
          refine wpAny_done (by kernel_rfl) ?_ _
          go_wp2_with (go_at_call 136; clear m1; refine (step_eq HDD.out _).mono ?_; rintro e w2 ⟨rfl, hbw2⟩; have kaw2 : At w2 (w.heap.size) [.int .i64 ((tM i).1 : Int), .int .i64 ((tM i).2.1 : Int), .bool (tM i).2.2] := (at_red); have kbw2 : At w2 (w.heap.size + 1) [.int .i64 ((tM k).1 : Int), .int .i64 ((tM k).2.1 : Int), .bool (tM k).2.2] := (at_red); have krw2 : At w2 (w.heap.size + 2) [.int .i64 0, .int .i64 0] := (at_red); have knw2 : At w2 (b6) [.int .i64 (g).1, .int .i64 (g).2] := (at_red); have ktw2 : At w2 (b7) [.int .i64 ((tM (J + J)).1 : Int), .int .i64 ((tM (J + J)).2.1 : Int), .bool (tM (J + J)).2.2] := (at_red); have hqw2 : Below w.heap.size w w2 := (below_by); have hzw2 := hqw2.size; obtain ⟨zaw2, ca0w2, ca1w2, ca2w2, fa0w2, fa1w2, fa2w2⟩ := kaw2.three; obtain ⟨zbw2, cb0w2, cb1w2, cb2w2, fb0w2, fb1w2, fb2w2⟩ := kbw2.three; obtain ⟨zrw2, cr0w2, cr1w2, fr0w2, fr1w2⟩ := krw2.two; obtain ⟨znw2, cn0w2, cn1w2, fn0w2, fn1w2⟩ := knw2.two; obtain ⟨ztw2, ct0w2, ct1w2, ct2w2, ft0w2, ft1w2, ft2w2⟩ := ktw2.three; clear kaW1 ca0W1 fa0W1 ca1W1 fa1W1 ca2W1 fa2W1 kbW1 cb0W1 fb0W1 cb1W1 fb1W1 cb2W1 fb2W1 krW1 cr0W1 fr0W1 cr1W1 fr1W1 knW1 cn0W1 fn0W1 cn1W1 fn1W1 ktW1 ct0W1 ft0W1 ct1W1 ft1W1 ct2W1 ft2W1 hqW1; clear hbw2)
          go_roundw
          case rel => exact ⟨c + 1, d, by omega, by simp, at_red, at_red, at_red, at_red, by rw [← HJ2.out]; exact (at_red), below_by, HC2⟩
          case measure => simp [intOf]; omega
      · have hlt' : ¬ (c : Int) < 9 := by omega
        obtain rfl : c = 9 := by omega
        have HC2 : Hid (Ch (tM k) i 1013 f) := HC.out
        clear HC
        go_wp2_with fail
        exact bodyPost_ret (v := .tuple #[.agg #[.int .i64 (f).1, .int .i64 (f).2], .nilIface]) (by simp [results, Tryz.results116, go_sem, *]) rfl (GoneP.mk f (below_by) HC2.out)
end Go.Proofs.YtgngdabfmbipaakGreatDoor

/- What pair.checkAll and pair.Pair answer: of two that count, one number to the power of both; else the fault. -/
namespace Go.Proofs.YtgngdabfmbipaakGreatDoor
open Go.RowKit Go.Sort
set_option linter.unusedVariables false
set_option linter.unusedSimpArgs false
set_option maxRecDepth 100000 in
set_option maxHeartbeats 2000000 in
theorem pcheck_no (b n c m : Nat) (X Y : Nat → Int) (F : Nat → Bool) (w : World) (hn : n ≤ 1000000) (hr : RowS w b n X Y F) (hm : m < n) (hok : ∀ j, j < m → ckI (X j) (Y j) (F j) = 0) (h : (ckI (X m) (Y m) (F m) == 0) = false) :
    Calls Tryz.prog 114 #[.slice (some ⟨b, 0, none⟩) n c] w fun e w' => e = .returned (errOf (ckI (X m) (Y m) (F m))) ∧ Below w.heap.size w w' := by
  have HC : Hid (Calls Tryz.prog 105 #[.slice (some ⟨b, 0, none⟩) n c] w fun e w' => e = .returned (errOf (ckI (X m) (Y m) (F m))) ∧ Below w.heap.size w w') := checkAll_any b n c m X Y F w hn hr (by omega) hok _ (Or.inr ⟨hm, h, rfl⟩)
  clear hr hok h
  go_enter Tryz.func114, Tryz.ntmps114
  go_wp2_with (go_at_call 105; refine HC.out.mono ?_; rintro e w1 ⟨rfl, hb1⟩)
  go_ret
  exact ⟨rfl, below_by⟩
set_option maxRecDepth 100000 in
set_option maxHeartbeats 2000000 in
theorem pcheck_any (b n c m : Nat) (X Y : Nat → Int) (F : Nat → Bool) (K : Nat → Nat) (w : World) (hn : n ≤ 1000000) (hr : RowS w b n X Y F) (hm : m ≤ n)
    (hK : ∀ j, j < n → X j = ((tM (K j)).1 : Int) ∧ Y j = ((tM (K j)).2.1 : Int) ∧ F j = (tM (K j)).2.2) (hin : ∀ j, j < m → farI (K j * 1013) = true) (v : Value)
    (hv : (m = n ∧ v = .nilIface) ∨ (m < n ∧ farI (K m * 1013) = false ∧ v = errOf 3)) :
    Calls Tryz.prog 114 #[.slice (some ⟨b, 0, none⟩) n c] w fun e w' => e = .returned (v) ∧ Below w.heap.size w w' := by
  have HC : Hid (Calls Tryz.prog 105 #[.slice (some ⟨b, 0, none⟩) n c] w fun e w' => e = .returned (.nilIface) ∧ Below w.heap.size w w') := checkAll_any b n c n X Y F w hn hr (Nat.le_refl _) (fun j hj => by obtain ⟨h1, h2, h3⟩ := hK j hj; rw [h1, h2, h3]; exact ck_tM _) _ (Or.inl ⟨rfl, rfl⟩)
  have HR : Hid (RowS w b n X Y F) := hr
  have HK : Hid (∀ j, j < n → X j = ((tM (K j)).1 : Int) ∧ Y j = ((tM (K j)).2.1 : Int) ∧ F j = (tM (K j)).2.2) := hK
  have HI : Hid (∀ j, j < m → farI (K j * 1013) = true) := hin
  have HV : Hid ((m = n ∧ v = .nilIface) ∨ (m < n ∧ farI (K m * 1013) = false ∧ v = errOf 3)) := hv
  have hb := hr.1
  clear hr hK hin hv
  go_enter Tryz.func114, Tryz.ntmps114
  go_wp2_with (go_at_call 105; refine HC.out.mono ?_; rintro e w1 ⟨rfl, hb1⟩)
  go_loopw [15] (fun ti wl => ∃ k : Nat, k ≤ m ∧ ti = .int .i64 k ∧ Below w.heap.size w wl) (fun ti _ => n - (intOf ti).toNat)
  case atStart => exact ⟨0, by omega, rfl, hb1⟩
  case round =>
    obtain ⟨k, hk, rfl, hbl⟩ := hrel
    have hz := hbl.size
    by_cases hlt : k < n
    · have hlt' : (k : Int) < n := by omega
      obtain ⟨c0, c1, c2⟩ := (HR.out.below hbl).2 k hlt
      obtain ⟨e0, e1, e2⟩ := HK.out k hlt
      rw [e0] at c0
      rw [e1] at c1
      rw [e2] at c2
      clear e0 e1 e2
      obtain ⟨J, hJ⟩ : ∃ J, K k = J := ⟨_, rfl⟩
      rw [hJ] at c0 c1 c2
      by_cases hkm : k < m
      · have hf := HI.out k hkm
        rw [hJ] at hf
        have HF : Hid (farI (J * 1013) = true) := hf
        clear hf hJ
        go_wp2_with (go_at_call 135; refine (in_eq HF.out _).mono ?_; rintro e w2 ⟨rfl, hb2⟩)
        go_roundw
        case rel => exact ⟨k + 1, by omega, by simp, below_by⟩
        case measure => simp [intOf]; omega
      · obtain rfl : k = m := by omega
        obtain ⟨h1, h2, rfl⟩ : k < n ∧ farI (K k * 1013) = false ∧ v = errOf 3 := by
          rcases HV.out with h | h
          · omega
          · exact h
        rw [hJ] at h2
        have HF : Hid (farI (J * 1013) = false) := h2
        clear h2 hJ
        go_wp2_with (go_at_call 135; refine (in_eq HF.out _).mono ?_; rintro e w2 ⟨rfl, hb2⟩)
        go_ret
        exact ⟨rfl, below_by⟩
    · have hlt' : ¬ (k : Int) < n := by omega
      obtain ⟨h1, rfl⟩ : m = n ∧ v = .nilIface := by
        rcases HV.out with h | h
        · exact h
        · omega
      go_wp2_with fail
      go_ret
      exact ⟨rfl, below_by⟩
def selN (i j t : Nat) : Nat := bif Nat.beq t 0 then i else j
theorem sel_0 (i j : Nat) : selN i j 0 = i := rfl
theorem sel_1 (i j n : Nat) : selN i j (n + 1) = j := rfl
theorem sel_at0 {i j : Nat} {b : Bool} (h : farI (i * 1013) = b) : farI (selN i j 0 * 1013) = b := (congrArg (fun t => farI (t * 1013)) (sel_0 i j)).trans h
theorem sel_at1 {i j n : Nat} {b : Bool} (h : farI (j * 1013) = b) : farI (selN i j (n + 1) * 1013) = b := (congrArg (fun t => farI (t * 1013)) (sel_1 i j n)).trans h
theorem sel_in {i j : Nat} (h1 : farI (i * 1013) = true) (h2 : farI (j * 1013) = true) : ∀ t, farI (selN i j t * 1013) = true
  | 0 => sel_at0 h1
  | n + 1 => sel_at1 h2
/-- The two of a pair. -/
theorem pck_yes {w : World} {b c i j : Nat} (h : At w b [.int .i64 ((tM i).1 : Int), .int .i64 ((tM i).2.1 : Int), .bool (tM i).2.2, .int .i64 ((tM j).1 : Int), .int .i64 ((tM j).2.1 : Int), .bool (tM j).2.2])
    (h1 : farI (i * 1013) = true) (h2 : farI (j * 1013) = true) : Calls Tryz.prog 114 #[.slice (some ⟨b, 0, none⟩) 2 c] w fun e w' => e = .returned (.nilIface) ∧ Below w.heap.size w w' :=
  pcheck_any b 2 c 2 _ _ _ (selN i j) w (by omega) (rowS_two h) (by omega)
    (fun t ht => by rcases t with _ | _ | t; exact ⟨rfl, rfl, rfl⟩; exact ⟨rfl, rfl, rfl⟩; omega) (fun t _ => sel_in h1 h2 t) _ (Or.inl ⟨rfl, rfl⟩)
section
variable {w : World} {b c : Nat} {x1 y1 x2 y2 : Int} {f1 f2 : Bool}
theorem pck_no1 (h : At w b [.int .i64 x1, .int .i64 y1, .bool f1, .int .i64 x2, .int .i64 y2, .bool f2]) (h1 : (ckI x1 y1 f1 == 0) = false) :
    Calls Tryz.prog 114 #[.slice (some ⟨b, 0, none⟩) 2 c] w fun e w' => e = .returned (errOf (ckI x1 y1 f1)) ∧ Below w.heap.size w w' :=
  pcheck_no b 2 c 0 _ _ _ w (by omega) (rowS_two h) (by omega) (fun j hj => by omega) h1
end
set_option maxRecDepth 100000 in
set_option maxHeartbeats 2000000 in
theorem pair_no1 (x1 y1 x2 y2 : Int) (f1 f2 : Bool) (w : World) (h : (ckI x1 y1 f1 == 0) = false) :
    Calls Tryz.prog 74 #[.agg #[.int .i64 x1, .int .i64 y1, .bool f1], .agg #[.int .i64 x2, .int .i64 y2, .bool f2]] w fun e w' => e = .returned (.tuple #[.agg #[.int .i64 0, .int .i64 0], errOf (ckI x1 y1 f1)]) ∧ Below w.heap.size w w' := by
  have m1 : True := trivial; have m2 : True := trivial; have m3 : True := trivial; have m4 : True := trivial
  go_enter Tryz.func74, Tryz.ntmps74
  go_wp2_with (first | (go_at_call 114; clear m1; refine (pck_no1 (at_by) h).mono ?_; rintro e w1 ⟨rfl, hbw1⟩; have kaw1 : At w1 (w.heap.size) [.int .i64 x1, .int .i64 y1, .bool f1] := (at_by); have kbw1 : At w1 (w.heap.size + 1) [.int .i64 x2, .int .i64 y2, .bool f2] := (at_by); have krw1 : At w1 (w.heap.size + 2) [.int .i64 0, .int .i64 0] := (at_by); have hqw1 : Below w.heap.size w w1 := (below_by); have hzw1 := hqw1.size; obtain ⟨zaw1, ca0w1, ca1w1, ca2w1, fa0w1, fa1w1, fa2w1⟩ := kaw1.three; obtain ⟨zbw1, cb0w1, cb1w1, cb2w1, fb0w1, fb1w1, fb2w1⟩ := kbw1.three; obtain ⟨zrw1, cr0w1, cr1w1, fr0w1, fr1w1⟩ := krw1.two; clear hbw1))
  exact bodyPost_ret (v := .tuple #[.agg #[.int .i64 0, .int .i64 0], errOf (ckI x1 y1 f1)]) (by simp [results, Tryz.results74, go_sem, *]) rfl ⟨rfl, below_by⟩
theorem pck_lf {w : World} {b c j : Nat} (h : At w b [.int .i64 0, .int .i64 0, .bool true, .int .i64 ((tM (4 * j)).1 : Int), .int .i64 ((tM (4 * j)).2.1 : Int), .bool (tM (4 * j)).2.2]) :
    Calls Tryz.prog 114 #[.slice (some ⟨b, 0, none⟩) 2 c] w fun e w' => e = .returned (.nilIface) ∧ Below w.heap.size w w' := pck_yes (i := 0) (j := 4 * j) h rfl (four_cnt _)
theorem pck_fr {w : World} {b c i : Nat} (hf : farI (4 * i) = false) (h : At w b [.int .i64 ((tM (4 * i)).1 : Int), .int .i64 ((tM (4 * i)).2.1 : Int), .bool false, .int .i64 0, .int .i64 0, .bool true]) :
    Calls Tryz.prog 114 #[.slice (some ⟨b, 0, none⟩) 2 c] w fun e w' => e = .returned (.nilIface) ∧ Below w.heap.size w w' := by
  refine pck_yes (i := 4 * i) (j := 0) ?_ (four_cnt _) rfl
  rw [tM_f (4 * i), hf]; exact h
theorem pck_nn {w : World} {b c i j : Nat} (hf : farI (4 * i) = false) (hg : farI (4 * j) = false) (h : At w b [.int .i64 ((tM (4 * i)).1 : Int), .int .i64 ((tM (4 * i)).2.1 : Int), .bool false, .int .i64 ((tM (4 * j)).1 : Int), .int .i64 ((tM (4 * j)).2.1 : Int), .bool false]) :
    Calls Tryz.prog 114 #[.slice (some ⟨b, 0, none⟩) 2 c] w fun e w' => e = .returned (.nilIface) ∧ Below w.heap.size w w' := by
  refine pck_yes (i := 4 * i) (j := 4 * j) ?_ (four_cnt _) (four_cnt _)
  rw [tM_f (4 * i), tM_f (4 * j), hf, hg]; exact h
set_option maxRecDepth 100000 in
set_option maxHeartbeats 2000000 in
theorem pair_lf (j : Nat) (w : World) : Calls Tryz.prog 74 #[.agg #[.int .i64 0, .int .i64 0, .bool true], .agg #[.int .i64 ((tM (4 * j)).1 : Int), .int .i64 ((tM (4 * j)).2.1 : Int), .bool (tM (4 * j)).2.2]] w fun e w' => e = .returned (.tuple #[.agg #[.int .i64 1, .int .i64 0], .nilIface]) ∧ Below w.heap.size w w' := by
  have m1 : True := trivial; have m2 : True := trivial; have m3 : True := trivial; have m4 : True := trivial
  go_enter Tryz.func74, Tryz.ntmps74
  go_wp2_with (first | (go_at_call 114; clear m1; refine (pck_lf (at_by)).mono ?_; rintro e w1 ⟨rfl, hbw1⟩; have kaw1 : At w1 (w.heap.size) [.int .i64 0, .int .i64 0, .bool true] := (at_by); have kbw1 : At w1 (w.heap.size + 1) [.int .i64 ((tM (4 * j)).1 : Int), .int .i64 ((tM (4 * j)).2.1 : Int), .bool (tM (4 * j)).2.2] := (at_by); have krw1 : At w1 (w.heap.size + 2) [.int .i64 0, .int .i64 0] := (at_by); have hqw1 : Below w.heap.size w w1 := (below_by); have hzw1 := hqw1.size; obtain ⟨zaw1, ca0w1, ca1w1, ca2w1, fa0w1, fa1w1, fa2w1⟩ := kaw1.three; obtain ⟨zbw1, cb0w1, cb1w1, cb2w1, fb0w1, fb1w1, fb2w1⟩ := kbw1.three; obtain ⟨zrw1, cr0w1, cr1w1, fr0w1, fr1w1⟩ := krw1.two; clear hbw1) | (go_at_call 115; clear m2; refine (one_is _).mono ?_; rintro e w2 ⟨rfl, hbw2⟩; have kaw2 : At w2 (w.heap.size) [.int .i64 0, .int .i64 0, .bool true] := (at_by); have kbw2 : At w2 (w.heap.size + 1) [.int .i64 ((tM (4 * j)).1 : Int), .int .i64 ((tM (4 * j)).2.1 : Int), .bool (tM (4 * j)).2.2] := (at_by); have krw2 : At w2 (w.heap.size + 2) [.int .i64 0, .int .i64 0] := (at_by); have hqw2 : Below w.heap.size w w2 := (below_by); have hzw2 := hqw2.size; obtain ⟨zaw2, ca0w2, ca1w2, ca2w2, fa0w2, fa1w2, fa2w2⟩ := kaw2.three; obtain ⟨zbw2, cb0w2, cb1w2, cb2w2, fb0w2, fb1w2, fb2w2⟩ := kbw2.three; obtain ⟨zrw2, cr0w2, cr1w2, fr0w2, fr1w2⟩ := krw2.two; clear kaw1 ca0w1 fa0w1 ca1w1 fa1w1 ca2w1 fa2w1 kbw1 cb0w1 fb0w1 cb1w1 fb1w1 cb2w1 fb2w1 krw1 cr0w1 fr0w1 cr1w1 fr1w1 hqw1; clear hbw2))
  exact bodyPost_ret (v := .tuple #[.agg #[.int .i64 1, .int .i64 0], .nilIface]) (by simp [results, Tryz.results74, go_sem, *]) rfl ⟨rfl, below_by⟩
set_option maxRecDepth 100000 in
set_option maxHeartbeats 2000000 in
theorem pair_fr (i : Nat) (w : World) (h : farI (4 * i) = false) : Calls Tryz.prog 74 #[.agg #[.int .i64 ((tM (4 * i)).1 : Int), .int .i64 ((tM (4 * i)).2.1 : Int), .bool false], .agg #[.int .i64 0, .int .i64 0, .bool true]] w fun e w' => e = .returned (.tuple #[.agg #[.int .i64 1, .int .i64 0], .nilIface]) ∧ Below w.heap.size w w' := by
  have H : Hid (farI (4 * i) = false) := h
  clear h
  have m1 : True := trivial; have m2 : True := trivial; have m3 : True := trivial; have m4 : True := trivial
  go_enter Tryz.func74, Tryz.ntmps74
  go_wp2_with (first | (go_at_call 114; clear m1; refine (pck_fr H.out (at_by)).mono ?_; rintro e w1 ⟨rfl, hbw1⟩; have kaw1 : At w1 (w.heap.size) [.int .i64 ((tM (4 * i)).1 : Int), .int .i64 ((tM (4 * i)).2.1 : Int), .bool false] := (at_by); have kbw1 : At w1 (w.heap.size + 1) [.int .i64 0, .int .i64 0, .bool true] := (at_by); have krw1 : At w1 (w.heap.size + 2) [.int .i64 0, .int .i64 0] := (at_by); have hqw1 : Below w.heap.size w w1 := (below_by); have hzw1 := hqw1.size; obtain ⟨zaw1, ca0w1, ca1w1, ca2w1, fa0w1, fa1w1, fa2w1⟩ := kaw1.three; obtain ⟨zbw1, cb0w1, cb1w1, cb2w1, fb0w1, fb1w1, fb2w1⟩ := kbw1.three; obtain ⟨zrw1, cr0w1, cr1w1, fr0w1, fr1w1⟩ := krw1.two; clear hbw1) | (go_at_call 115; clear m2; refine (one_is _).mono ?_; rintro e w2 ⟨rfl, hbw2⟩; have kaw2 : At w2 (w.heap.size) [.int .i64 ((tM (4 * i)).1 : Int), .int .i64 ((tM (4 * i)).2.1 : Int), .bool false] := (at_by); have kbw2 : At w2 (w.heap.size + 1) [.int .i64 0, .int .i64 0, .bool true] := (at_by); have krw2 : At w2 (w.heap.size + 2) [.int .i64 0, .int .i64 0] := (at_by); have hqw2 : Below w.heap.size w w2 := (below_by); have hzw2 := hqw2.size; obtain ⟨zaw2, ca0w2, ca1w2, ca2w2, fa0w2, fa1w2, fa2w2⟩ := kaw2.three; obtain ⟨zbw2, cb0w2, cb1w2, cb2w2, fb0w2, fb1w2, fb2w2⟩ := kbw2.three; obtain ⟨zrw2, cr0w2, cr1w2, fr0w2, fr1w2⟩ := krw2.two; clear kaw1 ca0w1 fa0w1 ca1w1 fa1w1 ca2w1 fa2w1 kbw1 cb0w1 fb0w1 cb1w1 fb1w1 cb2w1 fb2w1 krw1 cr0w1 fr0w1 cr1w1 fr1w1 hqw1; clear hbw2))
  exact bodyPost_ret (v := .tuple #[.agg #[.int .i64 1, .int .i64 0], .nilIface]) (by simp [results, Tryz.results74, go_sem, *]) rfl ⟨rfl, below_by⟩
theorem gone_nn {i j : Nat} (hf : farI (4 * i) = false) (hg : farI (4 * j) = false) (w : World) :
    Calls Tryz.prog 116 #[.agg #[.int .i64 ((tM (4 * i)).1 : Int), .int .i64 ((tM (4 * i)).2.1 : Int), .bool false], .agg #[.int .i64 ((tM (4 * j)).1 : Int), .int .i64 ((tM (4 * j)).2.1 : Int), .bool false]] w fun e w' => GoneP (4 * i) (4 * j) w e w' := by
  have hj : j % 1013 ≠ 0 := by intro e; rw [four_far_iff, e] at hg; cases hg
  have := gone_tM (4 * i) (4 * j) w (tM4_good hj)
  rwa [tM_f (4 * i), tM_f (4 * j), hf, hg] at this
set_option maxRecDepth 100000 in
set_option maxHeartbeats 2000000 in
theorem pair_nn (i j : Nat) (w : World) (hf : farI (4 * i) = false) (hg : farI (4 * j) = false) :
    Calls Tryz.prog 74 #[.agg #[.int .i64 ((tM (4 * i)).1 : Int), .int .i64 ((tM (4 * i)).2.1 : Int), .bool false], .agg #[.int .i64 ((tM (4 * j)).1 : Int), .int .i64 ((tM (4 * j)).2.1 : Int), .bool false]] w fun e w' => e = .returned (.tuple #[.agg #[.int .i64 (tp gI (i * j)).1, .int .i64 (tp gI (i * j)).2], .nilIface]) ∧ Below w.heap.size w w' := by
  have HF : Hid (farI (4 * i) = false) := hf
  have HG : Hid (farI (4 * j) = false) := hg
  have hj : j % 1013 ≠ 0 := by intro e; rw [four_far_iff, e] at hg; cases hg
  have HJ : Hid (j % 1013 ≠ 0) := hj
  clear hf hg hj
  have m1 : True := trivial; have m2 : True := trivial; have m3 : True := trivial; have m4 : True := trivial
  go_enter Tryz.func74, Tryz.ntmps74
  go_wp2_with (first | (go_at_call 114; clear m1; refine (pck_nn HF.out HG.out (at_by)).mono ?_; rintro e w1 ⟨rfl, hbw1⟩; have kaw1 : At w1 (w.heap.size) [.int .i64 ((tM (4 * i)).1 : Int), .int .i64 ((tM (4 * i)).2.1 : Int), .bool false] := (at_by); have kbw1 : At w1 (w.heap.size + 1) [.int .i64 ((tM (4 * j)).1 : Int), .int .i64 ((tM (4 * j)).2.1 : Int), .bool false] := (at_by); have krw1 : At w1 (w.heap.size + 2) [.int .i64 0, .int .i64 0] := (at_by); have hqw1 : Below w.heap.size w w1 := (below_by); have hzw1 := hqw1.size; obtain ⟨zaw1, ca0w1, ca1w1, ca2w1, fa0w1, fa1w1, fa2w1⟩ := kaw1.three; obtain ⟨zbw1, cb0w1, cb1w1, cb2w1, fb0w1, fb1w1, fb2w1⟩ := kbw1.three; obtain ⟨zrw1, cr0w1, cr1w1, fr0w1, fr1w1⟩ := krw1.two; clear hbw1) | (go_at_call 116; clear m2; refine (gone_nn HF.out HG.out _).mono ?_; rintro e w2 ⟨f, rfl, hbw2, hch⟩; have HE : Hid (tp f (16200 : Int).toNat = tp gI (i * j)) := pair_end HJ.out hch; clear hch; have kaw2 : At w2 (w.heap.size) [.int .i64 ((tM (4 * i)).1 : Int), .int .i64 ((tM (4 * i)).2.1 : Int), .bool false] := (at_by); have kbw2 : At w2 (w.heap.size + 1) [.int .i64 ((tM (4 * j)).1 : Int), .int .i64 ((tM (4 * j)).2.1 : Int), .bool false] := (at_by); have krw2 : At w2 (w.heap.size + 2) [.int .i64 0, .int .i64 0] := (at_by); have hqw2 : Below w.heap.size w w2 := (below_by); have hzw2 := hqw2.size; obtain ⟨zaw2, ca0w2, ca1w2, ca2w2, fa0w2, fa1w2, fa2w2⟩ := kaw2.three; obtain ⟨zbw2, cb0w2, cb1w2, cb2w2, fb0w2, fb1w2, fb2w2⟩ := kbw2.three; obtain ⟨zrw2, cr0w2, cr1w2, fr0w2, fr1w2⟩ := krw2.two; clear kaw1 ca0w1 fa0w1 ca1w1 fa1w1 ca2w1 fa2w1 kbw1 cb0w1 fb0w1 cb1w1 fb1w1 cb2w1 fb2w1 krw1 cr0w1 fr0w1 cr1w1 fr1w1 hqw1; clear hbw2) | (go_at_call 117; clear m3; refine (tpow_eq HE.out _ (by omega) (by omega)).mono ?_; rintro e w3 ⟨rfl, hbw3⟩; have kaw3 : At w3 (w.heap.size) [.int .i64 ((tM (4 * i)).1 : Int), .int .i64 ((tM (4 * i)).2.1 : Int), .bool false] := (at_by); have kbw3 : At w3 (w.heap.size + 1) [.int .i64 ((tM (4 * j)).1 : Int), .int .i64 ((tM (4 * j)).2.1 : Int), .bool false] := (at_by); have krw3 : At w3 (w.heap.size + 2) [.int .i64 0, .int .i64 0] := (at_by); have hqw3 : Below w.heap.size w w3 := (below_by); have hzw3 := hqw3.size; obtain ⟨zaw3, ca0w3, ca1w3, ca2w3, fa0w3, fa1w3, fa2w3⟩ := kaw3.three; obtain ⟨zbw3, cb0w3, cb1w3, cb2w3, fb0w3, fb1w3, fb2w3⟩ := kbw3.three; obtain ⟨zrw3, cr0w3, cr1w3, fr0w3, fr1w3⟩ := krw3.two; clear kaw2 ca0w2 fa0w2 ca1w2 fa1w2 ca2w2 fa2w2 kbw2 cb0w2 fb0w2 cb1w2 fb1w2 cb2w2 fb2w2 krw2 cr0w2 fr0w2 cr1w2 fr1w2 hqw2; clear hbw3))
  exact bodyPost_ret (v := .tuple #[.agg #[.int .i64 (tp gI (i * j)).1, .int .i64 (tp gI (i * j)).2], .nilIface]) (by simp [results, Tryz.results74, go_sem, *]) rfl ⟨rfl, below_by⟩
/-- The pair of two that count. -/
theorem pair_tM (i j : Nat) (w : World) :
    Calls Tryz.prog 74 #[.agg #[.int .i64 ((tM (4 * i)).1 : Int), .int .i64 ((tM (4 * i)).2.1 : Int), .bool (tM (4 * i)).2.2], .agg #[.int .i64 ((tM (4 * j)).1 : Int), .int .i64 ((tM (4 * j)).2.1 : Int), .bool (tM (4 * j)).2.2]] w fun e w' => e = .returned (.tuple #[.agg #[.int .i64 (tp gI (i * j)).1, .int .i64 (tp gI (i * j)).2], .nilIface]) ∧ Below w.heap.size w w' := by
  cases hf : farI (4 * i) with
  | true =>
    rw [tM_isfar hf, pair_far_l (by have := (farI_iff _).1 hf; omega) j]
    exact pair_lf j w
  | false =>
    cases hg : farI (4 * j) with
    | true =>
      rw [tM_isfar hg, tM_f (4 * i), hf, pair_far_r (by have := (farI_iff _).1 hg; omega) i]
      exact pair_fr i w hf
    | false =>
      rw [tM_f (4 * i), tM_f (4 * j), hf, hg]
      exact pair_nn i j w hf hg
theorem pair_eq {i j : Nat} {x : Int × Int} (h : tp gI (i * j) = x) (w : World) :
    Calls Tryz.prog 74 #[.agg #[.int .i64 ((tM (4 * i)).1 : Int), .int .i64 ((tM (4 * i)).2.1 : Int), .bool (tM (4 * i)).2.2], .agg #[.int .i64 ((tM (4 * j)).1 : Int), .int .i64 ((tM (4 * j)).2.1 : Int), .bool (tM (4 * j)).2.2]] w fun e w' => e = .returned (.tuple #[.agg #[.int .i64 (x).1, .int .i64 (x).2], .nilIface]) ∧ Below w.heap.size w w' := by
  subst h; exact pair_tM i j w
end Go.Proofs.YtgngdabfmbipaakGreatDoor
