/- What pair.gone answers: the lines by which 1013 times the first came about. -/
import Derived.Test.YtmijjjdedadklagPairStep
import Derived.Deep.CutRange
import Derived.Test.YtmijjjdedadklagGate
namespace Go.Proofs.Ytmijjjdedadklag
open Go.RowKit Go.Sort
set_option linter.unusedVariables false
set_option linter.unusedSimpArgs false
theorem below_lt {W w1 : World} (hb : Below W.heap.size W w1) : ∀ b, b < W.heap.size → b < w1.heap.size := fun b h => Nat.lt_of_lt_of_le h hb.size
theorem below_ne {W w1 : World} (hb : Below W.heap.size W w1) : ∀ b, b < W.heap.size → (b = w1.heap.size) = False := fun b h => eq_false (Nat.ne_of_lt (below_lt hb b h))
theorem below_ne2 {W w1 : World} (hb : Below W.heap.size W w1) : ∀ b, b < W.heap.size → (w1.heap.size = b) = False := fun b h => eq_false (Nat.ne_of_gt (below_lt hb b h))
theorem len_Q (w : World) : Calls Try.prog 79 #[.int .u64 1013] w fun e w' => e = .returned (.int .i64 10) ∧ w' = w := by
  have := len_small 1013 w (by omega) (by omega)
  rwa [show ((Lib.bitLen (1013 : Int).toNat : Nat) : Int) = 10 by decide] at this
/-- What is answered, and what is left of the memory. -/
def GoneP (i k : Nat) (w : World) (e : Ending) (w' : World) : Prop :=
  ∃ f : Int × Int, e = .returned (.tuple #[.agg #[.int .i64 (f).1, .int .i64 (f).2], .nilIface]) ∧ Below w.heap.size w w' ∧ Ch (tM k) i 1013 f
theorem GoneP.mk {i k : Nat} {w w' : World} (f : Int × Int) (h : Below w.heap.size w w') (hc : Ch (tM k) i 1013 f) : GoneP i k w (.returned (.tuple #[.agg #[.int .i64 (f).1, .int .i64 (f).2], .nilIface])) w' := ⟨f, rfl, h, hc⟩
set_option maxRecDepth 100000 in
set_option maxHeartbeats 2000000 in
theorem gone_tM (i k : Nat) (w : World) (hg : Good (tM k)) :
    Calls Try.prog 89 #[.agg #[.int .i64 ((tM i).1 : Int), .int .i64 ((tM i).2.1 : Int), .bool (tM i).2.2], .agg #[.int .i64 ((tM k).1 : Int), .int .i64 ((tM k).2.1 : Int), .bool (tM k).2.2]] w fun e w' => GoneP i k w e w' := by
  have HG : Hid (Good (tM k)) := hg
  clear hg
  go_enter Try.func89, Try.ntmps89
  go_upto_region 1 with fail
  refine wp_gen (fun V => At V (w.heap.size) [.int .i64 ((tM i).1 : Int), .int .i64 ((tM i).2.1 : Int), .bool (tM i).2.2] ∧ At V (w.heap.size + 1) [.int .i64 ((tM k).1 : Int), .int .i64 ((tM k).2.1 : Int), .bool (tM k).2.2] ∧ At V (w.heap.size + 2) [.int .i64 0, .int .i64 0] ∧ Below w.heap.size w V) ⟨by repeat (first | assumption | ((with_reducible refine at_new' _ _ _ _ ?_); (first | rfl | (simp; done))) | (with_reducible refine At.alloc ?_ _) | (with_reducible refine At.drewN ?_) | (with_reducible refine At.grow ?_) | (with_reducible refine At.store4 (by assumption)) | (with_reducible refine At.store3 (by assumption)) | (with_reducible refine At.store2 (by assumption)) | (with_reducible refine At.set ?_ (by omega)) | (with_reducible apply At.store4) | (with_reducible apply At.store3) | (with_reducible apply At.put43) | (refine At.below ?_ (by assumption))), by repeat (first | assumption | ((with_reducible refine at_new' _ _ _ _ ?_); (first | rfl | (simp; done))) | (with_reducible refine At.alloc ?_ _) | (with_reducible refine At.drewN ?_) | (with_reducible refine At.grow ?_) | (with_reducible refine At.store4 (by assumption)) | (with_reducible refine At.store3 (by assumption)) | (with_reducible refine At.store2 (by assumption)) | (with_reducible refine At.set ?_ (by omega)) | (with_reducible apply At.store4) | (with_reducible apply At.store3) | (with_reducible apply At.put43) | (refine At.below ?_ (by assumption))), by repeat (first | assumption | ((with_reducible refine at_new' _ _ _ _ ?_); (first | rfl | (simp; done))) | (with_reducible refine At.alloc ?_ _) | (with_reducible refine At.drewN ?_) | (with_reducible refine At.grow ?_) | (with_reducible refine At.store4 (by assumption)) | (with_reducible refine At.store3 (by assumption)) | (with_reducible refine At.store2 (by assumption)) | (with_reducible refine At.set ?_ (by omega)) | (with_reducible apply At.store4) | (with_reducible apply At.store3) | (with_reducible apply At.put43) | (refine At.below ?_ (by assumption))), by repeat (first | (with_reducible exact Below.refl _ _) | (with_reducible assumption) | (with_reducible refine Below.setCell ?_ (by first | (simp; done) | (simp; omega) | omega) _) | (with_reducible refine Below.alloc ?_ (by first | (simp; done) | (simp; omega) | omega) _) | (refine bl_call ?_ (by assumption) (by first | (simp; done) | (simp; omega) | omega)) | (with_reducible refine bl_drewN ?_) | (with_reducible refine Below.drew ?_) | (with_reducible refine bl_grow ?_ (by first | (simp; done) | (simp; omega) | omega)))⟩ ?_
  rintro V ⟨kaV, kbV, krV, hqV⟩
  have hzV := hqV.size
  obtain ⟨zaV, ca0V, ca1V, ca2V, fa0V, fa1V, fa2V⟩ := kaV.three
  obtain ⟨zbV, cb0V, cb1V, cb2V, fb0V, fb1V, fb2V⟩ := kbV.three
  obtain ⟨zrV, cr0V, cr1V, fr0V, fr1V⟩ := krV.two
  go_cut [6, 7] from 11 to 12 (fun t6 t7 wx => ∃ b6 b7 : Nat, t6 = .pointer (some ⟨b6, 0, none⟩) ∧ t7 = .pointer (some ⟨b7, 0, none⟩) ∧ At wx (w.heap.size) [.int .i64 ((tM i).1 : Int), .int .i64 ((tM i).2.1 : Int), .bool (tM i).2.2] ∧ At wx (w.heap.size + 1) [.int .i64 ((tM k).1 : Int), .int .i64 ((tM k).2.1 : Int), .bool (tM k).2.2] ∧ At wx (w.heap.size + 2) [.int .i64 0, .int .i64 0] ∧ At wx b6 [.int .i64 1, .int .i64 0] ∧ At wx b7 [.int .i64 ((tM i).1 : Int), .int .i64 ((tM i).2.1 : Int), .bool (tM i).2.2] ∧ b6 ≠ b7 ∧ w.heap.size + 2 < b6 ∧ w.heap.size + 2 < b7 ∧ Below w.heap.size w wx)
  case first =>
    go_region_held3 (fun W => ((w.heap.size) < W.heap.size ∧ W.cell? ⟨w.heap.size, 0, none⟩ = some (.int .i64 ((tM i).1 : Int)) ∧ W.cell? ⟨w.heap.size, 1, none⟩ = some (.int .i64 ((tM i).2.1 : Int)) ∧ W.cell? ⟨w.heap.size, 2, none⟩ = some (.bool (tM i).2.2) ∧ W.frozen? ⟨w.heap.size, 0, none⟩ = false ∧ W.frozen? ⟨w.heap.size, 1, none⟩ = false ∧ W.frozen? ⟨w.heap.size, 2, none⟩ = false)) (exact At.three (by repeat (first | (with_reducible assumption) | ((with_reducible refine at_new' _ _ _ _ ?_); (first | rfl | (simp; done))) | (with_reducible refine At.alloc ?_ _) | (with_reducible refine At.drew ?_) | (with_reducible refine At.drewN ?_) | (with_reducible refine At.set ?_ (by omega)) | (with_reducible apply At.store4) | (with_reducible apply At.store3) | (with_reducible apply At.store2) | (with_reducible apply At.put43) | (refine At.below ?_ (by with_reducible assumption))))) (first | (go_at_call 88; refine (one_is _).mono ?_; rintro e w1 ⟨rfl, hb1⟩; obtain ⟨hc1, hf1⟩ := bcell hb1; have hl1 := below_lt hb1; have hn1 := below_ne hb1; have hm1 := below_ne2 hb1))
    all_goals (go_wp2_with fail)
    all_goals go_meet
    all_goals (case rel => (have hs1 := hb1.size; simp at hs1; exact ⟨_, _, rfl, rfl, by repeat (first | (with_reducible assumption) | ((with_reducible refine at_new' _ _ _ _ ?_); (first | rfl | (simp; done))) | (with_reducible refine At.alloc ?_ _) | (with_reducible refine At.drew ?_) | (with_reducible refine At.drewN ?_) | (with_reducible refine At.set ?_ (by omega)) | (with_reducible apply At.store4) | (with_reducible apply At.store3) | (with_reducible apply At.store2) | (with_reducible apply At.put43) | (refine At.below ?_ (by with_reducible assumption))), by repeat (first | (with_reducible assumption) | ((with_reducible refine at_new' _ _ _ _ ?_); (first | rfl | (simp; done))) | (with_reducible refine At.alloc ?_ _) | (with_reducible refine At.drew ?_) | (with_reducible refine At.drewN ?_) | (with_reducible refine At.set ?_ (by omega)) | (with_reducible apply At.store4) | (with_reducible apply At.store3) | (with_reducible apply At.store2) | (with_reducible apply At.put43) | (refine At.below ?_ (by with_reducible assumption))), by repeat (first | (with_reducible assumption) | ((with_reducible refine at_new' _ _ _ _ ?_); (first | rfl | (simp; done))) | (with_reducible refine At.alloc ?_ _) | (with_reducible refine At.drew ?_) | (with_reducible refine At.drewN ?_) | (with_reducible refine At.set ?_ (by omega)) | (with_reducible apply At.store4) | (with_reducible apply At.store3) | (with_reducible apply At.store2) | (with_reducible apply At.put43) | (refine At.below ?_ (by with_reducible assumption))), by repeat (first | (with_reducible assumption) | ((with_reducible refine at_new' _ _ _ _ ?_); (first | rfl | (simp; done))) | (with_reducible refine At.alloc ?_ _) | (with_reducible refine At.drew ?_) | (with_reducible refine At.drewN ?_) | (with_reducible refine At.set ?_ (by omega)) | (with_reducible apply At.store4) | (with_reducible apply At.store3) | (with_reducible apply At.store2) | (with_reducible apply At.put43) | (refine At.below ?_ (by with_reducible assumption))), by repeat (first | (with_reducible assumption) | ((with_reducible refine at_new' _ _ _ _ ?_); (first | rfl | (simp; done))) | (with_reducible refine At.alloc ?_ _) | (with_reducible refine At.drew ?_) | (with_reducible refine At.drewN ?_) | (with_reducible refine At.set ?_ (by omega)) | (with_reducible apply At.store4) | (with_reducible apply At.store3) | (with_reducible apply At.store2) | (with_reducible apply At.put43) | (refine At.below ?_ (by with_reducible assumption))), by omega, by omega, by omega, by repeat (first | (with_reducible exact Below.refl _ _) | (with_reducible assumption) | (with_reducible refine Below.setCell ?_ (by first | (simp; done) | (simp; omega) | omega) _) | (with_reducible refine Below.alloc ?_ (by first | (simp; done) | (simp; omega) | omega) _) | (refine bl_call ?_ (by assumption) (by first | (simp; done) | (simp; omega) | omega)) | (with_reducible refine bl_drewN ?_) | (with_reducible refine Below.drew ?_) | (with_reducible refine bl_grow ?_ (by first | (simp; done) | (simp; omega) | omega)))⟩))
  case rest =>
    obtain ⟨b6, b7, rfl, rfl, kawc, kbwc, krwc, knwc, ktwc, hne, hb6, hb7, hqwc⟩ := hcut
    have hzwc := hqwc.size
    obtain ⟨zawc, ca0wc, ca1wc, ca2wc, fa0wc, fa1wc, fa2wc⟩ := kawc.three
    obtain ⟨zbwc, cb0wc, cb1wc, cb2wc, fb0wc, fb1wc, fb2wc⟩ := kbwc.three
    obtain ⟨zrwc, cr0wc, cr1wc, fr0wc, fr1wc⟩ := krwc.two
    obtain ⟨znwc, cn0wc, cn1wc, fn0wc, fn1wc⟩ := knwc.two
    obtain ⟨ztwc, ct0wc, ct1wc, ct2wc, ft0wc, ft1wc, ft2wc⟩ := ktwc.three
    go_wp2_with (go_at_call 79; refine (len_Q _).mono ?_; rintro e v1 ⟨rfl, hv1⟩; subst v1)
    go_loopw [16] (fun ti wl => ∃ (c : Nat) (f : Int × Int), c ≤ 9 ∧ ti = .int .i64 c ∧ At wl (w.heap.size) [.int .i64 ((tM i).1 : Int), .int .i64 ((tM i).2.1 : Int), .bool (tM i).2.2] ∧ At wl (w.heap.size + 1) [.int .i64 ((tM k).1 : Int), .int .i64 ((tM k).2.1 : Int), .bool (tM k).2.2] ∧ At wl (w.heap.size + 2) [.int .i64 0, .int .i64 0] ∧ At wl b6 [.int .i64 (f).1, .int .i64 (f).2] ∧ At wl b7 [.int .i64 ((tM (upN c * i)).1 : Int), .int .i64 ((tM (upN c * i)).2.1 : Int), .bool (tM (upN c * i)).2.2] ∧ Below w.heap.size w wl ∧ Hid (Ch (tM k) i (upN c) f)) (fun ti _ => 9 - (intOf ti).toNat)
    case atStart => exact ⟨0, (1, 0), by omega, rfl, kawc, kbwc, krwc, knwc, by rw [up_zero, Nat.one_mul]; exact ktwc, hqwc, ch_one _ _⟩
    case round =>
      obtain ⟨c, f, hc, rfl, kaV, kbV, krV, knV, ktV, hqV, HC⟩ := hrel
      have hzV := hqV.size
      obtain ⟨J, hJ⟩ : ∃ J, upN c * i = J := ⟨_, rfl⟩
      rw [hJ] at ktV
      obtain ⟨zaV, ca0V, ca1V, ca2V, fa0V, fa1V, fa2V⟩ := kaV.three
      obtain ⟨zbV, cb0V, cb1V, cb2V, fb0V, fb1V, fb2V⟩ := kbV.three
      obtain ⟨zrV, cr0V, cr1V, fr0V, fr1V⟩ := krV.two
      obtain ⟨znV, cn0V, cn1V, fn0V, fn1V⟩ := knV.two
      obtain ⟨ztV, ct0V, ct1V, ct2V, ft0V, ft1V, ft2V⟩ := ktV.three
      have HJ : Hid (upN c * i = J) := hJ
      clear hJ
      by_cases hlt : c < 9
      · have hlt' : (c : Int) < 9 := by omega
        have hul := up_le (c + 1)
        have hb := Go.Proofs.and_one (upN (c + 1)) (by omega)
        rw [← up_bit c hlt] at hb
        obtain ⟨g, hg⟩ : ∃ g, tm (tm f f) (toI (hvN (tM J) (tM J) (tM k))) = g := ⟨_, rfl⟩
        by_cases hbit : upN (c + 1) % 2 = 0
        · have hbt : (bits BinOp.and IntKind.i64 (1013 / 2 ^ (8 - c)) 1 == 0) = true := by rw [hb, hbit]; rfl
          have HJ2 : Hid (J + J = upN (c + 1) * i) := upJ_even hlt hbit HJ.out
          have HC2 : Hid (Ch (tM k) i (upN (c + 1)) g) := by have := ch_even HG.out hlt hbit HJ.out HC.out; rwa [hg] at this
          have HGG : Hid (tm (tm f f) (toI (hvN (tM J) (tM J) (tM k))) = g) := hg
          clear hg hb hbit HJ HC hul
          go_wp2_with fail
          refine below_gate 8 6 #[true, true, true, true, true, true, true, true, false, false, false, false, false, false] (by kernel_rfl) (by kernel_rfl) rfl rfl ?_
          dsimp only [List.take]
          repeat (go_big_quiet_step (first | (go_at_call 97; with_reducible exact Calls.regrown_of (tmul_any _ _ _)) | (go_at_call 96; with_reducible exact Calls.regrown_of (step_eq HGG.out _))))
          refine wpQuiet_nil ?_
          intro W1 hw1
          have hrW1 := regrown_below hw1
          clear hw1
          have kaW1 := kaV.below hrW1
          have kbW1 := kbV.below hrW1
          have krW1 := krV.below hrW1
          have knW1 := knV.below hrW1
          have ktW1 := ktV.below hrW1
          have hqW1 := bl_call hqV hrW1 (by omega)
          have hzW1 := hqW1.size
          clear hrW1 kaV ca0V fa0V ca1V fa1V ca2V fa2V kbV cb0V fb0V cb1V fb1V cb2V fb2V krV cr0V fr0V cr1V fr1V knV cn0V fn0V cn1V fn1V ktV ct0V ft0V ct1V ft1V ct2V ft2V hqV
          obtain ⟨zaW1, ca0W1, ca1W1, ca2W1, fa0W1, fa1W1, fa2W1⟩ := kaW1.three
          obtain ⟨zbW1, cb0W1, cb1W1, cb2W1, fb0W1, fb1W1, fb2W1⟩ := kbW1.three
          obtain ⟨zrW1, cr0W1, cr1W1, fr0W1, fr1W1⟩ := krW1.two
          obtain ⟨znW1, cn0W1, cn1W1, fn0W1, fn1W1⟩ := knW1.two
          obtain ⟨ztW1, ct0W1, ct1W1, ct2W1, ft0W1, ft1W1, ft2W1⟩ := ktW1.three
          refine wpAny_take (i := 8) (v := ?v8) rfl (by kernel_rfl) (by kernel_rfl) (by kernel_rfl) (fun _ _ _ h => h) (Or.inl ⟨by rfl, ?y8⟩) ?z8
          case y8 => ((intro w); (go_simp); (try with_reducible rfl))
          case z8 =>
          refine wpAny_take (i := 9) (v := ?v9) rfl (by kernel_rfl) (by kernel_rfl) (by kernel_rfl) (fun _ _ _ h => h) (Or.inl ⟨by rfl, ?y9⟩) ?z9
          case y9 => ((intro w); (go_simp); (try with_reducible rfl))
          case z9 =>
          refine wpAny_take (i := 10) (v := ?v10) rfl (by kernel_rfl) (by kernel_rfl) (by kernel_rfl) (fun _ _ _ h => h) (Or.inl ⟨by rfl, ?y10⟩) ?z10
          case y10 => ((intro w); (go_simp); (try with_reducible rfl))
          case z10 =>
          refine wpAny_ready (rs := [11]) (by kernel_rfl) (by simp) (AllReady.cons rfl (fun K hK => ?_) AllReady.nil)
          go_simp
          refine hK _ _ ?_
          clear hK K
          refine wpAny_ready (rs := [12]) (by kernel_rfl) (by simp) (AllReady.cons rfl (fun K hK => ?_) AllReady.nil)
          go_simp
          refine hK _ _ ?_
          clear hK K
          refine wpAny_ready (rs := [13]) (by kernel_rfl) (by simp) (AllReady.cons rfl (fun K hK => ?_) AllReady.nil)
          go_simp
          refine hK _ _ ?_
          clear hK K
          refine wpAny_done (by kernel_rfl) ?_ _
          go_wp2_with fail
          go_roundw
          case rel => exact ⟨c + 1, g, by omega, by simp, by repeat (first | (with_reducible assumption) | ((with_reducible refine at_new' _ _ _ _ ?_); (first | rfl | (simp; done))) | (with_reducible refine At.alloc ?_ _) | (with_reducible refine At.drew ?_) | (with_reducible refine At.drewN ?_) | (with_reducible refine At.set ?_ (by omega)) | (with_reducible apply At.store4) | (with_reducible apply At.store3) | (with_reducible apply At.store2) | (with_reducible apply At.put43) | (refine At.below ?_ (by with_reducible assumption))), by repeat (first | (with_reducible assumption) | ((with_reducible refine at_new' _ _ _ _ ?_); (first | rfl | (simp; done))) | (with_reducible refine At.alloc ?_ _) | (with_reducible refine At.drew ?_) | (with_reducible refine At.drewN ?_) | (with_reducible refine At.set ?_ (by omega)) | (with_reducible apply At.store4) | (with_reducible apply At.store3) | (with_reducible apply At.store2) | (with_reducible apply At.put43) | (refine At.below ?_ (by with_reducible assumption))), by repeat (first | (with_reducible assumption) | ((with_reducible refine at_new' _ _ _ _ ?_); (first | rfl | (simp; done))) | (with_reducible refine At.alloc ?_ _) | (with_reducible refine At.drew ?_) | (with_reducible refine At.drewN ?_) | (with_reducible refine At.set ?_ (by omega)) | (with_reducible apply At.store4) | (with_reducible apply At.store3) | (with_reducible apply At.store2) | (with_reducible apply At.put43) | (refine At.below ?_ (by with_reducible assumption))), by repeat (first | (with_reducible assumption) | ((with_reducible refine at_new' _ _ _ _ ?_); (first | rfl | (simp; done))) | (with_reducible refine At.alloc ?_ _) | (with_reducible refine At.drew ?_) | (with_reducible refine At.drewN ?_) | (with_reducible refine At.set ?_ (by omega)) | (with_reducible apply At.store4) | (with_reducible apply At.store3) | (with_reducible apply At.store2) | (with_reducible apply At.put43) | (refine At.below ?_ (by with_reducible assumption))), by rw [← HJ2.out]; exact (by repeat (first | (with_reducible assumption) | ((with_reducible refine at_new' _ _ _ _ ?_); (first | rfl | (simp; done))) | (with_reducible refine At.alloc ?_ _) | (with_reducible refine At.drew ?_) | (with_reducible refine At.drewN ?_) | (with_reducible refine At.set ?_ (by omega)) | (with_reducible apply At.store4) | (with_reducible apply At.store3) | (with_reducible apply At.store2) | (with_reducible apply At.put43) | (refine At.below ?_ (by with_reducible assumption)))), by repeat (first | (with_reducible exact Below.refl _ _) | (with_reducible assumption) | (with_reducible refine Below.setCell ?_ (by first | (simp; done) | (simp; omega) | omega) _) | (with_reducible refine Below.alloc ?_ (by first | (simp; done) | (simp; omega) | omega) _) | (refine bl_call ?_ (by assumption) (by first | (simp; done) | (simp; omega) | omega)) | (with_reducible refine bl_drewN ?_) | (with_reducible refine Below.drew ?_) | (with_reducible refine bl_grow ?_ (by first | (simp; done) | (simp; omega) | omega))), HC2⟩
          case measure => simp [intOf]; omega
        · have hbit' : upN (c + 1) % 2 = 1 := by omega
          obtain ⟨d, hd⟩ : ∃ d, tm g (toI (hvN (tM (J + J)) (tM i) (tM k))) = d := ⟨_, rfl⟩
          have hbt : (bits BinOp.and IntKind.i64 (1013 / 2 ^ (8 - c)) 1 == 0) = false := by rw [hb, hbit']; rfl
          have HJ2 : Hid (J + J + i = upN (c + 1) * i) := upJ_odd hlt hbit' HJ.out
          have HC2 : Hid (Ch (tM k) i (upN (c + 1)) d) := by have := ch_odd HG.out hlt hbit' HJ.out HC.out; rwa [hg, hd] at this
          have HGG : Hid (tm (tm f f) (toI (hvN (tM J) (tM J) (tM k))) = g) := hg
          have HDD : Hid (tm g (toI (hvN (tM (J + J)) (tM i) (tM k))) = d) := hd
          clear hg hd hb hbit hbit' HJ HC hul
          have m1 : True := trivial
          go_wp2_with fail
          refine below_gate 8 6 #[true, true, true, true, true, true, true, true, false, false, false, false, false, false] (by kernel_rfl) (by kernel_rfl) rfl rfl ?_
          dsimp only [List.take]
          repeat (go_big_quiet_step (first | (go_at_call 97; with_reducible exact Calls.regrown_of (tmul_any _ _ _)) | (go_at_call 96; with_reducible exact Calls.regrown_of (step_eq HGG.out _))))
          refine wpQuiet_nil ?_
          intro W1 hw1
          have hrW1 := regrown_below hw1
          clear hw1
          have kaW1 := kaV.below hrW1
          have kbW1 := kbV.below hrW1
          have krW1 := krV.below hrW1
          have knW1 := knV.below hrW1
          have ktW1 := ktV.below hrW1
          have hqW1 := bl_call hqV hrW1 (by omega)
          have hzW1 := hqW1.size
          clear hrW1 kaV ca0V fa0V ca1V fa1V ca2V fa2V kbV cb0V fb0V cb1V fb1V cb2V fb2V krV cr0V fr0V cr1V fr1V knV cn0V fn0V cn1V fn1V ktV ct0V ft0V ct1V ft1V ct2V ft2V hqV
          obtain ⟨zaW1, ca0W1, ca1W1, ca2W1, fa0W1, fa1W1, fa2W1⟩ := kaW1.three
          obtain ⟨zbW1, cb0W1, cb1W1, cb2W1, fb0W1, fb1W1, fb2W1⟩ := kbW1.three
          obtain ⟨zrW1, cr0W1, cr1W1, fr0W1, fr1W1⟩ := krW1.two
          obtain ⟨znW1, cn0W1, cn1W1, fn0W1, fn1W1⟩ := knW1.two
          obtain ⟨ztW1, ct0W1, ct1W1, ct2W1, ft0W1, ft1W1, ft2W1⟩ := ktW1.three
          refine wpAny_take (i := 8) (v := ?v8) rfl (by kernel_rfl) (by kernel_rfl) (by kernel_rfl) (fun _ _ _ h => h) (Or.inl ⟨by rfl, ?y8⟩) ?z8
          case y8 => ((intro w); (go_simp); (try with_reducible rfl))
          case z8 =>
          refine wpAny_take (i := 9) (v := ?v9) rfl (by kernel_rfl) (by kernel_rfl) (by kernel_rfl) (fun _ _ _ h => h) (Or.inl ⟨by rfl, ?y9⟩) ?z9
          case y9 => ((intro w); (go_simp); (try with_reducible rfl))
          case z9 =>
          refine wpAny_take (i := 10) (v := ?v10) rfl (by kernel_rfl) (by kernel_rfl) (by kernel_rfl) (fun _ _ _ h => h) (Or.inl ⟨by rfl, ?y10⟩) ?z10
          case y10 => ((intro w); (go_simp); (try with_reducible rfl))
          case z10 =>
          refine wpAny_ready (rs := [11]) (by kernel_rfl) (by simp) (AllReady.cons rfl (fun K hK => ?_) AllReady.nil)
          go_simp
          refine hK _ _ ?_
          clear hK K
          refine wpAny_ready (rs := [12]) (by kernel_rfl) (by simp) (AllReady.cons rfl (fun K hK => ?_) AllReady.nil)
          go_simp
          refine hK _ _ ?_
          clear hK K
          refine wpAny_ready (rs := [13]) (by kernel_rfl) (by simp) (AllReady.cons rfl (fun K hK => ?_) AllReady.nil)
          go_simp
          refine hK _ _ ?_
          clear hK K
          refine wpAny_done (by kernel_rfl) ?_ _
          go_wp2_with (go_at_call 96; clear m1; refine (step_eq HDD.out _).mono ?_; rintro e w2 ⟨rfl, hbw2⟩; have kaw2 : At w2 (w.heap.size) [.int .i64 ((tM i).1 : Int), .int .i64 ((tM i).2.1 : Int), .bool (tM i).2.2] := (by repeat (first | (with_reducible assumption) | ((with_reducible refine at_new' _ _ _ _ ?_); (first | rfl | (simp; done))) | (with_reducible refine At.alloc ?_ _) | (with_reducible refine At.drew ?_) | (with_reducible refine At.drewN ?_) | (with_reducible refine At.set ?_ (by omega)) | (with_reducible apply At.store4) | (with_reducible apply At.store3) | (with_reducible apply At.store2) | (with_reducible apply At.put43) | (refine At.below ?_ (by with_reducible assumption)))); have kbw2 : At w2 (w.heap.size + 1) [.int .i64 ((tM k).1 : Int), .int .i64 ((tM k).2.1 : Int), .bool (tM k).2.2] := (by repeat (first | (with_reducible assumption) | ((with_reducible refine at_new' _ _ _ _ ?_); (first | rfl | (simp; done))) | (with_reducible refine At.alloc ?_ _) | (with_reducible refine At.drew ?_) | (with_reducible refine At.drewN ?_) | (with_reducible refine At.set ?_ (by omega)) | (with_reducible apply At.store4) | (with_reducible apply At.store3) | (with_reducible apply At.store2) | (with_reducible apply At.put43) | (refine At.below ?_ (by with_reducible assumption)))); have krw2 : At w2 (w.heap.size + 2) [.int .i64 0, .int .i64 0] := (by repeat (first | (with_reducible assumption) | ((with_reducible refine at_new' _ _ _ _ ?_); (first | rfl | (simp; done))) | (with_reducible refine At.alloc ?_ _) | (with_reducible refine At.drew ?_) | (with_reducible refine At.drewN ?_) | (with_reducible refine At.set ?_ (by omega)) | (with_reducible apply At.store4) | (with_reducible apply At.store3) | (with_reducible apply At.store2) | (with_reducible apply At.put43) | (refine At.below ?_ (by with_reducible assumption)))); have knw2 : At w2 (b6) [.int .i64 (g).1, .int .i64 (g).2] := (by repeat (first | (with_reducible assumption) | ((with_reducible refine at_new' _ _ _ _ ?_); (first | rfl | (simp; done))) | (with_reducible refine At.alloc ?_ _) | (with_reducible refine At.drew ?_) | (with_reducible refine At.drewN ?_) | (with_reducible refine At.set ?_ (by omega)) | (with_reducible apply At.store4) | (with_reducible apply At.store3) | (with_reducible apply At.store2) | (with_reducible apply At.put43) | (refine At.below ?_ (by with_reducible assumption)))); have ktw2 : At w2 (b7) [.int .i64 ((tM (J + J)).1 : Int), .int .i64 ((tM (J + J)).2.1 : Int), .bool (tM (J + J)).2.2] := (by repeat (first | (with_reducible assumption) | ((with_reducible refine at_new' _ _ _ _ ?_); (first | rfl | (simp; done))) | (with_reducible refine At.alloc ?_ _) | (with_reducible refine At.drew ?_) | (with_reducible refine At.drewN ?_) | (with_reducible refine At.set ?_ (by omega)) | (with_reducible apply At.store4) | (with_reducible apply At.store3) | (with_reducible apply At.store2) | (with_reducible apply At.put43) | (refine At.below ?_ (by with_reducible assumption)))); have hqw2 : Below w.heap.size w w2 := (by repeat (first | (with_reducible exact Below.refl _ _) | (with_reducible assumption) | (with_reducible refine Below.setCell ?_ (by first | (simp; done) | (simp; omega) | omega) _) | (with_reducible refine Below.alloc ?_ (by first | (simp; done) | (simp; omega) | omega) _) | (refine bl_call ?_ (by assumption) (by first | (simp; done) | (simp; omega) | omega)) | (with_reducible refine bl_drewN ?_) | (with_reducible refine Below.drew ?_) | (with_reducible refine bl_grow ?_ (by first | (simp; done) | (simp; omega) | omega)))); have hzw2 := hqw2.size; obtain ⟨zaw2, ca0w2, ca1w2, ca2w2, fa0w2, fa1w2, fa2w2⟩ := kaw2.three; obtain ⟨zbw2, cb0w2, cb1w2, cb2w2, fb0w2, fb1w2, fb2w2⟩ := kbw2.three; obtain ⟨zrw2, cr0w2, cr1w2, fr0w2, fr1w2⟩ := krw2.two; obtain ⟨znw2, cn0w2, cn1w2, fn0w2, fn1w2⟩ := knw2.two; obtain ⟨ztw2, ct0w2, ct1w2, ct2w2, ft0w2, ft1w2, ft2w2⟩ := ktw2.three; clear kaW1 ca0W1 fa0W1 ca1W1 fa1W1 ca2W1 fa2W1 kbW1 cb0W1 fb0W1 cb1W1 fb1W1 cb2W1 fb2W1 krW1 cr0W1 fr0W1 cr1W1 fr1W1 knW1 cn0W1 fn0W1 cn1W1 fn1W1 ktW1 ct0W1 ft0W1 ct1W1 ft1W1 ct2W1 ft2W1 hqW1; clear hbw2)
          go_roundw
          case rel => exact ⟨c + 1, d, by omega, by simp, by repeat (first | (with_reducible assumption) | ((with_reducible refine at_new' _ _ _ _ ?_); (first | rfl | (simp; done))) | (with_reducible refine At.alloc ?_ _) | (with_reducible refine At.drew ?_) | (with_reducible refine At.drewN ?_) | (with_reducible refine At.set ?_ (by omega)) | (with_reducible apply At.store4) | (with_reducible apply At.store3) | (with_reducible apply At.store2) | (with_reducible apply At.put43) | (refine At.below ?_ (by with_reducible assumption))), by repeat (first | (with_reducible assumption) | ((with_reducible refine at_new' _ _ _ _ ?_); (first | rfl | (simp; done))) | (with_reducible refine At.alloc ?_ _) | (with_reducible refine At.drew ?_) | (with_reducible refine At.drewN ?_) | (with_reducible refine At.set ?_ (by omega)) | (with_reducible apply At.store4) | (with_reducible apply At.store3) | (with_reducible apply At.store2) | (with_reducible apply At.put43) | (refine At.below ?_ (by with_reducible assumption))), by repeat (first | (with_reducible assumption) | ((with_reducible refine at_new' _ _ _ _ ?_); (first | rfl | (simp; done))) | (with_reducible refine At.alloc ?_ _) | (with_reducible refine At.drew ?_) | (with_reducible refine At.drewN ?_) | (with_reducible refine At.set ?_ (by omega)) | (with_reducible apply At.store4) | (with_reducible apply At.store3) | (with_reducible apply At.store2) | (with_reducible apply At.put43) | (refine At.below ?_ (by with_reducible assumption))), by repeat (first | (with_reducible assumption) | ((with_reducible refine at_new' _ _ _ _ ?_); (first | rfl | (simp; done))) | (with_reducible refine At.alloc ?_ _) | (with_reducible refine At.drew ?_) | (with_reducible refine At.drewN ?_) | (with_reducible refine At.set ?_ (by omega)) | (with_reducible apply At.store4) | (with_reducible apply At.store3) | (with_reducible apply At.store2) | (with_reducible apply At.put43) | (refine At.below ?_ (by with_reducible assumption))), by rw [← HJ2.out]; exact (by repeat (first | (with_reducible assumption) | ((with_reducible refine at_new' _ _ _ _ ?_); (first | rfl | (simp; done))) | (with_reducible refine At.alloc ?_ _) | (with_reducible refine At.drew ?_) | (with_reducible refine At.drewN ?_) | (with_reducible refine At.set ?_ (by omega)) | (with_reducible apply At.store4) | (with_reducible apply At.store3) | (with_reducible apply At.store2) | (with_reducible apply At.put43) | (refine At.below ?_ (by with_reducible assumption)))), by repeat (first | (with_reducible exact Below.refl _ _) | (with_reducible assumption) | (with_reducible refine Below.setCell ?_ (by first | (simp; done) | (simp; omega) | omega) _) | (with_reducible refine Below.alloc ?_ (by first | (simp; done) | (simp; omega) | omega) _) | (refine bl_call ?_ (by assumption) (by first | (simp; done) | (simp; omega) | omega)) | (with_reducible refine bl_drewN ?_) | (with_reducible refine Below.drew ?_) | (with_reducible refine bl_grow ?_ (by first | (simp; done) | (simp; omega) | omega))), HC2⟩
          case measure => simp [intOf]; omega
      · have hlt' : ¬ (c : Int) < 9 := by omega
        obtain rfl : c = 9 := by omega
        have HC2 : Hid (Ch (tM k) i 1013 f) := HC.out
        clear HC
        go_wp2_with fail
        exact bodyPost_ret (v := .tuple #[.agg #[.int .i64 (f).1, .int .i64 (f).2], .nilIface]) (by simp [results, Try.results89, go_sem, *]) rfl (GoneP.mk f (by repeat (first | (with_reducible exact Below.refl _ _) | (with_reducible assumption) | (with_reducible refine Below.setCell ?_ (by first | (simp; done) | (simp; omega) | omega) _) | (with_reducible refine Below.alloc ?_ (by first | (simp; done) | (simp; omega) | omega) _) | (refine bl_call ?_ (by assumption) (by first | (simp; done) | (simp; omega) | omega)) | (with_reducible refine bl_drewN ?_) | (with_reducible refine Below.drew ?_) | (with_reducible refine bl_grow ?_ (by first | (simp; done) | (simp; omega) | omega)))) HC2.out)
end Go.Proofs.Ytmijjjdedadklag
