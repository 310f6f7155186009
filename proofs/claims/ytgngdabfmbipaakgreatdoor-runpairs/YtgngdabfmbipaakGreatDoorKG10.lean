/- What pair.step, pair.gone, pair.checkAll and pair.Pair answer, in whatever memory; nothing that was there is turned. -/
import Derived.Test.YtgngdabfmbipaakGreatDoorKG6
import Derived.Deep.RegionHeld3
import Derived.Test.YtgngdabfmbipaakGreatDoorKG7
import Derived.Test.YtgngdabfmbipaakGreatDoorKG5
namespace Go.Proofs.YtgngdabfmbipaakGreatDoor
open Go.RowKit Go.Sort
set_option linter.unusedVariables false
set_option linter.unusedSimpArgs false
set_option maxRecDepth 100000 in
set_option maxHeartbeats 2000000 in
theorem step_tM (f : Int × Int) (i j : Nat) (q : Sn) (w : World) :
    Calls Tryz.prog 136 #[.agg #[.int .i64 (f).1, .int .i64 (f).2], .agg #[.int .i64 ((tM i).1 : Int), .int .i64 ((tM i).2.1 : Int), .bool (tM i).2.2], .agg #[.int .i64 ((tM j).1 : Int), .int .i64 ((tM j).2.1 : Int), .bool (tM j).2.2], .agg #[.int .i64 ((q).1 : Int), .int .i64 ((q).2.1 : Int), .bool (q).2.2]] w fun e w' => e = .returned (.tuple #[.agg #[.int .i64 (tm f (toI (hvN (tM i) (tM j) q))).1, .int .i64 (tm f (toI (hvN (tM i) (tM j) q))).2], .agg #[.int .i64 ((tM (i + j)).1 : Int), .int .i64 ((tM (i + j)).2.1 : Int), .bool (tM (i + j)).2.2], .nilIface]) ∧ Below w.heap.size w w' := by
  have m1 : True := trivial; have m2 : True := trivial; have m3 : True := trivial
  go_enter Tryz.func136, Tryz.ntmps136
  go_wp2_with (go_at_call 67; clear m1; refine (cadd_tM _ _ _).mono ?_; rintro e w1 ⟨rfl, hbw1⟩; have knw1 : At w1 (w.heap.size) [.int .i64 (f).1, .int .i64 (f).2] := (at_by); have kaw1 : At w1 (w.heap.size + 1) [.int .i64 ((tM i).1 : Int), .int .i64 ((tM i).2.1 : Int), .bool (tM i).2.2] := (at_by); have kbw1 : At w1 (w.heap.size + 2) [.int .i64 ((tM j).1 : Int), .int .i64 ((tM j).2.1 : Int), .bool (tM j).2.2] := (at_by); have kqw1 : At w1 (w.heap.size + 3) [.int .i64 ((q).1 : Int), .int .i64 ((q).2.1 : Int), .bool (q).2.2] := (at_by); have krw1 : At w1 (w.heap.size + 4) [.int .i64 0, .int .i64 0] := (at_by); have ksw1 : At w1 (w.heap.size + 5) [.int .i64 0, .int .i64 0, .bool false] := (at_by); have hqw1 : Below w.heap.size w w1 := (below_by); have hzw1 := hqw1.size; obtain ⟨znw1, cn0w1, cn1w1, fn0w1, fn1w1⟩ := knw1.two; obtain ⟨zaw1, ca0w1, ca1w1, ca2w1, fa0w1, fa1w1, fa2w1⟩ := kaw1.three; obtain ⟨zbw1, cb0w1, cb1w1, cb2w1, fb0w1, fb1w1, fb2w1⟩ := kbw1.three; obtain ⟨zqw1, cq0w1, cq1w1, cq2w1, fq0w1, fq1w1, fq2w1⟩ := kqw1.three; obtain ⟨zrw1, cr0w1, cr1w1, fr0w1, fr1w1⟩ := krw1.two; obtain ⟨zsw1, cs0w1, cs1w1, cs2w1, fs0w1, fs1w1, fs2w1⟩ := ksw1.three; clear hbw1)
  refine wp_gen (fun V => At V (w.heap.size) [.int .i64 (f).1, .int .i64 (f).2] ∧ At V (w.heap.size + 1) [.int .i64 ((tM i).1 : Int), .int .i64 ((tM i).2.1 : Int), .bool (tM i).2.2] ∧ At V (w.heap.size + 2) [.int .i64 ((tM j).1 : Int), .int .i64 ((tM j).2.1 : Int), .bool (tM j).2.2] ∧ At V (w.heap.size + 3) [.int .i64 ((q).1 : Int), .int .i64 ((q).2.1 : Int), .bool (q).2.2] ∧ At V (w.heap.size + 4) [.int .i64 0, .int .i64 0] ∧ At V (w.heap.size + 5) [.int .i64 0, .int .i64 0, .bool false] ∧ At V (w1.heap.size) [.int .i64 ((tM (i + j)).1 : Int), .int .i64 ((tM (i + j)).2.1 : Int), .bool (tM (i + j)).2.2] ∧ Below w.heap.size w V) ⟨at_by, at_by, at_by, at_by, at_by, at_by, at_by, below_by⟩ ?_
  rintro V ⟨knV, kaV, kbV, kqV, krV, ksV, kuV, hqV⟩
  have hzV := hqV.size
  clear knw1 cn0w1 fn0w1 cn1w1 fn1w1 kaw1 ca0w1 fa0w1 ca1w1 fa1w1 ca2w1 fa2w1 kbw1 cb0w1 fb0w1 cb1w1 fb1w1 cb2w1 fb2w1 kqw1 cq0w1 fq0w1 cq1w1 fq1w1 cq2w1 fq2w1 krw1 cr0w1 fr0w1 cr1w1 fr1w1 ksw1 cs0w1 fs0w1 cs1w1 fs1w1 cs2w1 fs2w1 hqw1
  obtain ⟨znV, cn0V, cn1V, fn0V, fn1V⟩ := knV.two
  obtain ⟨zaV, ca0V, ca1V, ca2V, fa0V, fa1V, fa2V⟩ := kaV.three
  obtain ⟨zbV, cb0V, cb1V, cb2V, fb0V, fb1V, fb2V⟩ := kbV.three
  obtain ⟨zqV, cq0V, cq1V, cq2V, fq0V, fq1V, fq2V⟩ := kqV.three
  obtain ⟨zrV, cr0V, cr1V, fr0V, fr1V⟩ := krV.two
  obtain ⟨zsV, cs0V, cs1V, cs2V, fs0V, fs1V, fs2V⟩ := ksV.three
  obtain ⟨zuV, cu0V, cu1V, cu2V, fu0V, fu1V, fu2V⟩ := kuV.three
  go_region_held3 (fun W => ((w.heap.size) < W.heap.size ∧ W.cell? ⟨w.heap.size, 0, none⟩ = some (.int .i64 (f).1) ∧ W.cell? ⟨w.heap.size, 1, none⟩ = some (.int .i64 (f).2) ∧ W.frozen? ⟨w.heap.size, 0, none⟩ = false ∧ W.frozen? ⟨w.heap.size, 1, none⟩ = false) ∧ ((w.heap.size + 1) < W.heap.size ∧ W.cell? ⟨w.heap.size + 1, 0, none⟩ = some (.int .i64 ((tM i).1 : Int)) ∧ W.cell? ⟨w.heap.size + 1, 1, none⟩ = some (.int .i64 ((tM i).2.1 : Int)) ∧ W.cell? ⟨w.heap.size + 1, 2, none⟩ = some (.bool (tM i).2.2) ∧ W.frozen? ⟨w.heap.size + 1, 0, none⟩ = false ∧ W.frozen? ⟨w.heap.size + 1, 1, none⟩ = false ∧ W.frozen? ⟨w.heap.size + 1, 2, none⟩ = false) ∧ ((w.heap.size + 2) < W.heap.size ∧ W.cell? ⟨w.heap.size + 2, 0, none⟩ = some (.int .i64 ((tM j).1 : Int)) ∧ W.cell? ⟨w.heap.size + 2, 1, none⟩ = some (.int .i64 ((tM j).2.1 : Int)) ∧ W.cell? ⟨w.heap.size + 2, 2, none⟩ = some (.bool (tM j).2.2) ∧ W.frozen? ⟨w.heap.size + 2, 0, none⟩ = false ∧ W.frozen? ⟨w.heap.size + 2, 1, none⟩ = false ∧ W.frozen? ⟨w.heap.size + 2, 2, none⟩ = false) ∧ ((w.heap.size + 3) < W.heap.size ∧ W.cell? ⟨w.heap.size + 3, 0, none⟩ = some (.int .i64 ((q).1 : Int)) ∧ W.cell? ⟨w.heap.size + 3, 1, none⟩ = some (.int .i64 ((q).2.1 : Int)) ∧ W.cell? ⟨w.heap.size + 3, 2, none⟩ = some (.bool (q).2.2) ∧ W.frozen? ⟨w.heap.size + 3, 0, none⟩ = false ∧ W.frozen? ⟨w.heap.size + 3, 1, none⟩ = false ∧ W.frozen? ⟨w.heap.size + 3, 2, none⟩ = false) ∧ ((w1.heap.size) < W.heap.size ∧ W.cell? ⟨w1.heap.size, 0, none⟩ = some (.int .i64 ((tM (i + j)).1 : Int)) ∧ W.cell? ⟨w1.heap.size, 1, none⟩ = some (.int .i64 ((tM (i + j)).2.1 : Int)) ∧ W.cell? ⟨w1.heap.size, 2, none⟩ = some (.bool (tM (i + j)).2.2) ∧ W.frozen? ⟨w1.heap.size, 0, none⟩ = false ∧ W.frozen? ⟨w1.heap.size, 1, none⟩ = false ∧ W.frozen? ⟨w1.heap.size, 2, none⟩ = false)) (exact ⟨At.two (at_red), At.three (at_red), At.three (at_red), At.three (at_red), At.three (at_red)⟩) (first | (go_at_call 155; clear m2; refine (line_any _ _ _ _).mono ?_; rintro e w2 ⟨rfl, hbw2⟩; have knw2 : At w2 (w.heap.size) [.int .i64 (f).1, .int .i64 (f).2] := (at_red); have kaw2 : At w2 (w.heap.size + 1) [.int .i64 ((tM i).1 : Int), .int .i64 ((tM i).2.1 : Int), .bool (tM i).2.2] := (at_red); have kbw2 : At w2 (w.heap.size + 2) [.int .i64 ((tM j).1 : Int), .int .i64 ((tM j).2.1 : Int), .bool (tM j).2.2] := (at_red); have kqw2 : At w2 (w.heap.size + 3) [.int .i64 ((q).1 : Int), .int .i64 ((q).2.1 : Int), .bool (q).2.2] := (at_red); have krw2 : At w2 (w.heap.size + 4) [.int .i64 0, .int .i64 0] := (at_red); have ksw2 : At w2 (w.heap.size + 5) [.int .i64 0, .int .i64 0, .bool false] := (at_red); have kuw2 : At w2 (w1.heap.size) [.int .i64 ((tM (i + j)).1 : Int), .int .i64 ((tM (i + j)).2.1 : Int), .bool (tM (i + j)).2.2] := (at_red); have hqw2 : Below w.heap.size w w2 := (below_by); have hzw2 := hqw2.size; obtain ⟨znw2, cn0w2, cn1w2, fn0w2, fn1w2⟩ := knw2.two; obtain ⟨zaw2, ca0w2, ca1w2, ca2w2, fa0w2, fa1w2, fa2w2⟩ := kaw2.three; obtain ⟨zbw2, cb0w2, cb1w2, cb2w2, fb0w2, fb1w2, fb2w2⟩ := kbw2.three; obtain ⟨zqw2, cq0w2, cq1w2, cq2w2, fq0w2, fq1w2, fq2w2⟩ := kqw2.three; obtain ⟨zrw2, cr0w2, cr1w2, fr0w2, fr1w2⟩ := krw2.two; obtain ⟨zsw2, cs0w2, cs1w2, cs2w2, fs0w2, fs1w2, fs2w2⟩ := ksw2.three; obtain ⟨zuw2, cu0w2, cu1w2, cu2w2, fu0w2, fu1w2, fu2w2⟩ := kuw2.three; clear knV cn0V fn0V cn1V fn1V kaV ca0V fa0V ca1V fa1V ca2V fa2V kbV cb0V fb0V cb1V fb1V cb2V fb2V kqV cq0V fq0V cq1V fq1V cq2V fq2V krV cr0V fr0V cr1V fr1V ksV cs0V fs0V cs1V fs1V cs2V fs2V kuV cu0V fu0V cu1V fu1V cu2V fu2V hqV; clear hbw2) | (go_at_call 137; clear m3; refine (tmul_any _ _ _).mono ?_; rintro e w3 ⟨rfl, hbw3⟩; have knw3 : At w3 (w.heap.size) [.int .i64 (f).1, .int .i64 (f).2] := (at_red); have kaw3 : At w3 (w.heap.size + 1) [.int .i64 ((tM i).1 : Int), .int .i64 ((tM i).2.1 : Int), .bool (tM i).2.2] := (at_red); have kbw3 : At w3 (w.heap.size + 2) [.int .i64 ((tM j).1 : Int), .int .i64 ((tM j).2.1 : Int), .bool (tM j).2.2] := (at_red); have kqw3 : At w3 (w.heap.size + 3) [.int .i64 ((q).1 : Int), .int .i64 ((q).2.1 : Int), .bool (q).2.2] := (at_red); have krw3 : At w3 (w.heap.size + 4) [.int .i64 0, .int .i64 0] := (at_red); have ksw3 : At w3 (w.heap.size + 5) [.int .i64 0, .int .i64 0, .bool false] := (at_red); have kuw3 : At w3 (w1.heap.size) [.int .i64 ((tM (i + j)).1 : Int), .int .i64 ((tM (i + j)).2.1 : Int), .bool (tM (i + j)).2.2] := (at_red); have hqw3 : Below w.heap.size w w3 := (below_by); have hzw3 := hqw3.size; obtain ⟨znw3, cn0w3, cn1w3, fn0w3, fn1w3⟩ := knw3.two; obtain ⟨zaw3, ca0w3, ca1w3, ca2w3, fa0w3, fa1w3, fa2w3⟩ := kaw3.three; obtain ⟨zbw3, cb0w3, cb1w3, cb2w3, fb0w3, fb1w3, fb2w3⟩ := kbw3.three; obtain ⟨zqw3, cq0w3, cq1w3, cq2w3, fq0w3, fq1w3, fq2w3⟩ := kqw3.three; obtain ⟨zrw3, cr0w3, cr1w3, fr0w3, fr1w3⟩ := krw3.two; obtain ⟨zsw3, cs0w3, cs1w3, cs2w3, fs0w3, fs1w3, fs2w3⟩ := ksw3.three; obtain ⟨zuw3, cu0w3, cu1w3, cu2w3, fu0w3, fu1w3, fu2w3⟩ := kuw3.three; clear knw2 cn0w2 fn0w2 cn1w2 fn1w2 kaw2 ca0w2 fa0w2 ca1w2 fa1w2 ca2w2 fa2w2 kbw2 cb0w2 fb0w2 cb1w2 fb1w2 cb2w2 fb2w2 kqw2 cq0w2 fq0w2 cq1w2 fq1w2 cq2w2 fq2w2 krw2 cr0w2 fr0w2 cr1w2 fr1w2 ksw2 cs0w2 fs0w2 cs1w2 fs1w2 cs2w2 fs2w2 kuw2 cu0w2 fu0w2 cu1w2 fu1w2 cu2w2 fu2w2 hqw2; clear hbw3))
  go_wp2_with fail
  exact bodyPost_ret (v := .tuple #[.agg #[.int .i64 (tm f (toI (hvN (tM i) (tM j) q))).1, .int .i64 (tm f (toI (hvN (tM i) (tM j) q))).2], .agg #[.int .i64 ((tM (i + j)).1 : Int), .int .i64 ((tM (i + j)).2.1 : Int), .bool (tM (i + j)).2.2], .nilIface]) (by simp [results, Tryz.results136, go_sem, *]) rfl ⟨rfl, below_by⟩
theorem step_eq {f g : Int × Int} {i j : Nat} {q : Sn} (h : tm f (toI (hvN (tM i) (tM j) q)) = g) (w : World) :
    Calls Tryz.prog 136 #[.agg #[.int .i64 (f).1, .int .i64 (f).2], .agg #[.int .i64 ((tM i).1 : Int), .int .i64 ((tM i).2.1 : Int), .bool (tM i).2.2], .agg #[.int .i64 ((tM j).1 : Int), .int .i64 ((tM j).2.1 : Int), .bool (tM j).2.2], .agg #[.int .i64 ((q).1 : Int), .int .i64 ((q).2.1 : Int), .bool (q).2.2]] w fun e w' => e = .returned (.tuple #[.agg #[.int .i64 (g).1, .int .i64 (g).2], .agg #[.int .i64 ((tM (i + j)).1 : Int), .int .i64 ((tM (i + j)).2.1 : Int), .bool (tM (i + j)).2.2], .nilIface]) ∧ Below w.heap.size w w' := by
  subst h; exact step_tM f i j q w
end Go.Proofs.YtgngdabfmbipaakGreatDoor

/- What the plain reckoning's Two and Pair (stoneref1) answer: the fault of two, and of two that count one number to the power of both. -/
namespace Go.Proofs.YtgngdabfmbipaakGreatDoor
open Go.RowKit Go.Sort
set_option linter.unusedVariables false
set_option linter.unusedSimpArgs false
theorem ch_stay {q : Sn} (hq : Good q) {i n : Nat} {f : Int × Int} (h : Ch q i n f) (hl : hasL (tM (n * i)) (tM i) = false) : Ch q i (n + 1) f := by
  have := ch_add hq h
  rw [hvI_no q hl, tm_one] at this
  unfold Ch at this ⊢
  rwa [tp_cf] at this
theorem ch_more {q : Sn} (hq : Good q) {i n J : Nat} {f g : Int × Int} (h : Ch q i n f) (hJ : n * i = J) (hl : hasL (tM J) (tM i) = true) (hg : tm f ((lvN (tM J) (tM i) q : Int), (q.2.1 : Int)) = g) : Ch q i (n + 1) g := by
  have := ch_add hq h
  rwa [hJ, hvI_yes q hl, hg] at this
theorem rslope_has {a b : Sn} (w : World) (ha : okS a = true) (hb : okS b = true) (h : hasL a b = true) :
    Calls Tryz.prog 94 #[.agg #[.int .i64 (a.1 : Int), .int .i64 (a.2.1 : Int), .bool false], .agg #[.int .i64 (b.1 : Int), .int .i64 (b.2.1 : Int), .bool false]] w fun e w' => e = .returned (.tuple #[.int .i64 (slN a b : Int), .bool true]) ∧ Below w.heap.size w w' := by
  obtain ⟨fa, fb⟩ := has_aff h
  obtain ⟨x1, y1, f1⟩ := a
  obtain ⟨x2, y2, f2⟩ := b
  simp only at fa fb
  subst fa fb
  have l1 := okS_lt ha
  have l2 := okS_lt hb
  simp only at l1 l2
  unfold hasL at h
  unfold slN
  simp only [cond_false] at h ⊢
  cases hx : Nat.beq x1 x2 with
  | true =>
    rw [hx] at h
    simp only [cond_true, Bool.and_eq_true, Bool.not_eq_true'] at h ⊢
    obtain rfl := Nat.eq_of_beq_eq_true hx
    obtain rfl := Nat.eq_of_beq_eq_true h.1
    exact rslope_one x1 y1 w l1.1 l1.2 (Nat.ne_of_beq_eq_false h.2)
  | false => exact rslope_two x1 y1 x2 y2 w l1.1 l2.1 l1.2 l2.2 (Nat.ne_of_beq_eq_false hx)
theorem rslope_none {a b : Sn} (w : World) (fa : a.2.2 = false) (fb : b.2.2 = false) (h : hasL a b = false) :
    Calls Tryz.prog 94 #[.agg #[.int .i64 (a.1 : Int), .int .i64 (a.2.1 : Int), .bool false], .agg #[.int .i64 (b.1 : Int), .int .i64 (b.2.1 : Int), .bool false]] w fun e w' => e = .returned (.tuple #[.int .i64 0, .bool false]) ∧ Below w.heap.size w w' := by
  obtain ⟨x1, y1, f1⟩ := a
  obtain ⟨x2, y2, f2⟩ := b
  simp only at fa fb
  subst fa fb
  unfold hasL at h
  simp only [cond_false] at h
  cases hx : Nat.beq x1 x2 with
  | false => rw [hx] at h; cases h
  | true =>
    rw [hx] at h
    obtain rfl := Nat.eq_of_beq_eq_true hx
    by_cases hy : y1 = y2
    · subst hy
      have hz : y1 = 0 := by
        have e : Nat.beq y1 y1 = true := Nat.beq_refl y1
        simp only [cond_true, e, Bool.true_and, Bool.not_eq_false'] at h
        exact Nat.eq_of_beq_eq_true h
      subst hz
      exact rslope_no2 x1 w
    · exact rslope_no1 x1 y1 y2 w (by rw [beq_eq_false_iff_ne]; omega)
theorem radd_nn {J i : Nat} (h : (tM J).2.2 = false) (h2 : (tM i).2.2 = false) (w : World) :
    Calls Tryz.prog 92 #[.agg #[.int .i64 ((tM (J)).1 : Int), .int .i64 ((tM (J)).2.1 : Int), .bool false], .agg #[.int .i64 ((tM (i)).1 : Int), .int .i64 ((tM (i)).2.1 : Int), .bool false]] w fun e w' => e = .returned (.agg #[.int .i64 ((tM (J + i)).1 : Int), .int .i64 ((tM (J + i)).2.1 : Int), .bool (tM (J + i)).2.2]) ∧ Below w.heap.size w w' := by
  have := radd_tM J i w
  rwa [h, h2] at this
theorem rtpow_ex {f x : Int × Int} (h : tp f 16200 = x) (w : World) : Calls Tryz.prog 97 #[.agg #[.int .i64 (f).1, .int .i64 (f).2], .int .i64 16200] w fun e w' => e = .returned (.agg #[.int .i64 (x).1, .int .i64 (x).2]) ∧ Below w.heap.size w w' := by
  subst h; exact rtpow_any 14 f 16200 w (by omega) (by omega) (by decide)
set_option maxRecDepth 100000 in
set_option maxHeartbeats 2000000 in
theorem rpair_lf (x2 y2 : Int) (f2 : Bool) (w : World) : Calls Tryz.prog 57 #[.agg #[.int .i64 0, .int .i64 0, .bool true], .agg #[.int .i64 x2, .int .i64 y2, .bool f2]] w fun e w' => e = .returned (.agg #[.int .i64 1, .int .i64 0]) ∧ Below w.heap.size w w' := by
  go_enter Tryz.func57, Tryz.ntmps57
  go_wp2_with fail
  exact bodyPost_ret (v := .agg #[.int .i64 1, .int .i64 0]) (by simp [results, Tryz.results57, go_sem, *]) rfl ⟨rfl, below_by⟩
set_option maxRecDepth 100000 in
set_option maxHeartbeats 2000000 in
theorem rpair_fr (x1 y1 : Int) (w : World) : Calls Tryz.prog 57 #[.agg #[.int .i64 x1, .int .i64 y1, .bool false], .agg #[.int .i64 0, .int .i64 0, .bool true]] w fun e w' => e = .returned (.agg #[.int .i64 1, .int .i64 0]) ∧ Below w.heap.size w w' := by
  go_enter Tryz.func57, Tryz.ntmps57
  go_wp2_with fail
  exact bodyPost_ret (v := .agg #[.int .i64 1, .int .i64 0]) (by simp [results, Tryz.results57, go_sem, *]) rfl ⟨rfl, below_by⟩
theorem modlv {n r : Int} (h : fm n = r) (w : World) : Calls Tryz.prog 96 #[.int .i64 n, .int .i64 4051] w fun e w' => e = .returned (.int .i64 r) ∧ w' = w := by
  subst h; exact rmod_fm n w
theorem rtmul_lv {f g : Int × Int} {a b : Int} (h : tm f (a, b) = g) (w : World) : Calls Tryz.prog 95 #[.agg #[.int .i64 (f).1, .int .i64 (f).2], .agg #[.int .i64 a, .int .i64 b]] w fun e w' => e = .returned (.agg #[.int .i64 (g).1, .int .i64 (g).2]) ∧ Below w.heap.size w w' := rtmul_eq (y := (a, b)) h w
set_option maxRecDepth 100000 in
set_option maxHeartbeats 2000000 in
theorem rpair_nn (i j : Nat) (w : World) (hi : i % 1013 ≠ 0) (hj : j % 1013 ≠ 0) :
    Calls Tryz.prog 57 #[.agg #[.int .i64 ((tM (4 * i)).1 : Int), .int .i64 ((tM (4 * i)).2.1 : Int), .bool false], .agg #[.int .i64 ((tM (4 * j)).1 : Int), .int .i64 ((tM (4 * j)).2.1 : Int), .bool false]] w fun e w' => e = .returned (.agg #[.int .i64 (tp gI (i * j)).1, .int .i64 (tp gI (i * j)).2]) ∧ Below w.heap.size w w' := by
  have HI : Hid (i % 1013 ≠ 0) := hi
  have HJ : Hid (j % 1013 ≠ 0) := hj
  have HN : Hid ((tM (4 * i)).2.2 = false) := by unfold Hid; rw [tM_f, ← Bool.not_eq_true, farI_iff]; omega
  clear hi hj
  go_enter Tryz.func57, Tryz.ntmps57
  go_wp2_with fail
  go_loopw [7] (fun ti wl => ∃ (k : Nat) (f : Int × Int), 1 ≤ k ∧ k ≤ 1013 ∧ ti = .int .i64 k ∧ At wl (w.heap.size) [.int .i64 ((tM (4 * i)).1 : Int), .int .i64 ((tM (4 * i)).2.1 : Int), .bool false] ∧ At wl (w.heap.size + 1) [.int .i64 ((tM (4 * j)).1 : Int), .int .i64 ((tM (4 * j)).2.1 : Int), .bool false] ∧ At wl (w.heap.size + 2) [.int .i64 0, .int .i64 0] ∧ At wl (w.heap.size + 3) [.int .i64 (f).1, .int .i64 (f).2] ∧ At wl (w.heap.size + 4) [.int .i64 ((tM (k * (4 * i))).1 : Int), .int .i64 ((tM (k * (4 * i))).2.1 : Int), .bool (tM (k * (4 * i))).2.2] ∧ Below w.heap.size w wl ∧ Hid (Ch (tM (4 * j)) (4 * i) k f)) (fun ti _ => 1013 - (intOf ti).toNat)
  case atStart =>
    refine ⟨1, (1, 0), by omega, by omega, rfl, at_red, at_red, at_red, at_red, ?_, below_by, ch_one _ _⟩
    rw [Nat.one_mul, HN.out]
    exact (at_red)
  case round =>
    obtain ⟨k, f, hk0, hk, rfl, kaV, kbV, krV, kfV, ktV, hqV, HC⟩ := hrel
    have hzV := hqV.size
    obtain ⟨J, hJ⟩ : ∃ J, k * (4 * i) = J := ⟨_, rfl⟩
    have HJ1 : Hid ((k + 1) * (4 * i) = J + 4 * i) := by unfold Hid; rw [← hJ, Nat.succ_mul]
    by_cases hlt : k < 1013
    · have hlt' : (k : Int) < 1013 := by omega
      have hn : (tM J).2.2 = false := by rw [tM_f, ← hJ, ← Bool.not_eq_true, farI_iff]; exact not_near HI.out (by omega) hlt
      rw [hJ, hn] at ktV
      have HF : Hid ((tM J).2.2 = false) := hn
      clear hn
      obtain ⟨zaV, ca0V, ca1V, ca2V, fa0V, fa1V, fa2V⟩ := kaV.three
      obtain ⟨zbV, cb0V, cb1V, cb2V, fb0V, fb1V, fb2V⟩ := kbV.three
      obtain ⟨zrV, cr0V, cr1V, fr0V, fr1V⟩ := krV.two
      obtain ⟨zfV, cf0V, cf1V, ff0V, ff1V⟩ := kfV.two
      obtain ⟨ztV, ct0V, ct1V, ct2V, ft0V, ft1V, ft2V⟩ := ktV.three
      have m1 : True := trivial; have m2 : True := trivial
      cases hl : hasL (tM J) (tM (4 * i)) with
      | false =>
        have HL : Hid (hasL (tM J) (tM (4 * i)) = false) := hl
        have HC2 : Hid (Ch (tM (4 * j)) (4 * i) (k + 1) f) := ch_stay (tM4_good HJ.out) HC.out (by rw [hJ]; exact hl)
        clear hl hJ HC
        go_wp2_with (first | (go_at_call 94; clear m1; refine (rslope_none _ HF.out HN.out HL.out).mono ?_; rintro e w1 ⟨rfl, hbw1⟩; have kaw1 : At w1 (w.heap.size) [.int .i64 ((tM (4 * i)).1 : Int), .int .i64 ((tM (4 * i)).2.1 : Int), .bool false] := (at_by); have kbw1 : At w1 (w.heap.size + 1) [.int .i64 ((tM (4 * j)).1 : Int), .int .i64 ((tM (4 * j)).2.1 : Int), .bool false] := (at_by); have krw1 : At w1 (w.heap.size + 2) [.int .i64 0, .int .i64 0] := (at_by); have kfw1 : At w1 (w.heap.size + 3) [.int .i64 (f).1, .int .i64 (f).2] := (at_by); have ktw1 : At w1 (w.heap.size + 4) [.int .i64 ((tM (J)).1 : Int), .int .i64 ((tM (J)).2.1 : Int), .bool false] := (at_by); have hqw1 : Below w.heap.size w w1 := (below_by); have hzw1 := hqw1.size; obtain ⟨zaw1, ca0w1, ca1w1, ca2w1, fa0w1, fa1w1, fa2w1⟩ := kaw1.three; obtain ⟨zbw1, cb0w1, cb1w1, cb2w1, fb0w1, fb1w1, fb2w1⟩ := kbw1.three; obtain ⟨zrw1, cr0w1, cr1w1, fr0w1, fr1w1⟩ := krw1.two; obtain ⟨zfw1, cf0w1, cf1w1, ff0w1, ff1w1⟩ := kfw1.two; obtain ⟨ztw1, ct0w1, ct1w1, ct2w1, ft0w1, ft1w1, ft2w1⟩ := ktw1.three; clear kaV ca0V fa0V ca1V fa1V ca2V fa2V kbV cb0V fb0V cb1V fb1V cb2V fb2V krV cr0V fr0V cr1V fr1V kfV cf0V ff0V cf1V ff1V ktV ct0V ft0V ct1V ft1V ct2V ft2V hqV; clear hbw1) | (go_at_call 92; clear m2; refine (radd_nn HF.out HN.out _).mono ?_; rintro e w2 ⟨rfl, hbw2⟩; have kaw2 : At w2 (w.heap.size) [.int .i64 ((tM (4 * i)).1 : Int), .int .i64 ((tM (4 * i)).2.1 : Int), .bool false] := (at_by); have kbw2 : At w2 (w.heap.size + 1) [.int .i64 ((tM (4 * j)).1 : Int), .int .i64 ((tM (4 * j)).2.1 : Int), .bool false] := (at_by); have krw2 : At w2 (w.heap.size + 2) [.int .i64 0, .int .i64 0] := (at_by); have kfw2 : At w2 (w.heap.size + 3) [.int .i64 (f).1, .int .i64 (f).2] := (at_by); have ktw2 : At w2 (w.heap.size + 4) [.int .i64 ((tM (J)).1 : Int), .int .i64 ((tM (J)).2.1 : Int), .bool false] := (at_by); have hqw2 : Below w.heap.size w w2 := (below_by); have hzw2 := hqw2.size; obtain ⟨zaw2, ca0w2, ca1w2, ca2w2, fa0w2, fa1w2, fa2w2⟩ := kaw2.three; obtain ⟨zbw2, cb0w2, cb1w2, cb2w2, fb0w2, fb1w2, fb2w2⟩ := kbw2.three; obtain ⟨zrw2, cr0w2, cr1w2, fr0w2, fr1w2⟩ := krw2.two; obtain ⟨zfw2, cf0w2, cf1w2, ff0w2, ff1w2⟩ := kfw2.two; obtain ⟨ztw2, ct0w2, ct1w2, ct2w2, ft0w2, ft1w2, ft2w2⟩ := ktw2.three; clear kaw1 ca0w1 fa0w1 ca1w1 fa1w1 ca2w1 fa2w1 kbw1 cb0w1 fb0w1 cb1w1 fb1w1 cb2w1 fb2w1 krw1 cr0w1 fr0w1 cr1w1 fr1w1 kfw1 cf0w1 ff0w1 cf1w1 ff1w1 ktw1 ct0w1 ft0w1 ct1w1 ft1w1 ct2w1 ft2w1 hqw1; clear hbw2))
        go_roundw
        case rel => exact ⟨k + 1, f, by omega, by omega, by simp, at_red, at_red, at_red, at_red, by rw [HJ1.out]; exact (at_red), below_by, HC2⟩
        case measure => simp [intOf]; omega
      | true =>
        obtain ⟨s, hs⟩ : ∃ s, slN (tM J) (tM (4 * i)) = s := ⟨_, rfl⟩
        have hsl := sl_lt (tM J) (tM (4 * i))
        obtain ⟨g, hg⟩ : ∃ g, tm f ((lvN (tM J) (tM (4 * i)) (tM (4 * j)) : Int), ((tM (4 * j)).2.1 : Int)) = g := ⟨_, rfl⟩
        have HC2 : Hid (Ch (tM (4 * j)) (4 * i) (k + 1) g) := ch_more (tM4_good HJ.out) HC.out hJ hl hg
        have HLV : fm ((slN (tM J) (tM (4 * i)) : Int) * (((tM (4 * j)).1 : Int) + ((tM J).1 : Int)) - ((tM J).2.1 : Int)) = (lvN (tM J) (tM (4 * i)) (tM (4 * j)) : Int) := lvR _ _ (okS_lt (tM_ok J)).2
        have HS := fun w => rslope_has (a := tM J) (b := tM (4 * i)) w (tM_ok _) (tM_ok _) hl
        rw [hs] at hsl HLV
        simp only [hs] at HS
        have HS' : Hid (∀ w, Calls Tryz.prog 94 #[.agg #[.int .i64 ((tM (J)).1 : Int), .int .i64 ((tM (J)).2.1 : Int), .bool false], .agg #[.int .i64 ((tM (4 * i)).1 : Int), .int .i64 ((tM (4 * i)).2.1 : Int), .bool false]] w fun e w' => e = .returned (.tuple #[.int .i64 (s : Int), .bool true]) ∧ Below w.heap.size w w') := HS
        obtain ⟨lv, hlv⟩ : ∃ lv : Nat, lvN (tM J) (tM (4 * i)) (tM (4 * j)) = lv := ⟨_, rfl⟩
        rw [hlv] at HLV hg
        have HLV' : Hid (fm ((s : Int) * (((tM (4 * j)).1 : Int) + ((tM J).1 : Int)) - ((tM J).2.1 : Int)) = (lv : Int)) := HLV
        have HG : Hid (tm f ((lv : Int), ((tM (4 * j)).2.1 : Int)) = g) := hg
        have t1 := (okS_lt (tM_ok J)).1
        have t2 := (okS_lt (tM_ok J)).2
        have t3 := (okS_lt (tM_ok (4 * j))).1
        obtain ⟨q1, q2⟩ := mul_box (x := (s : Int)) (y := ((tM (4 * j)).1 : Int) + ((tM J).1 : Int)) (A := 4050) (B := 8100) (by omega) (by omega) (by omega) (by omega)
        have t4 : ((tM (4 * j)).1 : Int) ≤ 4050 := by omega
        have t5 : ((tM J).1 : Int) ≤ 4050 := by omega
        have t6 : ((tM J).2.1 : Int) ≤ 4050 := by omega
        have t7 : 0 ≤ ((tM (4 * j)).1 : Int) := by omega
        have t8 : 0 ≤ ((tM J).1 : Int) := by omega
        have t9 : 0 ≤ ((tM J).2.1 : Int) := by omega
        clear hl hJ HC HLV HS hs hg hlv hsl t1 t2 t3
        go_wp2_with (go_at_call 94; clear m1; refine (HS'.out _).mono ?_; rintro e w1 ⟨rfl, hbw1⟩; have kaw1 : At w1 (w.heap.size) [.int .i64 ((tM (4 * i)).1 : Int), .int .i64 ((tM (4 * i)).2.1 : Int), .bool false] := (at_by); have kbw1 : At w1 (w.heap.size + 1) [.int .i64 ((tM (4 * j)).1 : Int), .int .i64 ((tM (4 * j)).2.1 : Int), .bool false] := (at_by); have krw1 : At w1 (w.heap.size + 2) [.int .i64 0, .int .i64 0] := (at_by); have kfw1 : At w1 (w.heap.size + 3) [.int .i64 (f).1, .int .i64 (f).2] := (at_by); have ktw1 : At w1 (w.heap.size + 4) [.int .i64 ((tM (J)).1 : Int), .int .i64 ((tM (J)).2.1 : Int), .bool false] := (at_by); have hqw1 : Below w.heap.size w w1 := (below_by); have hzw1 := hqw1.size; obtain ⟨zaw1, ca0w1, ca1w1, ca2w1, fa0w1, fa1w1, fa2w1⟩ := kaw1.three; obtain ⟨zbw1, cb0w1, cb1w1, cb2w1, fb0w1, fb1w1, fb2w1⟩ := kbw1.three; obtain ⟨zrw1, cr0w1, cr1w1, fr0w1, fr1w1⟩ := krw1.two; obtain ⟨zfw1, cf0w1, cf1w1, ff0w1, ff1w1⟩ := kfw1.two; obtain ⟨ztw1, ct0w1, ct1w1, ct2w1, ft0w1, ft1w1, ft2w1⟩ := ktw1.three; clear kaV ca0V fa0V ca1V fa1V ca2V fa2V kbV cb0V fb0V cb1V fb1V cb2V fb2V krV cr0V fr0V cr1V fr1V kfV cf0V ff0V cf1V ff1V ktV ct0V ft0V ct1V ft1V ct2V ft2V hqV; clear hbw1)
        refine below_last (by kernel_rfl) (by kernel_rfl) ?_
        dsimp only [List.dropLast, List.length, List.drop]
        repeat (go_big_quiet_step (first | (go_at_call 96; with_reducible exact Calls.regrown_of (below_of_same (modlv HLV'.out _))) | (go_at_call 95; with_reducible exact Calls.regrown_of (rtmul_lv HG.out _))))
        refine wpQuiet_nil ?_
        intro w3 hw1
        have hrw3 := regrown_below hw1
        clear hw1
        have kaw3 := kaw1.below hrw3
        have kbw3 := kbw1.below hrw3
        have krw3 := krw1.below hrw3
        have kfw3 := kfw1.below hrw3
        have ktw3 := ktw1.below hrw3
        have hqw3 := bl_call hqw1 hrw3 (by omega)
        have hzw3 := hqw3.size
        clear hrw3 kaw1 ca0w1 fa0w1 ca1w1 fa1w1 ca2w1 fa2w1 kbw1 cb0w1 fb0w1 cb1w1 fb1w1 cb2w1 fb2w1 krw1 cr0w1 fr0w1 cr1w1 fr1w1 kfw1 cf0w1 ff0w1 cf1w1 ff1w1 ktw1 ct0w1 ft0w1 ct1w1 ft1w1 ct2w1 ft2w1 hqw1
        obtain ⟨zaw3, ca0w3, ca1w3, ca2w3, fa0w3, fa1w3, fa2w3⟩ := kaw3.three
        obtain ⟨zbw3, cb0w3, cb1w3, cb2w3, fb0w3, fb1w3, fb2w3⟩ := kbw3.three
        obtain ⟨zrw3, cr0w3, cr1w3, fr0w3, fr1w3⟩ := krw3.two
        obtain ⟨zfw3, cf0w3, cf1w3, ff0w3, ff1w3⟩ := kfw3.two
        obtain ⟨ztw3, ct0w3, ct1w3, ct2w3, ft0w3, ft1w3, ft2w3⟩ := ktw3.three
        go_wp2_with (go_at_call 92; clear m2; refine (radd_nn HF.out HN.out _).mono ?_; rintro e w2 ⟨rfl, hbw2⟩; have kaw2 : At w2 (w.heap.size) [.int .i64 ((tM (4 * i)).1 : Int), .int .i64 ((tM (4 * i)).2.1 : Int), .bool false] := (at_red); have kbw2 : At w2 (w.heap.size + 1) [.int .i64 ((tM (4 * j)).1 : Int), .int .i64 ((tM (4 * j)).2.1 : Int), .bool false] := (at_red); have krw2 : At w2 (w.heap.size + 2) [.int .i64 0, .int .i64 0] := (at_red); have kfw2 : At w2 (w.heap.size + 3) [.int .i64 (g).1, .int .i64 (g).2] := (at_red); have ktw2 : At w2 (w.heap.size + 4) [.int .i64 ((tM (J)).1 : Int), .int .i64 ((tM (J)).2.1 : Int), .bool false] := (at_red); have hqw2 : Below w.heap.size w w2 := (below_by); have hzw2 := hqw2.size; obtain ⟨zaw2, ca0w2, ca1w2, ca2w2, fa0w2, fa1w2, fa2w2⟩ := kaw2.three; obtain ⟨zbw2, cb0w2, cb1w2, cb2w2, fb0w2, fb1w2, fb2w2⟩ := kbw2.three; obtain ⟨zrw2, cr0w2, cr1w2, fr0w2, fr1w2⟩ := krw2.two; obtain ⟨zfw2, cf0w2, cf1w2, ff0w2, ff1w2⟩ := kfw2.two; obtain ⟨ztw2, ct0w2, ct1w2, ct2w2, ft0w2, ft1w2, ft2w2⟩ := ktw2.three; clear kaw3 ca0w3 fa0w3 ca1w3 fa1w3 ca2w3 fa2w3 kbw3 cb0w3 fb0w3 cb1w3 fb1w3 cb2w3 fb2w3 krw3 cr0w3 fr0w3 cr1w3 fr1w3 kfw3 cf0w3 ff0w3 cf1w3 ff1w3 ktw3 ct0w3 ft0w3 ct1w3 ft1w3 ct2w3 ft2w3 hqw3; clear hbw2)
        go_roundw
        case rel => exact ⟨k + 1, g, by omega, by omega, by simp, at_red, at_red, at_red, at_red, by rw [HJ1.out]; exact (at_red), below_by, HC2⟩
        case measure => simp [intOf]; omega
    · have hlt' : ¬ (k : Int) < 1013 := by omega
      obtain rfl : k = 1013 := by omega
      have HP : Hid (tp f 16200 = tp gI (i * j)) := pair_end HJ.out HC.out
      clear HC hJ
      obtain ⟨zaV, ca0V, ca1V, ca2V, fa0V, fa1V, fa2V⟩ := kaV.three
      obtain ⟨zbV, cb0V, cb1V, cb2V, fb0V, fb1V, fb2V⟩ := kbV.three
      obtain ⟨zrV, cr0V, cr1V, fr0V, fr1V⟩ := krV.two
      obtain ⟨zfV, cf0V, cf1V, ff0V, ff1V⟩ := kfV.two
      obtain ⟨ztV, ct0V, ct1V, ct2V, ft0V, ft1V, ft2V⟩ := ktV.three
      have m1 : True := trivial
      go_wp2_with (go_at_call 97; clear m1; refine (rtpow_ex HP.out _).mono ?_; rintro e w1 ⟨rfl, hbw1⟩; have kaw1 : At w1 (w.heap.size) [.int .i64 ((tM (4 * i)).1 : Int), .int .i64 ((tM (4 * i)).2.1 : Int), .bool false] := (at_by); have kbw1 : At w1 (w.heap.size + 1) [.int .i64 ((tM (4 * j)).1 : Int), .int .i64 ((tM (4 * j)).2.1 : Int), .bool false] := (at_by); have krw1 : At w1 (w.heap.size + 2) [.int .i64 0, .int .i64 0] := (at_by); have kfw1 : At w1 (w.heap.size + 3) [.int .i64 (f).1, .int .i64 (f).2] := (at_by); have ktw1 : At w1 (w.heap.size + 4) [.int .i64 ((tM (1013 * (4 * i))).1 : Int), .int .i64 ((tM (1013 * (4 * i))).2.1 : Int), .bool (tM (1013 * (4 * i))).2.2] := (at_by); have hqw1 : Below w.heap.size w w1 := (below_by); have hzw1 := hqw1.size; obtain ⟨zaw1, ca0w1, ca1w1, ca2w1, fa0w1, fa1w1, fa2w1⟩ := kaw1.three; obtain ⟨zbw1, cb0w1, cb1w1, cb2w1, fb0w1, fb1w1, fb2w1⟩ := kbw1.three; obtain ⟨zrw1, cr0w1, cr1w1, fr0w1, fr1w1⟩ := krw1.two; obtain ⟨zfw1, cf0w1, cf1w1, ff0w1, ff1w1⟩ := kfw1.two; obtain ⟨ztw1, ct0w1, ct1w1, ct2w1, ft0w1, ft1w1, ft2w1⟩ := ktw1.three; clear kaV ca0V fa0V ca1V fa1V ca2V fa2V kbV cb0V fb0V cb1V fb1V cb2V fb2V krV cr0V fr0V cr1V fr1V kfV cf0V ff0V cf1V ff1V ktV ct0V ft0V ct1V ft1V ct2V ft2V hqV; clear hbw1)
      exact bodyPost_ret (v := .agg #[.int .i64 (tp gI (i * j)).1, .int .i64 (tp gI (i * j)).2]) (by simp [results, Tryz.results57, go_sem, *]) rfl ⟨rfl, below_by⟩
/-- The pair of two that count. -/
theorem rpair_tM (i j : Nat) (w : World) :
    Calls Tryz.prog 57 #[.agg #[.int .i64 ((tM (4 * i)).1 : Int), .int .i64 ((tM (4 * i)).2.1 : Int), .bool (tM (4 * i)).2.2], .agg #[.int .i64 ((tM (4 * j)).1 : Int), .int .i64 ((tM (4 * j)).2.1 : Int), .bool (tM (4 * j)).2.2]] w fun e w' => e = .returned (.agg #[.int .i64 (tp gI (i * j)).1, .int .i64 (tp gI (i * j)).2]) ∧ Below w.heap.size w w' := by
  by_cases hi : i % 1013 = 0
  · rw [tM_isfar (i := 4 * i) (by rw [farI_iff]; omega), pair_far_l hi j]
    exact rpair_lf _ _ _ w
  · have ei : (tM (4 * i)).2.2 = false := by rw [tM_f, ← Bool.not_eq_true, farI_iff]; omega
    by_cases hj : j % 1013 = 0
    · rw [tM_isfar (i := 4 * j) (by rw [farI_iff]; omega), ei, pair_far_r hj i]
      exact rpair_fr _ _ w
    · have ej : (tM (4 * j)).2.2 = false := by rw [tM_f, ← Bool.not_eq_true, farI_iff]; omega
      rw [ei, ej]
      exact rpair_nn i j w hi hj
end Go.Proofs.YtgngdabfmbipaakGreatDoor
