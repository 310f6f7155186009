/- stonelaw2.HideTells answers true, by what package hide is to answer. -/
import Derived.Test.YtfpjdalfmfhomagDoorHideIs
import Derived.Test.YtfpjdalfmfhomagDoorHideTellsL
import Derived.Test.YtfpjdalfmfhomagDoorRefHide
import Derived.Test.YtfpjdalfmfhomagDoorRefSec
import Derived.Test.YtfpjdalfmfhomagDoorShell
namespace Go.Proofs.YtfpjdalfmfhomagDoor
open Go.RowKit Go.Sort
set_option linter.unusedVariables false
set_option linter.unusedSimpArgs false
theorem sameS_def (a b : Sn) : sameS a b = (((a.1 : Int) == (b.1 : Int)) && ((a.2.1 : Int) == (b.2.1 : Int)) && (a.2.2 == b.2.2)) := by unfold sameS; rfl
theorem htold_it (e : Int) : (toldI (errOf e) == e) = true := by rw [toldI_err]; simp
theorem res_nat {v : Int} (h : resB v = true) : ∃ n : Nat, v = (n : Int) ∧ n < 1013 := by
  have := of_decide_eq_true (p := 0 ≤ v ∧ v < 1013) h
  exact ⟨v.toNat, by omega, by omega⟩
theorem ht_one (hH : HideIs) (v r : Int) (hv : (Lit.int .i64 v).wf = true) (hr : (Lit.int .i64 r).wf = true) : ∃ (wx wy e : Int) (wf : Bool) (v1 : Value), ((!resB v || !resB r) = false → e = 0 ∧ (∀ w, Calls Tryd.prog 16 #[.int .i64 v, .int .i64 r] w fun ex w' => ex = .returned (.agg #[.int .i64 wx, .int .i64 wy, .bool wf]) ∧ Below w.heap.size w w')) ∧ ((!resB v || !resB r) = true → e = 1 ∧ wx = 0 ∧ wy = 0 ∧ wf = false) ∧ (∀ w, Calls Tryd.prog 17 #[.int .i64 v, .int .i64 r] w fun ex w' => ex = .returned (.tuple #[.agg #[.int .i64 wx, .int .i64 wy, .bool wf], v1]) ∧ Below w.heap.size w w') ∧ (IsErr v1) ∧ (toldI v1 == e) = true ∧ (((resB v && resB r) = false ∧ e = 1) ∨ (∃ vn rn : Nat, v = (vn : Int) ∧ r = (rn : Int) ∧ vn < 1013 ∧ rn < 1013 ∧ e = 0 ∧ ∃ T : Sn, tM (4 * hdN vn rn) = T ∧ wx = (T.1 : Int) ∧ wy = (T.2.1 : Int) ∧ wf = T.2.2)) := by
  cases ha : resB v && resB r with
  | false =>
    have hc : (!resB v || !resB r) = true := by rw [← Bool.not_and, ha]; rfl
    exact ⟨0, 0, 1, false, errOf 1, fun h => absurd (hc.symm.trans h) (by decide), fun _ => ⟨rfl, rfl, rfl, rfl⟩, fun w => hH.1 v r w hv hr ha, isErr_err 1, htold_it 1, Or.inl ⟨rfl, rfl⟩⟩
  | true =>
    have hc : (!resB v || !resB r) = false := by rw [← Bool.not_and, ha]; rfl
    rw [Bool.and_eq_true] at ha
    obtain ⟨vn, rfl, v1⟩ := res_nat ha.1
    obtain ⟨rn, rfl, r1⟩ := res_nat ha.2
    have q1 : ∀ w, Calls Tryd.prog 16 #[.int .i64 (vn : Int), .int .i64 (rn : Int)] w fun ex w' => ex = .returned (.agg #[.int .i64 ((tM (4 * hdN vn rn)).1 : Int), .int .i64 ((tM (4 * hdN vn rn)).2.1 : Int), .bool (tM (4 * hdN vn rn)).2.2]) ∧ Below w.heap.size w w' := rhide vn rn
    have q2 : ∀ w, Calls Tryd.prog 17 #[.int .i64 (vn : Int), .int .i64 (rn : Int)] w fun ex w' => ex = .returned (.tuple #[.agg #[.int .i64 ((tM (4 * hdN vn rn)).1 : Int), .int .i64 ((tM (4 * hdN vn rn)).2.1 : Int), .bool (tM (4 * hdN vn rn)).2.2], .nilIface]) ∧ Below w.heap.size w w' := fun w => hH.2 vn rn w v1 r1
    obtain ⟨T, hT⟩ : ∃ T, tM (4 * hdN vn rn) = T := ⟨_, rfl⟩
    rw [hT] at q1 q2
    exact ⟨(T.1 : Int), (T.2.1 : Int), 0, T.2.2, .nilIface, fun _ => ⟨rfl, q1⟩, fun h => absurd (hc.symm.trans h) (by decide), q2, isErr_nil, rfl, Or.inr ⟨vn, rn, rfl, rfl, v1, r1, rfl, T, hT, rfl, rfl, rfl⟩⟩
theorem ht_two (hO : OpenIs) (v r cx cy wx wy e : Int) (cf wf : Bool) (hv : (Lit.int .i64 v).wf = true) (hr : (Lit.int .i64 r).wf = true) (hx : ((resB v && resB r) = false ∧ e = 1) ∨ (∃ vn rn : Nat, v = (vn : Int) ∧ r = (rn : Int) ∧ vn < 1013 ∧ rn < 1013 ∧ e = 0 ∧ ∃ T : Sn, tM (4 * hdN vn rn) = T ∧ wx = (T.1 : Int) ∧ wy = (T.2.1 : Int) ∧ wf = T.2.2)) (hc : (ckI cx cy cf == 0) = false ∨ (ckI cx cy cf = 0 ∧ ∃ i, cx = ((tM i).1 : Int) ∧ cy = ((tM i).2.1 : Int) ∧ cf = (tM i).2.2)) :
    ∃ (g : Int) (q : Bool) (v2 : Value), (((ckI cx cy cf) == 0) = true → g = e) ∧ (((ckI cx cy cf) == 0) = false → g = (ckI cx cy cf)) ∧ (∀ w, Calls Tryd.prog 19 #[.agg #[.int .i64 cx, .int .i64 cy, .bool cf], .int .i64 v, .int .i64 r] w fun ex w' => ex = .returned (.tuple #[.bool q, v2]) ∧ Below w.heap.size w w') ∧ (IsErr v2) ∧ ((g == 0) = true → q = ((cx == wx) && (cy == wy) && (cf == wf))) ∧ ((g == 0) = false → q = false) ∧ (toldI v2 == g) = true := by
  rcases hc with hc | ⟨h0, i, rfl, rfl, rfl⟩
  · exact ⟨_, false, errOf _, (fun h => absurd (hc.symm.trans h) (by decide)), fun _ => rfl, fun w => hO.1 cx cy cf v r w hv hr hc, isErr_err _, (fun h => absurd (hc.symm.trans h) (by decide)), fun _ => rfl, htold_it _⟩
  · rcases hx with ⟨ha, rfl⟩ | ⟨vn, rn, e1, e2, v1, r1, e3, T, hT, e4, e5, e6⟩
    · exact ⟨1, false, errOf 1, fun _ => rfl, fun h => absurd h (by rw [h0]; decide), fun w => hO.2.1 i v r w hv hr ha, isErr_err 1, (fun h => absurd h (by decide)), fun _ => rfl, htold_it 1⟩
    · subst e1 e2 e3 e4 e5 e6
      exact ⟨0, sameS (tM i) T, .nilIface, fun _ => rfl, fun h => absurd h (by rw [h0]; decide), fun w => by have := hO.2.2 i vn rn w v1 r1; rwa [hT] at this, isErr_nil, fun _ => sameS_def _ _, (fun h => absurd h (by decide)), rfl⟩
theorem ht_three (hF : FindIs) (v cx cy : Int) (cf : Bool) (hv : (Lit.int .i64 v).wf = true) (hc : (ckI cx cy cf == 0) = false ∨ (ckI cx cy cf = 0 ∧ ∃ i, cx = ((tM i).1 : Int) ∧ cy = ((tM i).2.1 : Int) ∧ cf = (tM i).2.2)) :
    ∃ (f1 f3 n : Int) (i : Bool) (v3 : Value), (((ckI cx cy cf) == 0) = true → (∀ w, Calls Tryd.prog 20 #[.agg #[.int .i64 cx, .int .i64 cy, .bool cf]] w fun ex w' => ex = .returned (.bool i) ∧ Below w.heap.size w w') ∧ (i = true → f1 = 0) ∧ (i = false → f1 = 3)) ∧ (((ckI cx cy cf) == 0) = false → f1 = (ckI cx cy cf)) ∧ (((f1 == 0) && !resB v) = true → f3 = 1) ∧ (((f1 == 0) && !resB v) = false → f3 = f1) ∧ (∀ w, Calls Tryd.prog 21 #[.agg #[.int .i64 cx, .int .i64 cy, .bool cf], .int .i64 v] w fun ex w' => ex = .returned (.tuple #[.int .i64 n, v3]) ∧ Below w.heap.size w w') ∧ (IsErr v3) ∧ ((f3 == 0) = true → 0 ≤ n ∧ n < 1013 ∧ (∀ w, Calls Tryd.prog 16 #[.int .i64 v, .int .i64 n] w fun ex w' => ex = .returned (.agg #[.int .i64 cx, .int .i64 cy, .bool cf]) ∧ Below w.heap.size w w')) ∧ ((f3 == 0) = false → n = 0) ∧ (toldI v3 == f3) = true := by
  rcases hc with hc | ⟨h0, i, rfl, rfl, rfl⟩
  · exact ⟨_, _, 0, false, errOf _, (fun h => absurd (hc.symm.trans h) (by decide)), fun _ => rfl, fun h => absurd h (by rw [hc]; simp), fun _ => rfl, fun w => hF.1 cx cy cf v w hv hc, isErr_err _, (fun h => absurd (hc.symm.trans h) (by decide)), fun _ => rfl, htold_it _⟩
  · have hne : ∀ {Q : Prop}, (ckI ((tM i).1 : Int) ((tM i).2.1 : Int) (tM i).2.2 == 0) = false → Q := fun h => absurd h (by rw [h0]; decide)
    cases hi : farI (i * 1013) with
    | false =>
      have hri : ∀ w, Calls Tryd.prog 20 #[.agg #[.int .i64 ((tM i).1 : Int), .int .i64 ((tM i).2.1 : Int), .bool (tM i).2.2]] w fun ex w' => ex = .returned (.bool false) ∧ Below w.heap.size w w' := fun w => by have := rin_tM i w; rwa [hi] at this
      exact ⟨3, 3, 0, false, errOf 3, fun _ => ⟨hri, (fun h => absurd h (by decide)), fun _ => rfl⟩, hne, fun h => absurd h (by simp), fun _ => rfl, fun w => hF.2.1 i v w hv hi, isErr_err 3, (fun h => absurd h (by decide)), fun _ => rfl, htold_it 3⟩
    | true =>
      have hri : ∀ w, Calls Tryd.prog 20 #[.agg #[.int .i64 ((tM i).1 : Int), .int .i64 ((tM i).2.1 : Int), .bool (tM i).2.2]] w fun ex w' => ex = .returned (.bool true) ∧ Below w.heap.size w w' := fun w => by have := rin_tM i w; rwa [hi] at this
      cases ha : resB v with
      | false => exact ⟨0, 1, 0, true, errOf 1, fun _ => ⟨hri, fun _ => rfl, (fun h => absurd h (by decide))⟩, hne, fun _ => rfl, fun h => absurd h (by decide), fun w => hF.2.2.1 i v w hv hi ha, isErr_err 1, (fun h => absurd h (by decide)), fun _ => rfl, htold_it 1⟩
      | true =>
        obtain ⟨vn, rfl, v1⟩ := res_nat ha
        obtain ⟨j, rfl⟩ : ∃ j, i = 4 * j := ⟨i / 4, by have := (farI_iff _).1 hi; omega⟩
        obtain ⟨n, n1, n2⟩ := hd_find j vn
        refine ⟨0, 0, (n : Int), true, .nilIface, fun _ => ⟨hri, fun _ => rfl, (fun h => absurd h (by decide))⟩, hne, fun h => absurd h (by decide), fun _ => rfl, fun w => hF.2.2.2 j vn n w v1 n1 n2, isErr_nil, fun _ => ⟨by omega, by omega, fun w => ?_⟩, (fun h => absurd h (by decide)), rfl⟩
        have := rhide vn n w
        rwa [show tM (4 * hdN vn n) = tM (4 * j) from t4_congr n2] at this
theorem hideTells_by (hS : SecondIs) (hH : HideIs) (hO : OpenIs) (hF : FindIs) (w : World) (v r : Int) (c : Int × Int × Bool) (hv : (Lit.int .i64 v).wf = true) (hr : (Lit.int .i64 r).wf = true) (hd : Door w) :
    Calls Tryd.prog 4 #[.int .i64 v, .int .i64 r, .agg #[.int .i64 c.1, .int .i64 c.2.1, .bool c.2.2]] w fun e w' => e = .returned (.bool true) ∧ Below w.heap.size w w' := by
  obtain ⟨cx, cy, cf⟩ := c
  have hc : (ckI cx cy cf == 0) = false ∨ (ckI cx cy cf = 0 ∧ ∃ i, cx = ((tM i).1 : Int) ∧ cy = ((tM i).2.1 : Int) ∧ cf = (tM i).2.2) := by
    cases h : ckI cx cy cf == 0 with
    | false => exact Or.inl rfl
    | true =>
      have h0 : ckI cx cy cf = 0 := by simpa using h
      obtain ⟨k, _, h1, h2, h3⟩ := ckI_tN h0
      exact Or.inr ⟨h0, k, h1, h2, h3⟩
  obtain ⟨wx, wy, e, wf, v1, a1, a2, a3, a4, a5, a6⟩ := ht_one hH v r hv hr
  obtain ⟨g, q, v2, b1, b2, b3, b4, b5, b6, b7⟩ := ht_two hO v r cx cy wx wy e cf wf hv hr a6 hc
  obtain ⟨f1, f3, n, i, v3, c1, c2, c3, c4, c5, c6, c7, c8, c9⟩ := ht_three hF v cx cy cf hv hc
  exact htells (hd := hd) (T1 := a5) (T2 := b7) (T3 := c9) (E1 := rfl) (E2 := rfl) (E3 := rfl) (hHA := fun w => rrest v w) (hHB := fun w => rrest r w) (hHC := rfl) (hHE := a1) (hHE0 := a2) (hHH := a3) (hI1 := a4) (hHF := fun w => rspot_any cx cy cf w) (hHG := b1) (hHG0 := b2) (hHO := b3) (hI2 := b4) (hHQ := b5) (hHQ0 := b6) (hHI_ := c1) (hHI0 := c2) (hHD_ := rfl) (hHF3 := c3) (hHF0 := c4) (hHFI := c5) (hI3 := c6) (hHN := c7) (hHN0 := c8) (hHS := hS) (hHSR := rsecond)
end Go.Proofs.YtfpjdalfmfhomagDoor
