/- stonelaw2.EqualTells answers true, by what package equal is to answer. -/
import Derived.Test.YtjdlfkjeblcahahDoorEqualIs
import Derived.Test.YtjdlfkjeblcahahDoorEqualTellsL
import Derived.Test.YtjdlfkjeblcahahDoorRefEqual
import Derived.Test.YtjdlfkjeblcahahDoorRefSec
import Derived.Test.YtjdlfkjeblcahahDoorRefBy
import Derived.Test.YtjdlfkjeblcahahDoorShell
namespace Go.Proofs.YtjdlfkjeblcahahDoor
open Go.RowKit Go.Sort
set_option linter.unusedVariables false
set_option linter.unusedSimpArgs false
theorem etold_it (e : Int) : (toldI (errOf e) == e) = true := by rw [toldI_err]; simp
theorem sec_nat {v : Int} (h : secB v = true) : ∃ n : Nat, v = (n : Int) ∧ 1 ≤ n ∧ n < 1013 := by
  have := of_decide_eq_true (p := 1 ≤ v ∧ v < 1013) h
  exact ⟨v.toNat, by omega, by omega, by omega⟩
theorem eres_nat {v : Int} (h : resB v = true) : ∃ n : Nat, v = (n : Int) ∧ n < 1013 := by
  have := of_decide_eq_true (p := 0 ≤ v ∧ v < 1013) h
  exact ⟨v.toNat, by omega, by omega⟩
theorem beq_dec (a b : Nat) : ((a : Int) == (b : Int)) = decide (a = b) := by
  by_cases h : a = b
  · rw [h]; simp
  · rw [decide_eq_false h, beq_eq_false_iff_ne]; omega
theorem et_one (hA : EAskIs) (xa ya xb yb xc yc xr yr xs ys : Int) (fa fb fc fr fs : Bool) : ∃ (n e1 : Int) (v1 : Value), (∀ W b, RowO W b 0 5 (fiveR xa xb xc xr xs) (fiveR ya yb yc yr ys) (fiveR fa fb fc fr fs) → Calls Tryd.prog 4 #[.slice (some ⟨b, 0, none⟩) 5 5] W fun ex w' => ex = .returned (.int .i64 e1) ∧ Below W.heap.size W w') ∧ ((e1 == 0) = true → ∀ w, Calls Tryd.prog 5 #[.agg #[.int .i64 xa, .int .i64 ya, .bool fa], .agg #[.int .i64 xb, .int .i64 yb, .bool fb], .agg #[.int .i64 xc, .int .i64 yc, .bool fc], .agg #[.int .i64 xr, .int .i64 yr, .bool fr], .agg #[.int .i64 xs, .int .i64 ys, .bool fs]] w fun ex w' => ex = .returned (.int .i64 n) ∧ Below w.heap.size w w') ∧ ((e1 == 0) = false → n = 0) ∧ (∀ w, Calls Tryd.prog 6 #[.agg #[.int .i64 xa, .int .i64 ya, .bool fa], .agg #[.int .i64 xb, .int .i64 yb, .bool fb], .agg #[.int .i64 xc, .int .i64 yc, .bool fc], .agg #[.int .i64 xr, .int .i64 yr, .bool fr], .agg #[.int .i64 xs, .int .i64 ys, .bool fs]] w fun ex w' => ex = .returned (.tuple #[.int .i64 n, v1]) ∧ Below w.heap.size w w') ∧ (IsErr v1) ∧ (toldI v1 == e1) = true := by
  have hl : ∀ W b, RowO W b 0 5 (fiveR xa xb xc xr xs) (fiveR ya yb yc yr ys) (fiveR fa fb fc fr fs) → Calls Tryd.prog 4 #[.slice (some ⟨b, 0, none⟩) 5 5] W fun ex w' => ex = .returned (.int .i64 (rowE (fiveR xa xb xc xr xs) (fiveR ya yb yc yr ys) (fiveR fa fb fc fr fs) 5)) ∧ Below W.heap.size W w' := fun W b hr => rspots_row b 0 5 5 _ _ _ W (by omega) hr
  cases he : (rowE (fiveR xa xb xc xr xs) (fiveR ya yb yc yr ys) (fiveR fa fb fc fr fs) 5) == 0 with
  | false => exact ⟨0, _, errOf _, hl, (fun h => absurd (he.symm.trans h) (by decide)), fun _ => rfl, fun w => hA.1 xa ya xb yb xc yc xr yr xs ys fa fb fc fr fs w he, isErr_err _, etold_it _⟩
  | true =>
    have h0 : (rowE (fiveR xa xb xc xr xs) (fiveR ya yb yc yr ys) (fiveR fa fb fc fr fs) 5) = 0 := by simpa using he
    obtain ⟨K, hK⟩ := row_tM h0
    rw [h0] at hl
    obtain ⟨rxa, rya, rfa⟩ : xa = ((tM (K 0)).1 : Int) ∧ ya = ((tM (K 0)).2.1 : Int) ∧ fa = (tM (K 0)).2.2 := hK 0 (by omega)
    subst rxa rya rfa
    obtain ⟨rxb, ryb, rfb⟩ : xb = ((tM (K 1)).1 : Int) ∧ yb = ((tM (K 1)).2.1 : Int) ∧ fb = (tM (K 1)).2.2 := hK 1 (by omega)
    subst rxb ryb rfb
    obtain ⟨rxc, ryc, rfc⟩ : xc = ((tM (K 2)).1 : Int) ∧ yc = ((tM (K 2)).2.1 : Int) ∧ fc = (tM (K 2)).2.2 := hK 2 (by omega)
    subst rxc ryc rfc
    obtain ⟨rxr, ryr, rfr⟩ : xr = ((tM (K 3)).1 : Int) ∧ yr = ((tM (K 3)).2.1 : Int) ∧ fr = (tM (K 3)).2.2 := hK 3 (by omega)
    subst rxr ryr rfr
    obtain ⟨rxs, rys, rfs⟩ : xs = ((tM (K 4)).1 : Int) ∧ ys = ((tM (K 4)).2.1 : Int) ∧ fs = (tM (K 4)).2.2 := hK 4 (by omega)
    subst rxs rys rfs
    exact ⟨_, 0, .nilIface, hl, fun _ w => rea_tM (K 0) (K 1) (K 2) (K 3) (K 4) w, (fun h => absurd h (by decide)), fun w => hA.2 (K 0) (K 1) (K 2) (K 3) (K 4) w, isErr_nil, rfl⟩
theorem et_two (hP : ProveIs) (x k : Int) (xb yb : Int) (fb : Bool) (hx : (Lit.int .i64 x).wf = true) (hk : (Lit.int .i64 k).wf = true) : ∃ (ux uy vx vy mx my nx ny q1 q2 e2 : Int) (uf vf mf nf : Bool) (v2 : Value), ((!secB x || !secB k) = false → ∀ w, Calls Tryd.prog 9 #[.agg #[.int .i64 xb, .int .i64 yb, .bool fb]] w fun ex w' => ex = .returned (.int .i64 e2) ∧ Below w.heap.size w w') ∧ ((!secB x || !secB k) = true → e2 = 1) ∧ ((e2 == 0) = true → (∀ w, Calls Tryd.prog 10 #[.int .i64 x] w fun ex w' => ex = .returned (.agg #[.int .i64 ux, .int .i64 uy, .bool uf]) ∧ Below w.heap.size w w') ∧ (∀ w, Calls Tryd.prog 11 #[.agg #[.int .i64 xb, .int .i64 yb, .bool fb], .int .i64 x] w fun ex w' => ex = .returned (.agg #[.int .i64 vx, .int .i64 vy, .bool vf]) ∧ Below w.heap.size w w') ∧ (∀ w, Calls Tryd.prog 10 #[.int .i64 k] w fun ex w' => ex = .returned (.agg #[.int .i64 mx, .int .i64 my, .bool mf]) ∧ Below w.heap.size w w') ∧ (∀ w, Calls Tryd.prog 11 #[.agg #[.int .i64 xb, .int .i64 yb, .bool fb], .int .i64 k] w fun ex w' => ex = .returned (.agg #[.int .i64 nx, .int .i64 ny, .bool nf]) ∧ Below w.heap.size w w') ∧ (∀ w, Calls Tryd.prog 5 #[.agg #[.int .i64 ux, .int .i64 uy, .bool uf], .agg #[.int .i64 xb, .int .i64 yb, .bool fb], .agg #[.int .i64 vx, .int .i64 vy, .bool vf], .agg #[.int .i64 mx, .int .i64 my, .bool mf], .agg #[.int .i64 nx, .int .i64 ny, .bool nf]] w fun ex w' => ex = .returned (.int .i64 q1) ∧ Below w.heap.size w w') ∧ (k + q1 * x) % 1013 = q2 ∧ 0 ≤ k ∧ k < 1013 ∧ 0 ≤ q1 * x ∧ q1 * x ≤ 1100000) ∧ ((e2 == 0) = false → ux = 0 ∧ uy = 0 ∧ uf = false ∧ vx = 0 ∧ vy = 0 ∧ vf = false ∧ q1 = 0 ∧ q2 = 0) ∧ (∀ w, Calls Tryd.prog 12 #[.int .i64 x, .int .i64 k, .agg #[.int .i64 xb, .int .i64 yb, .bool fb]] w fun ex w' => ex = .returned (.tuple #[.agg #[.int .i64 ux, .int .i64 uy, .bool uf], .agg #[.int .i64 vx, .int .i64 vy, .bool vf], .agg #[.int .i64 q1, .int .i64 q2], v2]) ∧ Below w.heap.size w w') ∧ (IsErr v2) ∧ (toldI v2 == e2) = true := by
  cases ha : secB x && secB k with
  | false =>
    have hc : (!secB x || !secB k) = true := by rw [← Bool.not_and, ha]; rfl
    exact ⟨0, 0, 0, 0, 0, 0, 0, 0, 0, 0, 1, false, false, false, false, errOf 1, (fun h => absurd (hc.symm.trans h) (by decide)), fun _ => rfl, (fun h => absurd h (by decide)), fun _ => ⟨rfl, rfl, rfl, rfl, rfl, rfl, rfl, rfl⟩, fun w => hP.1 x k xb yb fb w hx hk ha, isErr_err 1, etold_it 1⟩
  | true =>
    have hc : (!secB x || !secB k) = false := by rw [← Bool.not_and, ha]; rfl
    cases he : ckI xb yb fb == 0 with
    | false => exact ⟨0, 0, 0, 0, 0, 0, 0, 0, 0, 0, ckI xb yb fb, false, false, false, false, errOf (ckI xb yb fb), fun _ w => rspot_any xb yb fb w, (fun h => absurd (hc.symm.trans h) (by decide)), (fun h => absurd (he.symm.trans h) (by decide)), fun _ => ⟨rfl, rfl, rfl, rfl, rfl, rfl, rfl, rfl⟩, fun w => hP.2.1 x k xb yb fb w ha he, isErr_err _, etold_it _⟩
    | true =>
      have h0 : ckI xb yb fb = 0 := by simpa using he
      obtain ⟨j, _, e1, e2, e3⟩ := ckI_tN h0
      subst e1 e2 e3
      rw [Bool.and_eq_true] at ha
      obtain ⟨x, rfl, x1, x2⟩ := sec_nat ha.1
      obtain ⟨k, rfl, k1, k2⟩ := sec_nat ha.2
      have hl := epC_lt x k j
      obtain ⟨b1, b2⟩ := sg_bd hl x2 x2
      refine ⟨((tM (4 * x)).1 : Int), ((tM (4 * x)).2.1 : Int), ((tM (j * x)).1 : Int), ((tM (j * x)).2.1 : Int), ((tM (4 * k)).1 : Int), ((tM (4 * k)).2.1 : Int), ((tM (j * k)).1 : Int), ((tM (j * k)).2.1 : Int), (epC x k j : Int), (epS x k j : Int), 0, (tM (4 * x)).2.2, (tM (j * x)).2.2, (tM (4 * k)).2.2, (tM (j * k)).2.2, .nilIface, fun _ w => ?_, (fun h => absurd (hc.symm.trans h) (by decide)), fun _ => ⟨fun w => rby_eq (tM_em 4 x) w, fun w => rtimes_eq (tM_em j x) w, fun w => rby_eq (tM_em 4 k) w, fun w => rtimes_eq (tM_em j k) w, fun w => rea_tM (4 * x) j (j * x) (4 * k) (j * k) w, ?_, by omega, by omega, b2, b1⟩, (fun h => absurd h (by decide)), fun w => hP.2.2 x k j w x1 x2 k1 k2, isErr_nil, rfl⟩
      · have := rspot_any ((tM j).1 : Int) ((tM j).2.1 : Int) (tM j).2.2 w
        rwa [h0] at this
      · unfold epS
        rw [Int.natCast_emod, Int.natCast_add, Int.natCast_mul]
        rfl
theorem et_three (hV : EVerifyIs) (xa ya xb yb xc yc : Int) (fa fb fc : Bool) (pc ps : Int) (hc : (Lit.int .i64 pc).wf = true) (hs : (Lit.int .i64 ps).wf = true) : ∃ (e3 e4 : Int) (q : Bool) (v3 : Value), (∀ W b, RowO W b 0 3 (threeR xa xb xc) (threeR ya yb yc) (threeR fa fb fc) → Calls Tryd.prog 4 #[.slice (some ⟨b, 0, none⟩) 3 3] W fun ex w' => ex = .returned (.int .i64 e3) ∧ Below W.heap.size W w') ∧ (((e3 == 0) && (!resB pc || !resB ps)) = true → e4 = 1) ∧ (((e3 == 0) && (!resB pc || !resB ps)) = false → e4 = e3) ∧ ((e4 == 0) = true → ∀ w, Calls Tryd.prog 14 #[.agg #[.int .i64 xa, .int .i64 ya, .bool fa], .agg #[.int .i64 xb, .int .i64 yb, .bool fb], .agg #[.int .i64 xc, .int .i64 yc, .bool fc], .agg #[.int .i64 pc, .int .i64 ps]] w fun ex w' => ex = .returned (.bool q) ∧ Below w.heap.size w w') ∧ ((e4 == 0) = false → q = false) ∧ (∀ w, Calls Tryd.prog 15 #[.agg #[.int .i64 xa, .int .i64 ya, .bool fa], .agg #[.int .i64 xb, .int .i64 yb, .bool fb], .agg #[.int .i64 xc, .int .i64 yc, .bool fc], .agg #[.int .i64 pc, .int .i64 ps]] w fun ex w' => ex = .returned (.tuple #[.bool q, v3]) ∧ Below w.heap.size w w') ∧ (IsErr v3) ∧ (toldI v3 == e4) = true := by
  have hl : ∀ W b, RowO W b 0 3 (threeR xa xb xc) (threeR ya yb yc) (threeR fa fb fc) → Calls Tryd.prog 4 #[.slice (some ⟨b, 0, none⟩) 3 3] W fun ex w' => ex = .returned (.int .i64 (rowE (threeR xa xb xc) (threeR ya yb yc) (threeR fa fb fc) 3)) ∧ Below W.heap.size W w' := fun W b hr => rspots_row b 0 3 3 _ _ _ W (by omega) hr
  cases he : (rowE (threeR xa xb xc) (threeR ya yb yc) (threeR fa fb fc) 3) == 0 with
  | false => exact ⟨_, _, false, errOf _, hl, fun h => absurd h (by rw [he]; simp), fun _ => rfl, (fun h => absurd (he.symm.trans h) (by decide)), fun _ => rfl, fun w => hV.1 xa ya xb yb xc yc fa fb fc pc ps w hc hs he, isErr_err _, etold_it _⟩
  | true =>
    have h0 : (rowE (threeR xa xb xc) (threeR ya yb yc) (threeR fa fb fc) 3) = 0 := by simpa using he
    obtain ⟨K, hK⟩ := row_tM h0
    rw [h0] at hl
    obtain ⟨rxa, rya, rfa⟩ : xa = ((tM (K 0)).1 : Int) ∧ ya = ((tM (K 0)).2.1 : Int) ∧ fa = (tM (K 0)).2.2 := hK 0 (by omega)
    subst rxa rya rfa
    obtain ⟨rxb, ryb, rfb⟩ : xb = ((tM (K 1)).1 : Int) ∧ yb = ((tM (K 1)).2.1 : Int) ∧ fb = (tM (K 1)).2.2 := hK 1 (by omega)
    subst rxb ryb rfb
    obtain ⟨rxc, ryc, rfc⟩ : xc = ((tM (K 2)).1 : Int) ∧ yc = ((tM (K 2)).2.1 : Int) ∧ fc = (tM (K 2)).2.2 := hK 2 (by omega)
    subst rxc ryc rfc
    cases ha : resB pc && resB ps with
    | false =>
      have hd : (((0 : Int) == 0) && (!resB pc || !resB ps)) = true := by rw [← Bool.not_and, ha]; rfl
      exact ⟨0, 1, false, errOf 1, hl, fun _ => rfl, fun h => absurd (hd.symm.trans h) (by decide), (fun h => absurd h (by decide)), fun _ => rfl, fun w => hV.2.1 (K 0) (K 1) (K 2) pc ps w hc hs ha, isErr_err 1, etold_it 1⟩
    | true =>
      have hd : (((0 : Int) == 0) && (!resB pc || !resB ps)) = false := by rw [← Bool.not_and, ha]; rfl
      rw [Bool.and_eq_true] at ha
      obtain ⟨C, rfl, c1⟩ := eres_nat ha.1
      obtain ⟨S, rfl, s1⟩ := eres_nat ha.2
      exact ⟨0, 0, _, .nilIface, hl, fun h => absurd (hd.symm.trans h) (by decide), fun _ => rfl, fun _ w => rright (K 0) (K 1) (K 2) C S _ w c1 s1 (beq_dec _ _), (fun h => absurd h (by decide)), fun w => hV.2.2 (K 0) (K 1) (K 2) C S w c1 s1, isErr_nil, rfl⟩
theorem equalTells_by (hA : EAskIs) (hP : ProveIs) (hV : EVerifyIs) (w : World) (x k : Int) (a b c r s : Int × Int × Bool) (p : Int × Int) (hx : (Lit.int .i64 x).wf = true) (hk : (Lit.int .i64 k).wf = true) (hc : (Lit.int .i64 p.1).wf = true) (hs : (Lit.int .i64 p.2).wf = true) (hd : Door w) :
    Calls Tryd.prog 3 #[.int .i64 x, .int .i64 k, .agg #[.int .i64 a.1, .int .i64 a.2.1, .bool a.2.2], .agg #[.int .i64 b.1, .int .i64 b.2.1, .bool b.2.2], .agg #[.int .i64 c.1, .int .i64 c.2.1, .bool c.2.2], .agg #[.int .i64 r.1, .int .i64 r.2.1, .bool r.2.2], .agg #[.int .i64 s.1, .int .i64 s.2.1, .bool s.2.2], .agg #[.int .i64 p.1, .int .i64 p.2]] w fun e w' => e = .returned (.bool true) ∧ Below w.heap.size w w' := by
  obtain ⟨xa, ya, fa⟩ := a
  obtain ⟨xb, yb, fb⟩ := b
  obtain ⟨xc, yc, fc⟩ := c
  obtain ⟨xr, yr, fr⟩ := r
  obtain ⟨xs, ys, fs⟩ := s
  obtain ⟨pc, ps⟩ := p
  obtain ⟨n, e1, v1, a1, a2, a3, a4, a5, a6⟩ := et_one hA xa ya xb yb xc yc xr yr xs ys fa fb fc fr fs
  obtain ⟨ux, uy, vx, vy, mx, my, nx, ny, q1, q2, e2, uf, vf, mf, nf, v2, b1, b2, b3, b4, b5, b6, b7⟩ := et_two hP x k xb yb fb hx hk
  obtain ⟨e3, e4, q, v3, c1, c2, c3, c4, c5, c6, c7, c8⟩ := et_three hV xa ya xb yb xc yc fa fb fc pc ps hc hs
  exact etells (hd := hd) (T1 := a6) (T2 := b7) (T3 := c8) (hHL5 := a1) (hHA := a2) (hHA0 := a3) (hHK := a4) (hI1 := a5) (hHX := fun w => rsecret x w) (hHZ := fun w => rsecret k w) (hHC := rfl) (hHE := b1) (hHE0 := b2) (hHQ := b3) (hHQ0 := b4) (hHP := b5) (hI2 := b6) (hHL3 := c1) (hHRC := fun w => rrest pc w) (hHRS := fun w => rrest ps w) (hHD_ := rfl) (hHD1 := c2) (hHD0 := c3) (hHR := c4) (hHR0 := c5) (hHV := c6) (hI3 := c7)
end Go.Proofs.YtjdlfkjeblcahahDoor
