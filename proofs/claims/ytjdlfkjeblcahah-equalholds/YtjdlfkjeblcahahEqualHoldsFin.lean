/- stonelaw2.EqualHolds and stonelaw4.EqualFalse, for all numbers and spots, by what package equal is to answer. -/
import Derived.Test.YtjdlfkjeblcahahEqualHoldsBy
namespace Go.Proofs.Ytjdlfkjeblcahah
open Go.RowKit Go.Sort
set_option linter.unusedVariables false
set_option linter.unusedSimpArgs false
theorem e4_f : (tM 4).2.2 = false := by rw [tM_f]; rfl
theorem e12_f : (tM 12).2.2 = false := by rw [tM_f]; rfl
theorem dec_beq (a b : Nat) : ((a : Int) == (b : Int)) = decide (a = b) := by
  by_cases h : a = b
  · rw [h]; simp
  · rw [decide_eq_false h, beq_eq_false_iff_ne]; omega
theorem secn {v : Int} (h : secB v = true) : ∃ n : Nat, v = (n : Int) ∧ 1 ≤ n ∧ n < 1013 := by
  have := of_decide_eq_true (p := 1 ≤ v ∧ v < 1013) h
  exact ⟨v.toNat, by omega, by omega, by omega⟩
theorem ls_one (x k b : Nat) : tM (lsN 4 (epS x k b : Int) (4 * x) (epC x k b : Int)) = tM (4 * k) := by
  have := ls_k 1 x k (epC x k b) (epC_lt x k b)
  rw [Nat.mul_one] at this
  exact this
theorem ls_many (x k j : Nat) : tM (lsN (4 * j) (epS x k (4 * j) : Int) (4 * j * x) (epC x k (4 * j) : Int)) = tM (4 * j * k) := ls_k j x k (epC x k (4 * j)) (epC_lt x k (4 * j))
/-- A proof: a fault is told, or all is right. -/
theorem prove_case (hP : ProveIs) (x k x1 y1 : Int) (f1 : Bool) (hx : (Lit.int .i64 x).wf = true) (hk : (Lit.int .i64 k).wf = true) :
    (∃ c : Int, ∀ w, Calls Try.prog 11 #[.int .i64 x, .int .i64 k, .agg #[.int .i64 x1, .int .i64 y1, .bool f1]] w fun e w' => e = .returned (.tuple #[.agg #[.int .i64 0, .int .i64 0, .bool false], .agg #[.int .i64 0, .int .i64 0, .bool false], .agg #[.int .i64 0, .int .i64 0], errOf c]) ∧ Below w.heap.size w w') ∨ ((ckI x1 y1 f1 == 0) = true ∧ ∃ xn kn : Nat, x = (xn : Int) ∧ k = (kn : Int) ∧ 1 ≤ xn ∧ xn < 1013 ∧ 1 ≤ kn ∧ kn < 1013) := by
  cases ha : secB x && secB k with
  | false => exact Or.inl ⟨1, fun w => hP.1 x k x1 y1 f1 w hx hk ha⟩
  | true =>
    cases he : ckI x1 y1 f1 == 0 with
    | false => exact Or.inl ⟨_, fun w => hP.2.1 x k x1 y1 f1 w ha he⟩
    | true =>
      rw [Bool.and_eq_true] at ha
      obtain ⟨xn, e1, x1, x2⟩ := secn ha.1
      obtain ⟨kn, e2, k1, k2⟩ := secn ha.2
      exact Or.inr ⟨rfl, xn, kn, e1, e2, x1, x2, k1, k2⟩
theorem equalHolds_by (hP : ProveIs) (hV : EVerifyIs) (w : World) (x k : Int) (b : Int × Int × Bool) (hx : (Lit.int .i64 x).wf = true) (hk : (Lit.int .i64 k).wf = true) : Calls Try.prog 4 #[.int .i64 x, .int .i64 k, .agg #[.int .i64 b.1, .int .i64 b.2.1, .bool b.2.2]] w fun e w' => e = .returned (.bool true) ∧ Below w.heap.size w w' := by
  obtain ⟨x1, y1, f1⟩ := b
  have p3 : ∀ w, Calls Try.prog 11 #[.int .i64 3, .int .i64 1, .agg #[.int .i64 ((tM 4).1 : Int), .int .i64 ((tM 4).2.1 : Int), .bool (tM 4).2.2]] w fun e w' => e = .returned (.tuple #[.agg #[.int .i64 ((tM 12).1 : Int), .int .i64 ((tM 12).2.1 : Int), .bool false], .agg #[.int .i64 ((tM 12).1 : Int), .int .i64 ((tM 12).2.1 : Int), .bool false], .agg #[.int .i64 (epC 3 1 4 : Int), .int .i64 (epS 3 1 4 : Int)], .nilIface]) ∧ Below w.heap.size w w' := fun w => by
    have := hP.2.2 3 1 4 w (by omega) (by omega) (by omega) (by omega)
    rw [show 4 * 3 = 12 from rfl, e12_f] at this
    exact this
  have t3 : ∀ w, Calls Try.prog 12 #[.agg #[.int .i64 ((tM 4).1 : Int), .int .i64 ((tM 4).2.1 : Int), .bool (tM 4).2.2], .int .i64 3] w fun e w' => e = .returned (.tuple #[.agg #[.int .i64 ((tM 12).1 : Int), .int .i64 ((tM 12).2.1 : Int), .bool false], .nilIface]) ∧ Below w.heap.size w w' := fun w => by
    have := times_eq (i := 4) (n := 3) (r := tM 12) rfl w
    rwa [e12_f] at this
  have ig : ∀ w, Calls Try.prog 7 #[.agg #[.int .i64 ((tM 4).1 : Int), .int .i64 ((tM 4).2.1 : Int), .bool (tM 4).2.2]] w fun e w' => e = .returned (.tuple #[.bool true, .nilIface]) ∧ Below w.heap.size w w' := fun w => in_eq (i := 4) (by decide) w
  obtain ⟨pa, ea⟩ : ∃ pa, epC 3 1 4 = pa := ⟨_, rfl⟩
  obtain ⟨pb, eb⟩ : ∃ pb, epS 3 1 4 = pb := ⟨_, rfl⟩
  rw [ea, eb] at p3
  clear ea eb
  rcases prove_case hP x k x1 y1 f1 hx hk with ⟨c, hp⟩ | ⟨he, xn, kn, rfl, rfl, a1, a2, a3, a4⟩
  · cases hb : ckI x1 y1 f1 == 0 with
    | false => exact eholdA (w := w) (hP3 := p3) (hT3 := t3) (hIG := ig) (hIB := fun w => in_no x1 y1 f1 w hb) (hPX := hp)
    | true =>
      obtain ⟨j, _, e1, e2, e3⟩ := ckI_tN (show ckI x1 y1 f1 = 0 by simpa using hb)
      subst e1 e2 e3
      exact eholdB (w := w) (hP3 := p3) (hT3 := t3) (hIG := ig) (hIB := fun w => in_tM j w) (hPX := hp)
  · obtain ⟨j, _, e1, e2, e3⟩ := ckI_tN (show ckI x1 y1 f1 = 0 by simpa using he)
    subst e1 e2 e3
    have px := fun w => hP.2.2 xn kn j w a1 a2 a3 a4
    cases hi : farI (j * 1013) with
    | false => exact eholdC (w := w) (hP3 := p3) (hT3 := t3) (hIG := ig) (hIB := fun w => in_eq hi w) (hPX := px)
    | true =>
      obtain ⟨m, rfl⟩ : ∃ m, j = 4 * m := ⟨j / 4, by have := (farI_iff _).1 hi; omega⟩
      refine eholdD (w := w) (hP3 := p3) (hT3 := t3) (hIG := ig) (hIB := fun w => in_eq hi w) (hPX := px) (hVV := fun w => ?_) (hKX := fun w => key_yes xn w a1 a2) (hTX := fun w => times_eq (tM_em _ _) w)
      have := hV.2.2 (4 * xn) (4 * m) (4 * m * xn) (epC xn kn (4 * m)) (epS xn kn (4 * m)) w (epC_lt _ _ _) (epS_lt _ _ _)
      have key : eaN (4 * xn) (4 * m) (4 * m * xn) (lsN 4 (epS xn kn (4 * m) : Int) (4 * xn) (epC xn kn (4 * m) : Int)) (lsN (4 * m) (epS xn kn (4 * m) : Int) (4 * m * xn) (epC xn kn (4 * m) : Int)) = epC xn kn (4 * m) := ea_congr rfl rfl rfl (ls_one xn kn (4 * m)) (ls_many xn kn m)
      rwa [decide_eq_true key] at this
theorem equalFalse_by (hA : EAskIs) (hP : ProveIs) (hV : EVerifyIs) (w : World) (x k : Int) (b : Int × Int × Bool) (hx : (Lit.int .i64 x).wf = true) (hk : (Lit.int .i64 k).wf = true) : Calls Try.prog 5 #[.int .i64 x, .int .i64 k, .agg #[.int .i64 b.1, .int .i64 b.2.1, .bool b.2.2]] w fun e w' => e = .returned (.bool true) ∧ Below w.heap.size w w' := by
  obtain ⟨x1, y1, f1⟩ := b
  have p1 : ∀ w, Calls Try.prog 11 #[.int .i64 1, .int .i64 1, .agg #[.int .i64 ((tM 4).1 : Int), .int .i64 ((tM 4).2.1 : Int), .bool false]] w fun e w' => e = .returned (.tuple #[.agg #[.int .i64 ((tM 4).1 : Int), .int .i64 ((tM 4).2.1 : Int), .bool false], .agg #[.int .i64 ((tM 4).1 : Int), .int .i64 ((tM 4).2.1 : Int), .bool false], .agg #[.int .i64 (epC 1 1 4 : Int), .int .i64 (epS 1 1 4 : Int)], .nilIface]) ∧ Below w.heap.size w w' := fun w => by
    have := hP.2.2 1 1 4 w (by omega) (by omega) (by omega) (by omega)
    rw [show 4 * 1 = 4 from rfl, e4_f] at this
    exact this
  obtain ⟨pa, ea⟩ : ∃ pa, epC 1 1 4 = pa := ⟨_, rfl⟩
  obtain ⟨pb, eb⟩ : ∃ pb, epS 1 1 4 = pb := ⟨_, rfl⟩
  rw [ea, eb] at p1
  clear ea eb
  have ib : ∃ (q : Bool) (v : Value), (∀ w, Calls Try.prog 7 #[.agg #[.int .i64 x1, .int .i64 y1, .bool f1]] w fun e w' => e = .returned (.tuple #[.bool q, v]) ∧ Below w.heap.size w w') ∧ ((∃ c, v = errOf c) ∨ (v = .nilIface ∧ q = false) ∨ (v = .nilIface ∧ q = true ∧ ∃ m, x1 = ((tM (4 * m)).1 : Int) ∧ y1 = ((tM (4 * m)).2.1 : Int) ∧ f1 = (tM (4 * m)).2.2)) := by
    cases hb : ckI x1 y1 f1 == 0 with
    | false => exact ⟨_, _, fun w => in_no x1 y1 f1 w hb, Or.inl ⟨_, rfl⟩⟩
    | true =>
      obtain ⟨j, _, e1, e2, e3⟩ := ckI_tN (show ckI x1 y1 f1 = 0 by simpa using hb)
      subst e1 e2 e3
      cases hi : farI (j * 1013) with
      | false => exact ⟨_, _, fun w => in_eq hi w, Or.inr (Or.inl ⟨rfl, rfl⟩)⟩
      | true =>
        obtain ⟨m, rfl⟩ : ∃ m, j = 4 * m := ⟨j / 4, by have := (farI_iff _).1 hi; omega⟩
        exact ⟨_, _, fun w => in_eq hi w, Or.inr (Or.inr ⟨rfl, rfl, m, rfl, rfl, rfl⟩)⟩
  obtain ⟨q, v, ib, hv⟩ := ib
  rcases prove_case hP x k ((tM 4).1 : Int) ((tM 4).2.1 : Int) false hx hk with ⟨c, hp⟩ | ⟨_, xn, kn, rfl, rfl, a1, a2, a3, a4⟩
  · exact efalseA (w := w) (hP1 := p1) (hIB := ib) (hPX := hp)
  · have px := fun w => hP.2.2 xn kn 4 w a1 a2 a3 a4
    rw [e4_f] at px
    rcases hv with ⟨c, rfl⟩ | ⟨rfl, rfl⟩ | ⟨rfl, rfl, m, e1, e2, e3⟩
    · exact efalseB (w := w) (hP1 := p1) (hIB := ib) (hPX := px)
    · exact efalseC (w := w) (hP1 := p1) (hIB := ib) (hPX := px)
    · subst e1 e2 e3
      have vv := fun w => hV.2.2 (4 * xn) 4 (4 * m) (epC xn kn 4) (epS xn kn 4) w (epC_lt _ _ _) (epS_lt _ _ _)
      have ts := fun w => times_eq (i := 4) (n := (epS xn kn 4 : Int)) (r := tM (4 * em (epS xn kn 4 : Int))) rfl w
      have hq := dec_beq (eaN (4 * xn) 4 (4 * m) (4 * kn) (lsN 4 (epS xn kn 4 : Int) (4 * m) (epC xn kn 4 : Int))) (epC xn kn 4)
      have ea2 := fun w => hA.2 (4 * xn) 4 (4 * m) (4 * kn) (lsN 4 (epS xn kn 4 : Int) (4 * m) (epC xn kn 4 : Int)) w
      rw [ea_congr rfl rfl rfl (ls_one xn kn 4) rfl] at vv
      rw [e4_f] at vv ts ea2
      refine efalseD (w := w) (hc0 := by omega) (hc1 := by have := epC_lt xn kn 4; omega) (hq := hq) (hP1 := p1) (hIB := ib) (hPX := px) (hVV := vv) (hKX := fun w => key_yes kn w a3 a4) (hTS := ts) (hTC := fun w => times_eq (i := 4 * m) (n := -(epC xn kn 4 : Int)) (r := tM (4 * m * em (-(epC xn kn 4 : Int)))) rfl w) (hAD := fun w => ?_) (hEA := ea2)
      exact cadd_tM (4 * em (epS xn kn 4 : Int)) (4 * m * em (-(epC xn kn 4 : Int))) w
end Go.Proofs.Ytjdlfkjeblcahah
