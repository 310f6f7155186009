/- stonelaw3.AdaptTells answers true, by what package adapt is to answer. -/
import Derived.Test.YtmijjjdedadklaiDoorAdaptIs
import Derived.Test.YtmijjjdedadklaiDoorAdaptTellsL
import Derived.Test.YtmijjjdedadklaiDoorRefSeal
import Derived.Test.YtmijjjdedadklaiDoorShell
namespace Go.Proofs.YtmijjjdedadklaiDoor
open Go.RowKit Go.Sort
set_option linter.unusedVariables false
set_option linter.unusedSimpArgs false
theorem atold_it (e : Int) : (toldI (errOf e) == e) = true := by rw [toldI_err]; simp
theorem asec_nat {v : Int} (h : secB v = true) : ∃ n : Nat, v = (n : Int) ∧ 1 ≤ n ∧ n < 1013 := by
  have := of_decide_eq_true (p := 1 ≤ v ∧ v < 1013) h
  exact ⟨v.toNat, by omega, by omega, by omega⟩
theorem ares_nat {v : Int} (h : resB v = true) : ∃ n : Nat, v = (n : Int) ∧ n < 1013 := by
  have := of_decide_eq_true (p := 0 ≤ v ∧ v < 1013) h
  exact ⟨v.toNat, by omega, by omega⟩
theorem abif_no {e : Int} (b : Bool) (v : Int) (h : (e == 0) = false) : e = bif (e == 0 && b) then v else e := by rw [h]; rfl
theorem asum_em {k j : Nat} (h : k < 1013) : tM (4 * em (k : Int) + j * em 1) = tM (4 * k + j) := by
  rw [em_nat h, show em 1 = 1 by decide, Nat.mul_one]
theorem at_one (hP : APreIs) (x k tx ty : Int) (tf : Bool) (t : ByteArray) (ht : t.size ≤ 9223372036854775807) : ∃ (e1a e1 ux uy vx vy c wS : Int) (uf vf : Bool) (v1 : Value), ((!secB x || !secB k) = false → e1a = (ckI tx ty tf)) ∧ ((!secB x || !secB k) = true → e1a = 1) ∧ (e1 = bif (e1a == 0 && (decide ((t.size : Int) > 60))) then 4 else e1a) ∧ ((e1 == 0) = true → (∀ w, Calls Tryd.prog 14 #[.int .i64 k, .int .i64 1, .agg #[.int .i64 tx, .int .i64 ty, .bool tf]] w fun ex w' => ex = .returned (.agg #[.int .i64 ux, .int .i64 uy, .bool uf]) ∧ Below w.heap.size w w') ∧ (∀ w, Calls Tryd.prog 16 #[.int .i64 x] w fun ex w' => ex = .returned (.agg #[.int .i64 vx, .int .i64 vy, .bool vf]) ∧ Below w.heap.size w w') ∧ (∀ w, Calls Tryd.prog 15 #[.agg #[.int .i64 ux, .int .i64 uy, .bool uf], .agg #[.int .i64 vx, .int .i64 vy, .bool vf], .string t] w fun ex w' => ex = .returned (.int .i64 c) ∧ Below w.heap.size w w') ∧ (k + c * x) % 1013 = wS ∧ 0 ≤ k ∧ k < 1013 ∧ 0 ≤ c * x ∧ c * x ≤ 1100000) ∧ ((e1 == 0) = false → ux = 0 ∧ uy = 0 ∧ uf = false ∧ wS = 0) ∧ (∀ w, Calls Tryd.prog 17 #[.int .i64 x, .int .i64 k, .agg #[.int .i64 tx, .int .i64 ty, .bool tf], .string t] w fun ex w' => ex = .returned (.tuple #[.agg #[.int .i64 ux, .int .i64 uy, .bool uf, .int .i64 wS], v1]) ∧ Below w.heap.size w w') ∧ (IsErr v1) ∧ (toldI v1 == e1) = true := by
  cases ha : secB x && secB k with
  | false =>
    have hc : (!secB x || !secB k) = true := by rw [← Bool.not_and, ha]; rfl
    exact ⟨1, 1, 0, 0, 0, 0, 0, 0, false, false, errOf 1, (fun h => absurd (hc.symm.trans h) (by decide)), fun _ => rfl, rfl, (fun h => absurd h (by decide)), fun _ => ⟨rfl, rfl, rfl, rfl⟩, fun w => hP.1 x k tx ty tf t w ht ha, isErr_err 1, atold_it 1⟩
  | true =>
    have hc : (!secB x || !secB k) = false := by rw [← Bool.not_and, ha]; rfl
    rw [Bool.and_eq_true] at ha
    obtain ⟨x, rfl, x1, x2⟩ := asec_nat ha.1
    obtain ⟨k, rfl, k1, k2⟩ := asec_nat ha.2
    cases he : ckI tx ty tf == 0 with
    | false => exact ⟨ckI tx ty tf, ckI tx ty tf, 0, 0, 0, 0, 0, 0, false, false, errOf (ckI tx ty tf), fun _ => rfl, (fun h => absurd (hc.symm.trans h) (by decide)), abif_no _ _ he, (fun h => absurd (he.symm.trans h) (by decide)), fun _ => ⟨rfl, rfl, rfl, rfl⟩, fun w => hP.2.1 x k tx ty tf t w ht x1 x2 k1 k2 he, isErr_err _, atold_it _⟩
    | true =>
      have h0 : ckI tx ty tf = 0 := by simpa using he
      obtain ⟨j, _, q0, q1, q2⟩ := ckI_tN h0
      subst q0 q1 q2
      by_cases h60 : 60 < t.size
      · have hb : decide ((t.size : Int) > 60) = true := decide_eq_true (by omega)
        exact ⟨0, 4, 0, 0, 0, 0, 0, 0, false, false, errOf 4, fun _ => h0.symm, (fun h => absurd (hc.symm.trans h) (by decide)), by rw [hb]; rfl, (fun h => absurd h (by decide)), fun _ => ⟨rfl, rfl, rfl, rfl⟩, fun w => hP.2.2.1 x k j t w ht x1 x2 k1 k2 h60, isErr_err 4, atold_it 4⟩
      · have hb : decide ((t.size : Int) > 60) = false := decide_eq_false (by omega)
        have hl := askN_lt (4 * k + j) (4 * x) t
        obtain ⟨b1, b2⟩ := sg_bd hl x2 x2
        exact ⟨0, 0, ((tM (4 * k + j)).1 : Int), ((tM (4 * k + j)).2.1 : Int), ((tM (4 * x)).1 : Int), ((tM (4 * x)).2.1 : Int), (askN (4 * k + j) (4 * x) t : Int), (apN x k j t : Int), (tM (4 * k + j)).2.2, (tM (4 * x)).2.2, .nilIface, fun _ => h0.symm, (fun h => absurd (hc.symm.trans h) (by decide)), by rw [hb]; rfl,
          fun _ => ⟨fun w => rsum_eq (asum_em k2) w, fun w => rby_eq (tM_em 4 x) w, fun w => rask_tM (4 * k + j) (4 * x) t w (by omega), apI x k j t, by omega, by omega, b2, b1⟩, (fun h => absurd h (by decide)), fun w => hP.2.2.2 x k j t w x1 x2 k1 k2 (by omega), isErr_nil, rfl⟩
theorem at_two (hC : ACheckIs) (kx ky px py pS tx ty : Int) (kf pf tf : Bool) (t : ByteArray) (ht : t.size ≤ 9223372036854775807) (ws : (Lit.int .i64 pS).wf = true) : ∃ (e2a e2 : Int) (q : Bool) (v2 : Value), (∀ w, Calls Tryd.prog 18 #[.agg #[.int .i64 kx, .int .i64 ky, .bool kf], .string t, .agg #[.int .i64 px, .int .i64 py, .bool pf, .int .i64 pS]] w fun ex w' => ex = .returned (.int .i64 e2a) ∧ Below w.heap.size w w') ∧ ((e2a == 0) = true → e2 = (ckI tx ty tf)) ∧ ((e2a == 0) = false → e2 = e2a) ∧ ((e2 == 0) = true → ∀ w, Calls Tryd.prog 19 #[.agg #[.int .i64 kx, .int .i64 ky, .bool kf], .string t, .agg #[.int .i64 px, .int .i64 py, .bool pf, .int .i64 pS], .agg #[.int .i64 tx, .int .i64 ty, .bool tf]] w fun ex w' => ex = .returned (.bool q) ∧ Below w.heap.size w w') ∧ ((e2 == 0) = false → q = false) ∧ (∀ w, Calls Tryd.prog 20 #[.agg #[.int .i64 kx, .int .i64 ky, .bool kf], .agg #[.int .i64 tx, .int .i64 ty, .bool tf], .string t, .agg #[.int .i64 px, .int .i64 py, .bool pf, .int .i64 pS]] w fun ex w' => ex = .returned (.tuple #[.bool q, v2]) ∧ Below w.heap.size w w') ∧ (IsErr v2) ∧ (toldI v2 == e2) = true := by
  by_cases h60 : 60 < t.size
  · exact ⟨4, 4, false, errOf 4, fun w => rseal_full kx ky px py pS kf pf t w h60 ht, (fun h => absurd h (by decide)), fun _ => rfl, (fun h => absurd h (by decide)), fun _ => rfl, fun w => hC.1 kx ky px py tx ty pS kf pf tf t w h60 ht, isErr_err 4, atold_it 4⟩
  have h6 : t.size ≤ 60 := by omega
  cases hk : ckI kx ky kf == 0 with
  | false => exact ⟨ckI kx ky kf, ckI kx ky kf, false, errOf (ckI kx ky kf), fun w => rseal_key kx ky px py pS kf pf t w h6 hk, (fun h => absurd (hk.symm.trans h) (by decide)), fun _ => rfl, (fun h => absurd (hk.symm.trans h) (by decide)), fun _ => rfl, fun w => hC.2.1 kx ky px py tx ty pS kf pf tf t w h6 hk, isErr_err _, atold_it _⟩
  | true =>
    have k0 : ckI kx ky kf = 0 := by simpa using hk
    cases hp : ckI px py pf == 0 with
    | false => exact ⟨ckI px py pf, ckI px py pf, false, errOf (ckI px py pf), fun w => rseal_r kx ky px py pS kf pf t w h6 k0 hp, (fun h => absurd (hp.symm.trans h) (by decide)), fun _ => rfl, (fun h => absurd (hp.symm.trans h) (by decide)), fun _ => rfl, fun w => hC.2.2.1 kx ky px py tx ty pS kf pf tf t w h6 k0 hp, isErr_err _, atold_it _⟩
    | true =>
      have p0 : ckI px py pf = 0 := by simpa using hp
      cases hs : resB pS with
      | false => exact ⟨1, 1, false, errOf 1, fun w => rseal_s kx ky px py pS kf pf t w h6 k0 p0 hs, (fun h => absurd h (by decide)), fun _ => rfl, (fun h => absurd h (by decide)), fun _ => rfl, fun w => hC.2.2.2.1 kx ky px py tx ty pS kf pf tf t w h6 k0 p0 ws hs, isErr_err 1, atold_it 1⟩
      | true =>
        cases he : ckI tx ty tf == 0 with
        | false => exact ⟨0, ckI tx ty tf, false, errOf (ckI tx ty tf), fun w => rseal_ok kx ky px py pS kf pf t w h6 k0 p0 hs, fun _ => rfl, (fun h => absurd h (by decide)), (fun h => absurd (he.symm.trans h) (by decide)), fun _ => rfl, fun w => hC.2.2.2.2.1 kx ky px py tx ty pS kf pf tf t w h6 k0 p0 hs he, isErr_err _, atold_it _⟩
        | true =>
          have h0 : ckI tx ty tf = 0 := by simpa using he
          obtain ⟨i, _, q0, q1, q2⟩ := ckI_tN k0
          subst q0 q1 q2
          obtain ⟨r, _, q0, q1, q2⟩ := ckI_tN p0
          subst q0 q1 q2
          obtain ⟨j, _, q0, q1, q2⟩ := ckI_tN h0
          subst q0 q1 q2
          have hs' := hs
          obtain ⟨s, rfl, s1⟩ := ares_nat hs
          exact ⟨0, 0, sameS (tM (4 * s + j)) (tM (r + i * askN r i t)), .nilIface, fun w => rseal_ok _ _ _ _ _ _ _ t w h6 k0 p0 hs', fun _ => h0.symm, (fun h => absurd h (by decide)), fun _ w => rright_two h6 (asum_em s1) rfl rfl rfl rfl w, (fun h => absurd h (by decide)), fun w => hC.2.2.2.2.2 i r j s t w h6 s1, isErr_nil, rfl⟩
theorem at_three (hF : AFillIs) (px py pS n : Int) (pf : Bool) (ws : (Lit.int .i64 pS).wf = true) (wn : (Lit.int .i64 n).wf = true) : ∃ (e3 gx gy gS : Int) (gf : Bool) (v3 : Value), (e3 = bif ((ckI px py pf) == 0 && (!(resB pS) || !(resB n))) then 1 else (ckI px py pf)) ∧ ((e3 == 0) = true → gx = px ∧ gy = py ∧ gf = pf ∧ (pS + n) % 1013 = gS ∧ 0 ≤ pS ∧ pS < 1013 ∧ 0 ≤ n ∧ n < 1013) ∧ ((e3 == 0) = false → gx = 0 ∧ gy = 0 ∧ gf = false ∧ gS = 0) ∧ (∀ w, Calls Tryd.prog 22 #[.agg #[.int .i64 px, .int .i64 py, .bool pf, .int .i64 pS], .int .i64 n] w fun ex w' => ex = .returned (.tuple #[.agg #[.int .i64 gx, .int .i64 gy, .bool gf, .int .i64 gS], v3]) ∧ Below w.heap.size w w') ∧ (IsErr v3) ∧ (toldI v3 == e3) = true := by
  cases hp : ckI px py pf == 0 with
  | false => exact ⟨ckI px py pf, 0, 0, 0, false, errOf (ckI px py pf), rfl, (fun h => absurd (hp.symm.trans h) (by decide)), fun _ => ⟨rfl, rfl, rfl, rfl⟩, fun w => hF.1 px py pS n pf w hp, isErr_err _, atold_it _⟩
  | true =>
    have p0 : ckI px py pf = 0 := by simpa using hp
    cases ha : resB pS && resB n with
    | false =>
      have hb : (!resB pS || !resB n) = true := by rw [← Bool.not_and, ha]; rfl
      exact ⟨1, 0, 0, 0, false, errOf 1, by rw [p0, hb]; rfl, (fun h => absurd h (by decide)), fun _ => ⟨rfl, rfl, rfl, rfl⟩, fun w => hF.2.1 px py pS n pf w p0 ws wn ha, isErr_err 1, atold_it 1⟩
    | true =>
      have hb : (!resB pS || !resB n) = false := by rw [← Bool.not_and, ha]; rfl
      rw [Bool.and_eq_true] at ha
      obtain ⟨r, _, q0, q1, q2⟩ := ckI_tN p0
      subst q0 q1 q2
      obtain ⟨s, rfl, s1⟩ := ares_nat ha.1
      obtain ⟨n, rfl, n1⟩ := ares_nat ha.2
      exact ⟨0, _, _, (((s + n) % 1013 : Nat) : Int), _, .nilIface, by rw [p0, hb]; rfl, fun _ => ⟨rfl, rfl, rfl, by omega, by omega, by omega, by omega, by omega⟩, (fun h => absurd h (by decide)), fun w => hF.2.2 r s n w s1 n1, isErr_nil, rfl⟩
theorem at_four (hN : AFindIs) (px py pS sx sy sS : Int) (pf sf : Bool) (wp : (Lit.int .i64 pS).wf = true) (ws : (Lit.int .i64 sS).wf = true) : ∃ (e4a e4b e4 m : Int) (v4 : Value), (((ckI px py pf) == 0) = true → e4a = (ckI sx sy sf)) ∧ (((ckI px py pf) == 0) = false → e4a = (ckI px py pf)) ∧ (e4b = bif (e4a == 0 && (!(resB pS) || !(resB sS))) then 1 else e4a) ∧ (e4 = bif (e4b == 0 && !((px == sx) && (py == sy) && (pf == sf))) then 3 else e4b) ∧ ((e4 == 0) = true → (∀ w, Calls Tryd.prog 23 #[.int .i64 (sS - pS), .int .i64 1013] w fun ex w' => ex = .returned (.int .i64 m) ∧ Below w.heap.size w w') ∧ 0 ≤ pS ∧ pS < 1013 ∧ 0 ≤ sS ∧ sS < 1013) ∧ ((e4 == 0) = false → m = 0) ∧ (∀ w, Calls Tryd.prog 24 #[.agg #[.int .i64 px, .int .i64 py, .bool pf, .int .i64 pS], .agg #[.int .i64 sx, .int .i64 sy, .bool sf, .int .i64 sS]] w fun ex w' => ex = .returned (.tuple #[.int .i64 m, v4]) ∧ Below w.heap.size w w') ∧ (IsErr v4) ∧ (toldI v4 == e4) = true := by
  cases hp : ckI px py pf == 0 with
  | false => exact ⟨ckI px py pf, ckI px py pf, ckI px py pf, 0, errOf (ckI px py pf), (fun h => absurd h (by decide)), fun _ => rfl, abif_no _ _ hp, abif_no _ _ hp, (fun h => absurd (hp.symm.trans h) (by decide)), fun _ => rfl, fun w => hN.1 px py pS sx sy sS pf sf w hp, isErr_err _, atold_it _⟩
  | true =>
    have p0 : ckI px py pf = 0 := by simpa using hp
    cases hs : ckI sx sy sf == 0 with
    | false => exact ⟨ckI sx sy sf, ckI sx sy sf, ckI sx sy sf, 0, errOf (ckI sx sy sf), fun _ => rfl, (fun h => absurd h (by decide)), abif_no _ _ hs, abif_no _ _ hs, (fun h => absurd (hs.symm.trans h) (by decide)), fun _ => rfl, fun w => hN.2.1 px py pS sx sy sS pf sf w p0 hs, isErr_err _, atold_it _⟩
    | true =>
      have s0 : ckI sx sy sf = 0 := by simpa using hs
      cases ha : resB pS && resB sS with
      | false =>
        have hb : (!resB pS || !resB sS) = true := by rw [← Bool.not_and, ha]; rfl
        exact ⟨0, 1, 1, 0, errOf 1, fun _ => s0.symm, (fun h => absurd h (by decide)), by rw [hb]; rfl, rfl, (fun h => absurd h (by decide)), fun _ => rfl, fun w => hN.2.2.1 px py pS sx sy sS pf sf w p0 s0 wp ws ha, isErr_err 1, atold_it 1⟩
      | true =>
        have hb : (!resB pS || !resB sS) = false := by rw [← Bool.not_and, ha]; rfl
        rw [Bool.and_eq_true] at ha
        obtain ⟨i, _, q0, q1, q2⟩ := ckI_tN p0
        subst q0 q1 q2
        obtain ⟨j, _, q0, q1, q2⟩ := ckI_tN s0
        subst q0 q1 q2
        obtain ⟨p, rfl, p1⟩ := ares_nat ha.1
        obtain ⟨s, rfl, s1⟩ := ares_nat ha.2
        by_cases hij : tM i = tM j
        · exact ⟨0, 0, 0, (afN s p : Int), .nilIface, fun _ => s0.symm, (fun h => absurd h (by decide)), by rw [hb]; rfl, by show (0 : Int) = bif ((0 : Int) == 0 && !(sameS (tM i) (tM j))) then 3 else 0; rw [sameS_yes hij]; rfl, fun _ => ⟨fun w => below_of_same (rmod_eq (af_int p1) w (by omega) (by omega)), by omega, by omega, by omega, by omega⟩, (fun h => absurd h (by decide)), fun w => hN.2.2.2.2 i j p s w p1 s1 hij, isErr_nil, rfl⟩
        · exact ⟨0, 0, 3, 0, errOf 3, fun _ => s0.symm, (fun h => absurd h (by decide)), by rw [hb]; rfl, by show (3 : Int) = bif ((0 : Int) == 0 && !(sameS (tM i) (tM j))) then 3 else 0; rw [sameS_no hij]; rfl, (fun h => absurd h (by decide)), fun _ => rfl, fun w => hN.2.2.2.1 i j p s w p1 s1 hij, isErr_err 3, atold_it 3⟩
theorem adaptTells_by (hP : APreIs) (hC : ACheckIs) (hF : AFillIs) (hN : AFindIs) (w : World) (x k : Int) (tt : Int × Int × Bool) (t : ByteArray) (kk : Int × Int × Bool) (p s : Int × Int × Bool × Int) (n : Int)
    (ht : t.size ≤ maxLen) (wp : (Lit.int .i64 p.2.2.2).wf = true) (ws : (Lit.int .i64 s.2.2.2).wf = true) (wn : (Lit.int .i64 n).wf = true) (hd : Door w) :
    Calls Tryd.prog 4 #[.int .i64 x, .int .i64 k, .agg #[.int .i64 tt.1, .int .i64 tt.2.1, .bool tt.2.2], .string t, .agg #[.int .i64 kk.1, .int .i64 kk.2.1, .bool kk.2.2], .agg #[.int .i64 p.1, .int .i64 p.2.1, .bool p.2.2.1, .int .i64 p.2.2.2], .agg #[.int .i64 s.1, .int .i64 s.2.1, .bool s.2.2.1, .int .i64 s.2.2.2], .int .i64 n] w fun e w' => e = .returned (.bool true) ∧ Below w.heap.size w w' := by
  obtain ⟨tx, ty, tf⟩ := tt
  obtain ⟨kx, ky, kf⟩ := kk
  obtain ⟨px, py, pf, pS⟩ := p
  obtain ⟨sx, sy, sf, sS⟩ := s
  have ht' : t.size ≤ 9223372036854775807 := ht
  obtain ⟨e1a, e1, ux, uy, vx, vy, c, wS, uf, vf, v1, a0, a1, a2, a3, a4, a5, a6, T1⟩ := at_one hP x k tx ty tf t ht'
  obtain ⟨e2a, e2, q, v2, b0, b1, b2, b3, b4, b5, b6, T2⟩ := at_two hC kx ky px py pS tx ty kf pf tf t ht' wp
  obtain ⟨e3, gx, gy, gS, gf, v3, c0, c1, c2, c3, c4, T3⟩ := at_three hF px py pS n pf wp wn
  obtain ⟨e4a, e4b, e4, m, v4, d0, d1, d2, d3, d4, d5, d6, d7, T4⟩ := at_four hN px py pS sx sy sS pf sf wp ws
  exact atells (hd := hd) (ht := ht') (T1 := T1) (T2 := T2) (T3 := T3) (T4 := T4) (hC1f := a0) (hC1t := a1) (hB1 := a2) (hHQ := a3) (hHQ0 := a4) (hHP := a5) (hI1 := a6) (hHSL := b0) (hD1t := b1) (hD1f := b2) (hHRI := b3) (hHRI0 := b4) (hHCH := b5) (hI2 := b6) (hB3 := c0) (hHG := c1) (hHG0 := c2) (hHFI := c3) (hI3 := c4) (hE1t := d0) (hE1f := d1) (hB4 := d2) (hB5 := d3) (hHM := d4) (hHM0 := d5) (hHFN := d6) (hI4 := d7) (hHX := rsecret x) (hHZ := rsecret k) (hHC := rfl) (hHRT := fun w => rspot_any tx ty tf w) (hHBL := rfl) (hHRP := fun w => rspot_any px py pf w) (hHRA := rrest pS) (hHRN := rrest n) (hHRS := fun w => rspot_any sx sy sf w) (hHRB := rrest sS) (hY1 := rfl) (hY2 := rfl) (hY3 := rfl)
end Go.Proofs.YtmijjjdedadklaiDoor
