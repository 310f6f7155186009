/- Texts joined: RingTellsBy RingTellsWalk Open OpenRing. stonelaw3.RingTells answers true, by what package ring is to answer. Proved: stonelaw3.RingTells answers true for every list of spots, every spot, every text, every place, every two numbers, every list of numbers and every ringed seal: any challenge, the ringed seal of any text, and whether any is right, as the document says. No condition stands behind it. Slices of ints, of structs of two ints and of texts, opened at every place. A struct of an int and a slice of ints, opened. -/
import Derived.Test.YtiddfngopoednahDoorRingIs
import Derived.Test.YtiddfngopoednahDoorRingTellsL
import Derived.Test.YtiddfngopoednahDoorRefRing
import Derived.Test.YtiddfngopoednahDoorShell
import Derived.Test.YtiddfngopoednahDoorRing
import Derived.Test.YtiddfngopoednahDoorOwn
import Derived.SizedLaws
/- RingTellsBy -/
namespace Go.Proofs.YtiddfngopoednahDoor
open Go.RowKit Go.Sort
set_option linter.unusedVariables false
set_option linter.unusedSimpArgs false
theorem rtold_it (e : Int) : (toldI (errOf e) == e) = true := by rw [toldI_err]; simp
/-- Keys, one spot, the text: the challenge. -/
theorem rt_one (hA : RAskIs) (sl : Option Addr) (n dl : Nat) (X Y : Nat → Int) (F : Nat → Bool) (t : ByteArray) (w : World) (rx ry : Int) (rf : Bool) (hn : n ≤ 9223372036854775807) (kl : n ≤ dl) (hr : (n = 0 ∨ ∃ b o : Nat, sl = some ⟨b, o, none⟩ ∧ RowO w b o n X Y F)) (ht : t.size ≤ 9223372036854775807) : ∃ (eK eR ea e1 n1 : Int) (v1 : Value), (∀ W, Below w.heap.size w W → Calls Tryd.prog 5 #[.slice sl n dl] W fun ex w' => ex = .returned (.int .i64 eK) ∧ Below W.heap.size W w') ∧ (∀ w, Calls Tryd.prog 10 #[.agg #[.int .i64 rx, .int .i64 ry, .bool rf]] w fun ex w' => ex = .returned (.int .i64 eR) ∧ Below w.heap.size w w') ∧ (∀ W, Below w.heap.size w W → Calls Tryd.prog 17 #[.slice sl n dl, .string t] W fun ex w' => ex = .returned (.int .i64 (rgE X Y F n t)) ∧ Below W.heap.size W w') ∧ ((eK == 0) = true → ea = eR) ∧ ((eK == 0) = false → ea = eK) ∧ ((ea == 0) = true → e1 = (rgE X Y F n t)) ∧ ((ea == 0) = false → e1 = ea) ∧ ((e1 == 0) = true → ∀ W, Below w.heap.size w W → Calls Tryd.prog 18 #[.slice sl n dl, .agg #[.int .i64 rx, .int .i64 ry, .bool rf], .string t] W fun ex w' => ex = .returned (.int .i64 n1) ∧ Below W.heap.size W w') ∧ ((e1 == 0) = false → n1 = 0) ∧ (∀ W, Below w.heap.size w W → Calls Tryd.prog 19 #[.slice sl n dl, .agg #[.int .i64 rx, .int .i64 ry, .bool rf], .string t] W fun ex w' => ex = .returned (.tuple #[.int .i64 n1, v1]) ∧ Below W.heap.size W w') ∧ (IsErr v1) ∧ (toldI v1 == e1) = true := by
  have hup : ∀ W, Below w.heap.size w W → (n = 0 ∨ ∃ b o : Nat, sl = some ⟨b, o, none⟩ ∧ RowO W b o n X Y F) := fun W k => rrow_up hr k
  have hrg : ∀ W, Below w.heap.size w W → Calls Tryd.prog 17 #[.slice sl n dl, .string t] W fun ex w' => ex = .returned (.int .i64 (rgE X Y F n t)) ∧ Below W.heap.size W w' := fun W k => rring sl n dl X Y F t W hn (hup W k) ht
  have hsr : ∀ w, Calls Tryd.prog 10 #[.agg #[.int .i64 rx, .int .i64 ry, .bool rf]] w fun ex w' => ex = .returned (.int .i64 (ckI rx ry rf)) ∧ Below w.heap.size w w' := fun W => rspot_any rx ry rf W
  by_cases h12 : 12 < n
  · exact ⟨4, ckI rx ry rf, 4, 4, 0, errOf 4, fun W _ => rspots_many sl n dl W h12, hsr, hrg, (fun h => absurd h (by decide)), fun _ => rfl, (fun h => absurd h (by decide)), fun _ => rfl, (fun h => absurd h (by decide)), fun _ => rfl, fun W k => hA.1 sl n dl rx ry rf t W h12 hn ht, isErr_err 4, rtold_it 4⟩
  have hsp : ∀ W, Below w.heap.size w W → Calls Tryd.prog 5 #[.slice sl n dl] W fun ex w' => ex = .returned (.int .i64 (rowE X Y F n)) ∧ Below W.heap.size W w' := fun W k => by
    rcases hup W k with rfl | ⟨b, o, rfl, r⟩
    · exact rspots_nil sl dl W
    · exact rspots_row b o n dl X Y F W (by omega) r
  cases he : rowE X Y F n == 0 with
  | false => exact ⟨_, _, rowE X Y F n, rowE X Y F n, 0, errOf (rowE X Y F n), hsp, hsr, hrg, (fun h => absurd (he.symm.trans h) (by decide)), fun _ => rfl, (fun h => absurd (he.symm.trans h) (by decide)), fun _ => rfl, (fun h => absurd (he.symm.trans h) (by decide)), fun _ => rfl, fun W k => hA.2.1 sl n dl X Y F rx ry rf t W (by omega) hn kl (hup W k) ht he, isErr_err _, rtold_it _⟩
  | true =>
    have h0 : rowE X Y F n = 0 := by simpa using he
    cases hc : ckI rx ry rf == 0 with
    | false => exact ⟨_, _, ckI rx ry rf, ckI rx ry rf, 0, errOf (ckI rx ry rf), hsp, hsr, hrg, fun _ => rfl, fun h => absurd (he.symm.trans h) (by decide), (fun h => absurd (hc.symm.trans h) (by decide)), fun _ => rfl, (fun h => absurd (hc.symm.trans h) (by decide)), fun _ => rfl, fun W k => hA.2.2.1 sl n dl X Y F rx ry rf t W (by omega) hn kl (hup W k) ht h0 hc, isErr_err _, rtold_it _⟩
    | true =>
      obtain ⟨j, _, e0, e1, e2⟩ := ckI_tN (show ckI rx ry rf = 0 by simpa using hc)
      change rx = ((tM j).1 : Int) at e0
      change ry = ((tM j).2.1 : Int) at e1
      change rf = (tM j).2.2 at e2
      subst e0 e1 e2
      cases hg : rgE X Y F n t == 0 with
      | false => exact ⟨_, _, _, rgE X Y F n t, 0, errOf (rgE X Y F n t), hsp, hsr, hrg, fun _ => rfl, fun h => absurd (he.symm.trans h) (by decide), fun _ => rfl, fun h => absurd (hc.symm.trans h) (by decide), (fun h => absurd (hg.symm.trans h) (by decide)), fun _ => rfl, fun W k => hA.2.2.2.1 sl n dl X Y F j t W (by omega) hn kl (hup W k) ht h0 hg, isErr_err _, rtold_it _⟩
      | true =>
        have hg0 : rgE X Y F n t = 0 := by simpa using hg
        obtain ⟨g1, g2, g3, g4⟩ := rgE_zero hg0
        obtain ⟨K, hK⟩ := row_tM h0
        refine ⟨_, _, _, rgE X Y F n t, _, .nilIface, hsp, hsr, hrg, fun _ => rfl, fun h => absurd (he.symm.trans h) (by decide), fun _ => rfl, fun h => absurd (hc.symm.trans h) (by decide), fun _ W k => rringask sl n dl X Y F K j t W g2 (hup W k) hK g4, (fun h => absurd (hg.symm.trans h) (by decide)), fun W k => hA.2.2.2.2 sl n dl X Y F K j t W hn kl (hup W k) ht hg0 hK, isErr_nil, ?_⟩
        rw [hg0]; rfl
theorem rfirst (s : Nat → Bool) : ∀ n, ∃ t, t ≤ n ∧ (∀ k, k < t → s k = true) ∧ (t = n ∨ (t < n ∧ s t = false))
  | 0 => ⟨0, Nat.le_refl _, fun k h => absurd h (Nat.not_lt_zero _), Or.inl rfl⟩
  | n + 1 => by
    obtain ⟨t, h1, h2, h3⟩ := rfirst s n
    rcases h3 with rfl | ⟨h3, h4⟩
    · cases hs : s t with
      | true => exact ⟨t + 1, Nat.le_refl _, fun k hk => by
          rcases Nat.lt_succ_iff_lt_or_eq.1 hk with h | rfl
          · exact h2 k h
          · exact hs, Or.inl rfl⟩
      | false => exact ⟨t, by omega, h2, Or.inr ⟨by omega, hs⟩⟩
    · exact ⟨t, by omega, h2, Or.inr ⟨by omega, h4⟩⟩
theorem rsec_bd {n : Int} (h : secB n = true) : 1 ≤ n ∧ n < 1013 := of_decide_eq_true h
theorem rres_bd {n : Int} (h : resB n = true) : 0 ≤ n ∧ n < 1013 := of_decide_eq_true h
theorem spot_ways (a b : Sn) : a = b ∧ (((a.1 : Int) == (b.1 : Int)) = true ∧ ((a.2.1 : Int) == (b.2.1 : Int)) = true ∧ (a.2.2 == b.2.2) = true) ∨ a ≠ b ∧ ((((a.1 : Int) == (b.1 : Int)) = false) ∨ ((((a.1 : Int) == (b.1 : Int)) = true) ∧ ((a.2.1 : Int) == (b.2.1 : Int)) = false) ∨ ((((a.1 : Int) == (b.1 : Int)) = true) ∧ ((a.2.1 : Int) == (b.2.1 : Int)) = true ∧ (a.2.2 == b.2.2) = false)) := by
  cases h1 : ((a.1 : Int) == (b.1 : Int)) with
  | false => exact Or.inr ⟨fun e => by rw [e] at h1; simp at h1, Or.inl rfl⟩
  | true =>
    cases h2 : ((a.2.1 : Int) == (b.2.1 : Int)) with
    | false => exact Or.inr ⟨fun e => by rw [e] at h2; simp at h2, Or.inr (Or.inl ⟨rfl, rfl⟩)⟩
    | true =>
      cases h3 : (a.2.2 == b.2.2) with
      | false => exact Or.inr ⟨fun e => by rw [e] at h3; simp at h3, Or.inr (Or.inr ⟨rfl, rfl, rfl⟩)⟩
      | true =>
        left
        refine ⟨?_, rfl, rfl, rfl⟩
        obtain ⟨x, y, f⟩ := a
        obtain ⟨x', y', f'⟩ := b
        simp only [beq_iff_eq] at h1 h2 h3
        have e1 : x = x' := by omega
        have e2 : y = y' := by omega
        rw [e1, e2, h3]
/-- The ringed seal. -/
theorem rt_two (hS : RSignIs) (sl : Option Addr) (n dl : Nat) (X Y : Nat → Int) (F : Nat → Bool) (t : ByteArray) (w : World) (pa px kk : Int) (ss : Option Addr) (m ds : Nat) (hn : n ≤ 9223372036854775807) (kl : n ≤ dl) (hr : (n = 0 ∨ ∃ b o : Nat, sl = some ⟨b, o, none⟩ ∧ RowO w b o n X Y F)) (ht : t.size ≤ 9223372036854775807) (hm : m ≤ 9223372036854775807) (km : m ≤ ds) (us : (m = 0 ∨ ∃ (b o : Nat) (X : Nat → Int), ss = some ⟨b, o, none⟩ ∧ RowI w b o m X ∧ ∀ i, i < m → (Lit.int .i64 (X i)).wf = true)) (wa : (Lit.int .i64 pa).wf = true) (wx : (Lit.int .i64 px).wf = true) (wk : (Lit.int .i64 kk).wf = true) : ∃ (e2a e2b e2c e2 wC kx ky : Int) (kf : Bool) (v2 : Value) (j0 : Nat) (S WS : Nat → Int) (rB : Nat → Bool), (e2a = bif ((rgE X Y F n t) == 0 && (m : Int) != (n : Int)) then 3 else (rgE X Y F n t)) ∧ (e2b = bif (e2a == 0 && (decide (pa < 0) || decide (pa ≥ (n : Int)) || !(secB px) || !(secB kk))) then 1 else e2a) ∧ ((e2b == 0) = true → m ≤ 12 ∧ (m = 0 ∨ ∃ b o : Nat, ss = some ⟨b, o, none⟩ ∧ RowI w b o m S) ∧ j0 ≤ m ∧ (∀ i, i < m → (∀ w, Calls Tryd.prog 14 #[.int .i64 (S i)] w fun ex w' => ex = .returned (.bool (rB i)) ∧ Below w.heap.size w w')) ∧ (∀ i, i < j0 → rB i = true ∨ (rB i = false ∧ (i : Int) = pa)) ∧ ((j0 = m ∧ e2c = 0) ∨ (j0 < m ∧ rB j0 = false ∧ (j0 : Int) ≠ pa ∧ e2c = 1))) ∧ ((e2b == 0) = false → e2c = e2b) ∧ ((e2c == 0) = true → ∃ p b o : Nat, pa = (p : Int) ∧ p < n ∧ n ≤ 12 ∧ sl = some ⟨b, o, none⟩ ∧ RowO w b o n X Y F ∧ (∀ w, Calls Tryd.prog 11 #[.int .i64 px] w fun ex w' => ex = .returned (.agg #[.int .i64 kx, .int .i64 ky, .bool kf]) ∧ Below w.heap.size w w') ∧ (((kx == X p) = false ∧ e2 = 8) ∨ ((kx == X p) = true ∧ (ky == Y p) = false ∧ e2 = 8) ∨ ((kx == X p) = true ∧ (ky == Y p) = true ∧ (kf == F p) = false ∧ e2 = 8) ∨ ((kx == X p) = true ∧ (ky == Y p) = true ∧ (kf == F p) = true ∧ e2 = 0))) ∧ ((e2c == 0) = false → e2 = e2c) ∧ ((e2 == 0) = true → n ≤ 12 ∧ ∀ W, Below w.heap.size w W → Calls Tryd.prog 20 #[.slice sl n dl, .int .i64 pa, .int .i64 px, .int .i64 kk, .slice ss m ds, .string t] W fun ex w' => ∃ g e : Nat, n ≤ e ∧ W.heap.size ≤ g ∧ ex = .returned (.agg #[.int .i64 wC, .slice (some ⟨g, 0, none⟩) n e]) ∧ RowI w' g 0 n WS ∧ Below W.heap.size W w') ∧ ((e2 == 0) = false → wC = 0) ∧ (∀ W, Below w.heap.size w W → Calls Tryd.prog 21 #[.slice sl n dl, .int .i64 pa, .int .i64 px, .int .i64 kk, .slice ss m ds, .string t] W fun ex w' => ∃ (su : Option Addr) (nu cu : Nat), ex = .returned (.tuple #[.agg #[.int .i64 wC, .slice su nu cu], v2]) ∧ ((e2 == 0) = true → ∃ g o e : Nat, Value.slice su nu cu = .slice (some ⟨g, o, none⟩) n e ∧ RowI w' g o n WS) ∧ ((e2 == 0) = false → Value.slice su nu cu = .slice none 0 0) ∧ Below W.heap.size W w') ∧ (IsErr v2) ∧ (toldI v2 == e2) = true := by
  have hup : ∀ W, Below w.heap.size w W → (n = 0 ∨ ∃ b o : Nat, sl = some ⟨b, o, none⟩ ∧ RowO W b o n X Y F) := fun W k => rrow_up hr k
  cases hg : rgE X Y F n t == 0 with
  | false => exact ⟨rgE X Y F n t, rgE X Y F n t, rgE X Y F n t, rgE X Y F n t, 0, 0, 0, false, errOf (rgE X Y F n t), 0, (fun _ => 0), (fun _ => 0), fun _ => false, rfl, by rw [hg]; rfl, (fun h => absurd (hg.symm.trans h) (by decide)), fun _ => rfl, (fun h => absurd (hg.symm.trans h) (by decide)), fun _ => rfl, (fun h => absurd (hg.symm.trans h) (by decide)), fun _ => rfl, fun W k_ => (hS.1 sl n dl X Y F pa px kk ss m ds t W hn kl (hup W k_) ht hm hg).mono fun ex w' ⟨h1, h2⟩ => ⟨none, 0, 0, h1, (fun h => absurd (hg.symm.trans h) (by decide)), fun _ => rfl, h2⟩, isErr_err _, rtold_it _⟩
  | true =>
    have hg0 : rgE X Y F n t = 0 := by simpa using hg
    obtain ⟨n0, n12, hrow, h60⟩ := rgE_zero hg0
    by_cases hmn : m = n
    · subst hmn
      have T : ((m : Int) != (m : Int)) = false := by simp
      obtain ⟨b, o, S, rfl, rS, wS⟩ := us.resolve_left (by omega)
      obtain ⟨b', o', rfl, rK⟩ := hr.resolve_left (by omega)
      have hupS : ∀ W, Below w.heap.size w W → (∃ b'' o'' : Nat, (some ⟨b, o, none⟩ : Option Addr) = some ⟨b'', o'', none⟩ ∧ RowI W b'' o'' m S) := fun W k_ => ⟨b, o, rfl, rS.below rS.1 k_⟩
      by_cases hbad : (decide (pa < 0) || decide (pa ≥ (m : Int)) || !secB px || !secB kk) = true
      · have hdis : pa < 0 ∨ (m : Int) ≤ pa ∨ secB px = false ∨ secB kk = false ∨ ∃ i, i < m ∧ (i : Int) ≠ pa ∧ resB (S i) = false := by
          simp only [Bool.or_eq_true, decide_eq_true_eq, Bool.not_eq_true'] at hbad
          rcases hbad with ((h | h) | h) | h
          · exact Or.inl h
          · exact Or.inr (Or.inl h)
          · exact Or.inr (Or.inr (Or.inl h))
          · exact Or.inr (Or.inr (Or.inr (Or.inl h)))
        exact ⟨0, 1, 1, 1, 0, 0, 0, false, errOf 1, 0, (fun _ => 0), (fun _ => 0), fun _ => false, by rw [hg0, T]; rfl, by rw [hbad]; rfl, (fun h => absurd h (by decide)), fun _ => rfl, (fun h => absurd h (by decide)), fun _ => rfl, (fun h => absurd h (by decide)), fun _ => rfl, fun W k_ => (hS.2.2.1 _ m dl X Y F pa px kk _ ds S t W hn kl (hup W k_) ht hg0 km (hupS W k_) wS wa wx wk hdis).mono fun ex w' ⟨h1, h2⟩ => ⟨none, 0, 0, h1, (fun h => absurd h (by decide)), fun _ => rfl, h2⟩, isErr_err _, rtold_it _⟩
      · have hbad' : (decide (pa < 0) || decide (pa ≥ (m : Int)) || !secB px || !secB kk) = false := by simpa using hbad
        simp only [Bool.or_eq_true, decide_eq_true_eq, Bool.not_eq_true', not_or, Bool.not_eq_false] at hbad
        obtain ⟨⟨⟨p0, p1⟩, p2⟩, p3⟩ := hbad
        obtain ⟨x0, x1⟩ := rsec_bd p2
        obtain ⟨k0, k1⟩ := rsec_bd p3
        obtain ⟨a, rfl⟩ : ∃ a : Nat, pa = (a : Int) := ⟨pa.toNat, by omega⟩
        obtain ⟨x, rfl⟩ : ∃ x : Nat, px = (x : Int) := ⟨px.toNat, by omega⟩
        obtain ⟨k, rfl⟩ : ∃ k : Nat, kk = (k : Int) := ⟨kk.toNat, by omega⟩
        obtain ⟨K, hK⟩ := row_tM hrow
        obtain ⟨j0, j1, j2, j3⟩ := rfirst (fun i => resB (S i) || decide (i = a)) m
        have good : ∀ i, i < j0 → resB (S i) = true ∨ (resB (S i) = false ∧ (i : Int) = (a : Int)) := fun i hi => by
          have h : (resB (S i) || decide (i = a)) = true := j2 i hi
          cases hq : resB (S i) with
          | true => exact Or.inl rfl
          | false =>
            rw [hq] at h
            have : i = a := by simpa using h
            exact Or.inr ⟨rfl, by omega⟩
        rcases j3 with rfl | ⟨j3, j4⟩
        · have res : ∀ i, i < j0 → i ≠ a → resB (S i) = true := fun i hi hia => by
            rcases good i hi with h | h
            · exact h
            · exact absurd h.2 (by omega)
          have ha : a < j0 := by omega
          obtain ⟨X0, Y0, F0⟩ := hK a ha
          have hby : ∀ w, Calls Tryd.prog 11 #[.int .i64 (x : Int)] w fun ex w' => ex = .returned (.agg #[.int .i64 ((tM (4 * x)).1 : Int), .int .i64 ((tM (4 * x)).2.1 : Int), .bool (tM (4 * x)).2.2]) ∧ Below w.heap.size w w' := fun W => rby_eq (tM_em 4 x) W
          rcases spot_ways (tM (4 * x)) (tM (K a)) with ⟨he, w1, w2, w3⟩ | ⟨he, hw⟩
          · refine ⟨0, 0, 0, 0, _, _, _, _, .nilIface, j0, S, (fun i => (rwN K (fun i => (S i).toNat) j0 t a x k i : Int)), fun i => resB (S i), by rw [hg0, T]; rfl, by rw [hbad']; rfl, fun _ => ⟨n12, Or.inr ⟨b, o, rfl, rS⟩, Nat.le_refl _, fun i _ => rrest (S i), good, Or.inl ⟨rfl, rfl⟩⟩, (fun h => absurd h (by decide)), fun _ => ⟨a, b', o', rfl, ha, n12, rfl, rK, hby, Or.inr (Or.inr (Or.inr ⟨by rw [X0]; exact w1, by rw [Y0]; exact w2, by rw [F0]; exact w3, rfl⟩))⟩, (fun h => absurd h (by decide)),
              fun _ => ⟨n12, fun W k_ => rringsign _ j0 dl X Y F K (fun i => (S i).toNat) S a x k b o ds t W n12 (hup W k_) hK (rS.below rS.1 k_) (fun i hi hia => ?_) ha (by omega) (by omega) h60⟩, (fun h => absurd h (by decide)),
              fun W k_ => (hS.2.2.2.2 _ j0 dl X Y F K a x k _ ds S t W hn kl (hup W k_) ht hg0 hK km (hupS W k_) wS ha (by omega) (by omega) (by omega) (by omega) res he).mono fun ex w' ⟨g, q, e, h1, h2, h3, h4, h5⟩ => ⟨some ⟨g, q, none⟩, j0, e, h3, fun _ => ⟨g, q, e, rfl, h4⟩, (fun h => absurd h (by decide)), h5⟩, isErr_nil, rfl⟩
            have := rres_bd (res i hi hia)
            show S i = (((S i).toNat : Nat) : Int)
            omega
          · have he8 : ∀ W, Below w.heap.size w W → Calls Tryd.prog 21 #[.slice (some ⟨b', o', none⟩) j0 dl, .int .i64 (a : Int), .int .i64 (x : Int), .int .i64 (k : Int), .slice (some ⟨b, o, none⟩) j0 ds, .string t] W fun ex w' => ∃ (su : Option Addr) (nu cu : Nat), ex = .returned (.tuple #[.agg #[.int .i64 0, .slice su nu cu], errOf 8]) ∧ (((8 : Int) == 0) = true → ∃ g o e : Nat, Value.slice su nu cu = .slice (some ⟨g, o, none⟩) j0 e ∧ RowI w' g o j0 (fun _ => 0)) ∧ (((8 : Int) == 0) = false → Value.slice su nu cu = .slice none 0 0) ∧ Below W.heap.size W w' := fun W k_ => (hS.2.2.2.1 _ j0 dl X Y F K a x k _ ds S t W hn kl (hup W k_) ht hg0 hK km (hupS W k_) wS ha (by omega) (by omega) (by omega) (by omega) res he).mono fun ex w' ⟨h1, h2⟩ => ⟨none, 0, 0, h1, (fun h => absurd h (by decide)), fun _ => rfl, h2⟩
            refine ⟨0, 0, 0, 8, 0, _, _, _, errOf 8, j0, S, (fun _ => 0), fun i => resB (S i), by rw [hg0, T]; rfl, by rw [hbad']; rfl, fun _ => ⟨n12, Or.inr ⟨b, o, rfl, rS⟩, Nat.le_refl _, fun i _ => rrest (S i), good, Or.inl ⟨rfl, rfl⟩⟩, (fun h => absurd h (by decide)), fun _ => ⟨a, b', o', rfl, ha, n12, rfl, rK, hby, ?_⟩, (fun h => absurd h (by decide)), (fun h => absurd h (by decide)), fun _ => rfl, he8, isErr_err _, rtold_it _⟩
            rw [X0, Y0, F0]
            rcases hw with h | ⟨h, h'⟩ | ⟨h, h', h''⟩
            · exact Or.inl ⟨h, rfl⟩
            · exact Or.inr (Or.inl ⟨h, h', rfl⟩)
            · exact Or.inr (Or.inr (Or.inl ⟨h, h', h'', rfl⟩))
        · have j5 : resB (S j0) = false ∧ (j0 : Int) ≠ (a : Int) := by
            have h : (resB (S j0) || decide (j0 = a)) = false := j4
            rw [Bool.or_eq_false_iff] at h
            have := of_decide_eq_false h.2
            exact ⟨h.1, by omega⟩
          exact ⟨0, 0, 1, 1, 0, 0, 0, false, errOf 1, j0, S, (fun _ => 0), fun i => resB (S i), by rw [hg0, T]; rfl, by rw [hbad']; rfl, fun _ => ⟨n12, Or.inr ⟨b, o, rfl, rS⟩, j1, fun i _ => rrest (S i), good, Or.inr ⟨j3, j5.1, j5.2, rfl⟩⟩, (fun h => absurd h (by decide)), (fun h => absurd h (by decide)), fun _ => rfl, (fun h => absurd h (by decide)), fun _ => rfl, fun W k_ => (hS.2.2.1 _ m dl X Y F a x k _ ds S t W hn kl (hup W k_) ht hg0 km (hupS W k_) wS wa wx wk (Or.inr (Or.inr (Or.inr (Or.inr ⟨j0, j3, j5.2, j5.1⟩))))).mono fun ex w' ⟨h1, h2⟩ => ⟨none, 0, 0, h1, (fun h => absurd h (by decide)), fun _ => rfl, h2⟩, isErr_err _, rtold_it _⟩
    · have T : ((m : Int) != (n : Int)) = true := by rw [bne_iff_ne]; omega
      exact ⟨3, 3, 3, 3, 0, 0, 0, false, errOf 3, 0, (fun _ => 0), (fun _ => 0), fun _ => false, by rw [hg0, T]; rfl, rfl, (fun h => absurd h (by decide)), fun _ => rfl, (fun h => absurd h (by decide)), fun _ => rfl, (fun h => absurd h (by decide)), fun _ => rfl, fun W k_ => (hS.2.1 sl n dl X Y F pa px kk ss m ds t W hn kl (hup W k_) ht hm hg0 hmn).mono fun ex w' ⟨h1, h2⟩ => ⟨none, 0, 0, h1, (fun h => absurd h (by decide)), fun _ => rfl, h2⟩, isErr_err _, rtold_it _⟩
theorem rbeq_nat (a b : Nat) : (((a : Nat) : Int) == (b : Int)) = Nat.beq a b := by
  cases h : Nat.beq a b with
  | true => have := Nat.eq_of_beq_eq_true h; subst this; simp
  | false =>
    rw [beq_eq_false_iff_ne]
    intro e
    have : a = b := by omega
    rw [this, Nat.beq_refl] at h; cases h
theorem rrowI_nat {w : World} {b o n : Nat} {X : Nat → Int} (h : RowI w b o n X) (h0 : ∀ i, i < n → 0 ≤ X i) : RowI w b o n (fun i => (((X i).toNat : Nat) : Int)) :=
  ⟨h.1, fun i hi => by
    have e : (((X i).toNat : Nat) : Int) = X i := by have := h0 i hi; omega
    show _ = some (Value.int .i64 (((X i).toNat : Nat) : Int))
    rw [e]; exact h.2 i hi⟩
/-- Whether it is right. -/
theorem rt_three (hV : RVerifyIs) (sl : Option Addr) (n dl : Nat) (X Y : Nat → Int) (F : Nat → Bool) (t : ByteArray) (w : World) (zc : Int) (sz : Option Addr) (q dz : Nat) (hn : n ≤ 9223372036854775807) (kl : n ≤ dl) (hr : (n = 0 ∨ ∃ b o : Nat, sl = some ⟨b, o, none⟩ ∧ RowO w b o n X Y F)) (ht : t.size ≤ 9223372036854775807) (hq : q ≤ 9223372036854775807) (kq : q ≤ dz) (us : (q = 0 ∨ ∃ (b o : Nat) (X : Nat → Int), sz = some ⟨b, o, none⟩ ∧ RowI w b o q X ∧ ∀ i, i < q → (Lit.int .i64 (X i)).wf = true)) (wz : (Lit.int .i64 zc).wf = true) : ∃ (fa fb ff : Int) (rt : Bool) (v3 : Value) (j1 : Nat) (ZS : Nat → Int), (fa = bif ((rgE X Y F n t) == 0 && (q : Int) != (n : Int)) then 3 else (rgE X Y F n t)) ∧ (fb = bif (fa == 0 && !(resB zc)) then 1 else fa) ∧ ((fb == 0) = true → q ≤ 12 ∧ (q = 0 ∨ ∃ b o : Nat, sz = some ⟨b, o, none⟩ ∧ RowI w b o q ZS) ∧ j1 ≤ q ∧ (∀ i, i < j1 → (∀ w, Calls Tryd.prog 14 #[.int .i64 (ZS i)] w fun ex w' => ex = .returned (.bool true) ∧ Below w.heap.size w w')) ∧ ((j1 = q ∧ ff = 0) ∨ (j1 < q ∧ (∀ w, Calls Tryd.prog 14 #[.int .i64 (ZS j1)] w fun ex w' => ex = .returned (.bool false) ∧ Below w.heap.size w w') ∧ ff = 1))) ∧ ((fb == 0) = false → ff = fb) ∧ ((ff == 0) = true → ∀ W, Below w.heap.size w W → Calls Tryd.prog 23 #[.slice sl n dl, .string t, .agg #[.int .i64 zc, .slice sz q dz]] W fun ex w' => ex = .returned (.bool rt) ∧ Below W.heap.size W w') ∧ ((ff == 0) = false → rt = false) ∧ (∀ W, Below w.heap.size w W → Calls Tryd.prog 24 #[.slice sl n dl, .string t, .agg #[.int .i64 zc, .slice sz q dz]] W fun ex w' => ex = .returned (.tuple #[.bool rt, v3]) ∧ Below W.heap.size W w') ∧ (IsErr v3) ∧ (toldI v3 == ff) = true := by
  have hup : ∀ W, Below w.heap.size w W → (n = 0 ∨ ∃ b o : Nat, sl = some ⟨b, o, none⟩ ∧ RowO W b o n X Y F) := fun W k => rrow_up hr k
  cases hg : rgE X Y F n t == 0 with
  | false => exact ⟨rgE X Y F n t, rgE X Y F n t, rgE X Y F n t, false, errOf (rgE X Y F n t), 0, (fun _ => 0), rfl, by rw [hg]; rfl, (fun h => absurd (hg.symm.trans h) (by decide)), fun _ => rfl, (fun h => absurd (hg.symm.trans h) (by decide)), fun _ => rfl, fun W k => hV.1 sl n dl X Y F zc sz q dz t W hn kl (hup W k) ht hq hg, isErr_err _, rtold_it _⟩
  | true =>
    have hg0 : rgE X Y F n t = 0 := by simpa using hg
    obtain ⟨n0, n12, hrow, h60⟩ := rgE_zero hg0
    by_cases hqn : q = n
    · subst hqn
      have T : ((q : Int) != (q : Int)) = false := by simp
      obtain ⟨b, o, S, rfl, rS, wS⟩ := us.resolve_left (by omega)
      have hupS : ∀ W, Below w.heap.size w W → (∃ b'' o'' : Nat, (some ⟨b, o, none⟩ : Option Addr) = some ⟨b'', o'', none⟩ ∧ RowI W b'' o'' q S) := fun W k_ => ⟨b, o, rfl, rS.below rS.1 k_⟩
      cases hz : resB zc with
      | false => exact ⟨0, 1, 1, false, errOf 1, 0, (fun _ => 0), by rw [hg0, T]; rfl, rfl, (fun h => absurd h (by decide)), fun _ => rfl, (fun h => absurd h (by decide)), fun _ => rfl, fun W k => hV.2.2.1 sl q dl X Y F zc _ dz S t W hn kl (hup W k) ht hg0 kq (hupS W k) wS wz (Or.inl hz), isErr_err _, rtold_it _⟩
      | true =>
        obtain ⟨z0, z1⟩ := rres_bd hz
        obtain ⟨z, rfl⟩ : ∃ z : Nat, zc = (z : Int) := ⟨zc.toNat, by omega⟩
        obtain ⟨K, hK⟩ := row_tM hrow
        obtain ⟨j0, j1, j2, j3⟩ := rfirst (fun i => resB (S i)) q
        have rr : ∀ i, resB (S i) = true → ∀ w, Calls Tryd.prog 14 #[.int .i64 (S i)] w fun ex w' => ex = .returned (.bool true) ∧ Below w.heap.size w w' := fun i h W => by
          have := rrest (S i) W
          rwa [h] at this
        rcases j3 with rfl | ⟨j3, j4⟩
        · refine ⟨0, 0, 0, Nat.beq (rcN K (fun i => (S i).toNat) j0 t z j0) z, .nilIface, j0, S, by rw [hg0, T]; rfl, rfl, fun _ => ⟨n12, Or.inr ⟨b, o, rfl, rS⟩, Nat.le_refl _, fun i hi => rr i (j2 i hi), Or.inl ⟨rfl, rfl⟩⟩, (fun h => absurd h (by decide)), fun _ W k => ?_, (fun h => absurd h (by decide)), fun W k => hV.2.2.2 sl j0 dl X Y F K z _ dz S t W hn kl (hup W k) ht hg0 hK kq (hupS W k) (by omega) j2, isErr_nil, rfl⟩
          have := rringright sl j0 dl X Y F K (fun i => (S i).toNat) z (some ⟨b, o, none⟩) dz t W n0 n12 (hup W k) hK ⟨b, o, rfl, rrowI_nat (rS.below rS.1 k) (fun i hi => (rres_bd (j2 i hi)).1)⟩ h60
          rwa [rbeq_nat] at this
        · have rf_ : ∀ w, Calls Tryd.prog 14 #[.int .i64 (S j0)] w fun ex w' => ex = .returned (.bool false) ∧ Below w.heap.size w w' := fun W => by
            have := rrest (S j0) W
            rwa [show resB (S j0) = false from j4] at this
          exact ⟨0, 0, 1, false, errOf 1, j0, S, by rw [hg0, T]; rfl, rfl, fun _ => ⟨n12, Or.inr ⟨b, o, rfl, rS⟩, j1, fun i hi => rr i (j2 i hi), Or.inr ⟨j3, rf_, rfl⟩⟩, (fun h => absurd h (by decide)), (fun h => absurd h (by decide)), fun _ => rfl, fun W k => hV.2.2.1 sl q dl X Y F z _ dz S t W hn kl (hup W k) ht hg0 kq (hupS W k) wS wz (Or.inr ⟨j0, j3, j4⟩), isErr_err _, rtold_it _⟩
    · have T : ((q : Int) != (n : Int)) = true := by rw [bne_iff_ne]; omega
      exact ⟨3, 3, 3, false, errOf 3, 0, (fun _ => 0), by rw [hg0, T]; rfl, rfl, (fun h => absurd h (by decide)), fun _ => rfl, (fun h => absurd h (by decide)), fun _ => rfl, fun W k => hV.2.1 sl n dl X Y F zc sz q dz t W hn kl (hup W k) ht hq hg0 hqn, isErr_err _, rtold_it _⟩
theorem ringTells_by (hA : RAskIs) (hS : RSignIs) (hV : RVerifyIs) (w : World) (sl : Option Addr) (n dl : Nat) (rx ry : Int) (rf : Bool) (t : ByteArray) (pa px kk : Int) (ss : Option Addr) (m ds : Nat) (zc : Int) (sz : Option Addr) (q dz : Nat)
    (hn : n ≤ maxLen) (uK : n = 0 ∨ ∃ (b o : Nat) (X Y : Nat → Int) (F : Nat → Bool), sl = some ⟨b, o, none⟩ ∧ RowO w b o n X Y F) (kl : n ≤ dl) (ht : t.size ≤ maxLen)
    (wa : (Lit.int .i64 pa).wf = true) (wx : (Lit.int .i64 px).wf = true) (wk : (Lit.int .i64 kk).wf = true)
    (hm : m ≤ maxLen) (us : (m = 0 ∨ ∃ (b o : Nat) (X : Nat → Int), ss = some ⟨b, o, none⟩ ∧ RowI w b o m X ∧ ∀ i, i < m → (Lit.int .i64 (X i)).wf = true)) (km : m ≤ ds) (wz : (Lit.int .i64 zc).wf = true) (hq : q ≤ maxLen) (kq : q ≤ dz) (uz : (q = 0 ∨ ∃ (b o : Nat) (X : Nat → Int), sz = some ⟨b, o, none⟩ ∧ RowI w b o q X ∧ ∀ i, i < q → (Lit.int .i64 (X i)).wf = true)) (hd : Door w) :
    Calls Tryd.prog 4 #[.slice sl n dl, .agg #[.int .i64 rx, .int .i64 ry, .bool rf], .string t, .int .i64 pa, .int .i64 px, .int .i64 kk, .slice ss m ds, .agg #[.int .i64 zc, .slice sz q dz]] w fun e w' => e = .returned (.bool true) ∧ Below w.heap.size w w' := by
  obtain ⟨X, Y, F, hr⟩ : ∃ (X Y : Nat → Int) (F : Nat → Bool), (n = 0 ∨ ∃ b o : Nat, sl = some ⟨b, o, none⟩ ∧ RowO w b o n X Y F) := by
    rcases uK with h | ⟨b, o, X, Y, F, e, r⟩
    · exact ⟨fun _ => 0, fun _ => 0, fun _ => false, Or.inl h⟩
    · exact ⟨X, Y, F, Or.inr ⟨b, o, e, r⟩⟩
  obtain ⟨eK, eR, ea, e1, n1, v1, a0, a1, a2, a3, a4, a5, a6, a7, a8, a9, a10, T1⟩ := rt_one hA sl n dl X Y F t w rx ry rf hn kl hr ht
  obtain ⟨e2a, e2b, e2c, e2, wC, kx, ky, kf, v2, j0, S, WS, rB, b0, b1, b2, b3, b4, b5, b6, b7, b8, b9, T2⟩ := rt_two hS sl n dl X Y F t w pa px kk ss m ds hn kl hr ht hm km us wa wx wk
  obtain ⟨fa, fb, ff, rt, v3, j1, ZS, c0, c1, c2, c3, c4, c5, c6, c7, T3⟩ := rt_three hV sl n dl X Y F t w zc sz q dz hn kl hr ht hq kq uz wz
  exact rtells (hd := hd) (hn9 := hn) (hm9 := hm) (hq9 := hq) (T1 := T1) (T2 := T2) (T3 := T3) (hHSP := a0) (hHSR := a1) (hHRG := a2) (hA1t := a3) (hA1f := a4) (hA2t := a5) (hA2f := a6) (hA3t := a7) (hA3f := a8) (hHAK := a9) (hI1 := a10) (hB1 := b0) (hB2 := b1) (hB3t := b2) (hB3f := b3) (hB4t := b4) (hB4f := b5) (hB5t := b6) (hB5f := b7) (hHSG := b8) (hI2 := b9) (hC1 := c0) (hC2 := c1) (hC3t := c2) (hC3f := c3) (hD1t := c4) (hD1f := c5) (hHVE := c6) (hI3 := c7) (hHSX := rsecret px) (hHSK := rsecret kk) (hHRZ := rrest zc)
end Go.Proofs.YtiddfngopoednahDoor
/- RingTellsWalk -/
namespace Go.Proofs.YtiddfngopoednahDoor
open Go.RowKit Go.Sort
set_option linter.unusedVariables false
theorem walkRingTells (w : World) (sl : Option Addr) (n dl : Nat) (r : Int × Int × Bool) (t : ByteArray) (pa px kk : Int) (ss : Option Addr) (m ds : Nat) (zc : Int) (sz : Option Addr) (q dz : Nat)
    (hn : n ≤ maxLen) (uK : n = 0 ∨ ∃ (b o : Nat) (X Y : Nat → Int) (F : Nat → Bool), sl = some ⟨b, o, none⟩ ∧ RowO w b o n X Y F) (kl : n ≤ dl) (_ : (Lit.int .i64 r.1).wf = true) (_ : (Lit.int .i64 r.2.1).wf = true) (ht : t.size ≤ maxLen)
    (wa : (Lit.int .i64 pa).wf = true) (wx : (Lit.int .i64 px).wf = true) (wk : (Lit.int .i64 kk).wf = true)
    (hm : m ≤ maxLen) (us : (m = 0 ∨ ∃ (b o : Nat) (X : Nat → Int), ss = some ⟨b, o, none⟩ ∧ RowI w b o m X ∧ ∀ i, i < m → (Lit.int .i64 (X i)).wf = true)) (km : m ≤ ds) (wz : (Lit.int .i64 zc).wf = true) (hq : q ≤ maxLen) (kq : q ≤ dz) (uz : (q = 0 ∨ ∃ (b o : Nat) (X : Nat → Int), sz = some ⟨b, o, none⟩ ∧ RowI w b o q X ∧ ∀ i, i < q → (Lit.int .i64 (X i)).wf = true)) (hd : Door w) :
    Calls Tryd.prog 4 #[.slice sl n dl, .agg #[.int .i64 r.1, .int .i64 r.2.1, .bool r.2.2], .string t, .int .i64 pa, .int .i64 px, .int .i64 kk, .slice ss m ds, .agg #[.int .i64 zc, .slice sz q dz]] w fun e w' => e = .returned (.bool true) ∧ Below w.heap.size w w' :=
  ringTells_by rask_is rsign_is rverify_is w sl n dl r.1 r.2.1 r.2.2 t pa px kk ss m ds zc sz q dz hn uK kl ht wa wx wk hm us km wz hq kq uz hd
end Go.Proofs.YtiddfngopoednahDoor
/- Open -/
namespace Go.Proofs.YtiddfngopoednahDoor
open Go.ChangeShapes Go.WideShapes Go.ChangeAt Go.RowKit Go.Joins Go.Deep Go.WideElems
set_option linter.unusedVariables false
set_option linter.unusedSimpArgs false

section
variable {H : Type} {enc : TypeId × Value → H} {P : Program} {w : World} {held : Bool}

theorem weights_in {e : TypeId} {d : DataW H} {x : Nat} : ∀ {l : List (DataW H)}, d ∈ l → x ∈ d.weights P e → x ∈ DataW.weightsAll P e l
  | [], h, _ => by cases h
  | c :: r, h, hx => by
    show x ∈ c.weights P e ++ DataW.weightsAll P e r
    rcases List.mem_cons.1 h with rfl | h
    · exact List.mem_append_left _ hx
    · exact List.mem_append_right _ (weights_in h hx)
/-- How long a slice is, by the form's own reach. -/
theorem len_slice {t e : TypeId} {sa : Option Addr} {n c : Nat} {d : DataW H} {p : List MemPlace} (ht : P.underlying t = some (.slice e))
    (h : DataW.Trod enc P w 0 (fun _ => true) held t (.slice sa n c) d p) (hw : ∀ x ∈ d.weights P t, x ≤ reachBytes) : n * P.bytesOf e ≤ reachBytes := by
  obtain ⟨fuel, hf⟩ := h
  rcases open_slice ht hf with ⟨hc, _⟩ | ⟨a, len, cap, m, k, D, Pl, hc, _, hl, hm, hmm, hx, hall⟩
  · simp [Value.cells] at hc
    obtain ⟨rfl, rfl, rfl⟩ := hc
    rw [Nat.zero_mul]; exact Nat.zero_le _
  · simp [Value.cells] at hc
    obtain ⟨rfl, rfl, rfl⟩ := hc
    simp only [if_true] at hmm
    subst hmm
    have hd : d = .slice ((List.range n).map D) ((List.range (m - n)).map fun j => D (n + j)) := congrArg Prod.fst hx
    have hmem : (n + (m - n)) * P.bytesOf e ∈ d.weights P t := by
      rw [hd]
      unfold DataW.weights
      rw [ht]
      simp
    have h1 := hw _ hmem
    have h2 : n * P.bytesOf e ≤ (n + (m - n)) * P.bytesOf e := Nat.mul_le_mul_right _ (by omega)
    exact Nat.le_trans h2 h1
/-- A slice has room for what it holds. -/
theorem room_slice {t e : TypeId} {sa : Option Addr} {n c : Nat} {d : DataW H} {p : List MemPlace} (ht : P.underlying t = some (.slice e))
    (h : DataW.Trod enc P w 0 (fun _ => true) held t (.slice sa n c) d p) : n ≤ c := by
  obtain ⟨fuel, hf⟩ := h
  rcases open_slice ht hf with ⟨hc, _⟩ | ⟨a, len, cap, m, k, D, Pl, hc, _, hl, hm, hmm, hx, hall⟩
  · simp [Value.cells] at hc
    obtain ⟨rfl, rfl, rfl⟩ := hc
    exact Nat.le_refl _
  · simp [Value.cells] at hc
    obtain ⟨rfl, rfl, rfl⟩ := hc
    exact hl
/-- A slice of texts: how long each one is, too. -/
theorem open_texts {r : Reach} {b0 : Nat} {t e : TypeId} {v : Value} {d : DataW H} {p : List MemPlace} (ht : P.underlying t = some (.slice e)) (he : P.underlying e = some .string) (ce : P.cellsOf e = 1)
    (hv : Value.okWide P w r b0 t v) (h : DataW.Trod enc P w 0 (fun _ => true) held t v d p) (hw : ∀ x ∈ d.weights P t, x ≤ reachBytes) :
    ∃ (sa : Option Addr) (n c : Nat), v = .slice sa n c ∧ n ≤ maxLen ∧ (n = 0 ∨ ∃ (b o : Nat) (T : Nat → ByteArray), sa = some ⟨b, o, none⟩ ∧ RowZ w b o n T ∧ ∀ i, i < n → (T i).size ≤ reachBytes) := by
  obtain ⟨sa, n, c, rfl⟩ := okWide_slice ht hv
  obtain ⟨fuel, hf⟩ := h
  rcases open_slice ht hf with ⟨hc, _⟩ | ⟨a, len, cap, m, k, D, Pl, hc, _, hl, hm, hmm, hx, hall⟩
  · simp [Value.cells] at hc
    obtain ⟨rfl, rfl, rfl⟩ := hc
    exact ⟨none, 0, 0, rfl, by decide, Or.inl rfl⟩
  · simp [Value.cells] at hc
    obtain ⟨rfl, rfl, rfl⟩ := hc
    simp only [if_true] at hmm
    subst hmm
    refine ⟨some a, n, m, rfl, by omega, ?_⟩
    rcases Nat.eq_zero_or_pos n with h0 | hn
    · exact Or.inl h0
    right
    have each : ∀ i, i < n → ∃ q : ByteArray, w.cell? (a.add i) = some (.string q) ∧ q.size ≤ reachBytes := by
      intro i hi
      obtain ⟨cs, h1, h2⟩ := hall i (by omega)
      rw [ce] at h1
      obtain ⟨_, hlen, hcell⟩ := World.cells?_some h1
      obtain ⟨s, rfl, hs, _⟩ := DataW.trod_string he h2
      have e0 := hcell 0 (by omega)
      refine ⟨s, by simpa [Addr.add, Nat.mul_one] using e0, ?_⟩
      have hd : d = .slice ((List.range n).map D) ((List.range (m - n)).map fun j => D (n + j)) := congrArg Prod.fst hx
      have hD : D i = .lit (.string s.data.toList) := congrArg Prod.fst hs
      have hmem : s.data.toList.length ∈ d.weights P t := by
        rw [hd]
        unfold DataW.weights
        rw [ht]
        refine List.mem_cons_of_mem _ (List.mem_append_left _ (weights_in (d := D i) (List.mem_map.2 ⟨i, List.mem_range.2 hi, rfl⟩) ?_))
        rw [hD]
        unfold DataW.weights
        simp
      have := hw _ hmem
      rw [Array.length_toList] at this
      exact this
    obtain ⟨q, hq⟩ := choose_lt (α := ByteArray) each
    obtain ⟨b, o, spot⟩ := a
    have hspot : spot = none := by simpa [Addr.add] using World.cell?_spot (hq 0 hn).1
    subst hspot
    refine ⟨b, o, q, rfl, ⟨?_, fun i hi => ?_⟩, fun i hi => (hq i hi).2⟩
    · have h1 := (hq 0 hn).1
      rw [Addr.add_lit] at h1; exact World.block_lt_of_cell? _ _ h1
    · have h1 := (hq i hi).1
      rwa [Addr.add_lit] at h1
/-- A slice of ints. -/
theorem open_nums {r : Reach} {b0 : Nat} {t e : TypeId} {v : Value} {d : DataW H} {p : List MemPlace} (ht : P.underlying t = some (.slice e)) (he : P.underlying e = some (.int .i64)) (ce : P.cellsOf e = 1)
    (hv : Value.okWide P w r b0 t v) (h : DataW.Trod enc P w 0 (fun _ => true) held t v d p) :
    ∃ (sa : Option Addr) (n c : Nat), v = .slice sa n c ∧ n ≤ maxLen ∧ (n = 0 ∨ ∃ (b o : Nat) (X : Nat → Int), sa = some ⟨b, o, none⟩ ∧ RowI w b o n X ∧ ∀ i, i < n → (Lit.int .i64 (X i)).wf = true) := by
  obtain ⟨sa, n, c, rfl⟩ := okWide_slice ht hv
  obtain ⟨fuel, hf⟩ := h
  rcases open_slice ht hf with ⟨hc, _⟩ | ⟨a, len, cap, m, k, D, Pl, hc, _, hl, hm, hmm, hx, hall⟩
  · simp [Value.cells] at hc
    obtain ⟨rfl, rfl, rfl⟩ := hc
    exact ⟨none, 0, 0, rfl, by decide, Or.inl rfl⟩
  · simp [Value.cells] at hc
    obtain ⟨rfl, rfl, rfl⟩ := hc
    simp only [if_true] at hmm
    subst hmm
    refine ⟨some a, n, m, rfl, by omega, ?_⟩
    rcases Nat.eq_zero_or_pos n with h0 | hn
    · exact Or.inl h0
    right
    have each : ∀ i, i < n → ∃ q : Int, w.cell? (a.add i) = some (.int .i64 q) ∧ (Lit.int .i64 q).wf = true := by
      intro i hi
      obtain ⟨cs, h1, h2⟩ := hall i (by omega)
      rw [ce] at h1
      obtain ⟨_, hlen, hcell⟩ := World.cells?_some h1
      obtain ⟨s, rfl, hs, ws⟩ := DataW.trod_int he h2
      have e0 := hcell 0 (by omega)
      exact ⟨s, by simpa [Addr.add, Nat.mul_one] using e0, ws⟩
    obtain ⟨q, hq⟩ := choose_lt (α := Int) each
    obtain ⟨b, o, spot⟩ := a
    have hspot : spot = none := by simpa [Addr.add] using World.cell?_spot (hq 0 hn).1
    subst hspot
    refine ⟨b, o, q, rfl, ⟨?_, fun i hi => ?_⟩, fun i hi => (hq i hi).2⟩
    · have h1 := (hq 0 hn).1
      rw [Addr.add_lit] at h1; exact World.block_lt_of_cell? _ _ h1
    · have h1 := (hq i hi).1
      rwa [Addr.add_lit] at h1
theorem cells_two {W : World} {base : Nat} {a : Addr} {cs : List Value} (h : W.cells? base a 2 = some cs) : ∃ v0 v1, cs = [v0, v1] ∧ W.cell? a = some v0 ∧ W.cell? (a.add 1) = some v1 := by
  obtain ⟨_, hlen, hcell⟩ := World.cells?_some h
  match cs, hlen with
  | [v0, v1], _ =>
    have e0 := hcell 0 (by omega)
    have e1 := hcell 1 (by omega)
    exact ⟨v0, v1, rfl, by simpa [Addr.add] using e0, by simpa using e1⟩
/-- A slice of structs of two ints. -/
theorem open_twos {r : Reach} {b0 : Nat} {t e : TypeId} {f0 f1 : Field} {v : Value} {d : DataW H} {p : List MemPlace} (ht : P.underlying t = some (.slice e)) (he : P.underlying e = some (.struct #[f0, f1])) (ce : P.cellsOf e = 2)
    (o0 : f0.offset = 0) (o1 : f1.offset = 1) (c0 : P.cellsOf f0.type = 1) (c1 : P.cellsOf f1.type = 1) (u0 : P.underlying f0.type = some (.int .i64)) (u1 : P.underlying f1.type = some (.int .i64))
    (hv : Value.okWide P w r b0 t v) (h : DataW.Trod enc P w 0 (fun _ => true) held t v d p) :
    ∃ (sa : Option Addr) (n c : Nat), v = .slice sa n c ∧ n ≤ maxLen ∧ (n = 0 ∨ ∃ (b o : Nat) (X Y : Nat → Int), sa = some ⟨b, o, none⟩ ∧ RowP w b o n X Y ∧ ∀ i, i < n → (Lit.int .i64 (X i)).wf = true ∧ (Lit.int .i64 (Y i)).wf = true) := by
  obtain ⟨sa, n, c, rfl⟩ := okWide_slice ht hv
  obtain ⟨fuel, hf⟩ := h
  rcases open_slice ht hf with ⟨hc, _⟩ | ⟨a, len, cap, m, k, D, Pl, hc, _, hl, hm, hmm, hx, hall⟩
  · simp [Value.cells] at hc
    obtain ⟨rfl, rfl, rfl⟩ := hc
    exact ⟨none, 0, 0, rfl, by decide, Or.inl rfl⟩
  · simp [Value.cells] at hc
    obtain ⟨rfl, rfl, rfl⟩ := hc
    simp only [if_true] at hmm
    subst hmm
    refine ⟨some a, n, m, rfl, by omega, ?_⟩
    rcases Nat.eq_zero_or_pos n with h0 | hn
    · exact Or.inl h0
    right
    have each : ∀ i, i < n → ∃ q : Int × Int, w.cell? (a.add (i * 2)) = some (.int .i64 q.1) ∧ w.cell? (a.add (i * 2 + 1)) = some (.int .i64 q.2) ∧ (Lit.int .i64 q.1).wf = true ∧ (Lit.int .i64 q.2).wf = true := by
      intro i hi
      obtain ⟨cs, h1, h2⟩ := hall i (by omega)
      rw [ce] at h1
      obtain ⟨v0, v1, rfl, g0, g1⟩ := cells_two h1
      rw [add_add] at g1
      obtain ⟨xs, k', hk, _, _, hxl, hfd⟩ := DataW.trod_struct he h2
      match xs, hxl with
      | [y0, y1], _ =>
        have q0 := hfd 0 f0 rfl
        have q1 := hfd 1 f1 rfl
        simp [o0, o1, c0, c1] at q0 q1
        obtain ⟨x, e0, _, wx⟩ := DataW.trod_int u0 q0
        obtain ⟨y, e1, _, wy⟩ := DataW.trod_int u1 q1
        simp at e0 e1
        subst e0 e1
        exact ⟨(x, y), g0, g1, wx, wy⟩
    obtain ⟨q, hq⟩ := choose_lt (α := Int × Int) each
    obtain ⟨b, o, spot⟩ := a
    have hspot : spot = none := by simpa [Addr.add] using World.cell?_spot (hq 0 hn).1
    subst hspot
    refine ⟨b, o, fun i => (q i).1, fun i => (q i).2, rfl, ⟨?_, fun i hi => ?_⟩, fun i hi => (hq i hi).2.2⟩
    · have h1 := (hq 0 hn).1
      rw [Addr.add_lit] at h1; exact World.block_lt_of_cell? _ _ h1
    · obtain ⟨h1, h2, _⟩ := hq i hi
      simp only [Addr.add_lit] at h1 h2
      exact ⟨h1, by rw [Nat.add_assoc]; exact h2⟩
end
end Go.Proofs.YtiddfngopoednahDoor
/- OpenRing -/
namespace Go.Proofs.YtiddfngopoednahDoor
open Go.ChangeShapes Go.WideShapes Go.ChangeAt Go.RowKit Go.Joins Go.Deep Go.WideElems
set_option linter.unusedVariables false
set_option linter.unusedSimpArgs false

section
variable {H : Type} {enc : TypeId × Value → H} {P : Program} {w : World} {held : Bool}

/-- Cells that hold a slice of ints. -/
theorem cells_nums {t e : TypeId} {fuel : Nat} {cs : List Value} {x : DataW H × List MemPlace} (ht : P.underlying t = some (.slice e)) (he : P.underlying e = some (.int .i64)) (ce : P.cellsOf e = 1)
    (hf : DataW.trod enc P w 0 (fun _ => true) held fuel t cs = some x) :
    ∃ (sa : Option Addr) (n c : Nat), cs = [.slice sa n c] ∧ n ≤ maxLen ∧ n ≤ c ∧ (n = 0 ∨ ∃ (b o : Nat) (X : Nat → Int), sa = some ⟨b, o, none⟩ ∧ RowI w b o n X ∧ ∀ i, i < n → (Lit.int .i64 (X i)).wf = true) := by
  rcases open_slice ht hf with ⟨hc, _⟩ | ⟨a, n, cap, m, k, D, Pl, hc, _, hl, hm, hmm, hx, hall⟩
  · exact ⟨none, 0, 0, hc, by decide, Nat.le_refl _, Or.inl rfl⟩
  · simp only [if_true] at hmm
    subst hmm
    refine ⟨some a, n, m, hc, by omega, hl, ?_⟩
    rcases Nat.eq_zero_or_pos n with h0 | hn
    · exact Or.inl h0
    right
    have each : ∀ i, i < n → ∃ q : Int, w.cell? (a.add i) = some (.int .i64 q) ∧ (Lit.int .i64 q).wf = true := by
      intro i hi
      obtain ⟨cs, h1, h2⟩ := hall i (by omega)
      rw [ce] at h1
      obtain ⟨_, hlen, hcell⟩ := World.cells?_some h1
      obtain ⟨s, rfl, hs, ws⟩ := DataW.trod_int he h2
      have e0 := hcell 0 (by omega)
      exact ⟨s, by simpa [Addr.add, Nat.mul_one] using e0, ws⟩
    obtain ⟨q, hq⟩ := choose_lt (α := Int) each
    obtain ⟨b, o, spot⟩ := a
    have hspot : spot = none := by simpa [Addr.add] using World.cell?_spot (hq 0 hn).1
    subst hspot
    refine ⟨b, o, q, rfl, ⟨?_, fun i hi => ?_⟩, fun i hi => (hq i hi).2⟩
    · have h1 := (hq 0 hn).1
      rw [Addr.add_lit] at h1; exact World.block_lt_of_cell? _ _ h1
    · have h1 := (hq i hi).1
      rwa [Addr.add_lit] at h1
theorem array_two {α : Type} {a : Array α} (h : a.size = 2) : ∃ x y, a = #[x, y] := by
  obtain ⟨l⟩ := a
  match l, h with
  | [x, y], _ => exact ⟨x, y, rfl⟩
/-- A struct of an int and a slice of ints. -/
theorem open_ringed {r : Reach} {b0 : Nat} {t e : TypeId} {f0 f1 : Field} {v : Value} {d : DataW H} {p : List MemPlace} (hs : P.underlying t = some (.struct #[f0, f1])) (hC : P.cellsOf t = 2)
    (o0 : f0.offset = 0) (o1 : f1.offset = 1) (c0 : P.cellsOf f0.type = 1) (c1 : P.cellsOf f1.type = 1)
    (u0 : P.underlying f0.type = some (.int .i64)) (u1 : P.underlying f1.type = some (.slice e)) (he : P.underlying e = some (.int .i64)) (ce : P.cellsOf e = 1)
    (hv : Value.okWide P w r b0 t v) (h : DataW.Trod enc P w 0 (fun _ => true) held t v d p) :
    ∃ (a : Int) (sa : Option Addr) (n c : Nat), v = .agg #[.int .i64 a, .slice sa n c] ∧ (Lit.int .i64 a).wf = true ∧ n ≤ maxLen ∧ n ≤ c ∧ (n = 0 ∨ ∃ (b o : Nat) (X : Nat → Int), sa = some ⟨b, o, none⟩ ∧ RowI w b o n X ∧ ∀ i, i < n → (Lit.int .i64 (X i)).wf = true) := by
  obtain ⟨cs, rfl, hsz⟩ := okWide_struct hs hv
  obtain ⟨v0, v1, rfl⟩ := array_two (hsz.trans hC)
  obtain ⟨fuel, hf⟩ := h
  obtain ⟨y0, y1, n, hx, _, h0, h1⟩ := trod_struct2 hs hf
  simp [Value.cells, o0, o1, c0, c1] at h0 h1
  obtain ⟨a, e0, _, wa⟩ := DataW.trod_int u0 h0
  obtain ⟨sa, m, c, e1, k1, k2, k3⟩ := cells_nums u1 he ce h1
  simp at e0 e1
  subst e0 e1
  exact ⟨a, sa, m, c, rfl, wa, k1, k2, k3⟩
end
end Go.Proofs.YtiddfngopoednahDoor
