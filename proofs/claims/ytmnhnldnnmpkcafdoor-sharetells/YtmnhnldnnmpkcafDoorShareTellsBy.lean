/- stonelaw2.ShareTells answers true, by what package share is to answer. -/
import Derived.Test.YtmnhnldnnmpkcafDoorShareIs
import Derived.Test.YtmnhnldnnmpkcafDoorShareTellsL
import Derived.Test.YtmnhnldnnmpkcafDoorShell
namespace Go.Proofs.YtmnhnldnnmpkcafDoor
open Go.RowKit Go.Sort
set_option linter.unusedVariables false
set_option linter.unusedSimpArgs false
theorem rowI_up {w W : World} {s : Option Addr} {n : Nat} {X : Nat → Int} (h : n = 0 ∨ ∃ b o : Nat, s = some ⟨b, o, none⟩ ∧ RowI w b o n X) (hW : Below w.heap.size w W) : n = 0 ∨ ∃ b o : Nat, s = some ⟨b, o, none⟩ ∧ RowI W b o n X :=
  h.imp_right fun ⟨b, o, e, r⟩ => ⟨b, o, e, r.below r.1 hW⟩
theorem rest_is {n : Int} {t : Bool} (h : resB n = t) : ∀ w, Calls Tryd.prog 4 #[.int .i64 n] w fun ex w' => ex = .returned (.bool t) ∧ Below w.heap.size w w' := fun w => by
  have := rrest n w
  rwa [h] at this
theorem told_is (e : Int) : (toldI (errOf e) == e) = true := by rw [toldI_err]; simp
theorem part1 (hS : SplitIs) (sc : Option Addr) (m dc : Nat) (C : Nat → Int) (z : Int) (w : World) (hm : m ≤ 9223372036854775807) (hr : (m = 0 ∨ ∃ b o : Nat, sc = some ⟨b, o, none⟩ ∧ RowI w b o m C)) (hc : ∀ i, i < m → (Lit.int .i64 (C i)).wf = true) (hz : (Lit.int .i64 z).wf = true) :
    ∃ (e0 e1 : Int) (n j0 : Nat) (v1 : Value), ((12 < m ∧ e0 = 4) ∨ (¬ 12 < m ∧ (m = 0 ∨ z < 1 ∨ 12 < z) ∧ e0 = 1) ∨ (¬ 12 < m ∧ ¬ m = 0 ∧ ¬ z < 1 ∧ ¬ 12 < z ∧ e0 = 0)) ∧ ((e0 == 0) = true → (m = 0 ∨ ∃ b o : Nat, sc = some ⟨b, o, none⟩ ∧ RowI w b o m C) ∧ m ≤ 12 ∧ j0 ≤ m ∧ (∀ i, i < j0 → (∀ w, Calls Tryd.prog 4 #[.int .i64 (C i)] w fun ex w' => ex = .returned (.bool true) ∧ Below w.heap.size w w')) ∧ ((j0 = m ∧ e1 = 0) ∨ (j0 < m ∧ (∀ w, Calls Tryd.prog 4 #[.int .i64 (C j0)] w fun ex w' => ex = .returned (.bool false) ∧ Below w.heap.size w w') ∧ e1 = 1))) ∧ ((e0 == 0) = false → e1 = e0) ∧ ((e1 == 0) = true → z = (n : Int) ∧ 1 ≤ n ∧ n ≤ 12 ∧ (∀ i, i < n → (fun i : Nat => (i : Int) + 1) i = (i : Int) + 1) ∧ ∀ i, i < n → (∀ W, Below w.heap.size w W → Calls Tryd.prog 5 #[.slice sc m dc, .int .i64 ((i : Int) + 1)] W fun ex w' => ex = .returned (.int .i64 ((fun i => vI (vlq (xq C) (zq ((i : Int) + 1)) m)) i)) ∧ Below W.heap.size W w')) ∧ (∀ W, Below w.heap.size w W → Calls Tryd.prog 6 #[.slice sc m dc, .int .i64 z] W fun ex w' => ∃ u, ex = .returned (.tuple #[u, v1]) ∧ ((e1 == 0) = true → w'.ownsRow W.heap.size 27 2 u n (cellsP (fun i : Nat => (i : Int) + 1) (fun i => vI (vlq (xq C) (zq ((i : Int) + 1)) m)) n)) ∧ ((e1 == 0) = false → u = .slice none 0 0) ∧ Below W.heap.size W w') ∧ IsErr v1 ∧ (toldI v1 == e1) = true := by
  by_cases h1 : 12 < m
  · exact ⟨4, 4, 0, 0, errOf 4, Or.inl ⟨h1, rfl⟩, fun h => absurd h (by decide), fun _ => rfl, fun h => absurd h (by decide), fun W hW => (hS.1 sc m dc z W h1 hm).mono fun ex w' ⟨h1, h2⟩ => ⟨.slice none 0 0, h1, fun h => absurd h (by decide), fun _ => rfl, h2⟩, isErr_err 4, told_is 4⟩
  by_cases h2 : m = 0 ∨ z < 1 ∨ 12 < z
  · exact ⟨1, 1, 0, 0, errOf 1, Or.inr (Or.inl ⟨h1, h2, rfl⟩), fun h => absurd h (by decide), fun _ => rfl, fun h => absurd h (by decide), fun W hW => (hS.2.1 sc m dc C z W h1 (rowI_up hr hW) hc hz (h2.imp_right fun h => h.imp_right Or.inl)).mono fun ex w' ⟨h1, h2⟩ => ⟨.slice none 0 0, h1, fun h => absurd h (by decide), fun _ => rfl, h2⟩, isErr_err 1, told_is 1⟩
  obtain ⟨n, hn⟩ := Int.eq_ofNat_of_zero_le (show 0 ≤ z by omega)
  obtain ⟨j0, g1, g2, g3⟩ := first_no (fun i => resB (C i)) m
  have h0 : ¬ m = 0 ∧ ¬ z < 1 ∧ ¬ 12 < z := by omega
  rcases g3 with g3 | ⟨g3, g4⟩
  · subst g3
    obtain ⟨b, o, rfl, r⟩ := hr.resolve_left h0.1
    refine ⟨0, 0, n, j0, .nilIface, Or.inr (Or.inr ⟨h1, h0.1, h0.2.1, h0.2.2, rfl⟩), fun _ => ⟨Or.inr ⟨b, o, rfl, r⟩, by omega, Nat.le_refl _, fun i hi => rest_is (g2 i hi), Or.inl ⟨rfl, rfl⟩⟩, fun h => absurd h (by decide), fun _ => ⟨hn, by omega, by omega, fun i hi => rfl, fun i hi W hW => ?_⟩, fun W hW => ?_, isErr_nil, rfl⟩
    · exact rvalue_row b o j0 dc C _ W (by omega) (r.below r.1 hW) (fun i hi => res_bd (g2 i hi)) (by omega) (by omega)
    · rw [hn]
      refine (hS.2.2 b o j0 dc C n W (by omega) (by omega) (r.below r.1 hW) g2 (by omega) (by omega)).mono fun ex w' ⟨u, k1, k2, k3⟩ => ⟨u, k1, fun _ => k2, fun h => absurd h (by decide), k3⟩
  · exact ⟨0, 1, n, j0, errOf 1, Or.inr (Or.inr ⟨h1, h0.1, h0.2.1, h0.2.2, rfl⟩), fun _ => ⟨hr, by omega, g1, fun i hi => rest_is (g2 i hi), Or.inr ⟨g3, rest_is g4, rfl⟩⟩, fun h => absurd h (by decide), fun h => absurd h (by decide), fun W hW => (hS.2.1 sc m dc C z W h1 (rowI_up hr hW) hc hz (Or.inr (Or.inr (Or.inr ⟨j0, g3, g4⟩)))).mono fun ex w' ⟨h1, h2⟩ => ⟨.slice none 0 0, h1, fun h => absurd h (by decide), fun _ => rfl, h2⟩, isErr_err 1, told_is 1⟩
theorem part2 (hW : WeightsIs) (sx : Option Addr) (p dx : Nat) (X : Nat → Int) (w : World) (hp : p ≤ 9223372036854775807) (kx : p ≤ dx) (hr : (p = 0 ∨ ∃ b o : Nat, sx = some ⟨b, o, none⟩ ∧ RowI w b o p X)) (hx : ∀ i, i < p → (Lit.int .i64 (X i)).wf = true) :
    ∃ (e2 : Int) (v2 : Value), (∀ W, Below w.heap.size w W → Calls Tryd.prog 9 #[.slice sx p dx] W fun ex w' => ex = .returned (.int .i64 e2) ∧ Below W.heap.size W w') ∧ ((e2 == 0) = true → p ≤ 12 ∧ ∀ W, Below w.heap.size w W → Calls Tryd.prog 10 #[.slice sx p dx] W fun e w' => GivesI W p (fun i => vI (wtq (xq X) p i)) e w') ∧ (∀ W, Below w.heap.size w W → Calls Tryd.prog 11 #[.slice sx p dx] W fun ex w' => ∃ u, ex = .returned (.tuple #[u, v2]) ∧ ((e2 == 0) = true → w'.ownsRow W.heap.size 3 1 u p (cellsI (fun i => vI (wtq (xq X) p i)) p)) ∧ ((e2 == 0) = false → u = .slice none 0 0) ∧ Below W.heap.size W w') ∧ IsErr v2 ∧ (toldI v2 == e2) = true := by
  by_cases h1 : 12 < p
  · exact ⟨4, errOf 4, fun W k => rplaces_many sx p dx W h1 hp, fun h => absurd h (by decide), fun W k => (hW.1 sx p dx W h1 hp).mono fun ex w' ⟨h1, h2⟩ => ⟨.slice none 0 0, h1, fun h => absurd h (by decide), fun _ => rfl, h2⟩, isErr_err 4, told_is 4⟩
  by_cases h2 : p = 0
  · subst h2
    exact ⟨5, errOf 5, fun W k => rplaces_nil sx dx W, fun h => absurd h (by decide), fun W k => (hW.2.1 sx dx W).mono fun ex w' ⟨h1, h2⟩ => ⟨.slice none 0 0, h1, fun h => absurd h (by decide), fun _ => rfl, h2⟩, isErr_err 5, told_is 5⟩
  obtain ⟨b, o, rfl, r⟩ := hr.resolve_left h2
  cases he : plE secB X p == 0 with
  | false =>
    exact ⟨plE secB X p, errOf (plE secB X p), fun W k => rplaces_row secB rsecret b o p dx X W (by omega) (by omega) (r.below r.1 k), (fun h => absurd (he.symm.trans h) (by decide)), fun W k => (hW.2.2.1 b o p dx X W (by omega) (by omega) kx (r.below r.1 k) hx he).mono fun ex w' ⟨h1, h2⟩ => ⟨.slice none 0 0, h1, (fun h => absurd (he.symm.trans h) (by decide)), fun _ => rfl, h2⟩, isErr_err _, told_is _⟩
  | true =>
    have h0 : plE secB X p = 0 := by simpa using he
    refine ⟨0, .nilIface, fun W k => ?_, fun _ => ⟨by omega, fun W k => ?_⟩, fun W k => ?_, isErr_nil, rfl⟩
    · have := rplaces_row secB rsecret b o p dx X W (by omega) (by omega) (r.below r.1 k)
      rwa [h0] at this
    · exact rweights_row b o p dx X W (by omega) (r.below r.1 k) (fun i hi => sec_bd (pl_good h0 i hi).1) (pl_dist (fun m h => sec_bd h) h0)
    · exact (hW.2.2.2 b o p dx X W (by omega) (by omega) kx (r.below r.1 k) h0).mono fun ex w' ⟨u, k1, k2, k3⟩ => ⟨u, k1, fun _ => k2, fun h => absurd h (by decide), k3⟩
theorem part3 (hC : CombineIs) (sl : Option Addr) (q dl : Nat) (LX LY : Nat → Int) (w : World) (hq : q * 16 ≤ 140737488351232) (hr : (q = 0 ∨ ∃ b o : Nat, sl = some ⟨b, o, none⟩ ∧ RowP w b o q LX LY)) (hx : ∀ i, i < q → (Lit.int .i64 (LX i)).wf = true) (hy : ∀ i, i < q → (Lit.int .i64 (LY i)).wf = true) :
    ∃ (e3 e4 sm : Int) (j1 : Nat) (v4 : Value), (∀ W v, Below w.heap.size w W → W.ownsRow w.heap.size 3 1 v q (cellsI LX q) → Calls Tryd.prog 9 #[v] W fun ex w' => ex = .returned (.int .i64 e3) ∧ Below W.heap.size W w') ∧ ((e3 == 0) = true → q ≤ 12 ∧ j1 ≤ q ∧ (∀ i, i < j1 → (∀ w, Calls Tryd.prog 4 #[.int .i64 (LY i)] w fun ex w' => ex = .returned (.bool true) ∧ Below w.heap.size w w')) ∧ ((j1 = q ∧ e4 = 0) ∨ (j1 < q ∧ (∀ w, Calls Tryd.prog 4 #[.int .i64 (LY j1)] w fun ex w' => ex = .returned (.bool false) ∧ Below w.heap.size w w') ∧ e4 = 1))) ∧ ((e3 == 0) = false → e4 = e3) ∧ ((e4 == 0) = true → q ≤ 12 ∧ (∀ W v, Below w.heap.size w W → W.ownsRow w.heap.size 3 1 v q (cellsI LX q) → Calls Tryd.prog 10 #[v] W fun e w' => GivesI W q (fun i => vI (wtq (xq LX) q i)) e w') ∧ (smI LX LY q) 0 = 0 ∧ (smI LX LY q) q = sm ∧ ∀ i, i < q → ((smI LX LY q) i + (fun i => vI (wtq (xq LX) q i)) i * LY i) % 1013 = (smI LX LY q) (i + 1) ∧ 0 ≤ (smI LX LY q) i ∧ (smI LX LY q) i < 1013 ∧ 0 ≤ (fun i => vI (wtq (xq LX) q i)) i * LY i ∧ (fun i => vI (wtq (xq LX) q i)) i * LY i ≤ 1100000) ∧ ((e4 == 0) = false → sm = 0) ∧ (∀ W, Below w.heap.size w W → Calls Tryd.prog 13 #[.slice sl q dl] W fun ex w' => ex = .returned (.tuple #[.int .i64 sm, v4]) ∧ Below W.heap.size W w') ∧ IsErr v4 ∧ (toldI v4 == e4) = true := by
  by_cases h1 : 12 < q
  · obtain ⟨b, o, rfl, r⟩ := hr.resolve_left (by omega)
    refine ⟨4, 4, 0, 0, errOf 4, fun W v k hv => ?_, fun h => absurd h (by decide), fun _ => rfl, fun h => absurd h (by decide), fun _ => rfl, fun W k => hC.1 _ q dl W h1 hq ⟨b, o, LX, LY, rfl, r.below r.1 k⟩, isErr_err 4, told_is 4⟩
    obtain ⟨sa, c, rfl, _⟩ := own_slice hv
    exact rplaces_many sa q c W h1 (by omega)
  by_cases h2 : q = 0
  · subst h2
    refine ⟨5, 5, 0, 0, errOf 5, fun W v k hv => ?_, fun h => absurd h (by decide), fun _ => rfl, fun h => absurd h (by decide), fun _ => rfl, fun W k => hC.2.1 sl dl W, isErr_err 5, told_is 5⟩
    obtain ⟨sa, c, rfl, _⟩ := own_slice hv
    exact rplaces_nil sa c W
  obtain ⟨b, o, rfl, r⟩ := hr.resolve_left h2
  have hpl : ∀ W v, Below w.heap.size w W → W.ownsRow w.heap.size 3 1 v q (cellsI LX q) → Calls Tryd.prog 9 #[v] W fun ex w' => ex = .returned (.int .i64 (plE secB LX q)) ∧ Below W.heap.size W w' := fun W v k hv => by
    obtain ⟨sa, c, rfl, h3⟩ := own_ints hv
    obtain ⟨g, rfl, _, _, h4⟩ := h3.resolve_left h2
    exact rplaces_row secB rsecret g 0 q c LX W (by omega) (by omega) h4
  cases he : plE secB LX q == 0 with
  | false =>
    exact ⟨plE secB LX q, plE secB LX q, 0, 0, errOf (plE secB LX q), hpl, (fun h => absurd (he.symm.trans h) (by decide)), fun _ => rfl, (fun h => absurd (he.symm.trans h) (by decide)), fun _ => rfl, fun W k => hC.2.2.1 b o q dl LX LY W (by omega) (by omega) (r.below r.1 k) hx hy he, isErr_err _, told_is _⟩
  | true =>
    have h0 : plE secB LX q = 0 := by simpa using he
    rw [h0] at hpl
    obtain ⟨j1, g1, g2, g3⟩ := first_no (fun i => resB (LY i)) q
    rcases g3 with g3 | ⟨g3, g4⟩
    · subst g3
      refine ⟨0, 0, smI LX LY j1 j1, j1, .nilIface, hpl, fun _ => ⟨by omega, Nat.le_refl _, fun i hi => rest_is (g2 i hi), Or.inl ⟨rfl, rfl⟩⟩, fun h => absurd h (by decide), fun _ => ⟨by omega, fun W v k hv => ?_, rfl, rfl, fun i hi => ⟨smI_step LX LY j1 i, vI_lo _, vI_hi _, ?_⟩⟩, fun h => absurd h (by decide), fun W k => ?_, isErr_nil, rfl⟩
      · obtain ⟨sa, c, rfl, h3⟩ := own_ints hv
        obtain ⟨g, rfl, _, _, h4⟩ := h3.resolve_left h2
        exact rweights_row g 0 j1 c LX W (by omega) h4 (fun i hi => sec_bd (pl_good h0 i hi).1) (pl_dist (fun m h => sec_bd h) h0)
      · obtain ⟨y0, y1⟩ := res_bd (g2 i hi)
        exact vI_bd _ y0 y1
      · exact hC.2.2.2.2 b o j1 dl LX LY W (by omega) (by omega) (r.below r.1 k) h0 g2
    · exact ⟨0, 1, 0, j1, errOf 1, hpl, fun _ => ⟨by omega, g1, fun i hi => rest_is (g2 i hi), Or.inr ⟨g3, rest_is g4, rfl⟩⟩, fun h => absurd h (by decide), fun h => absurd h (by decide), fun _ => rfl, fun W k => hC.2.2.2.1 b o q dl LX LY W (by omega) (by omega) (r.below r.1 k) hy h0 ⟨j1, g3, g4⟩, isErr_err 1, told_is 1⟩
theorem shareTells_by (hS : SplitIs) (hW : WeightsIs) (hC : CombineIs) (w : World) (sc : Option Addr) (m dc : Nat) (z : Int) (sx : Option Addr) (p dx : Nat) (sl : Option Addr) (q dl : Nat)
    (hm : m ≤ maxLen) (uC : m = 0 ∨ ∃ (b o : Nat) (X : Nat → Int), sc = some ⟨b, o, none⟩ ∧ RowI w b o m X ∧ ∀ i, i < m → (Lit.int .i64 (X i)).wf = true) (hz : (Lit.int .i64 z).wf = true)
    (hp : p ≤ maxLen) (kX : p ≤ dx) (uX : p = 0 ∨ ∃ (b o : Nat) (X : Nat → Int), sx = some ⟨b, o, none⟩ ∧ RowI w b o p X ∧ ∀ i, i < p → (Lit.int .i64 (X i)).wf = true)
    (hq : q ≤ maxLen) (uL : q = 0 ∨ ∃ (b o : Nat) (X Y : Nat → Int), sl = some ⟨b, o, none⟩ ∧ RowP w b o q X Y ∧ ∀ i, i < q → (Lit.int .i64 (X i)).wf = true ∧ (Lit.int .i64 (Y i)).wf = true) (zL : q * 16 ≤ reachBytes) (hd : Door w) :
    Calls Tryd.prog 3 #[.slice sc m dc, .int .i64 z, .slice sx p dx, .slice sl q dl] w fun e w' => e = .returned (.bool true) ∧ Below w.heap.size w w' := by
  obtain ⟨C, c1, c2⟩ : ∃ C : Nat → Int, ((m = 0 ∨ ∃ b o : Nat, sc = some ⟨b, o, none⟩ ∧ RowI w b o m C)) ∧ ∀ i, i < m → (Lit.int .i64 (C i)).wf = true := by
    rcases uC with h | ⟨b, o, X, e, r, k⟩
    · exact ⟨fun _ => 0, Or.inl h, fun i hi => by omega⟩
    · exact ⟨X, Or.inr ⟨b, o, e, r⟩, k⟩
  obtain ⟨X, x1, x2⟩ : ∃ X : Nat → Int, ((p = 0 ∨ ∃ b o : Nat, sx = some ⟨b, o, none⟩ ∧ RowI w b o p X)) ∧ ∀ i, i < p → (Lit.int .i64 (X i)).wf = true := by
    rcases uX with h | ⟨b, o, X, e, r, k⟩
    · exact ⟨fun _ => 0, Or.inl h, fun i hi => by omega⟩
    · exact ⟨X, Or.inr ⟨b, o, e, r⟩, k⟩
  obtain ⟨LX, LY, l1, l2, l3⟩ : ∃ LX LY : Nat → Int, ((q = 0 ∨ ∃ b o : Nat, sl = some ⟨b, o, none⟩ ∧ RowP w b o q LX LY)) ∧ (∀ i, i < q → (Lit.int .i64 (LX i)).wf = true) ∧ ∀ i, i < q → (Lit.int .i64 (LY i)).wf = true := by
    rcases uL with h | ⟨b, o, X, Y, e, r, k⟩
    · exact ⟨fun _ => 0, fun _ => 0, Or.inl h, fun i hi => by omega, fun i hi => by omega⟩
    · exact ⟨X, Y, Or.inr ⟨b, o, e, r⟩, fun i hi => (k i hi).1, fun i hi => (k i hi).2⟩
  have zL' : q * 16 ≤ 140737488351232 := zL
  obtain ⟨e0, e1, n, j0, v1, a1, a2, a3, a4, a5, a6, a7⟩ := part1 hS sc m dc C z w hm c1 c2 hz
  obtain ⟨e2, v2, b1, b2, b3, b4, b5⟩ := part2 hW sx p dx X w hp kX x1 x2
  obtain ⟨e3, e4, sm, j1, v4, d1, d2, d3, d4, d5, d6, d7, d8⟩ := part3 hC sl q dl LX LY w zL' l1 l2 l3
  exact stells z e0 e1 e2 e3 e4 sm v1 v2 v4 sc sx sl m dc p dx q dl n j0 j1 C _ _ _ LX LY _ _ w hd hm hp (by omega) a7 b5 d8 a1 a2 a3 a4 a5 a6 b1 b2 b3 b4 l1 d1 d2 d3 d4 d5 d6 d7
end Go.Proofs.YtmnhnldnnmpkcafDoor
