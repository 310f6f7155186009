/- stonelaw2.QuorumTells answers true, by what package quorum is to answer. -/
import Derived.Test.YtkhpmnehjifdcafDoorQuorumIs
import Derived.Test.YtkhpmnehjifdcafDoorQuorumTellsL
import Derived.Test.YtkhpmnehjifdcafDoorRefBy
import Derived.Test.YtkhpmnehjifdcafDoorRefHash
import Derived.Test.YtkhpmnehjifdcafDoorShell
namespace Go.Proofs.YtkhpmnehjifdcafDoor
open Go.RowKit Go.Sort
set_option linter.unusedVariables false
set_option linter.unusedSimpArgs false
theorem em_q {k : Nat} (h : k < 1013) : em (k : Int) = k := by unfold em; omega
theorem told_it (e : Int) : (toldI (errOf e) == e) = true := by rw [toldI_err]; simp
theorem spots_K {X Y : Nat → Int} {F : Nat → Bool} {n : Nat} (h : ∀ i, i < n → ckI (X i) (Y i) (F i) = 0) : ∃ K : Nat → Nat, ∀ i, i < n → X i = ((tM (K i)).1 : Int) ∧ Y i = ((tM (K i)).2.1 : Int) ∧ F i = (tM (K i)).2.2 :=
  Deep.choose_lt (p := fun i k => X i = ((tM k).1 : Int) ∧ Y i = ((tM k).2.1 : Int) ∧ F i = (tM k).2.2) fun i hi => by
    obtain ⟨k, _, h1, h2, h3⟩ := ckI_tN (h i hi)
    exact ⟨k, h1, h2, h3⟩
theorem rof_w (t : ByteArray) (w : World) (ht : t.size ≤ 140737488351232) : Calls Tryd.prog 17 #[.string t] w fun ex w' => ex = .returned (.agg #[.int .i64 ((tM (4 * uN t)).1 : Int), .int .i64 ((tM (4 * uN t)).2.1 : Int), .bool (tM (4 * uN t)).2.2]) ∧ Below w.heap.size w w' := by
  have := rof_any t w ht
  rw [uN_is] at this
  rw [uN_f]; exact this
theorem qt_one (hT : PartIs) (x1 y1 : Int) (t : ByteArray) (ht : t.size ≤ 140737488351232) :
    ∃ (wx wy ox oy e1 : Int) (wf of_ a : Bool) (v1 : Value), (∀ w, Calls Tryd.prog 15 #[.agg #[.int .i64 x1, .int .i64 y1]] w fun ex w' => ex = .returned (.bool a) ∧ Below w.heap.size w w') ∧ (a = false → e1 = 1 ∧ wx = 0 ∧ wy = 0 ∧ wf = false) ∧ (a = true → (60 < t.size ∧ e1 = 4 ∧ wx = 0 ∧ wy = 0 ∧ wf = false) ∨ (t.size ≤ 60 ∧ e1 = 0 ∧ (∀ w, Calls Tryd.prog 17 #[.string t] w fun ex w' => ex = .returned (.agg #[.int .i64 ox, .int .i64 oy, .bool of_]) ∧ Below w.heap.size w w') ∧ (∀ w, Calls Tryd.prog 16 #[.agg #[.int .i64 ox, .int .i64 oy, .bool of_], .int .i64 y1] w fun ex w' => ex = .returned (.agg #[.int .i64 wx, .int .i64 wy, .bool wf]) ∧ Below w.heap.size w w'))) ∧ (∀ w, Calls Tryd.prog 18 #[.agg #[.int .i64 x1, .int .i64 y1], .string t] w fun ex w' => ex = .returned (.tuple #[.agg #[.int .i64 wx, .int .i64 wy, .bool wf], v1]) ∧ Below w.heap.size w w') ∧ (IsErr v1) ∧ (toldI v1 == e1) = true := by
  cases ha : (secB x1 && resB y1) with
  | false =>
    have h1 : ∀ w, Calls Tryd.prog 15 #[.agg #[.int .i64 x1, .int .i64 y1]] w fun ex w' => ex = .returned (.bool false) ∧ Below w.heap.size w w' := fun w => by have := rshare x1 y1 w; rwa [ha] at this
    exact ⟨0, 0, 0, 0, 1, false, false, false, errOf 1, h1, fun _ => ⟨rfl, rfl, rfl, rfl⟩, (fun h => absurd h (by decide)), fun w => hT.1 x1 y1 t w (by omega) ha, isErr_err 1, told_it 1⟩
  | true =>
    have h1 : ∀ w, Calls Tryd.prog 15 #[.agg #[.int .i64 x1, .int .i64 y1]] w fun ex w' => ex = .returned (.bool true) ∧ Below w.heap.size w w' := fun w => by have := rshare x1 y1 w; rwa [ha] at this
    by_cases h60 : 60 < t.size
    · exact ⟨0, 0, 0, 0, 4, false, false, true, errOf 4, h1, (fun h => absurd h (by decide)), fun _ => Or.inl ⟨h60, rfl, rfl, rfl, rfl⟩, fun w => hT.2.1 x1 y1 t w ha h60 (by omega), isErr_err 4, told_it 4⟩
    · rw [Bool.and_eq_true] at ha
      obtain ⟨y0, y2⟩ := res_bd ha.2
      obtain ⟨y, rfl⟩ : ∃ y : Nat, y1 = (y : Int) := ⟨y1.toNat, by omega⟩
      refine ⟨_, _, _, _, 0, _, _, true, .nilIface, h1, (fun h => absurd h (by decide)), fun _ => Or.inr ⟨by omega, rfl, fun w => rof_w t w ht, fun w => rtimes_eq (r := tM (4 * (uN t * y))) (by rw [em_q (by omega), Nat.mul_assoc]) w⟩, fun w => hT.2.2 x1 y t w ha.1 (by omega) (by omega), isErr_nil, rfl⟩
theorem qt_two (hJ : JoinIs) (sx : Option Addr) (p dx : Nat) (sb : Option Addr) (q db : Nat) (w : World) (hp : p ≤ 9223372036854775807) (hq : q ≤ 9223372036854775807) (kx : p ≤ dx) (kb : q ≤ db)
    (uX : p = 0 ∨ ∃ (b o : Nat) (X : Nat → Int), sx = some ⟨b, o, none⟩ ∧ RowI w b o p X ∧ ∀ i, i < p → (Lit.int .i64 (X i)).wf = true) (uB : q = 0 ∨ ∃ (b o : Nat) (X Y : Nat → Int) (F : Nat → Bool), sb = some ⟨b, o, none⟩ ∧ RowO w b o q X Y F) : ∃ (jx jy e2 e3 : Int) (jf : Bool) (v3 : Value) (j0 : Nat) (PX PY MX MY TX TY WX : Nat → Int) (PF MF TF : Nat → Bool), (p = q → ∀ W, Below w.heap.size w W → Calls Tryd.prog 10 #[.slice sx p dx] W fun ex w' => ex = .returned (.int .i64 e2) ∧ Below W.heap.size W w') ∧ (p ≠ q → e2 = 3) ∧ ((e2 == 0) = true → (q = 0 ∨ ∃ b o : Nat, sb = some ⟨b, o, none⟩ ∧ RowO w b o q PX PY PF) ∧ q ≤ 12 ∧ j0 ≤ q ∧ (∀ i, i < j0 → (∀ w, Calls Tryd.prog 19 #[.agg #[.int .i64 (PX i), .int .i64 (PY i), .bool (PF i)]] w fun ex w' => ex = .returned (.int .i64 0) ∧ Below w.heap.size w w')) ∧ ((j0 = q ∧ e3 = 0) ∨ (j0 < q ∧ (∀ w, Calls Tryd.prog 19 #[.agg #[.int .i64 (PX j0), .int .i64 (PY j0), .bool (PF j0)]] w fun ex w' => ex = .returned (.int .i64 e3) ∧ Below w.heap.size w w') ∧ (e3 == 0) = false))) ∧ ((e2 == 0) = false → e3 = e2) ∧ ((e3 == 0) = true → (q = 0 ∨ ∃ b o : Nat, sb = some ⟨b, o, none⟩ ∧ RowO w b o q PX PY PF) ∧ q ≤ 12 ∧ (∀ W, Below w.heap.size w W → Calls Tryd.prog 11 #[.slice sx p dx] W fun e w' => GivesI W q WX e w') ∧ (MX 0 = 0 ∧ MY 0 = 0 ∧ MF 0 = true) ∧ (MX q = jx ∧ MY q = jy ∧ MF q = jf) ∧ ∀ i, i < q → (∀ w, Calls Tryd.prog 16 #[.agg #[.int .i64 (PX i), .int .i64 (PY i), .bool (PF i)], .int .i64 (WX i)] w fun ex w' => ex = .returned (.agg #[.int .i64 (TX i), .int .i64 (TY i), .bool (TF i)]) ∧ Below w.heap.size w w') ∧ (∀ w, Calls Tryd.prog 20 #[.agg #[.int .i64 (MX i), .int .i64 (MY i), .bool (MF i)], .agg #[.int .i64 (TX i), .int .i64 (TY i), .bool (TF i)]] w fun ex w' => ex = .returned (.agg #[.int .i64 (MX (i + 1)), .int .i64 (MY (i + 1)), .bool (MF (i + 1))]) ∧ Below w.heap.size w w')) ∧ ((e3 == 0) = false → jx = 0 ∧ jy = 0 ∧ jf = false) ∧ (∀ W, Below w.heap.size w W → Calls Tryd.prog 21 #[.slice sx p dx, .slice sb q db] W fun ex w' => ex = .returned (.tuple #[.agg #[.int .i64 jx, .int .i64 jy, .bool jf], v3]) ∧ Below W.heap.size W w') ∧ (IsErr v3) ∧ (toldI v3 == e3) = true := by
  by_cases hpq : p = q
  · subst hpq
    by_cases h12 : 12 < p
    · exact ⟨0, 0, 4, 4, false, errOf 4, 0, fun _ => 0, fun _ => 0, fun _ => 0, fun _ => 0, fun _ => 0, fun _ => 0, fun _ => 0, fun _ => false, fun _ => false, fun _ => false, fun _ W _ => rplaces_many sx p dx W h12 hp, fun h => absurd rfl h, (fun h => absurd h (by decide)), fun _ => rfl, (fun h => absurd h (by decide)), fun _ => ⟨rfl, rfl, rfl⟩, fun W _ => hJ.2.1 sx sb p dx db W h12 hp, isErr_err 4, told_it 4⟩
    by_cases h0 : p = 0
    · subst h0
      exact ⟨0, 0, 5, 5, false, errOf 5, 0, fun _ => 0, fun _ => 0, fun _ => 0, fun _ => 0, fun _ => 0, fun _ => 0, fun _ => 0, fun _ => false, fun _ => false, fun _ => false, fun _ W _ => rplaces_nil sx dx W, fun h => absurd rfl h, (fun h => absurd h (by decide)), fun _ => rfl, (fun h => absurd h (by decide)), fun _ => ⟨rfl, rfl, rfl⟩, fun W _ => hJ.2.2.1 sx sb dx db W, isErr_err 5, told_it 5⟩
    obtain ⟨b, o, X, rfl, r, hx⟩ := uX.resolve_left h0
    obtain ⟨b', o', PX, PY, PF, rfl, r'⟩ := uB.resolve_left h0
    cases he : plE secB X p == 0 with
    | false =>
      exact ⟨0, 0, plE secB X p, plE secB X p, false, errOf (plE secB X p), 0, PX, PY, fun _ => 0, fun _ => 0, fun _ => 0, fun _ => 0, fun _ => 0, PF, fun _ => false, fun _ => false, fun _ W k => rplaces_row secB rsecret b o p dx X W (by omega) (by omega) (r.below r.1 k), fun h => absurd rfl h, (fun h => absurd (he.symm.trans h) (by decide)), fun _ => rfl, (fun h => absurd (he.symm.trans h) (by decide)), fun _ => ⟨rfl, rfl, rfl⟩, fun W k => hJ.2.2.2.1 b o b' o' p dx db X PX PY PF W (by omega) (by omega) kx kb (r.below r.1 k) hx (r'.below r'.1 k) he, isErr_err _, told_it _⟩
    | true =>
      have h0' : plE secB X p = 0 := by simpa using he
      have hpl : ∀ W, Below w.heap.size w W → Calls Tryd.prog 10 #[.slice (some ⟨b, o, none⟩) p dx] W fun ex w' => ex = .returned (.int .i64 0) ∧ Below W.heap.size W w' := fun W k => by
        have := rplaces_row secB rsecret b o p dx X W (by omega) (by omega) (r.below r.1 k)
        rwa [h0'] at this
      have hro : p = 0 ∨ ∃ b o : Nat, (some ⟨b', o', none⟩ : Option Addr) = some ⟨b, o, none⟩ ∧ RowO w b o p PX PY PF := Or.inr ⟨b', o', rfl, r'⟩
      obtain ⟨j0, g1, g2, g3⟩ := first_no (fun i => ckI (PX i) (PY i) (PF i) == 0) p
      have g2' : ∀ i, i < j0 → ckI (PX i) (PY i) (PF i) = 0 := fun i hi => by have := g2 i hi; simpa using this
      have hsp : ∀ i, i < j0 → ∀ w, Calls Tryd.prog 19 #[.agg #[.int .i64 (PX i), .int .i64 (PY i), .bool (PF i)]] w fun ex w' => ex = .returned (.int .i64 0) ∧ Below w.heap.size w w' := fun i hi w => rspot_yes (g2' i hi) w
      obtain ⟨K, hK⟩ := spots_K g2'
      rcases g3 with g3 | ⟨g3, g4⟩
      · subst g3
        refine ⟨_, _, 0, 0, _, .nilIface, j0, PX, PY, (fun i => ((tM (jwN K X j0 i)).1 : Int)), (fun i => ((tM (jwN K X j0 i)).2.1 : Int)), (fun i => ((tM (K i * em (vI (wtq (xq X) j0 i)))).1 : Int)), (fun i => ((tM (K i * em (vI (wtq (xq X) j0 i)))).2.1 : Int)), (fun i => vI (wtq (xq X) j0 i)), PF, (fun i => (tM (jwN K X j0 i)).2.2), (fun i => (tM (K i * em (vI (wtq (xq X) j0 i)))).2.2), fun _ => hpl, fun h => absurd rfl h, fun _ => ⟨hro, by omega, Nat.le_refl _, hsp, Or.inl ⟨rfl, rfl⟩⟩, (fun h => absurd h (by decide)), fun _ => ⟨hro, by omega, fun W k => ?_, ⟨rfl, rfl, rfl⟩, ⟨rfl, rfl, rfl⟩, fun i hi => ⟨fun w => ?_, fun w => ?_⟩⟩, (fun h => absurd h (by decide)), fun W k => hJ.2.2.2.2.2 b o b' o' j0 dx db X PX PY PF W K (by omega) (by omega) kx kb (r.below r.1 k) hx (r'.below r'.1 k) h0' hK, isErr_nil, rfl⟩
        · exact rweights_row b o j0 dx X W (by omega) (r.below r.1 k) (fun i hi => sec_bd (pl_good h0' i hi).1) (pl_dist (fun m h => sec_bd h) h0')
        · obtain ⟨k0, k1, k2⟩ := hK i hi
          rw [k0, k1, k2]
          exact rtimes_tM (K i) _ w
        · have := radd_tM (jwN K X j0 i) (K i * em (vI (wtq (xq X) j0 i))) w
          have e : jwN K X j0 i + K i * em (vI (wtq (xq X) j0 i)) = jwN K X j0 (i + 1) := by
            show _ = jwN K X j0 i + K i * (wtq (xq X) j0 i).val
            rw [show em (vI (wtq (xq X) j0 i)) = (wtq (xq X) j0 i).val from em_q (wtq (xq X) j0 i).isLt]
          rw [e] at this
          exact this
      · exact ⟨0, 0, 0, ckI (PX j0) (PY j0) (PF j0), false, errOf (ckI (PX j0) (PY j0) (PF j0)), j0, PX, PY, fun _ => 0, fun _ => 0, fun _ => 0, fun _ => 0, fun _ => 0, PF, fun _ => false, fun _ => false, fun _ => hpl, fun h => absurd rfl h, fun _ => ⟨hro, by omega, g1, hsp, Or.inr ⟨g3, fun w => rspot_any _ _ _ w, g4⟩⟩, (fun h => absurd h (by decide)), (fun h => absurd (g4.symm.trans h) (by decide)), fun _ => ⟨rfl, rfl, rfl⟩, fun W k => hJ.2.2.2.2.1 b o b' o' p dx db X PX PY PF W K j0 (by omega) (by omega) kx kb (r.below r.1 k) hx (r'.below r'.1 k) h0' g3 hK g4, isErr_err _, told_it _⟩
  · exact ⟨0, 0, 3, 3, false, errOf 3, 0, fun _ => 0, fun _ => 0, fun _ => 0, fun _ => 0, fun _ => 0, fun _ => 0, fun _ => 0, fun _ => false, fun _ => false, fun _ => false, fun h => absurd h hpq, fun _ => rfl, (fun h => absurd h (by decide)), fun _ => rfl, (fun h => absurd h (by decide)), fun _ => ⟨rfl, rfl, rfl⟩, fun W _ => hJ.1 sx sb p dx q db W hp hq hpq, isErr_err 3, told_it 3⟩
theorem qt_three (hU : PublicIs) (sl : Option Addr) (n dl : Nat) (w : World) (hn : n ≤ 9223372036854775807) (kl : n ≤ dl)
    (uL : n = 0 ∨ ∃ (b o : Nat) (X Y : Nat → Int), sl = some ⟨b, o, none⟩ ∧ RowP w b o n X Y ∧ ∀ i, i < n → (Lit.int .i64 (X i)).wf = true ∧ (Lit.int .i64 (Y i)).wf = true) : ∃ (e4 e5 : Int) (v5 : Value) (j1 : Nat) (KX KY LX LY : Nat → Int) (KF : Nat → Bool), ((12 < n ∧ e4 = 4) ∨ (¬ 12 < n ∧ e4 = 0)) ∧ ((e4 == 0) = true → (n = 0 ∨ ∃ b o : Nat, sl = some ⟨b, o, none⟩ ∧ RowP w b o n LX LY) ∧ n ≤ 12 ∧ j1 ≤ n ∧ (∀ i, i < j1 → (∀ w, Calls Tryd.prog 15 #[.agg #[.int .i64 (LX i), .int .i64 (LY i)]] w fun ex w' => ex = .returned (.bool true) ∧ Below w.heap.size w w') ∧ (∀ w, Calls Tryd.prog 22 #[.int .i64 (LY i)] w fun ex w' => ex = .returned (.agg #[.int .i64 (KX i), .int .i64 (KY i), .bool (KF i)]) ∧ Below w.heap.size w w')) ∧ ((j1 = n ∧ e5 = 0) ∨ (j1 < n ∧ (∀ w, Calls Tryd.prog 15 #[.agg #[.int .i64 (LX j1), .int .i64 (LY j1)]] w fun ex w' => ex = .returned (.bool false) ∧ Below w.heap.size w w') ∧ e5 = 1))) ∧ ((e4 == 0) = false → e5 = e4 ∧ (e5 == 0) = false) ∧ ((e5 == 0) = true → n ≤ 12) ∧ (∀ W, Below w.heap.size w W → Calls Tryd.prog 23 #[.slice sl n dl] W fun ex w' => ∃ u, ex = .returned (.tuple #[u, v5]) ∧ ((e5 == 0) = true → w'.ownsRow W.heap.size 45 3 u n (cellsT KX KY KF n)) ∧ ((e5 == 0) = false → u = .slice none 0 0) ∧ Below W.heap.size W w') ∧ (IsErr v5) ∧ (toldI v5 == e5) = true := by
  by_cases h12 : 12 < n
  · exact ⟨4, 4, errOf 4, 0, fun _ => 0, fun _ => 0, fun _ => 0, fun _ => 0, fun _ => false, Or.inl ⟨h12, rfl⟩, (fun h => absurd h (by decide)), fun _ => ⟨rfl, rfl⟩, (fun h => absurd h (by decide)), fun W k => (hU.1 sl n dl W h12 hn).mono fun ex w' ⟨h1, h2⟩ => ⟨.slice none 0 0, h1, (fun h => absurd h (by decide)), fun _ => rfl, h2⟩, isErr_err 4, told_it 4⟩
  obtain ⟨LX, LY, hl, hwx, hwy⟩ : ∃ LX LY : Nat → Int, (n = 0 ∨ ∃ b o : Nat, sl = some ⟨b, o, none⟩ ∧ RowP w b o n LX LY) ∧ (∀ i, i < n → (Lit.int .i64 (LX i)).wf = true) ∧ (∀ i, i < n → (Lit.int .i64 (LY i)).wf = true) := by
    rcases uL with h | ⟨b, o, X, Y, e, r, k⟩
    · exact ⟨fun _ => 0, fun _ => 0, Or.inl h, fun i hi => by omega, fun i hi => by omega⟩
    · exact ⟨X, Y, Or.inr ⟨b, o, e, r⟩, fun i hi => (k i hi).1, fun i hi => (k i hi).2⟩
  have hup : ∀ W, Below w.heap.size w W → (n = 0 ∨ ∃ b o : Nat, sl = some ⟨b, o, none⟩ ∧ RowP W b o n LX LY) := fun W k => hl.imp_right fun ⟨b, o, e, r⟩ => ⟨b, o, e, r.below r.1 k⟩
  obtain ⟨j1, g1, g2, g3⟩ := first_no (fun i => secB (LX i) && resB (LY i)) n
  have hsh : ∀ i, i < j1 → (∀ w, Calls Tryd.prog 15 #[.agg #[.int .i64 (LX i), .int .i64 (LY i)]] w fun ex w' => ex = .returned (.bool true) ∧ Below w.heap.size w w') ∧ (∀ w, Calls Tryd.prog 22 #[.int .i64 (LY i)] w fun ex w' => ex = .returned (.agg #[.int .i64 ((tM (4 * (LY i).toNat)).1 : Int), .int .i64 ((tM (4 * (LY i).toNat)).2.1 : Int), .bool (tM (4 * (LY i).toNat)).2.2]) ∧ Below w.heap.size w w') := fun i hi => by
    have h := g2 i hi
    refine ⟨fun w => ?_, fun w => ?_⟩
    · have := rshare (LX i) (LY i) w
      rwa [show (secB (LX i) && resB (LY i)) = true from h] at this
    · have h2 : resB (LY i) = true := by
        have h3 : (secB (LX i) && resB (LY i)) = true := h
        rw [Bool.and_eq_true] at h3; exact h3.2
      obtain ⟨y0, y1⟩ := res_bd h2
      refine rby_eq ?_ w
      have e : em (LY i) = (LY i).toNat := by
        have e2 : LY i = (((LY i).toNat : Nat) : Int) := by omega
        rw [e2, em_q (by omega)]; omega
      rw [e]
  rcases g3 with g3 | ⟨g3, g4⟩
  · subst g3
    refine ⟨0, 0, .nilIface, j1, _, _, LX, LY, _, Or.inr ⟨h12, rfl⟩, fun _ => ⟨hl, by omega, Nat.le_refl _, hsh, Or.inl ⟨rfl, rfl⟩⟩, (fun h => absurd h (by decide)), fun _ => by omega, fun W k => ?_, isErr_nil, rfl⟩
    refine (hU.2.2 sl j1 dl LX LY W (by omega) kl (hup W k) (fun i hi => ?_)).mono fun ex w' ⟨u, k1, k2, k3⟩ => ⟨u, k1, fun _ => k2, (fun h => absurd h (by decide)), k3⟩
    have h3 : (secB (LX i) && resB (LY i)) = true := g2 i hi
    rw [Bool.and_eq_true] at h3; exact h3
  · refine ⟨0, 1, errOf 1, j1, _, _, LX, LY, _, Or.inr ⟨h12, rfl⟩, fun _ => ⟨hl, by omega, g1, hsh, Or.inr ⟨g3, fun w => ?_, rfl⟩⟩, (fun h => absurd h (by decide)), (fun h => absurd h (by decide)), fun W k => ?_, isErr_err 1, told_it 1⟩
    · have := rshare (LX j1) (LY j1) w
      rwa [show (secB (LX j1) && resB (LY j1)) = false from g4] at this
    · obtain ⟨b, o, rfl, r⟩ := (hup W k).resolve_left (by omega)
      exact (hU.2.1 b o n dl LX LY W (by omega) kl r hwx hwy ⟨j1, g3, g4⟩).mono fun ex w' ⟨h1, h2⟩ => ⟨.slice none 0 0, h1, (fun h => absurd h (by decide)), fun _ => rfl, h2⟩
theorem quorumTells_by (hT : PartIs) (hJ : JoinIs) (hU : PublicIs) (w : World) (s : Int × Int) (t : ByteArray) (sx : Option Addr) (p dx : Nat) (sb : Option Addr) (q db : Nat) (sl : Option Addr) (n dl : Nat)
    (ht : t.size ≤ reachBytes) (hp : p ≤ maxLen) (uX : p = 0 ∨ ∃ (b o : Nat) (X : Nat → Int), sx = some ⟨b, o, none⟩ ∧ RowI w b o p X ∧ ∀ i, i < p → (Lit.int .i64 (X i)).wf = true) (kx : p ≤ dx)
    (hq : q ≤ maxLen) (uB : q = 0 ∨ ∃ (b o : Nat) (X Y : Nat → Int) (F : Nat → Bool), sb = some ⟨b, o, none⟩ ∧ RowO w b o q X Y F) (kb : q ≤ db)
    (hn : n ≤ maxLen) (uL : n = 0 ∨ ∃ (b o : Nat) (X Y : Nat → Int), sl = some ⟨b, o, none⟩ ∧ RowP w b o n X Y ∧ ∀ i, i < n → (Lit.int .i64 (X i)).wf = true ∧ (Lit.int .i64 (Y i)).wf = true) (kl : n ≤ dl) (hd : Door w) :
    Calls Tryd.prog 4 #[.agg #[.int .i64 s.1, .int .i64 s.2], .string t, .slice sx p dx, .slice sb q db, .slice sl n dl] w fun e w' => e = .returned (.bool true) ∧ Below w.heap.size w w' := by
  obtain ⟨x1, y1⟩ := s
  have ht' : t.size ≤ 140737488351232 := ht
  obtain ⟨wx, wy, ox, oy, e1, wf, of_, a, v1, a1, a2, a3, a4, a5, a6⟩ := qt_one hT x1 y1 t ht'
  obtain ⟨jx, jy, e2, e3, jf, v3, j0, PX, PY, MX, MY, TX, TY, WX, PF, MF, TF, b1, b2, b3, b4, b5, b6, b7, b8, b9⟩ := qt_two hJ sx p dx sb q db w hp hq kx kb uX uB
  obtain ⟨e4, e5, v5, j1, KX, KY, LX, LY, KF, c1, c2, c3, c4, c5, c6, c7⟩ := qt_three hU sl n dl w hn kl uL
  exact qtells (hd := hd) (hp9 := hp) (hq9 := hq) (hn9 := hn) (ht9 := by omega) (T1 := a6) (T3 := b9) (T5 := c7) (hHSH := a1) (hHB0 := a2) (hHB := a3) (hHS := a4) (hI1 := a5) (hHPL := b1) (hHNE := b2) (hHR1 := b3) (hHR0 := b4) (hHW := b5) (hHW0 := b6) (hHJJ := b7) (hI3 := b8) (hHC := c1) (hHK := c2) (hHK0 := c3) (hHN := c4) (hHU := c5) (hI5 := c6)
end Go.Proofs.YtkhpmnehjifdcafDoor
