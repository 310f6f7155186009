/- stonetop.TopBooked answers true, by what packages hide, book and log are to answer. -/
import Derived.Test.YtmijjjdedadklajTopBookedL
import Derived.Test.YtmijjjdedadklajTopBookLog
import Derived.Test.YtmijjjdedadklajLogIs
import Derived.Test.YtmijjjdedadklajHideIs
import Derived.Test.YtmijjjdedadklajRef
namespace Go.Proofs.Ytmijjjdedadklaj
open Go.RowKit Go.Sort
set_option linter.unusedVariables false
set_option linter.unusedSimpArgs false
theorem tq_nil {W : World} {B n c : Nat} {e : TypeId} {size : Nat} {xs : List Value} {sa : Option Addr} (h : W.ownsRow B e size (.slice sa n c) n xs) : sa = none → c = 0 := fun hs => by
  rcases h.2 with ⟨h1, _⟩ | ⟨g, cap, cur, h1, _⟩
  · injection h1
  · subst hs; injection h1 with h2; cases h2
theorem tq_row {W : World} {B n c : Nat} {sa : Option Addr} {K : Nat → Nat} (h : W.ownsRow B 26 3 (.slice sa n c) n (cellsK K n)) : n = 0 ∨ ∃ b o : Nat, sa = some ⟨b, o, none⟩ ∧ RowO W b o n (fun i => ((tM (4 * K i)).1 : Int)) (fun i => ((tM (4 * K i)).2.1 : Int)) (fun i => (tM (4 * K i)).2.2) := by
  obtain ⟨sa2, c2, e, h1⟩ := own_spots (X := fun i => ((tM (4 * K i)).1 : Int)) (Y := fun i => ((tM (4 * K i)).2.1 : Int)) (F := fun i => (tM (4 * K i)).2.2) h
  injection e with e1 e2 e3
  subst e1
  exact h1.imp_right fun ⟨g, a, _, _, r⟩ => ⟨g, 0, a, r⟩
theorem tq_wf {v : Int} (h0 : 0 ≤ v) (h1 : v < 100000) : (Lit.int .i64 v).wf = true := by
  show (decide (_ ≤ v) && decide (v ≤ _)) = true
  rw [Bool.and_eq_true, decide_eq_true_eq, decide_eq_true_eq]
  exact ⟨Int.le_trans (by decide) h0, Int.le_trans (Int.le_of_lt h1) (by decide)⟩
theorem tq_list {w : World} {n : Nat} {s : Option Addr} (u : n = 0 ∨ ∃ (b o : Nat) (X : Nat → Int), s = some ⟨b, o, none⟩ ∧ RowI w b o n X ∧ ∀ i, i < n → (Lit.int .i64 (X i)).wf = true) : ∃ X : Nat → Int, (n = 0 ∨ ∃ b o : Nat, s = some ⟨b, o, none⟩ ∧ RowI w b o n X) ∧ ∀ i, i < n → (Lit.int .i64 (X i)).wf = true := by
  rcases u with h | ⟨b, o, X, e, r, hw⟩
  · exact ⟨fun _ => 0, Or.inl h, fun i hi => by omega⟩
  · exact ⟨X, Or.inr ⟨b, o, e, r⟩, hw⟩
theorem tq_int {W : World} {g : Nat} {x : Int} (h : At W g [.int .i64 x]) : RowI W g 0 1 (fun _ => x) := ⟨h.1, fun i hi => by
  obtain rfl : i = 0 := by omega
  exact h.2.1 0 (by simp)⟩
theorem tq_spot {W : World} {g : Nat} {T : Sn} (h : At W g [.int .i64 ((T).1 : Int), .int .i64 ((T).2.1 : Int), .bool (T).2.2]) : RowO W g 0 1 (fun _ => (T.1 : Int)) (fun _ => (T.2.1 : Int)) (fun _ => T.2.2) := ⟨h.1, fun i hi => by
  obtain rfl : i = 0 := by omega
  exact ⟨h.2.1 0 (by simp), h.2.1 1 (by simp), h.2.1 2 (by simp)⟩⟩
theorem tq_t (a : Nat) : (Lit.int .i64 ((tM a).1 : Int)).wf = true ∧ (Lit.int .i64 ((tM a).2.1 : Int)).wf = true := by
  obtain ⟨h1, h2⟩ := ok_small (tM_ok a)
  exact ⟨tq_wf (by omega) (by omega), tq_wf (by omega) (by omega)⟩
set_option maxRecDepth 100000 in
set_option maxHeartbeats 16000000 in
theorem tb_in (PB : World → Value → (Nat → Prop) → Nat → (Nat → Nat) → (Nat → Bool) → Prop) (PL : World → Value → (Nat → Prop) → LogS → Prop) (hO : PBok PB) (hP : PLok PL) (h1 : ∀ w, Calls Try.prog 5 #[] w fun ex w' => ex = .returned (.bool true) ∧ Below w.heap.size w w') (hC : BCloseIs) (hN : BNewIs PB) (hE : BExcIs PB) (hD : BDoIs PB) (hT : BTotalIs PB) (lN : LNewIs PL) (lD : LDoIs PL) (lS : LSyncIs PL) (lC : LCrashIs PL) (lL : LLiveIs PL) (lT : LTotalIs PL)
    (h : Nat) (hcl : ∀ k x p, x % 1013 = (h * p) % 1013 → closeB (4 * clR k) x (clS p k (4 * x)) = true)
    (hH : ∀ (a b : Nat) w, a < 1013 → b < 1013 → Calls Try.prog 6 #[.int .i64 (a : Int), .int .i64 (b : Int)] w fun ex w' => ex = .returned (.tuple #[.agg #[.int .i64 ((tM (4 * tbH h a b)).1 : Int), .int .i64 ((tM (4 * tbH h a b)).2.1 : Int), .bool (tM (4 * tbH h a b)).2.2], .nilIface]) ∧ Below w.heap.size w w')
    (hHe : ∀ (v r : Int) (w : World), (Lit.int .i64 v).wf = true → (Lit.int .i64 r).wf = true → (resB v && resB r) = false → Calls Try.prog 6 #[.int .i64 v, .int .i64 r] w fun ex w' => ex = .returned (.tuple #[.agg #[.int .i64 0, .int .i64 0, .bool false], errOf 1]) ∧ Below w.heap.size w w')
    (hOp : ∀ (i v r : Nat) (w : World), v < 1013 → r < 1013 → Calls Try.prog 15 #[.agg #[.int .i64 ((tM i).1 : Int), .int .i64 ((tM i).2.1 : Int), .bool (tM i).2.2], .int .i64 (v : Int), .int .i64 (r : Int)] w fun ex w' => ex = .returned (.tuple #[.bool (sameS (tM i) (tM (4 * tbH h v r))), .nilIface]) ∧ Below w.heap.size w w')
    (nv nr nn dv dr dn : Nat) (sv sr sn : Option Addr) (Xv Xr Xn : Nat → Int) (sy kp : Int) (w : World) (rv : (nv = 0 ∨ ∃ b o : Nat, sv = some ⟨b, o, none⟩ ∧ RowI w b o nv Xv)) (rr : (nr = 0 ∨ ∃ b o : Nat, sr = some ⟨b, o, none⟩ ∧ RowI w b o nr Xr)) (rn : (nn = 0 ∨ ∃ b o : Nat, sn = some ⟨b, o, none⟩ ∧ RowI w b o nn Xn))
    (wv : ∀ i, i < nv → (Lit.int .i64 (Xv i)).wf = true) (wr : ∀ i, i < nr → (Lit.int .i64 (Xr i)).wf = true) (wn : ∀ i, i < nn → (Lit.int .i64 (Xn i)).wf = true) (wk : (Lit.int .i64 kp).wf = true) :
    Calls Try.prog 3 #[.slice sv nv dv, .slice sr nr dr, .slice sn nn dn, .int .i64 sy, .int .i64 kp] w fun e w' => e = .returned (.bool true) ∧ Below w.heap.size w w' := by
  obtain ⟨c, hcv, hcr, hc6, hcw⟩ : ∃ c, c ≤ nv ∧ c ≤ nr ∧ c ≤ 6 ∧ (c = nv ∨ c = nr ∨ c = 6) := ⟨min (min nv nr) 6, by omega, by omega, by omega, by omega⟩
  refine tbooked (Sb := fun i W v Q => PB W v Q (c + i) (tbK h c (fun i => (Xv i).toNat) (fun i => (Xr i).toNat) (fun i => (Xn i).toNat) i) (tbG c i)) (Sl := fun i a W v Q => ∃ s, PL W v Q s ∧ TbL h c (fun i => (Xv i).toNat) (fun i => (Xr i).toNat) (fun i => (Xn i).toNat) i a s) (H := tbH h) (X := fun i => (exN (tbK h c (fun i => (Xv i).toNat) (fun i => (Xr i).toNat) (fun i => (Xn i).toNat) i) (fun _ => (i : Int)) 1 (fun _ => tbH h (Xv i).toNat (Xn i).toNat) 1)) (T := fun i => (ttN (tbK h c (fun i => (Xv i).toNat) (fun i => (Xr i).toNat) (fun i => (Xn i).toNat) i) (tbG c i) (c + i))) (z := fun i => clS (((Xn i).toNat + 1012 * (Xr i).toNat) % 1013) (i + 1) (4 * (exN (tbK h c (fun i => (Xv i).toNat) (fun i => (Xr i).toNat) (fun i => (Xn i).toNat) i) (fun _ => (i : Int)) 1 (fun _ => tbH h (Xv i).toNat (Xn i).toNat) 1))) (A := fun i => tM (4 * clR (i + 1)))
    (ob := fun i j => sameS (tM (4 * (ttN (tbK h c (fun i => (Xv i).toNat) (fun i => (Xr i).toNat) (fun i => (Xn i).toNat) i) (tbG c i) (c + i)))) (tM (4 * tbH h (tbV (fun i => (Xv i).toNat) c) (tbS c (fun i => (Xr i).toNat) (fun i => (Xn i).toNat) j)))) (c := c) (nv := nv) (nr := nr) (nn := nn) (dv := dv) (dr := dr) (dn := dn) (sv := sv) (sr := sr) (sn := sn) (Xv := Xv) (Xr := Xr) (Xn := Xn) (sy := sy) (kp := kp) (w := w) (hcv := hcv) (hcr := hcr) (hc6 := hc6) (hH1 := h1) (hHCW := hcw) (hRV := rv) (hRR := rr) (hRN := rn) (hHH := hH)
    (hHHe1 := fun i w i1 i2 hg => hHe _ _ w (wv i i1) (wr i i2) hg) (hHHe2 := fun i w i1 i2 hg => hHe _ _ w (wv i i1) (wn i i2) hg) (hHOK := ?ok) (hHN := ?n) (hHNL := ?nl) (hHX := ?x) (hHMO := fun a w => below_of_same (rmod_any a 1013 w (by omega) (by omega))) (hHCL := ?cl) (hHDB := ?db) (hHDL := ?dl) (hHSY := ?sy) (hHTB := ?tb) (hHTL := ?tl) (hHOP := ?op) (hHOB := ?ob) (hHCR := ?cr) (hHLV := ?lv)
  case ok =>
    exact ⟨fun h => hO.lt h, fun h k n => hO.stay h k n, fun ⟨s, p, _⟩ => hP.lt p, fun ⟨s, p, t⟩ k n => ⟨s, hP.stay p k n, t⟩⟩
  case n =>
    rintro W u hg ⟨B, ho⟩
    obtain ⟨sa, cc, rfl, _⟩ := own_slice ho
    exact hN.2 sa c cc _ _ _ (tbK h c (fun i => (Xv i).toNat) (fun i => (Xr i).toNat) (fun i => (Xn i).toNat) 0) W (by omega) (own_room ho) (tq_nil ho) (tq_row ho) (fun j _ => ⟨rfl, rfl, rfl⟩)
  case nl =>
    rintro W u hg ⟨B, ho⟩
    obtain ⟨sa, cc, rfl, _⟩ := own_slice ho
    refine (lN.2 sa c cc _ _ _ (tbK h c (fun i => (Xv i).toNat) (fun i => (Xr i).toNat) (fun i => (Xn i).toNat) 0) W (by omega) (own_room ho) (tq_nil ho) (tq_row ho) (fun j _ => ⟨rfl, rfl, rfl⟩)).mono ?_
    rintro ex w' ⟨v, Q, rfl, hp, hQ, hb⟩
    exact ⟨v, Q, rfl, ⟨_, hp, TbL.new h c _ _ _⟩, hQ, hb⟩
  case x =>
    intro i W vb Q g1 g2 hg hi hn hp k1 k2
    exact hE.2 vb Q (c + i) 1 1 1 1 _ _ (tbK h c (fun i => (Xv i).toNat) (fun i => (Xr i).toNat) (fun i => (Xn i).toNat) i) (tbG c i) (fun _ => (i : Int)) _ _ _ (fun _ => tbH h (Xv i).toNat (Xn i).toNat) W (by omega) (by omega) (by omega) (by omega) (fun e => by cases e) hp (Or.inr ⟨g1, 0, rfl, tq_int k1⟩) (Or.inr ⟨g2, 0, rfl, tq_spot k2⟩) (tb_go c hi) (by omega) (fun j _ => ⟨rfl, rfl, rfl⟩)
  case cl =>
    intro i p q w hp hq hg hi hn
    subst hp hq
    have := hC.2.2 (((Xn i).toNat + 1012 * (Xr i).toNat) % 1013) (i + 1) (4 * (exN (tbK h c (fun i => (Xv i).toNat) (fun i => (Xr i).toNat) (fun i => (Xn i).toNat) i) (fun _ => (i : Int)) 1 (fun _ => tbH h (Xv i).toNat (Xn i).toNat) 1)) w (Nat.mod_lt _ (by omega)) (by omega) (by omega)
    exact this
  case db =>
    intro i W vb Q g1 g2 hg hi hn hp k1 k2 n1 n2
    exact hD.2.2.2.2.2 vb Q (c + i) 1 1 1 1 _ _ (tbK h c (fun i => (Xv i).toNat) (fun i => (Xr i).toNat) (fun i => (Xn i).toNat) i) (tbG c i) (fun _ => (i : Int)) _ _ _ (fun _ => tbH h (Xv i).toNat (Xn i).toNat) (4 * clR (i + 1)) (clS (((Xn i).toNat + 1012 * (Xr i).toNat) % 1013) (i + 1) (4 * (exN (tbK h c (fun i => (Xv i).toNat) (fun i => (Xr i).toNat) (fun i => (Xn i).toNat) i) (fun _ => (i : Int)) 1 (fun _ => tbH h (Xv i).toNat (Xn i).toNat) 1))) W (by omega) (by omega) (by omega) (by omega) (fun e => by cases e) hp (Or.inr ⟨g1, 0, rfl, tq_int k1⟩) (Or.inr ⟨g2, 0, rfl, tq_spot k2⟩) (fun _ b o e => by injection e with e; injection e with e; subst e; exact n1) (fun _ b o e => by injection e with e; injection e with e; subst e; exact n2) (tb_go c hi) (by omega) (fun j _ => ⟨rfl, rfl, rfl⟩) (by omega) (clS_lt _ _ _) (hcl _ _ _ (by rw [tb_exc h c _ _ _ hi]; exact tb_mod h _ _ _))
  case dl =>
    rintro i a W vj Q g1 g2 hg hi hn ⟨s, hp, t⟩ k1 k2 n1 n2
    obtain ⟨e1, e2, e3⟩ := t.book i (Nat.le_refl _)
    have hr := t.r
    have hk : closeB (4 * clR (i + 1)) (exN (tbK h c (fun i => (Xv i).toNat) (fun i => (Xr i).toNat) (fun i => (Xn i).toNat) i) (fun _ => (i : Int)) 1 (fun _ => tbH h (Xv i).toNat (Xn i).toNat) 1) (clS (((Xn i).toNat + 1012 * (Xr i).toNat) % 1013) (i + 1) (4 * (exN (tbK h c (fun i => (Xv i).toNat) (fun i => (Xr i).toNat) (fun i => (Xn i).toNat) i) (fun _ => (i : Int)) 1 (fun _ => tbH h (Xv i).toNat (Xn i).toNat) 1))) = true := hcl _ _ _ (by rw [tb_exc h c _ _ _ hi]; exact tb_mod h _ _ _)
    obtain ⟨f1, f2⟩ := tq_t (4 * clR (i + 1))
    have f3 := clS_lt (((Xn i).toNat + 1012 * (Xr i).toNat) % 1013) (i + 1) (4 * (exN (tbK h c (fun i => (Xv i).toNat) (fun i => (Xr i).toNat) (fun i => (Xn i).toNat) i) (fun _ => (i : Int)) 1 (fun _ => tbH h (Xv i).toNat (Xn i).toNat) 1))
    (try dsimp only)
    obtain ⟨z, hz⟩ : ∃ z, clS (((Xn i).toNat + 1012 * (Xr i).toNat) % 1013) (i + 1) (4 * (exN (tbK h c (fun i => (Xv i).toNat) (fun i => (Xr i).toNat) (fun i => (Xn i).toNat) i) (fun _ => (i : Int)) 1 (fun _ => tbH h (Xv i).toNat (Xn i).toNat) 1)) = z := ⟨_, rfl⟩
    obtain ⟨b4, hb4⟩ : ∃ b4, 4 * clR (i + 1) = b4 := ⟨_, rfl⟩
    rw [hz] at hk f3 ⊢
    rw [hb4] at hk f1 f2 ⊢
    refine (lD.2.2.2 vj Q s (⟨1, fun _ => (i : Int), 1, fun _ => ((tM (4 * tbH h (Xv i).toNat (Xn i).toNat)).1 : Int), fun _ => ((tM (4 * tbH h (Xv i).toNat (Xn i).toNat)).2.1 : Int), fun _ => (tM (4 * tbH h (Xv i).toNat (Xn i).toNat)).2.2, ((tM b4).1 : Int), ((tM b4).2.1 : Int), (tM b4).2.2, (z : Int)⟩ : DealN) (some ⟨g1, 0, none⟩) (some ⟨g2, 0, none⟩) 1 1 0 (c + (i + 1)) (tbK h c (fun i => (Xv i).toNat) (fun i => (Xr i).toNat) (fun i => (Xn i).toNat) (i + 1)) (tbG c (i + 1)) W (by omega) (by show 1 ≤ _; omega) (Nat.le_refl _) (Nat.le_refl _) (fun e => by cases e) (fun j hj => tq_wf (by show (0 : Int) ≤ (i : Int); omega) (by show (i : Int) < _; omega)) f1 f2 (tq_wf (by show (0 : Int) ≤ (z : Int); omega) (by show (z : Int) < _; omega)) (Or.inr ⟨g1, 0, rfl, n1, tq_int k1⟩) (Or.inr ⟨g2, 0, rfl, n2, tq_spot k2⟩) hp ?_ t.stop rfl (by rw [t.left]; intro e; cases e)).mono ?_
    · rw [hr, e1, e2, e3]
      exact Or.inr ⟨(fun _ => tbH h (Xv i).toNat (Xn i).toNat), tb_go c hi, by show 1 ≤ 12; omega, fun j _ => ⟨rfl, rfl, rfl⟩, Or.inr (Or.inr (Or.inr ⟨b4, z, by show c + i + 1 ≤ 1000; omega, f3, rfl, rfl, rfl, rfl, Or.inr ⟨hk, rfl, rfl, rfl, rfl⟩⟩))⟩
    · rintro ex w' ⟨rfl, b, hb, hbut, Q', hp', hQ⟩
      exact ⟨rfl, hbut, Q', ⟨_, hp', t.add b⟩, hQ⟩
  case sy =>
    rintro i a W vj Q hi ⟨s, hp, t⟩
    refine (lS.2.2 vj Q s W hp t.stop (by rw [t.left]; intro e; cases e)).mono ?_
    rintro ex w' ⟨rfl, hbut, Q', hp', hQ⟩
    exact ⟨rfl, hbut, Q', ⟨_, hp', t.sync (hP.ok hp)⟩, hQ⟩
  case tb =>
    intro i W vb Q hi hp
    exact hT vb Q (c + i) _ _ W (by omega) hp
  case tl =>
    rintro i a W vj Q hi ⟨s, hp, t⟩
    have := lT vj Q s W hp
    obtain ⟨e1, e2, e3⟩ := t.book i (Nat.le_refl _)
    rwa [t.r, e1, e2, e3] at this
  case op =>
    intro i j w hi hj
    exact hOp _ _ _ w (tbV_lt _ _) (tbS_lt _ _ _ _)
  case ob =>
    intro i hi hg hn
    rw [sameS_iff, (tb_total h c _ _ _ i hi).1]
    rfl
  case cr =>
    rintro i a W vj Q hi ⟨s, hp, t⟩
    refine (lC vj Q s kp W hp (by have := t.r; omega) wk).mono ?_
    rintro ex w' ⟨rfl, hbut, Q', hp', hQ⟩
    obtain ⟨i', a1, a2, t'⟩ := t.crash kp
    exact ⟨rfl, hbut, i', i', Q', a1, a2, ⟨_, hp', t'⟩, hQ⟩
  case lv =>
    rintro i a W vj Q hi ⟨s, hp, t⟩
    refine (lL vj Q s W hp).mono ?_
    rintro ex w' ⟨q, rfl, ho, hb⟩
    obtain ⟨e1, e2, e3⟩ := t.book i (Nat.le_refl _)
    rw [t.r, e1, e3, (tb_total h c (fun i => (Xv i).toNat) (fun i => (Xr i).toNat) (fun i => (Xn i).toNat) i hi).2] at ho
    obtain ⟨sa, cc, rfl, _⟩ := own_slice ho
    exact ⟨sa, cc, rfl, hb⟩
theorem topBooked_by (PB : World → Value → (Nat → Prop) → Nat → (Nat → Nat) → (Nat → Bool) → Prop) (PL : World → Value → (Nat → Prop) → LogS → Prop) (hO : PBok PB) (hP : PLok PL) (h1 : ∀ w, Calls Try.prog 5 #[] w fun ex w' => ex = .returned (.bool true) ∧ Below w.heap.size w w') (hHi : HideIs) (hOp : OpenIs) (hC : BCloseIs) (hN : BNewIs PB) (hE : BExcIs PB) (hD : BDoIs PB) (hT : BTotalIs PB) (lN : LNewIs PL) (lD : LDoIs PL) (lS : LSyncIs PL) (lC : LCrashIs PL) (lL : LLiveIs PL) (lT : LTotalIs PL)
    (w : World) (sv : Option Addr) (nv dv : Nat) (sr : Option Addr) (nr dr : Nat) (sn : Option Addr) (nn dn : Nat) (sy kp : Int) (uv : (nv = 0 ∨ ∃ (b o : Nat) (X : Nat → Int), sv = some ⟨b, o, none⟩ ∧ RowI w b o nv X ∧ ∀ i, i < nv → (Lit.int .i64 (X i)).wf = true)) (ur : (nr = 0 ∨ ∃ (b o : Nat) (X : Nat → Int), sr = some ⟨b, o, none⟩ ∧ RowI w b o nr X ∧ ∀ i, i < nr → (Lit.int .i64 (X i)).wf = true)) (un : (nn = 0 ∨ ∃ (b o : Nat) (X : Nat → Int), sn = some ⟨b, o, none⟩ ∧ RowI w b o nn X ∧ ∀ i, i < nn → (Lit.int .i64 (X i)).wf = true)) (wk : (Lit.int .i64 kp).wf = true) :
    Calls Try.prog 3 #[.slice sv nv dv, .slice sr nr dr, .slice sn nn dn, .int .i64 sy, .int .i64 kp] w fun e w' => e = .returned (.bool true) ∧ Below w.heap.size w w' := by
  obtain ⟨Xv, rv, wv⟩ := tq_list uv
  obtain ⟨Xr, rr, wr⟩ := tq_list ur
  obtain ⟨Xn, rn, wn⟩ := tq_list un
  obtain ⟨h, hh⟩ : ∃ h, h2N = h := ⟨_, rfl⟩
  have hHe : ∀ a b, hdN a b = tbH h a b := fun a b => by rw [hd_is, hh]; rfl
  exact tb_in PB PL hO hP h1 hC hN hE hD hT lN lD lS lC lL lT h (fun k x p e => lclose_yes k x p (by rw [hh]; exact e)) (fun a b w h1 h2 => by have := hHi.2 a b w h1 h2; rwa [hHe] at this) hHi.1 (fun i v r w h1 h2 => by have := hOp.2.2 i v r w h1 h2; rwa [hHe] at this) nv nr nn dv dr dn sv sr sn Xv Xr Xn sy kp w rv rr rn wv wr wn wk
end Go.Proofs.Ytmijjjdedadklaj
