/- Between a row's reading and a walk, for arguments of whatever type: behind a call that turned nothing of what was there they read as they did; slices of spots, opened at every place. -/
import Derived.Test.YtmijjjdedadklagShell
import Derived.Test.YtmijjjdedadklagMem
import Derived.Deep.Slices
import Derived.Carry
namespace Go.Proofs.Ytmijjjdedadklag
open Go.ChangeShapes Go.WideShapes Go.ChangeAt Go.RowKit Go.Joins Go.Deep Go.WideElems

/-- In block b, from o on, lie so many spots in a row. -/
def RowO (w : World) (b o n : Nat) (X Y : Nat → Int) (F : Nat → Bool) : Prop :=
  b < w.heap.size ∧ ∀ i, i < n → w.cell? ⟨b, o + i * 3, none⟩ = some (.int .i64 (X i)) ∧ w.cell? ⟨b, o + i * 3 + 1, none⟩ = some (.int .i64 (Y i)) ∧ w.cell? ⟨b, o + i * 3 + 2, none⟩ = some (.bool (F i))
theorem RowO.below {w w' : World} {b o n B : Nat} {X Y : Nat → Int} {F : Nat → Bool} (h : RowO w b o n X Y F) (hB : b < B) (k : Below B w w') : RowO w' b o n X Y F :=
  ⟨Nat.lt_of_lt_of_le h.1 k.size, fun i hi => by
    obtain ⟨h1, h2, h3⟩ := h.2 i hi
    exact ⟨(k.cell (p := ⟨b, o + i * 3, none⟩) hB).trans h1, (k.cell (p := ⟨b, o + i * 3 + 1, none⟩) hB).trans h2, (k.cell (p := ⟨b, o + i * 3 + 2, none⟩) hB).trans h3⟩⟩

section
variable {H : Type} {enc : TypeId × Value → H} {P : Program} {w : World} {base : Nat} {spare : Nat → Bool} {held : Bool}

theorem args_stay {W W' : World} {sp : Nat → Bool} (hl : laidOutB P = true) (hb : Below W.heap.size W W') :
    ∀ {ts : List TypeId} {vs : List Value} {ds : List (DataW H)} {p : List MemPlace}, (ts.all fun t => P.readableRec t && decide (t < P.types.size)) = true → DataW.TrodAll enc P W 0 (fun _ => true) true ts vs ds p →
      (∀ x ∈ p, x.block < W.heap.size) → (∀ x ∈ p, sp x.block = true) → DataW.TrodAll enc P W' 0 sp true ts vs ds p
  | [], _, _, _, _, h, _, _ => by
    obtain ⟨rfl, rfl, rfl⟩ := trodAll_nil h
    exact trodAll_mk0
  | t :: ts, _, _, _, ht, h, hlt, hsp => by
    obtain ⟨v, vs1, d, ds1, a, b, rfl, rfl, rfl, h1, h2⟩ := trodAll_cons h
    simp only [List.all_cons, Bool.and_eq_true, decide_eq_true_eq] at ht
    exact ⟨a, b, Trod_stays hl ht.1.1 ht.1.2 h1 (fun x hx => hb.same (hlt x (List.mem_append_left _ hx))) (fun x hx => hsp x (List.mem_append_left _ hx)),
      args_stay hl hb ht.2 h2 (fun x hx => hlt x (List.mem_append_right _ hx)) (fun x hx => hsp x (List.mem_append_right _ hx)), rfl⟩

theorem cells_three {W : World} {base : Nat} {a : Addr} {cs : List Value} (h : W.cells? base a 3 = some cs) : ∃ v0 v1 v2, cs = [v0, v1, v2] ∧ W.cell? a = some v0 ∧ W.cell? (a.add 1) = some v1 ∧ W.cell? (a.add 2) = some v2 := by
  obtain ⟨_, hlen, hcell⟩ := World.cells?_some h
  match cs, hlen with
  | [v0, v1, v2], _ =>
    have e0 := hcell 0 (by omega)
    have e1 := hcell 1 (by omega)
    have e2 := hcell 2 (by omega)
    exact ⟨v0, v1, v2, rfl, by simpa [Addr.add] using e0, by simpa using e1, by simpa using e2⟩

/-- A slice of spots. -/
theorem open_spots {r : Reach} {b0 : Nat} {t e : TypeId} {f0 f1 f2 : Field} {v : Value} {d : DataW H} {p : List MemPlace} (ht : P.underlying t = some (.slice e)) (he : P.underlying e = some (.struct #[f0, f1, f2])) (ce : P.cellsOf e = 3)
    (o0 : f0.offset = 0) (o1 : f1.offset = 1) (o2 : f2.offset = 2) (c0 : P.cellsOf f0.type = 1) (c1 : P.cellsOf f1.type = 1) (c2 : P.cellsOf f2.type = 1)
    (u0 : P.underlying f0.type = some (.int .i64)) (u1 : P.underlying f1.type = some (.int .i64)) (u2 : P.underlying f2.type = some .bool)
    (hv : Value.okWide P w r b0 t v) (h : DataW.Trod enc P w 0 (fun _ => true) held t v d p) :
    ∃ (sa : Option Addr) (n c : Nat), v = .slice sa n c ∧ n ≤ maxLen ∧ (n = 0 ∨ ∃ (b o : Nat) (X Y : Nat → Int) (F : Nat → Bool), sa = some ⟨b, o, none⟩ ∧ RowO w b o n X Y F) := by
  obtain ⟨sa, n, c, rfl⟩ := okWide_slice ht hv
  obtain ⟨fuel, hf⟩ := h
  rcases open_slice ht hf with ⟨hc, _⟩ | ⟨a, len, cap, m, k, D, Pl, hc, _, hl, hm, hmm, hx, hall⟩
  · simp [Value.cells] at hc
    obtain ⟨rfl, rfl, rfl⟩ := hc
    exact ⟨none, 0, 0, rfl, by decide, Or.inl rfl⟩
  · simp [Value.cells] at hc
    obtain ⟨rfl, rfl, rfl⟩ := hc
    simp only [if_true] at hmm
    subst hmm
    refine ⟨some a, n, m, rfl, by omega, ?_⟩
    rcases Nat.eq_zero_or_pos n with h0 | hn
    · exact Or.inl h0
    right
    have each : ∀ i, i < n → ∃ q : Int × Int × Bool, w.cell? (a.add (i * 3)) = some (.int .i64 q.1) ∧ w.cell? (a.add (i * 3 + 1)) = some (.int .i64 q.2.1) ∧ w.cell? (a.add (i * 3 + 2)) = some (.bool q.2.2) := by
      intro i hi
      obtain ⟨cs, h1, h2⟩ := hall i (by omega)
      rw [ce] at h1
      obtain ⟨v0, v1, v2, rfl, g0, g1, g2⟩ := cells_three h1
      rw [add_add] at g1 g2
      obtain ⟨xs, k', hk, _, _, hxl, hfd⟩ := DataW.trod_struct he h2
      match xs, hxl with
      | [y0, y1, y2], _ =>
        have q0 := hfd 0 f0 rfl
        have q1 := hfd 1 f1 rfl
        have q2 := hfd 2 f2 rfl
        simp [o0, o1, o2, c0, c1, c2] at q0 q1 q2
        obtain ⟨x, e0, _, _⟩ := DataW.trod_int u0 q0
        obtain ⟨y, e1, _, _⟩ := DataW.trod_int u1 q1
        obtain ⟨z, e2, _⟩ := DataW.trod_bool u2 q2
        simp at e0 e1 e2
        subst e0 e1 e2
        exact ⟨(x, y, z), g0, g1, g2⟩
    obtain ⟨q, hq⟩ := choose_lt (α := Int × Int × Bool) each
    obtain ⟨b, o, spot⟩ := a
    have hspot : spot = none := by simpa [Addr.add] using World.cell?_spot (hq 0 hn).1
    subst hspot
    refine ⟨b, o, fun i => (q i).1, fun i => (q i).2.1, fun i => (q i).2.2, rfl, ?_, fun i hi => ?_⟩
    · have h1 := (hq 0 hn).1
      rw [Addr.add_lit] at h1; exact World.block_lt_of_cell? _ _ h1
    · obtain ⟨h1, h2, h3⟩ := hq i hi
      simp only [Addr.add_lit] at h1 h2 h3
      exact ⟨h1, by rw [Nat.add_assoc]; exact h2, by rw [Nat.add_assoc]; exact h3⟩
/-- A struct of a spot and an int. -/
theorem open_seal {r : Reach} {b0 : Nat} {t : TypeId} {f0 f1 g0 g1 g2 : Field} {v : Value} {d : DataW H} {p : List MemPlace} (hs : P.underlying t = some (.struct #[f0, f1])) (hR : P.underlying f0.type = some (.struct #[g0, g1, g2])) (hC : P.cellsOf t = 4)
    (o0 : f0.offset = 0) (o1 : f1.offset = 3) (cR : P.cellsOf f0.type = 3) (c1 : P.cellsOf f1.type = 1) (p0 : g0.offset = 0) (p1 : g1.offset = 1) (p2 : g2.offset = 2) (k0 : P.cellsOf g0.type = 1) (k1 : P.cellsOf g1.type = 1) (k2 : P.cellsOf g2.type = 1)
    (u0 : P.underlying g0.type = some (.int .i64)) (u1 : P.underlying g1.type = some (.int .i64)) (u2 : P.underlying g2.type = some .bool) (u3 : P.underlying f1.type = some (.int .i64))
    (hv : Value.okWide P w r b0 t v) (h : DataW.Trod enc P w base spare held t v d p) :
    ∃ (a b : Int) (c : Bool) (s : Int), v = .agg #[.int .i64 a, .int .i64 b, .bool c, .int .i64 s] ∧ (Lit.int .i64 a).wf = true ∧ (Lit.int .i64 b).wf = true ∧ (Lit.int .i64 s).wf = true := by
  obtain ⟨cs, rfl, hsz⟩ := okWide_struct hs hv
  obtain ⟨v0, v1, v2, v3, rfl⟩ := array4 (hsz.trans hC)
  obtain ⟨fuel, hf⟩ := h
  obtain ⟨y0, y1, n, hx, _, h0, h1⟩ := trod_struct2 hs hf
  simp only [Value.cells, o0, o1, cR, c1] at h0 h1
  obtain ⟨z0, z1, z2, m, _, _, q0, q1, q2⟩ := trod_struct3 hR h0
  simp [p0, p1, p2, k0, k1, k2] at q0 q1 q2
  obtain ⟨a, e0, _, wa⟩ := DataW.trod_int u0 q0
  obtain ⟨b, e1, _, wb⟩ := DataW.trod_int u1 q1
  obtain ⟨c, e2, _⟩ := DataW.trod_bool u2 q2
  obtain ⟨s, e3, _, ws⟩ := DataW.trod_int u3 (by simpa using h1)
  simp at e0 e1 e2 e3
  subst e0 e1 e2 e3
  exact ⟨a, b, c, s, rfl, wa, wb, ws⟩
end
end Go.Proofs.Ytmijjjdedadklag
