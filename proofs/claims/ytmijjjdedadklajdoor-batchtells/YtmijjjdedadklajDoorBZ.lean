/- Texts joined: Open OpenRing OpenDeal OpenSeals BatchTellsBy BatchTellsWalk. Slices of ints, of structs of two ints and of texts, opened at every place. A struct of an int and a slice of ints, opened. A slice of deals (two slices and a seal each), opened at every place. A slice of seals (a spot and a number each), opened at every place. stonelaw3.BatchTells answers true, by what package batch is to answer. Proved: stonelaw3.BatchTells answers true for every list of spots, of texts, of seals and of numbers: whether any seals are right, all at once, and which are not, as the document says. No condition stands behind it but the listed variable. -/
import Derived.Test.YtmijjjdedadklajDoorOwn
import Derived.SizedLaws
import Derived.Test.YtmijjjdedadklajDoorBatchMath
import Derived.Test.YtmijjjdedadklajDoorBatchTellsL
import Derived.Test.YtmijjjdedadklajDoorShell
import Derived.Test.YtmijjjdedadklajDoorBatch
/- Open -/
namespace Go.Proofs.YtmijjjdedadklajDoor
open Go.ChangeShapes Go.WideShapes Go.ChangeAt Go.RowKit Go.Joins Go.Deep Go.WideElems
set_option linter.unusedVariables false
set_option linter.unusedSimpArgs false

section
variable {H : Type} {enc : TypeId × Value → H} {P : Program} {w : World} {held : Bool}

theorem weights_in {e : TypeId} {d : DataW H} {x : Nat} : ∀ {l : List (DataW H)}, d ∈ l → x ∈ d.weights P e → x ∈ DataW.weightsAll P e l
  | [], h, _ => by cases h
  | c :: r, h, hx => by
    show x ∈ c.weights P e ++ DataW.weightsAll P e r
    rcases List.mem_cons.1 h with rfl | h
    · exact List.mem_append_left _ hx
    · exact List.mem_append_right _ (weights_in h hx)
/-- How long a slice is, by the form's own reach. -/
theorem len_slice {t e : TypeId} {sa : Option Addr} {n c : Nat} {d : DataW H} {p : List MemPlace} (ht : P.underlying t = some (.slice e))
    (h : DataW.Trod enc P w 0 (fun _ => true) held t (.slice sa n c) d p) (hw : ∀ x ∈ d.weights P t, x ≤ reachBytes) : n * P.bytesOf e ≤ reachBytes := by
  obtain ⟨fuel, hf⟩ := h
  rcases open_slice ht hf with ⟨hc, _⟩ | ⟨a, len, cap, m, k, D, Pl, hc, _, hl, hm, hmm, hx, hall⟩
  · simp [Value.cells] at hc
    obtain ⟨rfl, rfl, rfl⟩ := hc
    rw [Nat.zero_mul]; exact Nat.zero_le _
  · simp [Value.cells] at hc
    obtain ⟨rfl, rfl, rfl⟩ := hc
    simp only [if_true] at hmm
    subst hmm
    have hd : d = .slice ((List.range n).map D) ((List.range (m - n)).map fun j => D (n + j)) := congrArg Prod.fst hx
    have hmem : (n + (m - n)) * P.bytesOf e ∈ d.weights P t := by
      rw [hd]
      unfold DataW.weights
      rw [ht]
      simp
    have h1 := hw _ hmem
    have h2 : n * P.bytesOf e ≤ (n + (m - n)) * P.bytesOf e := Nat.mul_le_mul_right _ (by omega)
    exact Nat.le_trans h2 h1
/-- A slice has room for what it holds. -/
theorem room_slice {t e : TypeId} {sa : Option Addr} {n c : Nat} {d : DataW H} {p : List MemPlace} (ht : P.underlying t = some (.slice e))
    (h : DataW.Trod enc P w 0 (fun _ => true) held t (.slice sa n c) d p) : n ≤ c := by
  obtain ⟨fuel, hf⟩ := h
  rcases open_slice ht hf with ⟨hc, _⟩ | ⟨a, len, cap, m, k, D, Pl, hc, _, hl, hm, hmm, hx, hall⟩
  · simp [Value.cells] at hc
    obtain ⟨rfl, rfl, rfl⟩ := hc
    exact Nat.le_refl _
  · simp [Value.cells] at hc
    obtain ⟨rfl, rfl, rfl⟩ := hc
    exact hl
/-- A slice of texts: how long each one is, too. -/
theorem open_texts {r : Reach} {b0 : Nat} {t e : TypeId} {v : Value} {d : DataW H} {p : List MemPlace} (ht : P.underlying t = some (.slice e)) (he : P.underlying e = some .string) (ce : P.cellsOf e = 1)
    (hv : Value.okWide P w r b0 t v) (h : DataW.Trod enc P w 0 (fun _ => true) held t v d p) (hw : ∀ x ∈ d.weights P t, x ≤ reachBytes) :
    ∃ (sa : Option Addr) (n c : Nat), v = .slice sa n c ∧ n ≤ maxLen ∧ (n = 0 ∨ ∃ (b o : Nat) (T : Nat → ByteArray), sa = some ⟨b, o, none⟩ ∧ RowZ w b o n T ∧ ∀ i, i < n → (T i).size ≤ reachBytes) := by
  obtain ⟨sa, n, c, rfl⟩ := okWide_slice ht hv
  obtain ⟨fuel, hf⟩ := h
  rcases open_slice ht hf with ⟨hc, _⟩ | ⟨a, len, cap, m, k, D, Pl, hc, _, hl, hm, hmm, hx, hall⟩
  · simp [Value.cells] at hc
    obtain ⟨rfl, rfl, rfl⟩ := hc
    exact ⟨none, 0, 0, rfl, by decide, Or.inl rfl⟩
  · simp [Value.cells] at hc
    obtain ⟨rfl, rfl, rfl⟩ := hc
    simp only [if_true] at hmm
    subst hmm
    refine ⟨some a, n, m, rfl, by omega, ?_⟩
    rcases Nat.eq_zero_or_pos n with h0 | hn
    · exact Or.inl h0
    right
    have each : ∀ i, i < n → ∃ q : ByteArray, w.cell? (a.add i) = some (.string q) ∧ q.size ≤ reachBytes := by
      intro i hi
      obtain ⟨cs, h1, h2⟩ := hall i (by omega)
      rw [ce] at h1
      obtain ⟨_, hlen, hcell⟩ := World.cells?_some h1
      obtain ⟨s, rfl, hs, _⟩ := DataW.trod_string he h2
      have e0 := hcell 0 (by omega)
      refine ⟨s, by simpa [Addr.add, Nat.mul_one] using e0, ?_⟩
      have hd : d = .slice ((List.range n).map D) ((List.range (m - n)).map fun j => D (n + j)) := congrArg Prod.fst hx
      have hD : D i = .lit (.string s.data.toList) := congrArg Prod.fst hs
      have hmem : s.data.toList.length ∈ d.weights P t := by
        rw [hd]
        unfold DataW.weights
        rw [ht]
        refine List.mem_cons_of_mem _ (List.mem_append_left _ (weights_in (d := D i) (List.mem_map.2 ⟨i, List.mem_range.2 hi, rfl⟩) ?_))
        rw [hD]
        unfold DataW.weights
        simp
      have := hw _ hmem
      rw [Array.length_toList] at this
      exact this
    obtain ⟨q, hq⟩ := choose_lt (α := ByteArray) each
    obtain ⟨b, o, spot⟩ := a
    have hspot : spot = none := by simpa [Addr.add] using World.cell?_spot (hq 0 hn).1
    subst hspot
    refine ⟨b, o, q, rfl, ⟨?_, fun i hi => ?_⟩, fun i hi => (hq i hi).2⟩
    · have h1 := (hq 0 hn).1
      rw [Addr.add_lit] at h1; exact World.block_lt_of_cell? _ _ h1
    · have h1 := (hq i hi).1
      rwa [Addr.add_lit] at h1
/-- A slice of ints. -/
theorem open_nums {r : Reach} {b0 : Nat} {t e : TypeId} {v : Value} {d : DataW H} {p : List MemPlace} (ht : P.underlying t = some (.slice e)) (he : P.underlying e = some (.int .i64)) (ce : P.cellsOf e = 1)
    (hv : Value.okWide P w r b0 t v) (h : DataW.Trod enc P w 0 (fun _ => true) held t v d p) :
    ∃ (sa : Option Addr) (n c : Nat), v = .slice sa n c ∧ n ≤ maxLen ∧ (n = 0 ∨ ∃ (b o : Nat) (X : Nat → Int), sa = some ⟨b, o, none⟩ ∧ RowI w b o n X ∧ ∀ i, i < n → (Lit.int .i64 (X i)).wf = true) := by
  obtain ⟨sa, n, c, rfl⟩ := okWide_slice ht hv
  obtain ⟨fuel, hf⟩ := h
  rcases open_slice ht hf with ⟨hc, _⟩ | ⟨a, len, cap, m, k, D, Pl, hc, _, hl, hm, hmm, hx, hall⟩
  · simp [Value.cells] at hc
    obtain ⟨rfl, rfl, rfl⟩ := hc
    exact ⟨none, 0, 0, rfl, by decide, Or.inl rfl⟩
  · simp [Value.cells] at hc
    obtain ⟨rfl, rfl, rfl⟩ := hc
    simp only [if_true] at hmm
    subst hmm
    refine ⟨some a, n, m, rfl, by omega, ?_⟩
    rcases Nat.eq_zero_or_pos n with h0 | hn
    · exact Or.inl h0
    right
    have each : ∀ i, i < n → ∃ q : Int, w.cell? (a.add i) = some (.int .i64 q) ∧ (Lit.int .i64 q).wf = true := by
      intro i hi
      obtain ⟨cs, h1, h2⟩ := hall i (by omega)
      rw [ce] at h1
      obtain ⟨_, hlen, hcell⟩ := World.cells?_some h1
      obtain ⟨s, rfl, hs, ws⟩ := DataW.trod_int he h2
      have e0 := hcell 0 (by omega)
      exact ⟨s, by simpa [Addr.add, Nat.mul_one] using e0, ws⟩
    obtain ⟨q, hq⟩ := choose_lt (α := Int) each
    obtain ⟨b, o, spot⟩ := a
    have hspot : spot = none := by simpa [Addr.add] using World.cell?_spot (hq 0 hn).1
    subst hspot
    refine ⟨b, o, q, rfl, ⟨?_, fun i hi => ?_⟩, fun i hi => (hq i hi).2⟩
    · have h1 := (hq 0 hn).1
      rw [Addr.add_lit] at h1; exact World.block_lt_of_cell? _ _ h1
    · have h1 := (hq i hi).1
      rwa [Addr.add_lit] at h1
theorem cells_two {W : World} {base : Nat} {a : Addr} {cs : List Value} (h : W.cells? base a 2 = some cs) : ∃ v0 v1, cs = [v0, v1] ∧ W.cell? a = some v0 ∧ W.cell? (a.add 1) = some v1 := by
  obtain ⟨_, hlen, hcell⟩ := World.cells?_some h
  match cs, hlen with
  | [v0, v1], _ =>
    have e0 := hcell 0 (by omega)
    have e1 := hcell 1 (by omega)
    exact ⟨v0, v1, rfl, by simpa [Addr.add] using e0, by simpa using e1⟩
/-- A slice of structs of two ints. -/
theorem open_twos {r : Reach} {b0 : Nat} {t e : TypeId} {f0 f1 : Field} {v : Value} {d : DataW H} {p : List MemPlace} (ht : P.underlying t = some (.slice e)) (he : P.underlying e = some (.struct #[f0, f1])) (ce : P.cellsOf e = 2)
    (o0 : f0.offset = 0) (o1 : f1.offset = 1) (c0 : P.cellsOf f0.type = 1) (c1 : P.cellsOf f1.type = 1) (u0 : P.underlying f0.type = some (.int .i64)) (u1 : P.underlying f1.type = some (.int .i64))
    (hv : Value.okWide P w r b0 t v) (h : DataW.Trod enc P w 0 (fun _ => true) held t v d p) :
    ∃ (sa : Option Addr) (n c : Nat), v = .slice sa n c ∧ n ≤ maxLen ∧ (n = 0 ∨ ∃ (b o : Nat) (X Y : Nat → Int), sa = some ⟨b, o, none⟩ ∧ RowP w b o n X Y ∧ ∀ i, i < n → (Lit.int .i64 (X i)).wf = true ∧ (Lit.int .i64 (Y i)).wf = true) := by
  obtain ⟨sa, n, c, rfl⟩ := okWide_slice ht hv
  obtain ⟨fuel, hf⟩ := h
  rcases open_slice ht hf with ⟨hc, _⟩ | ⟨a, len, cap, m, k, D, Pl, hc, _, hl, hm, hmm, hx, hall⟩
  · simp [Value.cells] at hc
    obtain ⟨rfl, rfl, rfl⟩ := hc
    exact ⟨none, 0, 0, rfl, by decide, Or.inl rfl⟩
  · simp [Value.cells] at hc
    obtain ⟨rfl, rfl, rfl⟩ := hc
    simp only [if_true] at hmm
    subst hmm
    refine ⟨some a, n, m, rfl, by omega, ?_⟩
    rcases Nat.eq_zero_or_pos n with h0 | hn
    · exact Or.inl h0
    right
    have each : ∀ i, i < n → ∃ q : Int × Int, w.cell? (a.add (i * 2)) = some (.int .i64 q.1) ∧ w.cell? (a.add (i * 2 + 1)) = some (.int .i64 q.2) ∧ (Lit.int .i64 q.1).wf = true ∧ (Lit.int .i64 q.2).wf = true := by
      intro i hi
      obtain ⟨cs, h1, h2⟩ := hall i (by omega)
      rw [ce] at h1
      obtain ⟨v0, v1, rfl, g0, g1⟩ := cells_two h1
      rw [add_add] at g1
      obtain ⟨xs, k', hk, _, _, hxl, hfd⟩ := DataW.trod_struct he h2
      match xs, hxl with
      | [y0, y1], _ =>
        have q0 := hfd 0 f0 rfl
        have q1 := hfd 1 f1 rfl
        simp [o0, o1, c0, c1] at q0 q1
        obtain ⟨x, e0, _, wx⟩ := DataW.trod_int u0 q0
        obtain ⟨y, e1, _, wy⟩ := DataW.trod_int u1 q1
        simp at e0 e1
        subst e0 e1
        exact ⟨(x, y), g0, g1, wx, wy⟩
    obtain ⟨q, hq⟩ := choose_lt (α := Int × Int) each
    obtain ⟨b, o, spot⟩ := a
    have hspot : spot = none := by simpa [Addr.add] using World.cell?_spot (hq 0 hn).1
    subst hspot
    refine ⟨b, o, fun i => (q i).1, fun i => (q i).2, rfl, ⟨?_, fun i hi => ?_⟩, fun i hi => (hq i hi).2.2⟩
    · have h1 := (hq 0 hn).1
      rw [Addr.add_lit] at h1; exact World.block_lt_of_cell? _ _ h1
    · obtain ⟨h1, h2, _⟩ := hq i hi
      simp only [Addr.add_lit] at h1 h2
      exact ⟨h1, by rw [Nat.add_assoc]; exact h2⟩
end
end Go.Proofs.YtmijjjdedadklajDoor
/- OpenRing -/
namespace Go.Proofs.YtmijjjdedadklajDoor
open Go.ChangeShapes Go.WideShapes Go.ChangeAt Go.RowKit Go.Joins Go.Deep Go.WideElems
set_option linter.unusedVariables false
set_option linter.unusedSimpArgs false

section
variable {H : Type} {enc : TypeId × Value → H} {P : Program} {w : World} {held : Bool}

/-- Cells that hold a slice of ints. -/
theorem cells_nums {t e : TypeId} {fuel : Nat} {cs : List Value} {x : DataW H × List MemPlace} (ht : P.underlying t = some (.slice e)) (he : P.underlying e = some (.int .i64)) (ce : P.cellsOf e = 1)
    (hf : DataW.trod enc P w 0 (fun _ => true) held fuel t cs = some x) :
    ∃ (sa : Option Addr) (n c : Nat), cs = [.slice sa n c] ∧ n ≤ maxLen ∧ n ≤ c ∧ (n = 0 ∨ ∃ (b o : Nat) (X : Nat → Int), sa = some ⟨b, o, none⟩ ∧ RowI w b o n X ∧ ∀ i, i < n → (Lit.int .i64 (X i)).wf = true) := by
  rcases open_slice ht hf with ⟨hc, _⟩ | ⟨a, n, cap, m, k, D, Pl, hc, _, hl, hm, hmm, hx, hall⟩
  · exact ⟨none, 0, 0, hc, by decide, Nat.le_refl _, Or.inl rfl⟩
  · simp only [if_true] at hmm
    subst hmm
    refine ⟨some a, n, m, hc, by omega, hl, ?_⟩
    rcases Nat.eq_zero_or_pos n with h0 | hn
    · exact Or.inl h0
    right
    have each : ∀ i, i < n → ∃ q : Int, w.cell? (a.add i) = some (.int .i64 q) ∧ (Lit.int .i64 q).wf = true := by
      intro i hi
      obtain ⟨cs, h1, h2⟩ := hall i (by omega)
      rw [ce] at h1
      obtain ⟨_, hlen, hcell⟩ := World.cells?_some h1
      obtain ⟨s, rfl, hs, ws⟩ := DataW.trod_int he h2
      have e0 := hcell 0 (by omega)
      exact ⟨s, by simpa [Addr.add, Nat.mul_one] using e0, ws⟩
    obtain ⟨q, hq⟩ := choose_lt (α := Int) each
    obtain ⟨b, o, spot⟩ := a
    have hspot : spot = none := by simpa [Addr.add] using World.cell?_spot (hq 0 hn).1
    subst hspot
    refine ⟨b, o, q, rfl, ⟨?_, fun i hi => ?_⟩, fun i hi => (hq i hi).2⟩
    · have h1 := (hq 0 hn).1
      rw [Addr.add_lit] at h1; exact World.block_lt_of_cell? _ _ h1
    · have h1 := (hq i hi).1
      rwa [Addr.add_lit] at h1
theorem array_two {α : Type} {a : Array α} (h : a.size = 2) : ∃ x y, a = #[x, y] := by
  obtain ⟨l⟩ := a
  match l, h with
  | [x, y], _ => exact ⟨x, y, rfl⟩
/-- A struct of an int and a slice of ints. -/
theorem open_ringed {r : Reach} {b0 : Nat} {t e : TypeId} {f0 f1 : Field} {v : Value} {d : DataW H} {p : List MemPlace} (hs : P.underlying t = some (.struct #[f0, f1])) (hC : P.cellsOf t = 2)
    (o0 : f0.offset = 0) (o1 : f1.offset = 1) (c0 : P.cellsOf f0.type = 1) (c1 : P.cellsOf f1.type = 1)
    (u0 : P.underlying f0.type = some (.int .i64)) (u1 : P.underlying f1.type = some (.slice e)) (he : P.underlying e = some (.int .i64)) (ce : P.cellsOf e = 1)
    (hv : Value.okWide P w r b0 t v) (h : DataW.Trod enc P w 0 (fun _ => true) held t v d p) :
    ∃ (a : Int) (sa : Option Addr) (n c : Nat), v = .agg #[.int .i64 a, .slice sa n c] ∧ (Lit.int .i64 a).wf = true ∧ n ≤ maxLen ∧ n ≤ c ∧ (n = 0 ∨ ∃ (b o : Nat) (X : Nat → Int), sa = some ⟨b, o, none⟩ ∧ RowI w b o n X ∧ ∀ i, i < n → (Lit.int .i64 (X i)).wf = true) := by
  obtain ⟨cs, rfl, hsz⟩ := okWide_struct hs hv
  obtain ⟨v0, v1, rfl⟩ := array_two (hsz.trans hC)
  obtain ⟨fuel, hf⟩ := h
  obtain ⟨y0, y1, n, hx, _, h0, h1⟩ := trod_struct2 hs hf
  simp [Value.cells, o0, o1, c0, c1] at h0 h1
  obtain ⟨a, e0, _, wa⟩ := DataW.trod_int u0 h0
  obtain ⟨sa, m, c, e1, k1, k2, k3⟩ := cells_nums u1 he ce h1
  simp at e0 e1
  subst e0 e1
  exact ⟨a, sa, m, c, rfl, wa, k1, k2, k3⟩
end
end Go.Proofs.YtmijjjdedadklajDoor
/- OpenDeal -/
namespace Go.Proofs.YtmijjjdedadklajDoor
open Go.ChangeShapes Go.WideShapes Go.ChangeAt Go.RowKit Go.Joins Go.Deep Go.WideElems
set_option linter.unusedVariables false
set_option linter.unusedSimpArgs false

/-- A deal, as it lies: those that go, those that come, and the seal. -/
structure DealV where
  sz : Option Addr
  m : Nat
  dz : Nat
  sl : Option Addr
  c : Nat
  d : Nat
  rx : Int
  ry : Int
  rf : Bool
  s : Int
/-- What is known of a deal that came in. -/
structure DealOk (w : World) (D : DealV) : Prop where
  lm : D.m ≤ maxLen
  km : D.m ≤ D.dz
  um : D.m = 0 ∨ ∃ (b o : Nat) (Z : Nat → Int), D.sz = some ⟨b, o, none⟩ ∧ RowI w b o D.m Z ∧ ∀ i, i < D.m → (Lit.int .i64 (Z i)).wf = true
  lc : D.c ≤ maxLen
  kc : D.c ≤ D.d
  nc : D.sl = none → D.d = 0
  uc : D.c = 0 ∨ ∃ (b o : Nat) (X Y : Nat → Int) (F : Nat → Bool), D.sl = some ⟨b, o, none⟩ ∧ RowO w b o D.c X Y F
  wx : (Lit.int .i64 D.rx).wf = true
  wy : (Lit.int .i64 D.ry).wf = true
  ws : (Lit.int .i64 D.s).wf = true
/-- Its cells. -/
def DealV.cells (D : DealV) : List Value := [.slice D.sz D.m D.dz, .slice D.sl D.c D.d, .int .i64 D.rx, .int .i64 D.ry, .bool D.rf, .int .i64 D.s]
/-- In block b, from o on, lie so many deals in a row. -/
def RowD (w : World) (b o n : Nat) (D : Nat → DealV) : Prop :=
  b < w.heap.size ∧ ∀ i, i < n → (∀ j, j < 6 → w.cell? ⟨b, o + i * 6 + j, none⟩ = (D i).cells[j]?) ∧ DealOk w (D i)

section
variable {H : Type} {enc : TypeId × Value → H} {P : Program} {w : World} {held : Bool}
/-- A slice without a place has no room. -/
theorem nil_slice {t e : TypeId} {sa : Option Addr} {n c : Nat} {d : DataW H} {p : List MemPlace} (ht : P.underlying t = some (.slice e))
    (h : DataW.Trod enc P w 0 (fun _ => true) held t (.slice sa n c) d p) : sa = none → c = 0 := by
  obtain ⟨fuel, hf⟩ := h
  rcases open_slice ht hf with ⟨hc, _⟩ | ⟨a, len, cap, m, k, D, Pl, hc, _⟩
  · simp [Value.cells] at hc
    obtain ⟨rfl, rfl, rfl⟩ := hc
    exact fun _ => rfl
  · simp [Value.cells] at hc
    obtain ⟨rfl, rfl, rfl⟩ := hc
    intro e; cases e
/-- Cells that hold a slice of spots. -/
theorem cells_spots {t e : TypeId} {f0 f1 f2 : Field} {fuel : Nat} {cs : List Value} {x : DataW H × List MemPlace} (ht : P.underlying t = some (.slice e)) (he : P.underlying e = some (.struct #[f0, f1, f2])) (ce : P.cellsOf e = 3)
    (o0 : f0.offset = 0) (o1 : f1.offset = 1) (o2 : f2.offset = 2) (c0 : P.cellsOf f0.type = 1) (c1 : P.cellsOf f1.type = 1) (c2 : P.cellsOf f2.type = 1)
    (u0 : P.underlying f0.type = some (.int .i64)) (u1 : P.underlying f1.type = some (.int .i64)) (u2 : P.underlying f2.type = some .bool)
    (hf : DataW.trod enc P w 0 (fun _ => true) held fuel t cs = some x) :
    ∃ (sa : Option Addr) (n c : Nat), cs = [.slice sa n c] ∧ n ≤ maxLen ∧ n ≤ c ∧ (sa = none → c = 0) ∧ (n = 0 ∨ ∃ (b o : Nat) (X Y : Nat → Int) (F : Nat → Bool), sa = some ⟨b, o, none⟩ ∧ RowO w b o n X Y F) := by
  rcases open_slice ht hf with ⟨hc, _⟩ | ⟨a, n, cap, m, k, D, Pl, hc, _, hl, hm, hmm, hx, hall⟩
  · exact ⟨none, 0, 0, hc, by decide, Nat.le_refl _, fun _ => rfl, Or.inl rfl⟩
  · simp only [if_true] at hmm
    subst hmm
    refine ⟨some a, n, m, hc, by omega, hl, (fun e => by cases e), ?_⟩
    rcases Nat.eq_zero_or_pos n with h0 | hn
    · exact Or.inl h0
    right
    have each : ∀ i, i < n → ∃ q : Int × Int × Bool, w.cell? (a.add (i * 3)) = some (.int .i64 q.1) ∧ w.cell? (a.add (i * 3 + 1)) = some (.int .i64 q.2.1) ∧ w.cell? (a.add (i * 3 + 2)) = some (.bool q.2.2) := by
      intro i hi
      obtain ⟨cs, h1, h2⟩ := hall i (by omega)
      rw [ce] at h1
      obtain ⟨v0, v1, v2, rfl, g0, g1, g2⟩ := cells_three h1
      rw [add_add] at g1 g2
      obtain ⟨xs, k', hk, _, _, hxl, hfd⟩ := DataW.trod_struct he h2
      match xs, hxl with
      | [y0, y1, y2], _ =>
        have q0 := hfd 0 f0 rfl
        have q1 := hfd 1 f1 rfl
        have q2 := hfd 2 f2 rfl
        simp [o0, o1, o2, c0, c1, c2] at q0 q1 q2
        obtain ⟨x, e0, _, _⟩ := DataW.trod_int u0 q0
        obtain ⟨y, e1, _, _⟩ := DataW.trod_int u1 q1
        obtain ⟨z, e2, _⟩ := DataW.trod_bool u2 q2
        simp at e0 e1 e2
        subst e0 e1 e2
        exact ⟨(x, y, z), g0, g1, g2⟩
    obtain ⟨q, hq⟩ := choose_lt (α := Int × Int × Bool) each
    obtain ⟨b, o, spot⟩ := a
    have hspot : spot = none := by simpa [Addr.add] using World.cell?_spot (hq 0 hn).1
    subst hspot
    refine ⟨b, o, fun i => (q i).1, fun i => (q i).2.1, fun i => (q i).2.2, rfl, ?_, fun i hi => ?_⟩
    · have h1 := (hq 0 hn).1
      rw [Addr.add_lit] at h1; exact World.block_lt_of_cell? _ _ h1
    · obtain ⟨h1, h2, h3⟩ := hq i hi
      simp only [Addr.add_lit] at h1 h2 h3
      exact ⟨h1, by rw [Nat.add_assoc]; exact h2, by rw [Nat.add_assoc]; exact h3⟩
/-- Cells of a deal. -/
theorem cells_deal {t g sp : TypeId} {d0 d1 d2 f0 f1 f2 s0 s1 : Field} {fuel : Nat} {cs : List Value} {x : DataW H × List MemPlace} (hlen : cs.length = 6)
    (hs : P.underlying t = some (.struct #[d0, d1, d2])) (q0 : d0.offset = 0) (q1 : d1.offset = 1) (q2 : d2.offset = 2) (r0 : P.cellsOf d0.type = 1) (r1 : P.cellsOf d1.type = 1) (r2 : P.cellsOf d2.type = 4)
    (hz : P.underlying d0.type = some (.slice g)) (hg : P.underlying g = some (.int .i64)) (cg : P.cellsOf g = 1)
    (hl : P.underlying d1.type = some (.slice sp)) (he : P.underlying sp = some (.struct #[f0, f1, f2])) (ce : P.cellsOf sp = 3)
    (o0 : f0.offset = 0) (o1 : f1.offset = 1) (o2 : f2.offset = 2) (c0 : P.cellsOf f0.type = 1) (c1 : P.cellsOf f1.type = 1) (c2 : P.cellsOf f2.type = 1)
    (u0 : P.underlying f0.type = some (.int .i64)) (u1 : P.underlying f1.type = some (.int .i64)) (u2 : P.underlying f2.type = some .bool)
    (hS : P.underlying d2.type = some (.struct #[s0, s1])) (t0 : s0.offset = 0) (t1 : s1.offset = 3) (k0 : P.cellsOf s0.type = 3) (k1 : P.cellsOf s1.type = 1) (hR : P.underlying s0.type = some (.struct #[f0, f1, f2])) (u3 : P.underlying s1.type = some (.int .i64))
    (hf : DataW.trod enc P w 0 (fun _ => true) held fuel t cs = some x) : ∃ D : DealV, cs = D.cells ∧ DealOk w D := by
  match cs, hlen with
  | [v0, v1, v2, v3, v4, v5], _ =>
    obtain ⟨y0, y1, y2, n, _, _, h0, h1, h2⟩ := trod_struct3 hs hf
    simp [q0, q1, q2, r0, r1, r2] at h0 h1 h2
    obtain ⟨sz, m, dz, e0, a1, a2, a3⟩ := cells_nums hz hg cg h0
    obtain ⟨sl, c, d, e1, b1, b2, b3, b4⟩ := cells_spots hl he ce o0 o1 o2 c0 c1 c2 u0 u1 u2 h1
    obtain ⟨z0, z1, n2, _, _, h3, h4⟩ := trod_struct2 hS h2
    simp [t0, t1, k0, k1] at h3 h4
    obtain ⟨p0, p1, p2, n3, _, _, g0, g1, g2⟩ := trod_struct3 hR h3
    simp [o0, o1, o2, c0, c1, c2] at g0 g1 g2
    obtain ⟨rx, i0, _, wx⟩ := DataW.trod_int u0 g0
    obtain ⟨ry, i1, _, wy⟩ := DataW.trod_int u1 g1
    obtain ⟨rf, i2, _⟩ := DataW.trod_bool u2 g2
    obtain ⟨s, i3, _, ws⟩ := DataW.trod_int u3 h4
    simp at e0 e1 i0 i1 i2 i3
    subst e0 e1 i0 i1 i2 i3
    exact ⟨⟨sz, m, dz, sl, c, d, rx, ry, rf, s⟩, rfl, ⟨a1, a2, a3, b1, b2, b3, b4, wx, wy, ws⟩⟩
/-- A slice of deals. -/
theorem open_deals {r : Reach} {b0 : Nat} {t e g sp : TypeId} {d0 d1 d2 f0 f1 f2 s0 s1 : Field} {v : Value} {d : DataW H} {p : List MemPlace} (ht : P.underlying t = some (.slice e)) (cE : P.cellsOf e = 6)
    (hs : P.underlying e = some (.struct #[d0, d1, d2])) (q0 : d0.offset = 0) (q1 : d1.offset = 1) (q2 : d2.offset = 2) (r0 : P.cellsOf d0.type = 1) (r1 : P.cellsOf d1.type = 1) (r2 : P.cellsOf d2.type = 4)
    (hz : P.underlying d0.type = some (.slice g)) (hg : P.underlying g = some (.int .i64)) (cg : P.cellsOf g = 1)
    (hl : P.underlying d1.type = some (.slice sp)) (he : P.underlying sp = some (.struct #[f0, f1, f2])) (ce : P.cellsOf sp = 3)
    (o0 : f0.offset = 0) (o1 : f1.offset = 1) (o2 : f2.offset = 2) (c0 : P.cellsOf f0.type = 1) (c1 : P.cellsOf f1.type = 1) (c2 : P.cellsOf f2.type = 1)
    (u0 : P.underlying f0.type = some (.int .i64)) (u1 : P.underlying f1.type = some (.int .i64)) (u2 : P.underlying f2.type = some .bool)
    (hS : P.underlying d2.type = some (.struct #[s0, s1])) (t0 : s0.offset = 0) (t1 : s1.offset = 3) (k0 : P.cellsOf s0.type = 3) (k1 : P.cellsOf s1.type = 1) (hR : P.underlying s0.type = some (.struct #[f0, f1, f2])) (u3 : P.underlying s1.type = some (.int .i64))
    (hv : Value.okWide P w r b0 t v) (h : DataW.Trod enc P w 0 (fun _ => true) held t v d p) :
    ∃ (sa : Option Addr) (n c : Nat), v = .slice sa n c ∧ n ≤ maxLen ∧ (n = 0 ∨ ∃ (b o : Nat) (D : Nat → DealV), sa = some ⟨b, o, none⟩ ∧ RowD w b o n D) := by
  obtain ⟨sa, n, c, rfl⟩ := okWide_slice ht hv
  obtain ⟨fuel, hf⟩ := h
  rcases open_slice ht hf with ⟨hc, _⟩ | ⟨a, len, cap, m, k, D, Pl, hc, _, hl2, hm, hmm, hx, hall⟩
  · simp [Value.cells] at hc
    obtain ⟨rfl, rfl, rfl⟩ := hc
    exact ⟨none, 0, 0, rfl, by decide, Or.inl rfl⟩
  · simp [Value.cells] at hc
    obtain ⟨rfl, rfl, rfl⟩ := hc
    simp only [if_true] at hmm
    subst hmm
    refine ⟨some a, n, m, rfl, by omega, ?_⟩
    rcases Nat.eq_zero_or_pos n with h0 | hn
    · exact Or.inl h0
    right
    have each : ∀ i, i < n → ∃ q : DealV, (∀ j, j < 6 → w.cell? (a.add (i * 6 + j)) = q.cells[j]?) ∧ DealOk w q := by
      intro i hi
      obtain ⟨cs, h1, h2⟩ := hall i (by omega)
      rw [cE] at h1
      obtain ⟨_, hlen, hcell⟩ := World.cells?_some h1
      obtain ⟨q, rfl, hq⟩ := cells_deal hlen hs q0 q1 q2 r0 r1 r2 hz hg cg hl he ce o0 o1 o2 c0 c1 c2 u0 u1 u2 hS t0 t1 k0 k1 hR u3 h2
      refine ⟨q, fun j hj => ?_, hq⟩
      have := hcell j (by omega)
      rw [add_add] at this
      exact this
    haveI : Inhabited DealV := ⟨⟨none, 0, 0, none, 0, 0, 0, 0, false, 0⟩⟩
    obtain ⟨q, hq⟩ := choose_lt (α := DealV) each
    obtain ⟨b, o, spot⟩ := a
    have hspot : spot = none := by simpa [Addr.add] using World.cell?_spot ((hq 0 hn).1 0 (by omega))
    subst hspot
    refine ⟨b, o, q, rfl, ?_, fun i hi => ⟨fun j hj => ?_, (hq i hi).2⟩⟩
    · have h1 := (hq 0 hn).1 0 (by omega)
      rw [Addr.add_lit] at h1
      exact World.block_lt_of_cell? _ _ h1
    · have h1 := (hq i hi).1 j hj
      rw [Addr.add_lit] at h1
      rw [Nat.add_assoc]; exact h1
end
end Go.Proofs.YtmijjjdedadklajDoor
/- OpenSeals -/
namespace Go.Proofs.YtmijjjdedadklajDoor
open Go.ChangeShapes Go.WideShapes Go.ChangeAt Go.RowKit Go.Joins Go.Deep Go.WideElems
set_option linter.unusedVariables false
set_option linter.unusedSimpArgs false

/-- A seal, as it lies. -/
structure SealV where
  rx : Int
  ry : Int
  rf : Bool
  s : Int
def SealV.cells (D : SealV) : List Value := [.int .i64 D.rx, .int .i64 D.ry, .bool D.rf, .int .i64 D.s]
/-- In block b, from o on, lie so many seals in a row. -/
def RowS4 (w : World) (b o n : Nat) (D : Nat → SealV) : Prop :=
  b < w.heap.size ∧ ∀ i, i < n → (∀ j, j < 4 → w.cell? ⟨b, o + i * 4 + j, none⟩ = (D i).cells[j]?) ∧ (Lit.int .i64 (D i).s).wf = true
section
variable {H : Type} {enc : TypeId × Value → H} {P : Program} {w : World} {held : Bool}
theorem cells_seal {t : TypeId} {f0 f1 f2 s0 s1 : Field} {fuel : Nat} {cs : List Value} {x : DataW H × List MemPlace} (hlen : cs.length = 4)
    (o0 : f0.offset = 0) (o1 : f1.offset = 1) (o2 : f2.offset = 2) (c0 : P.cellsOf f0.type = 1) (c1 : P.cellsOf f1.type = 1) (c2 : P.cellsOf f2.type = 1)
    (u0 : P.underlying f0.type = some (.int .i64)) (u1 : P.underlying f1.type = some (.int .i64)) (u2 : P.underlying f2.type = some .bool)
    (hS : P.underlying t = some (.struct #[s0, s1])) (t0 : s0.offset = 0) (t1 : s1.offset = 3) (k0 : P.cellsOf s0.type = 3) (k1 : P.cellsOf s1.type = 1) (hR : P.underlying s0.type = some (.struct #[f0, f1, f2])) (u3 : P.underlying s1.type = some (.int .i64))
    (hf : DataW.trod enc P w 0 (fun _ => true) held fuel t cs = some x) : ∃ D : SealV, cs = D.cells ∧ (Lit.int .i64 D.s).wf = true := by
  match cs, hlen with
  | [v0, v1, v2, v3], _ =>
    obtain ⟨z0, z1, n2, _, _, h3, h4⟩ := trod_struct2 hS hf
    simp [t0, t1, k0, k1] at h3 h4
    obtain ⟨p0, p1, p2, n3, _, _, g0, g1, g2⟩ := trod_struct3 hR h3
    simp [o0, o1, o2, c0, c1, c2] at g0 g1 g2
    obtain ⟨rx, i0, _, wx⟩ := DataW.trod_int u0 g0
    obtain ⟨ry, i1, _, wy⟩ := DataW.trod_int u1 g1
    obtain ⟨rf, i2, _⟩ := DataW.trod_bool u2 g2
    obtain ⟨s, i3, _, ws⟩ := DataW.trod_int u3 h4
    simp at i0 i1 i2 i3
    subst i0 i1 i2 i3
    exact ⟨⟨rx, ry, rf, s⟩, rfl, ws⟩
/-- A slice of seals. -/
theorem open_seals {r : Reach} {b0 : Nat} {t e : TypeId} {f0 f1 f2 s0 s1 : Field} {v : Value} {d : DataW H} {p : List MemPlace} (ht : P.underlying t = some (.slice e)) (cE : P.cellsOf e = 4)
    (o0 : f0.offset = 0) (o1 : f1.offset = 1) (o2 : f2.offset = 2) (c0 : P.cellsOf f0.type = 1) (c1 : P.cellsOf f1.type = 1) (c2 : P.cellsOf f2.type = 1)
    (u0 : P.underlying f0.type = some (.int .i64)) (u1 : P.underlying f1.type = some (.int .i64)) (u2 : P.underlying f2.type = some .bool)
    (hS : P.underlying e = some (.struct #[s0, s1])) (t0 : s0.offset = 0) (t1 : s1.offset = 3) (k0 : P.cellsOf s0.type = 3) (k1 : P.cellsOf s1.type = 1) (hR : P.underlying s0.type = some (.struct #[f0, f1, f2])) (u3 : P.underlying s1.type = some (.int .i64))
    (hv : Value.okWide P w r b0 t v) (h : DataW.Trod enc P w 0 (fun _ => true) held t v d p) :
    ∃ (sa : Option Addr) (n c : Nat), v = .slice sa n c ∧ n ≤ maxLen ∧ (n = 0 ∨ ∃ (b o : Nat) (D : Nat → SealV), sa = some ⟨b, o, none⟩ ∧ RowS4 w b o n D) ∧ n ≤ c := by
  obtain ⟨sa, n, c, rfl⟩ := okWide_slice ht hv
  obtain ⟨fuel, hf⟩ := h
  rcases open_slice ht hf with ⟨hc, _⟩ | ⟨a, len, cap, m, k, D, Pl, hc, _, hl2, hm, hmm, hx, hall⟩
  · simp [Value.cells] at hc
    obtain ⟨rfl, rfl, rfl⟩ := hc
    exact ⟨none, 0, 0, rfl, by decide, Or.inl rfl, Nat.le_refl _⟩
  · simp [Value.cells] at hc
    obtain ⟨rfl, rfl, rfl⟩ := hc
    simp only [if_true] at hmm
    subst hmm
    refine ⟨some a, n, m, rfl, by omega, ?_, hl2⟩
    rcases Nat.eq_zero_or_pos n with h0 | hn
    · exact Or.inl h0
    right
    have each : ∀ i, i < n → ∃ q : SealV, (∀ j, j < 4 → w.cell? (a.add (i * 4 + j)) = q.cells[j]?) ∧ (Lit.int .i64 q.s).wf = true := by
      intro i hi
      obtain ⟨cs, h1, h2⟩ := hall i (by omega)
      rw [cE] at h1
      obtain ⟨_, hlen, hcell⟩ := World.cells?_some h1
      obtain ⟨q, rfl, hq⟩ := cells_seal hlen o0 o1 o2 c0 c1 c2 u0 u1 u2 hS t0 t1 k0 k1 hR u3 h2
      refine ⟨q, fun j hj => ?_, hq⟩
      have := hcell j (by omega)
      rw [add_add] at this
      exact this
    haveI : Inhabited SealV := ⟨⟨0, 0, false, 0⟩⟩
    obtain ⟨q, hq⟩ := choose_lt (α := SealV) each
    obtain ⟨b, o, spot⟩ := a
    have hspot : spot = none := by simpa [Addr.add] using World.cell?_spot ((hq 0 hn).1 0 (by omega))
    subst hspot
    refine ⟨b, o, q, rfl, ?_, fun i hi => ⟨fun j hj => ?_, (hq i hi).2⟩⟩
    · have h1 := (hq 0 hn).1 0 (by omega)
      rw [Addr.add_lit] at h1
      exact World.block_lt_of_cell? _ _ h1
    · have h1 := (hq i hi).1 j hj
      rw [Addr.add_lit] at h1
      rw [Nat.add_assoc]; exact h1
end
end Go.Proofs.YtmijjjdedadklajDoor
/- BatchTellsBy -/
namespace Go.Proofs.YtmijjjdedadklajDoor
open Go.RowKit Go.Sort
set_option linter.unusedVariables false
set_option linter.unusedSimpArgs false
theorem btold_it (e : Int) : (toldI (errOf e) == e) = true := by rw [toldI_err]; simp
theorem btold_bE (e : Int) : (toldI (bE e) == e) = true := by
  cases h : e == 0 with
  | false => rw [bE_no h]; exact btold_it e
  | true => rw [bE_yes h, show e = 0 by simpa using h]; rfl
theorem bE_isErr (e : Int) : IsErr (bE e) := by
  cases h : e == 0 with
  | false => rw [bE_no h]; exact isErr_err e
  | true => rw [bE_yes h]; exact isErr_nil
set_option maxRecDepth 100000 in
set_option maxHeartbeats 16000000 in
theorem brm_full (sk st sl : Option Addr) (n dk m dt q dl : Nat) (w : World) (h : 12 < n) : Calls Tryd.prog 4 #[.slice sk n dk, .slice st m dt, .slice sl q dl] w fun ex w' => ex = .returned (.int .i64 4) ∧ Below w.heap.size w w' := by
  have h' : (n : Int) > 12 := by omega
  go_enter Tryd.func4, Tryd.ntmps4
  go_wp2_with fail
  go_ret
  exact ⟨rfl, by repeat (first | (with_reducible exact Below.refl _ _) | (with_reducible assumption) | (with_reducible refine Below.setCell ?_ (by first | (simp; done) | (simp; omega) | omega) _) | (with_reducible refine Below.alloc ?_ (by first | (simp; done) | (simp; omega) | omega) _) | (refine bl_call ?_ (by assumption) (by first | (simp; done) | (simp; omega) | omega)) | (with_reducible refine bl_drewN ?_) | (with_reducible refine Below.drew ?_) | (with_reducible refine bl_grow ?_ (by first | (simp; done) | (simp; omega) | omega)))⟩
set_option maxRecDepth 100000 in
set_option maxHeartbeats 16000000 in
theorem brm_odd (sk st sl : Option Addr) (n dk m dt q dl : Nat) (w : World) (hn : n ≤ 12) (h : m ≠ n ∨ q ≠ n) : Calls Tryd.prog 4 #[.slice sk n dk, .slice st m dt, .slice sl q dl] w fun ex w' => ex = .returned (.int .i64 3) ∧ Below w.heap.size w w' := by
  have h' : ¬ (n : Int) > 12 := by omega
  by_cases h1 : m = n
  · have a1 : ((m : Int) != (n : Int)) = false := by rw [h1]; simp
    have a2 : ((q : Int) != (n : Int)) = true := by rw [bne_iff_ne]; omega
    clear h h1
    go_enter Tryd.func4, Tryd.ntmps4
    go_wp2_with fail
    go_ret
    exact ⟨rfl, by repeat (first | (with_reducible exact Below.refl _ _) | (with_reducible assumption) | (with_reducible refine Below.setCell ?_ (by first | (simp; done) | (simp; omega) | omega) _) | (with_reducible refine Below.alloc ?_ (by first | (simp; done) | (simp; omega) | omega) _) | (refine bl_call ?_ (by assumption) (by first | (simp; done) | (simp; omega) | omega)) | (with_reducible refine bl_drewN ?_) | (with_reducible refine Below.drew ?_) | (with_reducible refine bl_grow ?_ (by first | (simp; done) | (simp; omega) | omega)))⟩
  · have a1 : ((m : Int) != (n : Int)) = true := by rw [bne_iff_ne]; omega
    clear h h1
    go_enter Tryd.func4, Tryd.ntmps4
    go_wp2_with fail
    go_ret
    exact ⟨rfl, by repeat (first | (with_reducible exact Below.refl _ _) | (with_reducible assumption) | (with_reducible refine Below.setCell ?_ (by first | (simp; done) | (simp; omega) | omega) _) | (with_reducible refine Below.alloc ?_ (by first | (simp; done) | (simp; omega) | omega) _) | (refine bl_call ?_ (by assumption) (by first | (simp; done) | (simp; omega) | omega)) | (with_reducible refine bl_drewN ?_) | (with_reducible refine Below.drew ?_) | (with_reducible refine bl_grow ?_ (by first | (simp; done) | (simp; omega) | omega)))⟩
set_option maxRecDepth 100000 in
set_option maxHeartbeats 16000000 in
theorem brm_ok (sk st sl : Option Addr) (n dk dt dl : Nat) (w : World) (hn : n ≤ 12) : Calls Tryd.prog 4 #[.slice sk n dk, .slice st n dt, .slice sl n dl] w fun ex w' => ex = .returned (.int .i64 0) ∧ Below w.heap.size w w' := by
  have h' : ¬ (n : Int) > 12 := by omega
  have a1 : ((n : Int) != (n : Int)) = false := by simp
  go_enter Tryd.func4, Tryd.ntmps4
  go_wp2_with fail
  go_ret
  exact ⟨rfl, by repeat (first | (with_reducible exact Below.refl _ _) | (with_reducible assumption) | (with_reducible refine Below.setCell ?_ (by first | (simp; done) | (simp; omega) | omega) _) | (with_reducible refine Below.alloc ?_ (by first | (simp; done) | (simp; omega) | omega) _) | (refine bl_call ?_ (by assumption) (by first | (simp; done) | (simp; omega) | omega)) | (with_reducible refine bl_drewN ?_) | (with_reducible refine Below.drew ?_) | (with_reducible refine bl_grow ?_ (by first | (simp; done) | (simp; omega) | omega)))⟩
theorem bL_cells (l : List Nat) : bL l = cellsI (fun i => ((l.getD i 0 : Nat) : Int)) l.length := by
  unfold bL cellsI
  refine List.ext_getElem (by simp) fun i h1 h2 => ?_
  simp at h1
  simp [h1]
theorem bsame_rows {LL : List Nat} (hl : LL.length ≤ 12) : ∀ W x u B B', W.ownsRow B 3 1 x LL.length (bL LL) → W.ownsRow B' 3 1 u LL.length (bL LL) → Calls Tryd.prog 15 #[x, u] W fun ex w' => ex = .returned (.bool true) ∧ Below W.heap.size W w' := by
  intro W x u B B' hx hu
  rw [bL_cells] at hx hu
  obtain ⟨sa, c, rfl, ra⟩ := own_ints hx
  obtain ⟨sb, d, rfl, rb⟩ := own_ints hu
  rcases ra with h0 | ⟨g, rfl, _, _, ra⟩
  · rw [h0]; exact sints_nil sa sb c d W
  · rcases rb with h0 | ⟨g', rfl, _, _, rb⟩
    · rw [h0]; exact sints_nil _ sb c d W
    · exact sints_row g 0 g' 0 _ c d _ W (by omega) ra rb
theorem bwr_err {sk st sl : Option Addr} {n dk m dt q dl : Nat} {c : Int} {w : World} (h : ∀ W, Calls Tryd.prog 14 #[.slice sk n dk, .slice st m dt, .slice sl q dl] W fun ex w' => ex = .returned (.tuple #[.slice none 0 0, errOf c]) ∧ Below W.heap.size W w') :
    ∀ W, Below w.heap.size w W → Calls Tryd.prog 14 #[.slice sk n dk, .slice st m dt, .slice sl q dl] W fun ex w' => ∃ x, ex = .returned (.tuple #[x, errOf c]) ∧ w'.ownsRow W.heap.size 3 1 x ([] : List Nat).length (bL []) ∧ Below W.heap.size W w' :=
  fun W _ => (h W).mono fun ex w' ⟨h1, h2⟩ => ⟨_, h1, World.ownsRow_nil _ _ _ _, h2⟩
/-- What lies in all four, as one row of items. -/
theorem bat_open {sk st sl sw : Option Addr} {n m q p : Nat} {w : World} (hx : n = 0 ∨ ∃ (b o : Nat) (X Y : Nat → Int) (F : Nat → Bool), sk = some ⟨b, o, none⟩ ∧ RowO w b o n X Y F) (ht : m = 0 ∨ ∃ (b o : Nat) (T : Nat → ByteArray), st = some ⟨b, o, none⟩ ∧ RowZ w b o m T ∧ ∀ i, i < m → (T i).size ≤ reachBytes) (hl : q = 0 ∨ ∃ (b o : Nat) (D : Nat → SealV), sl = some ⟨b, o, none⟩ ∧ RowS4 w b o q D) (hw : p = 0 ∨ ∃ (b o : Nat) (X : Nat → Int), sw = some ⟨b, o, none⟩ ∧ RowI w b o p X ∧ ∀ i, i < p → (Lit.int .i64 (X i)).wf = true) (hm : m = n) (hq : q = n) :
    ∃ I : Nat → BatI, (∀ i, i < n → (I i).t.size ≤ 9223372036854775807 ∧ (Lit.int .i64 (I i).s).wf = true ∧ (Lit.int .i64 (I i).w).wf = true) ∧ (n = 0 ∨ ∃ b o : Nat, sk = some ⟨b, o, none⟩ ∧ RowO w b o n (fun i => (I i).kx) (fun i => (I i).ky) (fun i => (I i).kf)) ∧ (n = 0 ∨ ∃ b o : Nat, st = some ⟨b, o, none⟩ ∧ RowZ w b o n (fun i => (I i).t)) ∧ (n = 0 ∨ ∃ b o : Nat, sl = some ⟨b, o, none⟩ ∧ RowL w b o n I) ∧ (p = n → (n = 0 ∨ ∃ b o : Nat, sw = some ⟨b, o, none⟩ ∧ RowI w b o n (fun i => (I i).w))) := by
  subst hm hq
  obtain ⟨X, Y, F, hx'⟩ : ∃ (X Y : Nat → Int) (F : Nat → Bool), (q = 0 ∨ ∃ b o : Nat, sk = some ⟨b, o, none⟩ ∧ RowO w b o q X Y F) := by
    rcases hx with h | ⟨b, o, X, Y, F, e, r⟩
    · exact ⟨fun _ => 0, fun _ => 0, fun _ => false, Or.inl h⟩
    · exact ⟨X, Y, F, Or.inr ⟨b, o, e, r⟩⟩
  obtain ⟨T, ht', hts⟩ : ∃ T : Nat → ByteArray, (q = 0 ∨ ∃ b o : Nat, st = some ⟨b, o, none⟩ ∧ RowZ w b o q T) ∧ ∀ i, i < q → (T i).size ≤ 9223372036854775807 := by
    rcases ht with h | ⟨b, o, T, e, r, hs⟩
    · exact ⟨fun _ => ⟨#[]⟩, Or.inl h, fun i hi => by omega⟩
    · exact ⟨T, Or.inr ⟨b, o, e, r⟩, fun i hi => Nat.le_trans (hs i hi) (by decide)⟩
  obtain ⟨D, hl', hls⟩ : ∃ D : Nat → SealV, (q = 0 ∨ ∃ b o : Nat, sl = some ⟨b, o, none⟩ ∧ RowS4 w b o q D) ∧ ∀ i, i < q → (Lit.int .i64 (D i).s).wf = true := by
    rcases hl with h | ⟨b, o, D, e, r⟩
    · exact ⟨fun _ => ⟨0, 0, false, 0⟩, Or.inl h, fun i hi => by omega⟩
    · exact ⟨D, Or.inr ⟨b, o, e, r⟩, fun i hi => (r.2 i hi).2⟩
  obtain ⟨Z, hw', hws⟩ : ∃ Z : Nat → Int, (p = q → (q = 0 ∨ ∃ b o : Nat, sw = some ⟨b, o, none⟩ ∧ RowI w b o q Z)) ∧ ∀ i, i < q → (Lit.int .i64 (Z i)).wf = true := by
    by_cases hp : p = q
    · subst hp
      rcases hw with h | ⟨b, o, Z, e, r, hs⟩
      · exact ⟨fun _ => 0, fun _ => Or.inl h, fun i hi => by omega⟩
      · exact ⟨Z, fun _ => Or.inr ⟨b, o, e, r⟩, hs⟩
    · exact ⟨fun _ => 0, fun h => absurd h hp, fun i hi => show (Lit.int .i64 0).wf = true by decide⟩
  refine ⟨fun i => ⟨X i, Y i, F i, T i, (D i).rx, (D i).ry, (D i).rf, (D i).s, Z i⟩, fun i hi => ⟨hts i hi, hls i hi, hws i hi⟩, hx', ht', hl'.imp_right fun ⟨b, o, e, r⟩ => ⟨b, o, e, r.1, fun i hi => ?_⟩, hw'⟩
  have h := (r.2 i hi).1
  exact ⟨h 0 (by omega), h 1 (by omega), h 2 (by omega), h 3 (by omega)⟩
theorem batchTells_by (hV : BVerifyIs) (hWr : BWrongIs) (w : World) (sk : Option Addr) (n dk : Nat) (st : Option Addr) (m dt : Nat) (sl : Option Addr) (q dl : Nat) (sw : Option Addr) (p dw : Nat)
    (hx : n = 0 ∨ ∃ (b o : Nat) (X Y : Nat → Int) (F : Nat → Bool), sk = some ⟨b, o, none⟩ ∧ RowO w b o n X Y F) (ht : m = 0 ∨ ∃ (b o : Nat) (T : Nat → ByteArray), st = some ⟨b, o, none⟩ ∧ RowZ w b o m T ∧ ∀ i, i < m → (T i).size ≤ reachBytes) (hl : q = 0 ∨ ∃ (b o : Nat) (D : Nat → SealV), sl = some ⟨b, o, none⟩ ∧ RowS4 w b o q D) (hw : p = 0 ∨ ∃ (b o : Nat) (X : Nat → Int), sw = some ⟨b, o, none⟩ ∧ RowI w b o p X ∧ ∀ i, i < p → (Lit.int .i64 (X i)).wf = true) (hd : Door w) :
    Calls Tryd.prog 3 #[.slice sk n dk, .slice st m dt, .slice sl q dl, .slice sw p dw] w fun e w' => e = .returned (.bool true) ∧ Below w.heap.size w w' := by
  by_cases h12 : 12 < n
  · exact btells sk st sl sw n dk m dt q dl p dw (fun _ => ⟨-1, 0, false, ⟨#[]⟩, 0, 0, false, 0, 0⟩) (fun _ => 0) (fun _ => 0) (fun _ => 0) (fun _ => 0) 4 4 4 4 false (errOf 4) (errOf 4) [] w hd (btold_it 4) (btold_it 4)
      (fun w => brm_full sk st sl n dk m dt q dl w h12) rfl (fun h => absurd h (by decide)) (fun h => absurd h (by decide)) (fun h => absurd h (by decide)) (fun _ => rfl) (fun i h => absurd h (by decide)) (fun i h => absurd h (by decide))
      (fun W _ => hV.1 sk st sl sw n dk m dt q dl p dw (fun _ => ⟨-1, 0, false, ⟨#[]⟩, 0, 0, false, 0, 0⟩) W h12) (isErr_err 4) (fun h => absurd h (by decide)) (fun _ => rfl) (fun h => absurd h (by decide)) (fun _ => rfl) (fun h => absurd h (by decide)) (fun _ => rfl)
      (bwr_err fun W => hWr.1 sk st sl n dk m dt q dl (fun _ => ⟨-1, 0, false, ⟨#[]⟩, 0, 0, false, 0, 0⟩) W h12) (isErr_err 4) (bsame_rows (by decide))
  have hn : n ≤ 12 := by omega
  by_cases hmq : m = n ∧ q = n
  · obtain ⟨hm, hq⟩ := hmq
    obtain ⟨I, hf, hk, ht, hl, hwp⟩ := bat_open hx ht hl hw hm hq
    obtain ⟨K, R, S, hp⟩ := bat_pick I
    have hO : ∀ i, (seaE (I i) == 0) = true → SealOk (I i) (K i) (R i) (S i) := fun i h => hp i (by simpa using h)
    have hWW : ∀ i, secB (I i).w = true → (I i).w = (((I i).w.toNat : Nat) : Int) := fun i h => by
      have := of_decide_eq_true (p := 1 ≤ (I i).w ∧ (I i).w < 1013) h
      omega
    subst hm hq
    obtain ⟨LL, hL1, hL2, hWL⟩ : ∃ LL : List Nat, ((batF I q == 0) = true → LL = batL I K R S q) ∧ ((batF I q == 0) = false → LL = []) ∧ LL.length ≤ 12 := by
      cases h : batF I q == 0 with
      | true => exact ⟨batL I K R S q, fun _ => rfl, (fun h2 => by cases h2), Nat.le_trans (batL_len I K R S q) hn⟩
      | false => exact ⟨[], (fun h2 => by cases h2), fun _ => rfl, Nat.zero_le _⟩
    have hW2 : ∀ W, Below w.heap.size w W → Calls Tryd.prog 14 #[.slice sk q dk, .slice st q dt, .slice sl q dl] W fun ex w' => ∃ x, ex = .returned (.tuple #[x, bE (batF I q)]) ∧ w'.ownsRow W.heap.size 3 1 x LL.length (bL LL) ∧ Below W.heap.size W w' := fun W hW => by
      cases h : batF I q == 0 with
      | true =>
        rw [hL1 h, bE_yes h]
        exact hWr.2.2.2 sk st sl q dk q dt q dl I W K R S hn rfl rfl hf (hk.imp_right fun ⟨b, o, e, r⟩ => ⟨b, o, e, r.below r.1 hW⟩) (ht.imp_right fun ⟨b, o, e, r⟩ => ⟨b, o, e, r.below r.1 hW⟩) (hl.imp_right fun ⟨b, o, e, r⟩ => ⟨b, o, e, r.below r.1 hW⟩) (fun i hi => hp i (batF_zero (by simpa using h) i hi))
      | false =>
        rw [hL2 h, bE_no h]
        exact (hWr.2.2.1 sk st sl q dk q dt q dl I W hn rfl rfl hf (hk.imp_right fun ⟨b, o, e, r⟩ => ⟨b, o, e, r.below r.1 hW⟩) (ht.imp_right fun ⟨b, o, e, r⟩ => ⟨b, o, e, r.below r.1 hW⟩) (hl.imp_right fun ⟨b, o, e, r⟩ => ⟨b, o, e, r.below r.1 hW⟩) h).mono fun ex w' ⟨h1, h2⟩ => ⟨_, h1, World.ownsRow_nil _ _ _ _, h2⟩
    by_cases hpn : p = q
    · subst hpn
      have hw := hwp rfl
      have hV2 : ∀ W, Below w.heap.size w W → Calls Tryd.prog 11 #[.slice sk p dk, .slice st p dt, .slice sl p dl, .slice sw p dw] W fun ex w' => ex = .returned (.tuple #[.bool (bif batE I p == 0 then farI (batS I K R S (fun i => (I i).w.toNat) p) else false), bE (batE I p)]) ∧ Below W.heap.size W w' := fun W hW => by
        cases h : batE I p == 0 with
        | true =>
          rw [bE_yes h]
          refine hV.2.2.2 sk st sl sw p dk p dt p dl p dw I W K R S (fun i => (I i).w.toNat) hn rfl rfl rfl hf (hk.imp_right fun ⟨b, o, e, r⟩ => ⟨b, o, e, r.below r.1 hW⟩) (ht.imp_right fun ⟨b, o, e, r⟩ => ⟨b, o, e, r.below r.1 hW⟩) (hl.imp_right fun ⟨b, o, e, r⟩ => ⟨b, o, e, r.below r.1 hW⟩) (hw.imp_right fun ⟨b, o, e, r⟩ => ⟨b, o, e, r.below r.1 hW⟩) (fun i hi => ?_)
          obtain ⟨k, r, s, v, h9⟩ := itmE_ok (batE_zero (by simpa using h) i hi)
          exact ⟨hp i (sea_of_ok h9.toSealOk), by have := h9.hw; have := h9.hw1; omega, by have := h9.hw; have := h9.hw1; omega, by have := h9.hw; have := h9.hw2; omega⟩
        | false =>
          rw [bE_no h]
          exact hV.2.2.1 sk st sl sw p dk p dt p dl p dw I W hn rfl rfl rfl hf (hk.imp_right fun ⟨b, o, e, r⟩ => ⟨b, o, e, r.below r.1 hW⟩) (ht.imp_right fun ⟨b, o, e, r⟩ => ⟨b, o, e, r.below r.1 hW⟩) (hl.imp_right fun ⟨b, o, e, r⟩ => ⟨b, o, e, r.below r.1 hW⟩) (hw.imp_right fun ⟨b, o, e, r⟩ => ⟨b, o, e, r.below r.1 hW⟩) h
      exact btells sk st sl sw p dk p dt p dl p dw I K R S (fun i => (I i).w.toNat) 0 0 (batE I p) (batF I p) _ _ _ LL w hd (btold_bE _) (btold_bE _)
        (fun w => brm_ok sk st sl p dk dt dl w hn) (by rw [decide_eq_true rfl]; rfl) (fun _ => ⟨rfl, rfl, hn, hf, hk, ht, hl⟩) (fun _ => ⟨rfl, rfl, hw⟩) (fun _ => rfl) (fun h => absurd h (by decide)) hO hWW
        hV2 (bE_isErr _) (fun h => by rw [h]; rfl) (fun h => by rw [h]; rfl) (fun _ => rfl) (fun h => absurd h (by decide)) hL1 hL2
        hW2 (bE_isErr _) (bsame_rows hWL)
    · exact btells sk st sl sw q dk q dt q dl p dw I K R S (fun i => (I i).w.toNat) 0 3 3 (batF I q) false (errOf 3) _ LL w hd (btold_it 3) (btold_bE _)
        (fun w => brm_ok sk st sl q dk dt dl w hn) (by rw [decide_eq_false hpn]; rfl) (fun _ => ⟨rfl, rfl, hn, hf, hk, ht, hl⟩) (fun h => absurd h (by decide)) (fun h => absurd h (by decide)) (fun _ => rfl) hO hWW
        (fun W _ => hV.2.1 sk st sl sw q dk q dt q dl p dw I W hn (Or.inr (Or.inr hpn))) (isErr_err 3) (fun h => absurd h (by decide)) (fun _ => rfl) (fun _ => rfl) (fun h => absurd h (by decide)) hL1 hL2
        hW2 (bE_isErr _) (bsame_rows hWL)
  · have hne : m ≠ n ∨ q ≠ n := by
      by_cases h : m = n
      · exact Or.inr fun h2 => hmq ⟨h, h2⟩
      · exact Or.inl h
    exact btells sk st sl sw n dk m dt q dl p dw (fun _ => ⟨-1, 0, false, ⟨#[]⟩, 0, 0, false, 0, 0⟩) (fun _ => 0) (fun _ => 0) (fun _ => 0) (fun _ => 0) 3 3 3 3 false (errOf 3) (errOf 3) [] w hd (btold_it 3) (btold_it 3)
      (fun w => brm_odd sk st sl n dk m dt q dl w hn hne) rfl (fun h => absurd h (by decide)) (fun h => absurd h (by decide)) (fun h => absurd h (by decide)) (fun _ => rfl) (fun i h => absurd h (by decide)) (fun i h => absurd h (by decide))
      (fun W _ => hV.2.1 sk st sl sw n dk m dt q dl p dw (fun _ => ⟨-1, 0, false, ⟨#[]⟩, 0, 0, false, 0, 0⟩) W hn (hne.imp_right Or.inl)) (isErr_err 3) (fun h => absurd h (by decide)) (fun _ => rfl) (fun h => absurd h (by decide)) (fun _ => rfl) (fun h => absurd h (by decide)) (fun _ => rfl)
      (bwr_err fun W => hWr.2.1 sk st sl n dk m dt q dl (fun _ => ⟨-1, 0, false, ⟨#[]⟩, 0, 0, false, 0, 0⟩) W hn hne) (isErr_err 3) (bsame_rows (by decide))
end Go.Proofs.YtmijjjdedadklajDoor
/- BatchTellsWalk -/
namespace Go.Proofs.YtmijjjdedadklajDoor
open Go.RowKit Go.Sort
set_option linter.unusedVariables false
theorem walkBatchTells (w : World) (sk : Option Addr) (n dk : Nat) (st : Option Addr) (m dt : Nat) (sl : Option Addr) (q dl : Nat) (sw : Option Addr) (p dw : Nat)
    (_ : n ≤ maxLen) (hx : n = 0 ∨ ∃ (b o : Nat) (X Y : Nat → Int) (F : Nat → Bool), sk = some ⟨b, o, none⟩ ∧ RowO w b o n X Y F) (_ : m ≤ maxLen) (ht : m = 0 ∨ ∃ (b o : Nat) (T : Nat → ByteArray), st = some ⟨b, o, none⟩ ∧ RowZ w b o m T ∧ ∀ i, i < m → (T i).size ≤ reachBytes) (_ : q ≤ maxLen) (hl : q = 0 ∨ ∃ (b o : Nat) (D : Nat → SealV), sl = some ⟨b, o, none⟩ ∧ RowS4 w b o q D) (_ : p ≤ maxLen) (hw : p = 0 ∨ ∃ (b o : Nat) (X : Nat → Int), sw = some ⟨b, o, none⟩ ∧ RowI w b o p X ∧ ∀ i, i < p → (Lit.int .i64 (X i)).wf = true) (hd : Door w) :
    Calls Tryd.prog 3 #[.slice sk n dk, .slice st m dt, .slice sl q dl, .slice sw p dw] w fun e w' => e = .returned (.bool true) ∧ Below w.heap.size w w' :=
  batchTells_by bverify_is bwrong_is w sk n dk st m dt sl q dl sw p dw hx ht hl hw hd
end Go.Proofs.YtmijjjdedadklajDoor
