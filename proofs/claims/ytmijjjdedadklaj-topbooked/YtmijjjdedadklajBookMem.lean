/- Memory of a thing with methods: what stays where only its own blocks are written; a book of two rows of its own. Of whatever program. -/
import Derived.Test.YtmijjjdedadklajOwn
import Derived.Test.YtmijjjdedadklajCurveMath
namespace Go.Proofs.Ytmijjjdedadklaj
open Go.RowKit Go.Sort
set_option linter.unusedVariables false
set_option linter.unusedSimpArgs false

/-- But for these blocks all that was there is as it was. -/
structure But (F : Nat → Prop) (w w' : World) : Prop where
  os : w'.os = w.os
  tape : w'.tape = w.tape
  output : w'.output = w.output
  size : w.heap.size ≤ w'.heap.size
  block : ∀ k, k < w.heap.size → ¬ F k → w'.heap[k]? = w.heap[k]?

section
variable {F F' : Nat → Prop} {a b w w' : World}
theorem But.refl (F : Nat → Prop) (w : World) : But F w w := ⟨rfl, rfl, rfl, Nat.le_refl _, fun _ _ _ => rfl⟩
theorem But.of_below (F : Nat → Prop) (h : Below w.heap.size w w') : But F w w' := ⟨h.os, h.tape, h.output, h.size, fun k hk _ => h.block k hk⟩
theorem But.trans {c : World} (h : But F a b) (k : But F' b c) (hF : ∀ i, i < a.heap.size → F' i → F i) : But F a c :=
  ⟨k.os.trans h.os, k.tape.trans h.tape, k.output.trans h.output, Nat.le_trans h.size k.size, fun i hi hn => (k.block i (Nat.lt_of_lt_of_le hi h.size) fun e => hn (hF i hi e)).trans (h.block i hi hn)⟩
theorem But.call (h : But F a b) (k : Below b.heap.size b w') : But F a w' := h.trans (But.of_below (fun _ => False) k) fun _ _ e => e.elim
theorem But.mono (h : But F w w') (hF : ∀ k, k < w.heap.size → F k → F' k) : But F' w w' := ⟨h.os, h.tape, h.output, h.size, fun k hk hn => h.block k hk fun e => hn (hF k hk e)⟩
/-- Of blocks from A on: what was below is as it was. -/
theorem But.under {A : Nat} (hq : Below A a w) (h : But F w w') (hF : ∀ k, F k → A ≤ k) (hA : A ≤ w.heap.size) : Below A a w' :=
  hq.trans ⟨h.os, h.tape, h.output, h.size, fun k hk => h.block k (Nat.lt_of_lt_of_le hk hA) fun e => by have := hF k e; omega⟩
theorem At.but {p : Nat} {vs : List Value} (h : At w p vs) (k : But F w w') (hp : ¬ F p) : At w' p vs := by
  have hb := k.block p h.1 hp
  exact ⟨Nat.lt_of_lt_of_le h.1 k.size, fun i hi => (World.cell?_of_block (a := ⟨p, i, none⟩) hb).trans (h.2.1 i hi), fun i hi => (World.frozen?_of_block (a := ⟨p, i, none⟩) hb).trans (h.2.2 i hi)⟩
theorem RowO.but {p o n : Nat} {X Y : Nat → Int} {T : Nat → Bool} (h : RowO w p o n X Y T) (k : But F w w') (hp : ¬ F p) : RowO w' p o n X Y T := by
  have hb := k.block p h.1 hp
  refine ⟨Nat.lt_of_lt_of_le h.1 k.size, fun i hi => ?_⟩
  obtain ⟨h1, h2, h3⟩ := h.2 i hi
  exact ⟨(World.cell?_of_block (a := ⟨p, o + i * 3, none⟩) hb).trans h1, (World.cell?_of_block (a := ⟨p, o + i * 3 + 1, none⟩) hb).trans h2, (World.cell?_of_block (a := ⟨p, o + i * 3 + 2, none⟩) hb).trans h3⟩
theorem RowI.but {p o n : Nat} {X : Nat → Int} (h : RowI w p o n X) (k : But F w w') (hp : ¬ F p) : RowI w' p o n X := by
  have hb := k.block p h.1 hp
  exact ⟨Nat.lt_of_lt_of_le h.1 k.size, fun i hi => (World.cell?_of_block (a := ⟨p, o + i, none⟩) hb).trans (h.2 i hi)⟩
theorem own_but {B : Nat} {e : TypeId} {size : Nat} {v : Value} {n : Nat} {xs : List Value} (h : w.ownsRow B e size v n xs) (k : But F w w') (hv : ∀ g, v.ownBlock = some g → ¬ F g) : w'.ownsRow B e size v n xs := by
  refine ⟨h.1, ?_⟩
  rcases h.2 with h1 | ⟨g, cap, cur, rfl, h2, h3, h4⟩
  · exact Or.inl h1
  · exact Or.inr ⟨g, cap, cur, rfl, h2, by rw [k.block g (Array.getElem?_eq_some_iff.1 h3).1 (hv g rfl)]; exact h3, h4⟩
/-! Steps of a walk, by what it began with. -/
theorem But.setCell (h : But F a w) {p o : Nat} (hp : F p ∨ a.heap.size ≤ p) (u : Value) : But F a (w.setCell ⟨p, o, none⟩ u) :=
  ⟨h.os, h.tape, h.output, by simpa [World.setCell] using h.size, fun k hk hn => (Below.heap_setCell w ⟨p, o, none⟩ u k (fun e => by
    subst e
    rcases hp with hp | hp
    · exact hn hp
    · exact absurd hk (Nat.not_lt.2 hp))).trans (h.block k hk hn)⟩
theorem But.alloc (h : But F a w) (o : Obj) : But F a (w.alloc o) := h.call ((Below.refl _ _).alloc (Nat.le_refl _) o)
theorem But.drew (h : But F a w) : But F a w.drew := h.call (Below.drew (Below.refl _ _))
theorem But.grown {row : Option Nat} (h : But F a w) (hg : w.grownBy w' row) (hr : ∀ k, row = some k → F k ∨ a.heap.size ≤ k) : But F a w' :=
  h.trans (F' := fun k => row = some k) ⟨hg.os, hg.tape, hg.output, hg.size, fun k hk hn => hg.block k hk fun e => hn e.symm⟩ fun i hi e => by
    rcases hr i e with h1 | h1
    · exact h1
    · exact absurd hi (Nat.not_lt.2 h1)
end

/-- Cells of so many flags. -/
def cellsB (G : Nat → Bool) (n : Nat) : List Value := (List.range n).map fun i => .bool (G i)
theorem cellsB_succ (G : Nat → Bool) (n : Nat) : cellsB G (n + 1) = cellsB G n ++ [.bool (G n)] := by unfold cellsB; rw [List.range_succ, List.map_append]; rfl
theorem cellsB_at (G : Nat → Bool) {n i : Nat} (h : i < n) : (cellsB G n)[i]? = some (.bool (G i)) := by unfold cellsB; simp [h]
theorem cellsB_congr {G H : Nat → Bool} {n : Nat} (h : ∀ i, i < n → G i = H i) : cellsB G n = cellsB H n := by
  unfold cellsB
  refine List.map_congr_left fun i hi => ?_
  rw [h i (List.mem_range.1 hi)]
theorem cellsB_len (G : Nat → Bool) (n : Nat) : (cellsB G n).length = n := by unfold cellsB; simp
/-- Cells of so many coins: so many times the base each. -/
def cellsK (K : Nat → Nat) (n : Nat) : List Value := cellsT (fun i => ((tM (4 * K i)).1 : Int)) (fun i => ((tM (4 * K i)).2.1 : Int)) (fun i => (tM (4 * K i)).2.2) n
theorem cellsK_succ (K : Nat → Nat) (n : Nat) : cellsK K (n + 1) = cellsK K n ++ [.int .i64 ((tM (4 * K n)).1 : Int), .int .i64 ((tM (4 * K n)).2.1 : Int), .bool (tM (4 * K n)).2.2] := cellsT_succ _ _ _ n
theorem cellsK_congr {K J : Nat → Nat} {n : Nat} (h : ∀ i, i < n → tM (4 * K i) = tM (4 * J i)) : cellsK K n = cellsK J n := by
  induction n with
  | zero => rfl
  | succ n ih => rw [cellsK_succ, cellsK_succ, ih fun i hi => h i (by omega), h n (by omega)]
/-- In block b, from o on, lie so many flags in a row. -/
def RowB (w : World) (b o n : Nat) (G : Nat → Bool) : Prop := b < w.heap.size ∧ ∀ i, i < n → w.cell? ⟨b, o + i, none⟩ = some (.bool (G i))
theorem RowB.below {w w' : World} {b o n B : Nat} {G : Nat → Bool} (h : RowB w b o n G) (hB : b < B) (k : Below B w w') : RowB w' b o n G :=
  ⟨Nat.lt_of_lt_of_le h.1 k.size, fun i hi => (k.cell (p := ⟨b, o + i, none⟩) hB).trans (h.2 i hi)⟩
theorem own_flags {w : World} {B : Nat} {e : TypeId} {v : Value} {n : Nat} {G : Nat → Bool} (h : w.ownsRow B e 1 v n (cellsB G n)) : ∃ (sa : Option Addr) (c : Nat), v = .slice sa n c ∧ (n = 0 ∨ ∃ g, sa = some ⟨g, 0, none⟩ ∧ v.ownBlock = some g ∧ B ≤ g ∧ RowB w g 0 n G) := by
  obtain ⟨sa, c, rfl, h1⟩ := own_slice h
  refine ⟨sa, c, rfl, ?_⟩
  rcases h1 with h1 | ⟨g, rfl, h2, h3, h4⟩
  · exact Or.inl h1
  · refine Or.inr ⟨g, rfl, h2, h3, h4, fun i hi => ?_⟩
    have := h.cells h2 i _ (cellsB_at G hi)
    rw [addr_add] at this
    rw [Nat.zero_add]; exact this
theorem At.fst {w : World} {b : Nat} {u v u' : Value} (h : At w b [u, v]) : At (w.setCell ⟨b, 0, none⟩ u') b [u', v] := by
  have a0 : w.cell? ⟨b, 0, none⟩ = some u := h.2.1 0 (by simp)
  have a1 : w.cell? ⟨b, 1, none⟩ = some v := h.2.1 1 (by simp)
  refine ⟨by simpa [World.setCell] using h.1, fun i hi => ?_, fun i hi => ?_⟩
  · rcases i with _ | _ | i
    · show _ = some u'; simp [a0, go_sem]
    · show _ = some v; simp [a1, go_sem]
    · simp at hi; omega
  · rw [World.frozen?_setCell]; exact h.2.2 i (by simpa using hi)
theorem At.snd {w : World} {b : Nat} {u v v' : Value} (h : At w b [u, v]) : At (w.setCell ⟨b, 1, none⟩ v') b [u, v'] := by
  have a0 : w.cell? ⟨b, 0, none⟩ = some u := h.2.1 0 (by simp)
  have a1 : w.cell? ⟨b, 1, none⟩ = some v := h.2.1 1 (by simp)
  refine ⟨by simpa [World.setCell] using h.1, fun i hi => ?_, fun i hi => ?_⟩
  · rcases i with _ | _ | i
    · show _ = some u; simp [a0, go_sem]
    · show _ = some v'; simp [a1, go_sem]
    · simp at hi; omega
  · rw [World.frozen?_setCell]; exact h.2.2 i (by simpa using hi)

/-- Two rows apart. -/
def Ap2 (u v : Value) : Prop := u.ownBlock = none ∨ u.ownBlock ≠ v.ownBlock
theorem Ap2.symm {u v : Value} (h : Ap2 u v) : Ap2 v u := by
  rcases h with h | h
  · cases hv : v.ownBlock with
    | none => exact Or.inl hv
    | some b => refine Or.inr ?_; rw [h, hv]; intro k; cases k
  · exact Or.inr fun k => h k.symm
/-- The blocks of a book. -/
def ft (p : Nat) (u v : Value) : Nat → Prop := fun k => k = p ∨ u.ownBlock = some k ∨ v.ownBlock = some k
/-- In block p lies a book with these rows: so many coins, and for each whether it has gone. -/
structure BookAt (eC eG : TypeId) (B : Nat) (W : World) (p : Nat) (u v : Value) (n : Nat) (K : Nat → Nat) (G : Nat → Bool) : Prop where
  cells : At W p [u, v]
  coins : W.ownsRow B eC 3 u n (cellsK K n)
  flags : W.ownsRow B eG 1 v n (cellsB G n)
  base : B ≤ p
  au : u.ownBlock ≠ some p
  av : v.ownBlock ≠ some p
  ap : Ap2 u v
/-- There is a book, of whatever rows. -/
def BookOf (eC eG : TypeId) (B : Nat) (W : World) (p n : Nat) (K : Nat → Nat) (G : Nat → Bool) : Prop := ∃ u v, BookAt eC eG B W p u v n K G
def IsBook (eC eG : TypeId) (B : Nat) (W : World) (p : Nat) (F : Nat → Prop) (n : Nat) (K : Nat → Nat) (G : Nat → Bool) : Prop :=
  ∃ u v, F = ft p u v ∧ BookAt eC eG B W p u v n K G
section
variable {eC eG : TypeId} {B : Nat} {W W' : World} {p : Nat} {u v u' v' : Value} {n : Nat} {K : Nat → Nat} {G : Nat → Bool} {F F' : Nat → Prop}
theorem BookAt.but (h : BookAt eC eG B W p u v n K G) (k : But F' W W') (hF : ∀ i, ft p u v i → ¬ F' i) : BookAt eC eG B W' p u v n K G :=
  ⟨h.cells.but k (hF p (Or.inl rfl)), own_but h.coins k fun g hg => hF g (Or.inr (Or.inl hg)), own_but h.flags k fun g hg => hF g (Or.inr (Or.inr hg)), h.base, h.au, h.av, h.ap⟩
theorem BookAt.below (h : BookAt eC eG B W p u v n K G) (k : Below W.heap.size W W') : BookAt eC eG B W' p u v n K G := h.but (But.of_below (fun _ => False) k) fun _ _ e => e
theorem BookAt.lt (h : BookAt eC eG B W p u v n K G) {i : Nat} (hi : ft p u v i) : i < W.heap.size := by
  rcases hi with rfl | hi | hi
  · exact h.cells.1
  · exact (h.coins.lt i hi).2
  · exact (h.flags.lt i hi).2
theorem BookAt.ge (h : BookAt eC eG B W p u v n K G) {i : Nat} (hi : ft p u v i) : B ≤ i := by
  rcases hi with rfl | hi | hi
  · exact h.base
  · exact (h.coins.lt i hi).1
  · exact (h.flags.lt i hi).1
theorem IsBook.but (h : IsBook eC eG B W p F n K G) (k : But F' W W') (hF : ∀ i, F i → ¬ F' i) : IsBook eC eG B W' p F n K G := by
  obtain ⟨u, v, rfl, h⟩ := h
  exact ⟨u, v, rfl, h.but k hF⟩
theorem IsBook.below (h : IsBook eC eG B W p F n K G) (k : Below W.heap.size W W') : IsBook eC eG B W' p F n K G := h.but (But.of_below (fun _ => False) k) fun _ _ e => e
theorem IsBook.lt (h : IsBook eC eG B W p F n K G) {i : Nat} (hi : F i) : i < W.heap.size := by
  obtain ⟨u, v, rfl, h⟩ := h; exact h.lt hi
theorem IsBook.ge (h : IsBook eC eG B W p F n K G) {i : Nat} (hi : F i) : B ≤ i := by
  obtain ⟨u, v, rfl, h⟩ := h; exact h.ge hi
end
end Go.Proofs.Ytmijjjdedadklaj
