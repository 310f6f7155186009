/- Those that are picked, in rows of a call's own: flags, places, shares. Apart from the program's code. -/
import Derived.Test.YtmijjjdedadklagShareBackEq
import Derived.Test.YtmijjjdedadklagOwn
import Derived.Test.YtmijjjdedadklagMem
namespace Go.Proofs.Ytmijjjdedadklag
open Go.RowKit Go.Sort
set_option linter.unusedVariables false
set_option linter.unusedSimpArgs false
def extB (f : Nat → Bool) (j : Nat) : Nat → Bool := fun i => bif Nat.beq i j then true else f i
/-- Is it picked? -/
def pickD (J : Nat → Nat) : Nat → Nat → Bool
  | 0 => fun _ => false
  | r + 1 => extB (pickD J r) (J r)
/-- So many flags in a block of the call's own. -/
def Flags (w : World) (b : Nat) (f : Nat → Bool) : Prop := b < w.heap.size ∧ ∀ j, j < 13 → w.cell? ⟨b, j, none⟩ = some (.bool (f j)) ∧ w.frozen? ⟨b, j, none⟩ = false
theorem Flags.below {w w' : World} {b : Nat} {f : Nat → Bool} (h : Flags w b f) (k : Below w.heap.size w w') : Flags w' b f :=
  ⟨Nat.lt_of_lt_of_le h.1 k.size, fun j hj => ⟨(k.cell (p := ⟨b, j, none⟩) h.1).trans (h.2 j hj).1, (k.frozen (p := ⟨b, j, none⟩) h.1).trans (h.2 j hj).2⟩⟩
theorem Flags.grown {w w' : World} {b : Nat} {f : Nat → Bool} (h : Flags w b f) {row : Option Nat} (hg : w.grownBy w' row) (hne : row ≠ some b) : Flags w' b f := by
  have hb := hg.block b h.1 (fun e => hne e.symm)
  exact ⟨Nat.lt_of_lt_of_le h.1 hg.size, fun j hj => ⟨(World.cell?_of_block (a := ⟨b, j, none⟩) hb).trans (h.2 j hj).1, (World.frozen?_of_block (a := ⟨b, j, none⟩) hb).trans (h.2 j hj).2⟩⟩
theorem Flags.put {w : World} {b j : Nat} {f : Nat → Bool} (h : Flags w b f) (hj : j < 13) : Flags (w.setCell ⟨b, j, none⟩ (.bool true)) b (extB f j) := by
  refine ⟨by simpa [World.setCell] using h.1, fun i hi => ⟨?_, ?_⟩⟩
  · have a0 := (h.2 i hi).1
    have a1 := (h.2 j hj).1
    by_cases e : i = j
    · subst e
      unfold extB
      rw [Nat.beq_refl]
      simp [a0, go_sem]
    · have hb : Nat.beq i j = false := by
        cases hb : Nat.beq i j with
        | false => rfl
        | true => exact absurd (Nat.eq_of_beq_eq_true hb) e
      unfold extB
      rw [hb]
      simp [a0, go_sem, e]
  · rw [World.frozen?_setCell]; exact (h.2 i hi).2
theorem pickD_congr {J K : Nat → Nat} : ∀ {r : Nat}, (∀ i, i < r → J i = K i) → pickD J r = pickD K r
  | 0, _ => rfl
  | r + 1, h => by show extB (pickD J r) (J r) = extB (pickD K r) (K r); rw [pickD_congr fun i hi => h i (by omega), h r (by omega)]
theorem pickD_more (J : Nat → Nat) (r j : Nat) : pickD (extN J r j) (r + 1) = extB (pickD J r) j := by
  show extB (pickD (extN J r j) r) (extN J r j r) = _
  rw [extN_at, pickD_congr (K := J) fun i hi => extN_lt J j hi]
theorem pickD_no {J : Nat → Nat} : ∀ {r j : Nat}, pickD J r j = false → ∀ i, i < r → J i ≠ j
  | 0, _, _, i, hi => absurd hi (Nat.not_lt_zero _)
  | r + 1, j, h, i, hi => by
    have h1 : (bif Nat.beq j (J r) then true else pickD J r j) = false := h
    cases hb : Nat.beq j (J r) with
    | true => rw [hb] at h1; cases h1
    | false =>
      rw [hb] at h1
      rcases Nat.lt_succ_iff_lt_or_eq.1 hi with h2 | rfl
      · exact pickD_no h1 i h2
      · intro e; rw [e, Nat.beq_refl] at hb; cases hb
theorem picks_more {J : Nat → Nat} {r n j : Nat} (h : Picks J r n) (hj : j < n) (hb : pickD J r j = false) : Picks (extN J r j) (r + 1) n := by
  refine ⟨fun i hi => ?_, fun i k hi hk e => ?_⟩
  · rcases Nat.lt_succ_iff_lt_or_eq.1 hi with h1 | rfl
    · rw [extN_lt J j h1]; exact h.1 i h1
    · rw [extN_at]; exact hj
  · rcases Nat.lt_succ_iff_lt_or_eq.1 hi with h1 | rfl
    · rcases Nat.lt_succ_iff_lt_or_eq.1 hk with h2 | rfl
      · rw [extN_lt J j h1, extN_lt J j h2] at e; exact h.2 i k h1 h2 e
      · rw [extN_lt J j h1, extN_at] at e; exact absurd e (pickD_no hb i h1)
    · rcases Nat.lt_succ_iff_lt_or_eq.1 hk with h2 | rfl
      · rw [extN_at, extN_lt J j h2] at e; exact absurd e.symm (pickD_no hb k h2)
      · rfl
theorem cellsP_congr {X Y X' Y' : Nat → Int} : ∀ {n : Nat}, (∀ i, i < n → X i = X' i ∧ Y i = Y' i) → cellsP X Y n = cellsP X' Y' n
  | 0, _ => rfl
  | n + 1, h => by
    obtain ⟨a, b⟩ := h n (by omega)
    rw [cellsP_succ, cellsP_succ, cellsP_congr (n := n) fun i hi => h i (by omega), a, b]
theorem cellsP_ext {X Y X' Y' : Nat → Int} {n : Nat} {a b : Int} (h : ∀ i, i < n → X i = X' i ∧ Y i = Y' i) (ha : X n = a) (hb : Y n = b) : cellsP X Y (n + 1) = cellsP X' Y' n ++ [.int .i64 a, .int .i64 b] := by rw [cellsP_succ, cellsP_congr h, ha, hb]
theorem prow_ext (J : Nat → Nat) (PY : Nat → Int) (r j : Nat) : cellsP (pkX (extN J r j)) (fun i => PY (extN J r j i)) (r + 1) = cellsP (pkX J) (fun i => PY (J i)) r ++ [.int .i64 ((j : Int) + 1), .int .i64 (PY j)] :=
  cellsP_ext (fun i hi => by unfold pkX; rw [extN_lt J j hi]; exact ⟨rfl, rfl⟩) (by unfold pkX; rw [extN_at]) (by rw [extN_at])
theorem own_cellsB {W : World} {B e size n : Nat} {v : Value} {xs ys : List Value} (h : xs = ys) (k : W.ownsRow B e size v n ys) : W.ownsRow B e size v n xs := h ▸ k
theorem hinfoB : (Try.prog.info? 36).map (fun i => (i.zero, i.size, i.bytes)) = some (some (.agg #[.int .i64 0, .int .i64 0]), 2, 16) := by kernel_rfl
theorem two_newB (w : World) (x y : Value) (t : TypeId) : ∀ j u, [x, y][j]? = some u → (w.alloc (.cells #[x, y] t)).cell? ((⟨w.heap.size, 0, none⟩ : Addr).add j) = some u := by
  intro j u hj
  rw [addr_add]
  match j, hj with
  | 0, hj => simp at hj; subst hj; simp
  | 1, hj => simp at hj; subst hj; simp
theorem two_newB' {w : World} {b : Nat} (h : b = w.heap.size) (x y : Value) (t : TypeId) : ∀ j u, [x, y][j]? = some u → (w.alloc (.cells #[x, y] t)).cell? ((⟨b, 0, none⟩ : Addr).add j) = some u := by
  subst h; exact two_newB w x y t
theorem one_two {x y : Int} : ∀ u ∈ [Value.int .i64 x, Value.int .i64 y], u.oneCell' = true := by
  intro u hu; simp at hu; rcases hu with rfl | rfl <;> rfl
theorem one_newB (w : World) (x : Value) (t : TypeId) : ∀ j u, [x][j]? = some u → (w.alloc (.cells #[x] t)).cell? ((⟨w.heap.size, 0, none⟩ : Addr).add j) = some u := by
  intro j u hj
  rw [addr_add]
  match j, hj with
  | 0, hj => simp at hj; subst hj; simp
theorem one_one {x : Int} : ∀ u ∈ [Value.int .i64 x], u.oneCell' = true := by intro u hu; simp at hu; subst hu; rfl
/-- So many flags of any number. -/
def FlagsG (N : Nat) (w : World) (b : Nat) (f : Nat → Bool) : Prop := b < w.heap.size ∧ ∀ j, j < N → w.cell? ⟨b, j, none⟩ = some (.bool (f j)) ∧ w.frozen? ⟨b, j, none⟩ = false
theorem FlagsG.below {N : Nat} {w w' : World} {b : Nat} {f : Nat → Bool} (h : FlagsG N w b f) (k : Below w.heap.size w w') : FlagsG N w' b f :=
  ⟨Nat.lt_of_lt_of_le h.1 k.size, fun j hj => ⟨(k.cell (p := ⟨b, j, none⟩) h.1).trans (h.2 j hj).1, (k.frozen (p := ⟨b, j, none⟩) h.1).trans (h.2 j hj).2⟩⟩
theorem FlagsG.grown {N : Nat} {w w' : World} {b : Nat} {f : Nat → Bool} (h : FlagsG N w b f) {row : Option Nat} (hg : w.grownBy w' row) (hne : row ≠ some b) : FlagsG N w' b f := by
  have hb := hg.block b h.1 (fun e => hne e.symm)
  exact ⟨Nat.lt_of_lt_of_le h.1 hg.size, fun j hj => ⟨(World.cell?_of_block (a := ⟨b, j, none⟩) hb).trans (h.2 j hj).1, (World.frozen?_of_block (a := ⟨b, j, none⟩) hb).trans (h.2 j hj).2⟩⟩
theorem FlagsG.put {N : Nat} {w : World} {b j : Nat} {f : Nat → Bool} (h : FlagsG N w b f) (hj : j < N) : FlagsG N (w.setCell ⟨b, j, none⟩ (.bool true)) b (extB f j) := by
  refine ⟨by simpa [World.setCell] using h.1, fun i hi => ⟨?_, ?_⟩⟩
  · have a0 := (h.2 i hi).1
    have a1 := (h.2 j hj).1
    by_cases e : i = j
    · subst e
      unfold extB
      rw [Nat.beq_refl]
      simp [a0, go_sem]
    · have hb : Nat.beq i j = false := by
        cases hb : Nat.beq i j with
        | false => rfl
        | true => exact absurd (Nat.eq_of_beq_eq_true hb) e
      unfold extB
      rw [hb]
      simp [a0, go_sem, e]
  · rw [World.frozen?_setCell]; exact (h.2 i hi).2
/-! Three rows of a call's own that grow one behind the other. -/
def Ap (u v : Value) : Prop := u.ownBlock = none ∨ u.ownBlock ≠ v.ownBlock
theorem Ap.symm {u v : Value} (h : Ap u v) : Ap v u := by
  rcases h with h | h
  · cases hv : v.ownBlock with
    | none => exact Or.inl hv
    | some b => refine Or.inr ?_; rw [h, hv]; intro k; cases k
  · exact Or.inr fun k => h k.symm
theorem Ap.nil (v : Value) : Ap (.slice none 0 0) v := Or.inl rfl
def R3 (e1 e2 B : Nat) (W : World) (x : Value) (nx : Nat) (cx : List Value) (p : Value) (np : Nat) (cp : List Value) (k : Value) (nk : Nat) (ck : List Value) : Prop :=
  W.ownsRow B e1 1 x nx cx ∧ W.ownsRow B e2 3 p np cp ∧ W.ownsRow B e2 3 k nk ck ∧ Ap x p ∧ Ap x k ∧ Ap p k
section
variable {e1 e2 B : Nat} {W W' : World} {x x' p p' k k' : Value} {nx nx' np np' nk nk' : Nat} {cx cx' cp cp' ck ck' : List Value}
theorem R3.below (h : R3 e1 e2 B W x nx cx p np cp k nk ck) (hb : Below W.heap.size W W') : R3 e1 e2 B W' x nx cx p np cp k nk ck :=
  ⟨own_stay h.1 hb, own_stay h.2.1 hb, own_stay h.2.2.1 hb, h.2.2.2⟩
theorem R3.set (h : R3 e1 e2 B W x nx cx p np cp k nk ck) {c o : Nat} (hc : c < B) (u : Value) : R3 e1 e2 B (W.setCell ⟨c, o, none⟩ u) x nx cx p np cp k nk ck :=
  ⟨own_set h.1 (apart_above h.1 hc) u, own_set h.2.1 (apart_above h.2.1 hc) u, own_set h.2.2.1 (apart_above h.2.2.1 hc) u, h.2.2.2⟩
theorem R3.growX (h : R3 e1 e2 B W x nx cx p np cp k nk ck) (ho : W'.ownsRow B e1 1 x' nx' cx') (hg : W.grownBy W' x.ownBlock) (hat : x'.ownBlock = x.ownBlock ∨ x'.ownBlock = some W.heap.size) : R3 e1 e2 B W' x' nx' cx' p np cp k nk ck := by
  obtain ⟨h1, h2, h3, h4, h5, h6⟩ := h
  exact ⟨ho, own_other h2 hg h4.symm, own_other h3 hg h5.symm, Ap.symm (apart_rows h2 h4.symm hat), Ap.symm (apart_rows h3 h5.symm hat), h6⟩
theorem R3.growP (h : R3 e1 e2 B W x nx cx p np cp k nk ck) (ho : W'.ownsRow B e2 3 p' np' cp') (hg : W.grownBy W' p.ownBlock) (hat : p'.ownBlock = p.ownBlock ∨ p'.ownBlock = some W.heap.size) : R3 e1 e2 B W' x nx cx p' np' cp' k nk ck := by
  obtain ⟨h1, h2, h3, h4, h5, h6⟩ := h
  exact ⟨own_other h1 hg h4, ho, own_other h3 hg h6.symm, apart_rows h1 h4 hat, h5, Ap.symm (apart_rows h3 h6.symm hat)⟩
theorem R3.growK (h : R3 e1 e2 B W x nx cx p np cp k nk ck) (ho : W'.ownsRow B e2 3 k' nk' ck') (hg : W.grownBy W' k.ownBlock) (hat : k'.ownBlock = k.ownBlock ∨ k'.ownBlock = some W.heap.size) : R3 e1 e2 B W' x nx cx p np cp k' nk' ck' := by
  obtain ⟨h1, h2, h3, h4, h5, h6⟩ := h
  exact ⟨own_other h1 hg h5, own_other h2 hg h6, ho, h4, apart_rows h1 h5 hat, apart_rows h2 h6 hat⟩
end
theorem cellsI_congr {X X' : Nat → Int} : ∀ {n : Nat}, (∀ i, i < n → X i = X' i) → cellsI X n = cellsI X' n
  | 0, _ => rfl
  | n + 1, h => by rw [cellsI_succ, cellsI_succ, cellsI_congr (n := n) fun i hi => h i (by omega), h n (by omega)]
theorem irow_ext (J : Nat → Nat) (r j : Nat) : cellsI (pkX (extN J r j)) (r + 1) = cellsI (pkX J) r ++ [.int .i64 ((j : Int) + 1)] := by
  rw [cellsI_succ, cellsI_congr (X' := pkX J) fun i hi => by unfold pkX; rw [extN_lt J j hi]]
  unfold pkX
  rw [extN_at]
theorem cellsT_congr {X Y X' Y' : Nat → Int} {F F' : Nat → Bool} : ∀ {n : Nat}, (∀ i, i < n → X i = X' i ∧ Y i = Y' i ∧ F i = F' i) → cellsT X Y F n = cellsT X' Y' F' n
  | 0, _ => rfl
  | n + 1, h => by
    obtain ⟨a, b, c⟩ := h n (by omega)
    rw [cellsT_succ, cellsT_succ, cellsT_congr (n := n) fun i hi => h i (by omega), a, b, c]
/-- Spots of those that are picked. -/
def pkT (QX QY : Nat → Int) (QF : Nat → Bool) (J : Nat → Nat) (r : Nat) : List Value := cellsT (fun i => QX (J i)) (fun i => QY (J i)) (fun i => QF (J i)) r
theorem trow_ext (QX QY : Nat → Int) (QF : Nat → Bool) (J : Nat → Nat) (r j : Nat) : pkT QX QY QF (extN J r j) (r + 1) = pkT QX QY QF J r ++ [.int .i64 (QX j), .int .i64 (QY j), .bool (QF j)] := by
  unfold pkT
  rw [cellsT_succ, cellsT_congr (X' := fun i => QX (J i)) (Y' := fun i => QY (J i)) (F' := fun i => QF (J i)) fun i hi => by rw [extN_lt J j hi]; exact ⟨rfl, rfl, rfl⟩]
  rw [extN_at]
theorem three_newB {w : World} {b : Nat} (h : b = w.heap.size) (x y z : Value) (t : TypeId) : ∀ j u, [x, y, z][j]? = some u → (w.alloc (.cells #[x, y, z] t)).cell? ((⟨b, 0, none⟩ : Addr).add j) = some u := by
  subst h
  intro j u hj
  rw [addr_add]
  match j, hj with
  | 0, hj => simp at hj; subst hj; simp
  | 1, hj => simp at hj; subst hj; simp
  | 2, hj => simp at hj; subst hj; simp
theorem one_newB' {w : World} {b : Nat} (h : b = w.heap.size) (x : Value) (t : TypeId) : ∀ j u, [x][j]? = some u → (w.alloc (.cells #[x] t)).cell? ((⟨b, 0, none⟩ : Addr).add j) = some u := by
  subst h; exact one_newB w x t
theorem one_three {x y : Int} {z : Bool} : ∀ u ∈ [Value.int .i64 x, Value.int .i64 y, Value.bool z], u.oneCell' = true := by
  intro u hu; simp at hu; rcases hu with rfl | rfl | rfl <;> rfl
theorem picks_none (n : Nat) : Picks (fun _ => 0) 0 n := ⟨fun i hi => absurd hi (Nat.not_lt_zero _), fun i j hi => absurd hi (Nat.not_lt_zero _)⟩
end Go.Proofs.Ytmijjjdedadklag
