/- Rows that a call makes itself by append: how they stay, what else stays when one grows, and how they are read. Of whatever program. -/
import Derived.Test.YtmijjjdedadklagMem
import Derived.Test.YtmijjjdedadklagStay
import Derived.Maps.AppendAt
import Derived.OwnWalk
import Derived.OneCell
namespace Go.Proofs.Ytmijjjdedadklag
open Go.RowKit Go.Sort
set_option linter.unusedVariables false
set_option linter.unusedSimpArgs false

section
variable {w w' : World} {B : Nat} {e : TypeId} {size : Nat} {v v' : Value} {n m : Nat} {xs ys : List Value}

theorem own_stay (h : w.ownsRow B e size v n xs) (hb : Below w.heap.size w w') : w'.ownsRow B e size v n xs :=
  h.kept (row := none) ⟨hb.os, hb.tape, hb.output, hb.size, fun k hk _ => hb.block k hk⟩ (by cases hv : v.ownBlock <;> simp)
/-- Of a greater number of blocks on, and so of a lesser one. -/
theorem own_base {B' : Nat} (h : w.ownsRow B' e size v n xs) (hB : B ≤ B') : w.ownsRow B e size v n xs := by
  refine ⟨h.1, ?_⟩
  rcases h.2 with h1 | ⟨g, cap, cur, h1, h2, h3⟩
  · exact Or.inl h1
  · exact Or.inr ⟨g, cap, cur, h1, Nat.le_trans hB h2, h3⟩
theorem own_drew (h : w.ownsRow B e size v n xs) : w.drew.ownsRow B e size v n xs := own_stay h (Below.drew (Below.refl _ _))
theorem own_set (h : w.ownsRow B e size v n xs) {c o : Nat} (hne : v.ownBlock ≠ some c) (u : Value) : (w.setCell ⟨c, o, none⟩ u).ownsRow B e size v n xs :=
  ownsRow_setCell_other h (a := ⟨c, o, none⟩) hne u
/-- A block of its own stays when a row of another block grows. -/
theorem At.grown {b : Nat} {vs : List Value} (h : At w b vs) {row : Option Nat} (hg : w.grownBy w' row) (hne : row ≠ some b) : At w' b vs := by
  have hb := hg.block b h.1 (fun e => hne e.symm)
  exact ⟨Nat.lt_of_lt_of_le h.1 hg.size, fun i hi => (World.cell?_of_block (a := ⟨b, i, none⟩) hb).trans (h.2.1 i hi), fun i hi => (World.frozen?_of_block (a := ⟨b, i, none⟩) hb).trans (h.2.2 i hi)⟩
theorem grown_under {a : World} {A : Nat} (hq : Below A a w) (hown : w.ownsRow B e size v n xs) (hg : w.grownBy w' v.ownBlock) (hA : A ≤ w.heap.size) (hB : A ≤ B) : Below A a w' :=
  hq.grown hg hA (fun k hk => Nat.le_trans hB (hown.lt k hk).1)
/-- Where a row lies that has grown: no block that was there, but its own. -/
theorem apart_step {b z : Nat} (hat : v'.ownBlock = v.ownBlock ∨ v'.ownBlock = some z) (hb : b < z) (hne : v.ownBlock ≠ some b) : v'.ownBlock ≠ some b := by
  rcases hat with h | h
  · rw [h]; exact hne
  · rw [h]; intro k; injection k with k; omega
theorem apart_above {b : Nat} (h : w.ownsRow B e size v n xs) (hb : b < B) : v.ownBlock ≠ some b := by
  intro k; have := (h.lt b k).1; omega
theorem apart_nil (b : Nat) : (Value.slice none 0 0).ownBlock ≠ some b := by simp [Value.ownBlock]
/-- Two rows apart: when one has grown they are apart still. -/
theorem apart_rows {u : Value} {k : Nat} {zs : List Value} {e2 : TypeId} {s2 : Nat} {B2 : Nat} (hu : w.ownsRow B2 e2 s2 u k zs) (hne : u.ownBlock = none ∨ u.ownBlock ≠ v.ownBlock) (hat : v'.ownBlock = v.ownBlock ∨ v'.ownBlock = some w.heap.size) :
    u.ownBlock = none ∨ u.ownBlock ≠ v'.ownBlock := by
  rcases hne with h | h
  · exact Or.inl h
  · right
    rcases hat with h2 | h2
    · rw [h2]; exact h
    · rw [h2]; intro h3; have := (hu.lt _ h3).2; omega
theorem own_other {u : Value} {k : Nat} {zs : List Value} {e2 : TypeId} {s2 B2 : Nat} (hu : w.ownsRow B2 e2 s2 u k zs) (hg : w.grownBy w' v.ownBlock) (hne : u.ownBlock = none ∨ u.ownBlock ≠ v.ownBlock) : w'.ownsRow B2 e2 s2 u k zs := hu.kept hg hne
end

/-- Cells of so many ints. -/
def cellsI (X : Nat → Int) (n : Nat) : List Value := (List.range n).map fun i => .int .i64 (X i)
theorem cellsI_zero (X : Nat → Int) : cellsI X 0 = [] := rfl
theorem cellsI_succ (X : Nat → Int) (n : Nat) : cellsI X (n + 1) = cellsI X n ++ [.int .i64 (X n)] := by unfold cellsI; rw [List.range_succ, List.map_append]; rfl
theorem cellsI_at (X : Nat → Int) {n i : Nat} (h : i < n) : (cellsI X n)[i]? = some (.int .i64 (X i)) := by unfold cellsI; simp [h]
/-- In block b, from o on, lie so many ints in a row. -/
def RowI (w : World) (b o n : Nat) (X : Nat → Int) : Prop := b < w.heap.size ∧ ∀ i, i < n → w.cell? ⟨b, o + i, none⟩ = some (.int .i64 (X i))
theorem RowI.below {w w' : World} {b o n B : Nat} {X : Nat → Int} (h : RowI w b o n X) (hB : b < B) (k : Below B w w') : RowI w' b o n X :=
  ⟨Nat.lt_of_lt_of_le h.1 k.size, fun i hi => (k.cell (p := ⟨b, o + i, none⟩) hB).trans (h.2 i hi)⟩
/-- Cells of so many structs of two ints. -/
def cellsP (X Y : Nat → Int) (n : Nat) : List Value := (List.range n).flatMap fun i => [.int .i64 (X i), .int .i64 (Y i)]
theorem cellsP_succ (X Y : Nat → Int) (n : Nat) : cellsP X Y (n + 1) = cellsP X Y n ++ [.int .i64 (X n), .int .i64 (Y n)] := by unfold cellsP; rw [List.range_succ, List.flatMap_append]; simp
def RowP (w : World) (b o n : Nat) (X Y : Nat → Int) : Prop := b < w.heap.size ∧ ∀ i, i < n → w.cell? ⟨b, o + i * 2, none⟩ = some (.int .i64 (X i)) ∧ w.cell? ⟨b, o + i * 2 + 1, none⟩ = some (.int .i64 (Y i))
theorem RowP.below {w w' : World} {b o n B : Nat} {X Y : Nat → Int} (h : RowP w b o n X Y) (hB : b < B) (k : Below B w w') : RowP w' b o n X Y :=
  ⟨Nat.lt_of_lt_of_le h.1 k.size, fun i hi => ⟨(k.cell (p := ⟨b, o + i * 2, none⟩) hB).trans (h.2 i hi).1, (k.cell (p := ⟨b, o + i * 2 + 1, none⟩) hB).trans (h.2 i hi).2⟩⟩
/-- Cells of so many spots. -/
def cellsT (X Y : Nat → Int) (F : Nat → Bool) (n : Nat) : List Value := (List.range n).flatMap fun i => [.int .i64 (X i), .int .i64 (Y i), .bool (F i)]
theorem cellsT_succ (X Y : Nat → Int) (F : Nat → Bool) (n : Nat) : cellsT X Y F (n + 1) = cellsT X Y F n ++ [.int .i64 (X n), .int .i64 (Y n), .bool (F n)] := by unfold cellsT; rw [List.range_succ, List.flatMap_append]; simp
/-- Cells of so many strings. -/
def cellsZ (T : Nat → ByteArray) (n : Nat) : List Value := (List.range n).map fun i => .string (T i)
theorem cellsZ_succ (T : Nat → ByteArray) (n : Nat) : cellsZ T (n + 1) = cellsZ T n ++ [.string (T n)] := by unfold cellsZ; rw [List.range_succ, List.map_append]; rfl
theorem cellsZ_at (T : Nat → ByteArray) {n i : Nat} (h : i < n) : (cellsZ T n)[i]? = some (.string (T i)) := by unfold cellsZ; simp [h]
def RowZ (w : World) (b o n : Nat) (T : Nat → ByteArray) : Prop := b < w.heap.size ∧ ∀ i, i < n → w.cell? ⟨b, o + i, none⟩ = some (.string (T i))
theorem RowZ.below {w w' : World} {b o n B : Nat} {T : Nat → ByteArray} (h : RowZ w b o n T) (hB : b < B) (k : Below B w w') : RowZ w' b o n T :=
  ⟨Nat.lt_of_lt_of_le h.1 k.size, fun i hi => (k.cell (p := ⟨b, o + i, none⟩) hB).trans (h.2 i hi)⟩
theorem flat_at {α : Type} (k : Nat) (f : Nat → List α) (hf : ∀ i, (f i).length = k) : ∀ (n i j : Nat), i < n → j < k → ((List.range n).flatMap f)[i * k + j]? = (f i)[j]?
  | 0, i, j, h, _ => absurd h (Nat.not_lt_zero _)
  | n + 1, i, j, h, hj => by
    have hlen : ((List.range n).flatMap f).length = n * k := by
      clear h hj
      induction n with
      | zero => simp
      | succ n ih => rw [List.range_succ, List.flatMap_append, List.length_append, ih, Nat.succ_mul]; simp [hf]
    rw [List.range_succ, List.flatMap_append]
    rcases Nat.lt_succ_iff_lt_or_eq.1 h with h1 | h1
    · have h2 : i * k + j < n * k := by
        have := Nat.mul_le_mul_right k (Nat.succ_le_of_lt h1)
        rw [Nat.succ_mul] at this
        omega
      rw [List.getElem?_append_left (by rw [hlen]; exact h2)]
      exact flat_at k f hf n i j h1 hj
    · subst h1
      rw [List.getElem?_append_right (by rw [hlen]; omega), hlen]
      simp [show i * k + j - i * k = j by omega]
theorem addr_add (g j : Nat) : (⟨g, 0, none⟩ : Addr).add j = ⟨g, j, none⟩ := by rw [Addr.add_lit, Nat.zero_add]
section
variable {w : World} {B : Nat} {e : TypeId} {v : Value} {n : Nat}
/-- A row of one's own, as a slice that can be read. -/
theorem own_slice {size : Nat} {xs : List Value} (h : w.ownsRow B e size v n xs) : ∃ (sa : Option Addr) (c : Nat), v = .slice sa n c ∧ (n = 0 ∨ ∃ g, sa = some ⟨g, 0, none⟩ ∧ v.ownBlock = some g ∧ B ≤ g ∧ g < w.heap.size) := by
  rcases h.2 with ⟨rfl, rfl⟩ | ⟨g, cap, cur, rfl, hb, hg, _⟩
  · exact ⟨none, 0, rfl, Or.inl rfl⟩
  · exact ⟨_, cap, rfl, Or.inr ⟨g, rfl, rfl, hb, (Array.getElem?_eq_some_iff.1 hg).1⟩⟩
theorem own_room {size q c : Nat} {sa : Option Addr} {xs : List Value} (h : w.ownsRow B e size (.slice sa q c) n xs) : q ≤ c := by
  rcases h.2 with ⟨h1, _⟩ | ⟨g, cap, cur, h1, _, _, h2, _⟩
  · injection h1 with _ h1 h2; omega
  · injection h1 with _ h3 h4; omega
theorem own_ints {X : Nat → Int} (h : w.ownsRow B e 1 v n (cellsI X n)) : ∃ (sa : Option Addr) (c : Nat), v = .slice sa n c ∧ (n = 0 ∨ ∃ g, sa = some ⟨g, 0, none⟩ ∧ v.ownBlock = some g ∧ B ≤ g ∧ RowI w g 0 n X) := by
  obtain ⟨sa, c, rfl, h1⟩ := own_slice h
  refine ⟨sa, c, rfl, ?_⟩
  rcases h1 with h1 | ⟨g, rfl, h2, h3, h4⟩
  · exact Or.inl h1
  · refine Or.inr ⟨g, rfl, h2, h3, h4, fun i hi => ?_⟩
    have := h.cells h2 i _ (cellsI_at X hi)
    rw [addr_add] at this
    rw [Nat.zero_add]; exact this
theorem own_texts {T : Nat → ByteArray} (h : w.ownsRow B e 1 v n (cellsZ T n)) : ∃ (sa : Option Addr) (c : Nat), v = .slice sa n c ∧ (n = 0 ∨ ∃ g, sa = some ⟨g, 0, none⟩ ∧ v.ownBlock = some g ∧ B ≤ g ∧ RowZ w g 0 n T) := by
  obtain ⟨sa, c, rfl, h1⟩ := own_slice h
  refine ⟨sa, c, rfl, ?_⟩
  rcases h1 with h1 | ⟨g, rfl, h2, h3, h4⟩
  · exact Or.inl h1
  · refine Or.inr ⟨g, rfl, h2, h3, h4, fun i hi => ?_⟩
    have := h.cells h2 i _ (cellsZ_at T hi)
    rw [addr_add] at this
    rw [Nat.zero_add]; exact this
theorem own_pairs {X Y : Nat → Int} (h : w.ownsRow B e 2 v n (cellsP X Y n)) : ∃ (sa : Option Addr) (c : Nat), v = .slice sa n c ∧ (n = 0 ∨ ∃ g, sa = some ⟨g, 0, none⟩ ∧ v.ownBlock = some g ∧ B ≤ g ∧ RowP w g 0 n X Y) := by
  obtain ⟨sa, c, rfl, h1⟩ := own_slice h
  refine ⟨sa, c, rfl, ?_⟩
  rcases h1 with h1 | ⟨g, rfl, h2, h3, h4⟩
  · exact Or.inl h1
  · refine Or.inr ⟨g, rfl, h2, h3, h4, fun i hi => ?_⟩
    have a0 := h.cells h2 (i * 2 + 0) _ (flat_at 2 _ (fun _ => rfl) n i 0 hi (by omega))
    have a1 := h.cells h2 (i * 2 + 1) _ (flat_at 2 _ (fun _ => rfl) n i 1 hi (by omega))
    rw [addr_add] at a0 a1
    exact ⟨by rw [Nat.zero_add]; exact a0, by rw [Nat.zero_add]; exact a1⟩
theorem own_spots {X Y : Nat → Int} {F : Nat → Bool} (h : w.ownsRow B e 3 v n (cellsT X Y F n)) : ∃ (sa : Option Addr) (c : Nat), v = .slice sa n c ∧ (n = 0 ∨ ∃ g, sa = some ⟨g, 0, none⟩ ∧ v.ownBlock = some g ∧ B ≤ g ∧ RowO w g 0 n X Y F) := by
  obtain ⟨sa, c, rfl, h1⟩ := own_slice h
  refine ⟨sa, c, rfl, ?_⟩
  rcases h1 with h1 | ⟨g, rfl, h2, h3, h4⟩
  · exact Or.inl h1
  · refine Or.inr ⟨g, rfl, h2, h3, h4, fun i hi => ?_⟩
    have a0 := h.cells h2 (i * 3 + 0) _ (flat_at 3 _ (fun _ => rfl) n i 0 hi (by omega))
    have a1 := h.cells h2 (i * 3 + 1) _ (flat_at 3 _ (fun _ => rfl) n i 1 hi (by omega))
    have a2 := h.cells h2 (i * 3 + 2) _ (flat_at 3 _ (fun _ => rfl) n i 2 hi (by omega))
    rw [addr_add] at a0 a1 a2
    exact ⟨by rw [Nat.zero_add]; exact a0, by rw [Nat.zero_add]; exact a1, by rw [Nat.zero_add]; exact a2⟩
end
/-- A row and one more. -/
def extN {α : Type} (f : Nat → α) (n : Nat) (a : α) : Nat → α := fun i => bif Nat.beq i n then a else f i
theorem extN_at {α : Type} (f : Nat → α) (n : Nat) (a : α) : extN f n a n = a := by unfold extN; rw [Nat.beq_refl]; rfl
theorem extN_lt {α : Type} (f : Nat → α) {n i : Nat} (a : α) (h : i < n) : extN f n a i = f i := by
  unfold extN
  have : Nat.beq i n = false := by
    cases hb : Nat.beq i n with
    | false => rfl
    | true => have := Nat.eq_of_beq_eq_true hb; omega
  rw [this]; rfl
end Go.Proofs.Ytmijjjdedadklag
