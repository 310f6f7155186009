/- Two rows of one's own that grow beside each other: keys, and seals. -/
import Derived.Test.YtmijjjdedadklajBatchMath
import Derived.Test.YtmijjjdedadklajOwn
import Derived.Test.YtmijjjdedadklajStay
namespace Go.Proofs.Ytmijjjdedadklaj
open Go.RowKit Go.Sort
set_option linter.unusedVariables false
set_option linter.unusedSimpArgs false

/-- Cells of so many seals. -/
def cellsL (I : Nat → BatI) (n : Nat) : List Value := (List.range n).flatMap fun i => [.int .i64 (I i).rx, .int .i64 (I i).ry, .bool (I i).rf, .int .i64 (I i).s]
theorem cellsL_succ (I : Nat → BatI) (n : Nat) : cellsL I (n + 1) = cellsL I n ++ [.int .i64 (I n).rx, .int .i64 (I n).ry, .bool (I n).rf, .int .i64 (I n).s] := by unfold cellsL; rw [List.range_succ, List.flatMap_append]; simp
theorem cellsL_len (I : Nat → BatI) : ∀ n, (cellsL I n).length = n * 4
  | 0 => rfl
  | n + 1 => by rw [cellsL_succ, List.length_append, cellsL_len I n]; simp; omega
theorem own_seals {w : World} {B : Nat} {e : TypeId} {v : Value} {n : Nat} {I : Nat → BatI} (h : w.ownsRow B e 4 v n (cellsL I n)) : ∃ (sa : Option Addr) (c : Nat), v = .slice sa n c ∧ (n = 0 ∨ ∃ g, sa = some ⟨g, 0, none⟩ ∧ v.ownBlock = some g ∧ B ≤ g ∧ RowL w g 0 n I) := by
  obtain ⟨sa, c, rfl, h1⟩ := own_slice h
  refine ⟨sa, c, rfl, ?_⟩
  rcases h1 with h1 | ⟨g, rfl, h2, h3, h4⟩
  · exact Or.inl h1
  · refine Or.inr ⟨g, rfl, h2, h3, h4, fun i hi => ?_⟩
    have a0 := h.cells h2 (i * 4 + 0) _ (flat_at 4 _ (fun _ => rfl) n i 0 hi (by omega))
    have a1 := h.cells h2 (i * 4 + 1) _ (flat_at 4 _ (fun _ => rfl) n i 1 hi (by omega))
    have a2 := h.cells h2 (i * 4 + 2) _ (flat_at 4 _ (fun _ => rfl) n i 2 hi (by omega))
    have a3 := h.cells h2 (i * 4 + 3) _ (flat_at 4 _ (fun _ => rfl) n i 3 hi (by omega))
    rw [addr_add] at a0 a1 a2 a3
    exact ⟨by rw [Nat.zero_add]; exact a0, by rw [Nat.zero_add]; exact a1, by rw [Nat.zero_add]; exact a2, by rw [Nat.zero_add]; exact a3⟩
/-- One with another number. -/
def updI (I : Nat → BatI) (a : Nat) (z : Int) : Nat → BatI := fun i => { I i with s := bif Nat.beq i a then z else (I i).s }
theorem updI_ne {I : Nat → BatI} {a i : Nat} {z : Int} (h : i ≠ a) : updI I a z i = I i := by
  have : Nat.beq i a = false := by
    cases hb : Nat.beq i a with
    | false => rfl
    | true => exact absurd (Nat.eq_of_beq_eq_true hb) h
  unfold updI
  rw [this]
  rfl
theorem updI_at (I : Nat → BatI) (a : Nat) (z : Int) : updI I a z a = { I a with s := z } := by unfold updI; rw [Nat.beq_refl]; rfl
theorem cellsL_far {I : Nat → BatI} {a : Nat} {z : Int} : ∀ {n : Nat}, n ≤ a → cellsL (updI I a z) n = cellsL I n
  | 0, _ => rfl
  | n + 1, h => by rw [cellsL_succ, cellsL_succ, cellsL_far (by omega), updI_ne (show n ≠ a by omega)]
theorem cellsL_set {I : Nat → BatI} {a : Nat} {z : Int} : ∀ {n : Nat}, a < n → (cellsL I n).set (a * 4 + 3) (.int .i64 z) = cellsL (updI I a z) n
  | 0, h => absurd h (Nat.not_lt_zero _)
  | n + 1, h => by
    rw [cellsL_succ, cellsL_succ]
    rcases Nat.lt_succ_iff_lt_or_eq.1 h with h2 | rfl
    · rw [List.set_append_left _ _ (by rw [cellsL_len]; omega), cellsL_set h2, updI_ne (show n ≠ a by omega)]
    · rw [List.set_append_right _ _ (by rw [cellsL_len]; omega), cellsL_far (Nat.le_refl _), updI_at, cellsL_len, show a * 4 + 3 - a * 4 = 3 by omega]
      rfl
/-- Keys and seals, so many of each, in rows of one's own. -/
structure BK (eP eL : TypeId) (B : Nat) (I : Nat → BatI) (W : World) (n : Nat) (u t : Value) : Prop where
  uu : W.ownsRow B eP 3 u n (cellsT (fun i => (I i).kx) (fun i => (I i).ky) (fun i => (I i).kf) n)
  tt : W.ownsRow B eL 4 t n (cellsL I n)
  ap : u.ownBlock = none ∨ u.ownBlock ≠ t.ownBlock
section
variable {eP eL : TypeId} {B : Nat} {I : Nat → BatI} {W W' Wa : World} {n : Nat} {u t u' t' : Value}
theorem BK.nil (eP eL : TypeId) (B : Nat) (I : Nat → BatI) (W : World) : BK eP eL B I W 0 (.slice none 0 0) (.slice none 0 0) := ⟨World.ownsRow_nil _ _ _ _, World.ownsRow_nil _ _ _ _, Or.inl rfl⟩
theorem BK.below (h : BK eP eL B I W n u t) (k : Below W.heap.size W W') : BK eP eL B I W' n u t := ⟨own_stay h.uu k, own_stay h.tt k, h.ap⟩
theorem ap_sym {u t : Value} (h : u.ownBlock = none ∨ u.ownBlock ≠ t.ownBlock) : t.ownBlock = none ∨ t.ownBlock ≠ u.ownBlock := by
  rcases h with h | h
  · cases ht : t.ownBlock with
    | none => exact Or.inl rfl
    | some b => exact Or.inr (by rw [h]; simp)
  · exact Or.inr fun k => h k.symm
/-- One key more, and not yet its seal. -/
structure BK1 (eP eL : TypeId) (B : Nat) (I : Nat → BatI) (W : World) (n : Nat) (u t : Value) : Prop where
  uu : W.ownsRow B eP 3 u (n + 1) (cellsT (fun i => (I i).kx) (fun i => (I i).ky) (fun i => (I i).kf) (n + 1))
  tt : W.ownsRow B eL 4 t n (cellsL I n)
  ap : u.ownBlock = none ∨ u.ownBlock ≠ t.ownBlock
theorem BK1.below (h : BK1 eP eL B I W n u t) (k : Below W.heap.size W W') : BK1 eP eL B I W' n u t := ⟨own_stay h.uu k, own_stay h.tt k, h.ap⟩
theorem BK.key (h : BK eP eL B I Wa n u t) (g : Wa.grownBy W' u.ownBlock) (ho : W'.ownsRow B eP 3 u' (n + 1) (cellsT (fun i => (I i).kx) (fun i => (I i).ky) (fun i => (I i).kf) n ++ [.int .i64 (I n).kx, .int .i64 (I n).ky, .bool (I n).kf])) (hat : u'.ownBlock = u.ownBlock ∨ u'.ownBlock = some Wa.heap.size) : BK1 eP eL B I W' n u' t :=
  ⟨by rw [cellsT_succ]; exact ho, own_other h.tt g (ap_sym h.ap), ap_sym (apart_rows h.tt (ap_sym h.ap) hat)⟩
theorem BK1.seal (h : BK1 eP eL B I Wa n u t) (g : Wa.grownBy W' t.ownBlock) (ho : W'.ownsRow B eL 4 t' (n + 1) (cellsL I n ++ [.int .i64 (I n).rx, .int .i64 (I n).ry, .bool (I n).rf, .int .i64 (I n).s])) (hat : t'.ownBlock = t.ownBlock ∨ t'.ownBlock = some Wa.heap.size) : BK eP eL B I W' (n + 1) u t' :=
  ⟨own_other h.uu g h.ap, by rw [cellsL_succ]; exact ho, apart_rows h.uu h.ap hat⟩
theorem BK.store {g c a : Nat} {z : Int} (h : BK eP eL B I W n u (.slice (some ⟨g, 0, none⟩) n c)) (ha : a < n) : BK eP eL B (updI I a z) (W.setCell ⟨g, a * 4 + 3, none⟩ (.int .i64 z)) n u (.slice (some ⟨g, 0, none⟩) n c) := by
  obtain ⟨h1, h2⟩ := h.tt.stored (a * 4 + 3) (.int .i64 z)
  rw [cellsL_set ha] at h1
  exact ⟨own_other (v := .slice (some ⟨g, 0, none⟩) n c) h.uu h2 h.ap, h1, h.ap⟩
end
theorem four_new {w : World} {b : Nat} (h : w.heap.size = b) (x y z v : Value) (t : TypeId) : ∀ j u, [x, y, z, v][j]? = some u → (w.alloc (.cells #[x, y, z, v] t)).cell? ((⟨b, 0, none⟩ : Addr).add j) = some u := by
  subst h
  intro j u hj
  rw [addr_add]
  match j, hj with
  | 0, hj => simp at hj; subst hj; simp
  | 1, hj => simp at hj; subst hj; simp
  | 2, hj => simp at hj; subst hj; simp
  | 3, hj => simp at hj; subst hj; simp
theorem three_new4 {w : World} {b : Nat} (h : w.heap.size = b) (x y z : Value) (t : TypeId) : ∀ j u, [x, y, z][j]? = some u → (w.alloc (.cells #[x, y, z] t)).cell? ((⟨b, 0, none⟩ : Addr).add j) = some u := by
  subst h
  intro j u hj
  rw [addr_add]
  match j, hj with
  | 0, hj => simp at hj; subst hj; simp
  | 1, hj => simp at hj; subst hj; simp
  | 2, hj => simp at hj; subst hj; simp
end Go.Proofs.Ytmijjjdedadklaj
