/- Coins that come in: right ones that count, or what is wrong with them. Apart from the program's code. -/
import Derived.Test.YtmijjjdedadklajBookMem
import Derived.Test.YtmijjjdedadklajBookMath
namespace Go.Proofs.Ytmijjjdedadklaj
open Go.RowKit Go.Sort
set_option linter.unusedVariables false
set_option linter.unusedSimpArgs false
/-- A spot that counts. -/
def goodC (x y : Int) (f : Bool) : Prop := ∃ k : Nat, x = ((tM (4 * k)).1 : Int) ∧ y = ((tM (4 * k)).2.1 : Int) ∧ f = (tM (4 * k)).2.2
/-- One that is wrong, or doesn't count. -/
def badC (x y : Int) (f : Bool) : Prop := (ckI x y f == 0) = false ∨ ∃ k : Nat, x = ((tM k).1 : Int) ∧ y = ((tM k).2.1 : Int) ∧ f = (tM k).2.2 ∧ farI (k * 1013) = false
theorem good_or_bad (x y : Int) (f : Bool) : goodC x y f ∨ badC x y f := by
  cases h : ckI x y f == 0 with
  | false => exact Or.inr (Or.inl h)
  | true =>
    obtain ⟨k, _, a, b, c⟩ := ckI_tN (show ckI x y f = 0 by simpa using h)
    cases g : farI (k * 1013) with
    | false => exact Or.inr (Or.inr ⟨k, a, b, c, g⟩)
    | true =>
      rw [farI_iff] at g
      refine Or.inl ⟨k / 4, ?_⟩
      rw [show 4 * (k / 4) = k by omega]
      exact ⟨a, b, c⟩
/-- So many spots that count. -/
def isC (X Y : Nat → Int) (F : Nat → Bool) (K : Nat → Nat) (n : Nat) : Prop := ∀ i, i < n → X i = ((tM (4 * K i)).1 : Int) ∧ Y i = ((tM (4 * K i)).2.1 : Int) ∧ F i = (tM (4 * K i)).2.2
theorem coins_way (X Y : Nat → Int) (F : Nat → Bool) : ∀ n, (∃ K, isC X Y F K n) ∨ ∃ m, m < n ∧ (∀ j, j < m → goodC (X j) (Y j) (F j)) ∧ badC (X m) (Y m) (F m)
  | 0 => Or.inl ⟨fun _ => 0, fun i hi => absurd hi (Nat.not_lt_zero _)⟩
  | n + 1 => by
    rcases coins_way X Y F n with ⟨K, hK⟩ | ⟨m, h1, h2, h3⟩
    · rcases good_or_bad (X n) (Y n) (F n) with ⟨k, hk⟩ | hb
      · refine Or.inl ⟨extN K n k, fun i hi => ?_⟩
        rcases Nat.lt_succ_iff_lt_or_eq.1 hi with h | rfl
        · rw [extN_lt K k h]; exact hK i h
        · rw [extN_at]; exact hk
      · exact Or.inr ⟨n, by omega, fun j hj => ⟨K j, hK j hj⟩, hb⟩
    · exact Or.inr ⟨m, by omega, h2, h3⟩
theorem isC_cells {X Y : Nat → Int} {F : Nat → Bool} {K : Nat → Nat} {n : Nat} (h : isC X Y F K n) : cellsT X Y F n = cellsK K n := by
  unfold isC at h
  induction n with
  | zero => rfl
  | succ n ih =>
    obtain ⟨a, b, c⟩ := h n (by omega)
    rw [cellsT_succ, cellsK_succ, ih fun i hi => h i (by omega), a, b, c]
theorem far_four (k : Nat) : farI (4 * k * 1013) = true := by rw [farI_iff]; omega
/-- Cells of those that are live. -/
def lvC (G : Nat → Bool) (n : Nat) : List Value := (lvL G n).map fun (i : Nat) => .int .i64 (i : Int)
theorem lvC_gone {G : Nat → Bool} {n : Nat} (h : G n = true) : lvC G (n + 1) = lvC G n := by unfold lvC; rw [lvL_gone h]
theorem lvC_live {G : Nat → Bool} {n : Nat} (h : G n = false) : lvC G (n + 1) = lvC G n ++ [.int .i64 (n : Int)] := by unfold lvC; rw [lvL_live h, List.map_append]; rfl
/-- What is wrong with those that come: too many, one that is not right or does not count, nothing. -/
def ComeIs (X Y : Nat → Int) (F : Nat → Bool) (c : Nat) (q : Int) : Prop :=
  (12 < c ∧ q = 4) ∨ (c ≤ 12 ∧ (∃ m, m < c ∧ (∀ j, j < m → goodC (X j) (Y j) (F j)) ∧ badC (X m) (Y m) (F m)) ∧ q = 3) ∨ (c ≤ 12 ∧ (∃ J, isC X Y F J c) ∧ q = 0)
theorem come_is (X Y : Nat → Int) (F : Nat → Bool) (c : Nat) : ∃ q, ComeIs X Y F c q := by
  by_cases h : 12 < c
  · exact ⟨4, Or.inl ⟨h, rfl⟩⟩
  · rcases coins_way X Y F c with h1 | h1
    · exact ⟨0, Or.inr (Or.inr ⟨by omega, h1, rfl⟩)⟩
    · exact ⟨3, Or.inr (Or.inl ⟨by omega, h1, rfl⟩)⟩
theorem ComeIs.ok {X Y : Nat → Int} {F : Nat → Bool} {c : Nat} (h : ComeIs X Y F c 0) : c ≤ 12 ∧ ∃ J, isC X Y F J c := by
  rcases h with ⟨_, h⟩ | ⟨_, _, h⟩ | ⟨h1, h2, _⟩
  · cases h
  · cases h
  · exact ⟨h1, h2⟩
/-- What is wrong with a deal's coins. -/
def exE (n : Nat) (G : Nat → Bool) (Z : Nat → Int) (m : Nat) (q : Int) : Int := bif gnE n G Z m == 0 then q else gnE n G Z m
theorem exE_zero {n : Nat} {G : Nat → Bool} {Z : Nat → Int} {m : Nat} {q : Int} (h : exE n G Z m q = 0) : (∀ i, i < m → goE n G Z i = 0) ∧ q = 0 := by
  unfold exE at h
  cases h1 : gnE n G Z m == 0 with
  | false => rw [h1] at h; simp only [cond_false] at h; rw [h] at h1; cases h1
  | true =>
    rw [h1] at h
    simp only [cond_true] at h
    exact ⟨gnE_zero (by simpa using h1), h⟩
end Go.Proofs.Ytmijjjdedadklaj
