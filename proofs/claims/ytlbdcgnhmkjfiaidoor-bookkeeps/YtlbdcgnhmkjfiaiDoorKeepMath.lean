/- Coins picked out of a list of places: no place twice, none that isn't there; and their values together. Apart from the program. -/
import Derived.Test.YtlbdcgnhmkjfiaiDoorBookRows
import Derived.Test.YtlbdcgnhmkjfiaiDoorOwn
import Derived.Test.YtlbdcgnhmkjfiaiDoorRefSec
namespace Go.Proofs.YtlbdcgnhmkjfiaiDoor
open Go.RowKit Go.Sort
set_option linter.unusedVariables false
set_option linter.unusedSimpArgs false

def sumI (F : Nat → Int) : Nat → Int
  | 0 => 0
  | n + 1 => sumI F n + F n
theorem sumI_congr {F G : Nat → Int} : ∀ {n : Nat}, (∀ j, j < n → F j = G j) → sumI F n = sumI G n
  | 0, _ => rfl
  | n + 1, h => by
    show sumI F n + F n = sumI G n + G n
    rw [sumI_congr (n := n) fun j hj => h j (by omega), h n (by omega)]
theorem sumI_bd {F : Nat → Int} : ∀ {n : Nat}, (∀ j, j < n → 0 ≤ F j ∧ F j < 1013) → 0 ≤ sumI F n ∧ sumI F n ≤ 1013 * (n : Int)
  | 0, _ => ⟨Int.le_refl _, Int.le_refl _⟩
  | n + 1, h => by
    obtain ⟨a, b⟩ := sumI_bd (n := n) fun j hj => h j (by omega)
    obtain ⟨c, d⟩ := h n (by omega)
    show 0 ≤ sumI F n + F n ∧ sumI F n + F n ≤ 1013 * ((n + 1 : Nat) : Int)
    omega
def cntB (f : Nat → Bool) : Nat → Nat
  | 0 => 0
  | n + 1 => cntB f n + (bif f n then 1 else 0)
theorem cntB_le (f : Nat → Bool) : ∀ n, cntB f n ≤ n
  | 0 => Nat.le_refl _
  | n + 1 => by
    have := cntB_le f n
    show cntB f n + (bif f n then 1 else 0) ≤ n + 1
    cases f n
    · show cntB f n + 0 ≤ n + 1; omega
    · show cntB f n + 1 ≤ n + 1; omega
theorem cntB_congr {f g : Nat → Bool} : ∀ {n : Nat}, (∀ j, j < n → f j = g j) → cntB f n = cntB g n
  | 0, _ => rfl
  | n + 1, h => by
    show cntB f n + (bif f n then 1 else 0) = cntB g n + (bif g n then 1 else 0)
    rw [cntB_congr (n := n) fun j hj => h j (by omega), h n (by omega)]
theorem cntB_set {f : Nat → Bool} {q : Nat} (hf : f q = false) : ∀ {n : Nat}, q < n → cntB (setB f q) n = cntB f n + 1
  | 0, h => absurd h (Nat.not_lt_zero _)
  | n + 1, h => by
    show cntB (setB f q) n + (bif setB f q n then 1 else 0) = cntB f n + (bif f n then 1 else 0) + 1
    by_cases e : q = n
    · subst e
      rw [setB_at, hf, cntB_congr (f := setB f q) (g := f) fun j hj => setB_ne f (by omega)]
      show cntB f q + 1 = cntB f q + 0 + 1; omega
    · rw [setB_ne f (fun k => e k.symm), cntB_set hf (n := n) (by omega)]; omega
theorem dupB_congr {Z Y : Nat → Int} {z : Int} : ∀ {n : Nat}, (∀ j, j < n → Z j = Y j) → dupB Z z n = dupB Y z n
  | 0, _ => rfl
  | n + 1, h => by
    show (dupB Z z n || (Z n == z)) = (dupB Y z n || (Y n == z))
    rw [dupB_congr (n := n) fun j hj => h j (by omega), h n (by omega)]
/-- So many that are picked; which; flags of those that are; and their values, and numbers, less than nothing. -/
structure Picks (c : Nat) (X Y : Nat → Int) (m : Nat) (Z : Nat → Int) (f : Nat → Bool) (v r : Int) : Prop where
  cnt : cntB f 6 = m
  ok : ∀ j, j < m → inN c (Z j) = true
  nd : ∀ j, j < m → dupB Z (Z j) j = false
  fl : ∀ q, q < 6 → f q = dupB Z (q : Int) m
  sv : v = - sumI (fun j => X (Z j).toNat) m
  sr : r = - sumI (fun j => Y (Z j).toNat) m
theorem picks_none (c : Nat) (X Y : Nat → Int) : Picks c X Y 0 (fun _ => 0) (fun _ => false) 0 0 :=
  ⟨rfl, fun j hj => absurd hj (Nat.not_lt_zero _), fun j hj => absurd hj (Nat.not_lt_zero _), fun _ _ => rfl, rfl, rfl⟩
section
variable {c m : Nat} {X Y Z : Nat → Int} {f : Nat → Bool} {v r : Int}
theorem Picks.le (h : Picks c X Y m Z f v r) : m ≤ 6 := by rw [← h.cnt]; exact cntB_le f 6
theorem res_bd {n : Int} (h : resB n = true) : 0 ≤ n ∧ n < 1013 := of_decide_eq_true h
theorem Picks.bd (h : Picks c X Y m Z f v r) (hx : ∀ q, q < c → 0 ≤ X q ∧ X q < 1013) (hy : ∀ q, q < c → 0 ≤ Y q ∧ Y q < 1013) : -6078 ≤ v ∧ v ≤ 0 ∧ -6078 ≤ r ∧ r ≤ 0 := by
  have hin : ∀ j, j < m → (Z j).toNat < c := fun j hj => by have := inN_yes (h.ok j hj); omega
  have h1 := sumI_bd (F := fun j => X (Z j).toNat) (n := m) fun j hj => hx _ (hin j hj)
  have h2 := sumI_bd (F := fun j => Y (Z j).toNat) (n := m) fun j hj => hy _ (hin j hj)
  have h3 := h.le
  have h4 := h.sv
  have h5 := h.sr
  generalize sumI (fun j => X (Z j).toNat) m = a at *
  generalize sumI (fun j => Y (Z j).toNat) m = b at *
  omega
theorem Picks.more (h : Picks c X Y m Z f v r) {q : Nat} (hc : c ≤ 6) (hq : q < c) (hf : f q = false) : Picks c X Y (m + 1) (extN Z m (q : Int)) (setB f q) (v - X q) (r - Y q) := by
  have hz : ∀ j, j < m → extN Z m (q : Int) j = Z j := fun j hj => extN_lt Z _ hj
  have hfq := h.fl q (by omega)
  refine ⟨by rw [cntB_set hf (by omega), h.cnt], fun j hj => ?_, fun j hj => ?_, fun p hp => ?_, ?_, ?_⟩
  · rcases Nat.lt_succ_iff_lt_or_eq.1 hj with h1 | rfl
    · rw [hz j h1]; exact h.ok j h1
    · rw [extN_at]; exact decide_eq_true ⟨by omega, by omega⟩
  · rcases Nat.lt_succ_iff_lt_or_eq.1 hj with h1 | rfl
    · rw [hz j h1, dupB_congr (Y := Z) fun i hi => hz i (by omega)]; exact h.nd j h1
    · rw [extN_at, dupB_congr (Y := Z) fun i hi => hz i hi, ← hfq]; exact hf
  · show setB f q p = (dupB (extN Z m (q : Int)) (p : Int) m || (extN Z m (q : Int) m == (p : Int)))
    rw [dupB_congr (Y := Z) fun i hi => hz i hi, extN_at, ← h.fl p hp]
    by_cases e : p = q
    · subst e; rw [setB_at]; simp
    · rw [setB_ne f e]
      have : ((q : Int) == (p : Int)) = false := by rw [beq_eq_false_iff_ne]; omega
      rw [this, Bool.or_false]
  · show _ = - (sumI (fun j => X (extN Z m (q : Int) j).toNat) m + X (extN Z m (q : Int) m).toNat)
    rw [sumI_congr (G := fun j => X (Z j).toNat) fun j hj => by rw [hz j hj], extN_at, h.sv, Int.toNat_natCast]
    omega
  · show _ = - (sumI (fun j => Y (extN Z m (q : Int) j).toNat) m + Y (extN Z m (q : Int) m).toNat)
    rw [sumI_congr (G := fun j => Y (Z j).toNat) fun j hj => by rw [hz j hj], extN_at, h.sr, Int.toNat_natCast]
    omega
theorem Picks.go (h : Picks c X Y m Z f v r) : ∀ j, j < m → goE c (fun _ => false) Z j = 0 := fun j hj => by
  unfold goE
  rw [h.ok j hj, h.nd j hj]
  rfl
end
theorem cellsI_ext (Z : Nat → Int) (m : Nat) (u : Int) : cellsI (extN Z m u) (m + 1) = cellsI Z m ++ [.int .i64 u] := by
  rw [cellsI_succ, extN_at]
  congr 1
  unfold cellsI
  apply List.map_congr_left
  intro i hi
  rw [extN_lt Z u (List.mem_range.1 hi)]
/-- One cell of a block that is written. -/
theorem At.upd {w : World} {b : Nat} {vs : List Value} (h : At w b vs) (i : Nat) (u : Value) : At (w.setCell ⟨b, i, none⟩ u) b (vs.set i u) := by
  refine ⟨by simpa [World.setCell] using h.1, fun j hj => ?_, fun j hj => ?_⟩
  · rw [List.length_set] at hj
    by_cases e : i = j
    · subst e
      have e1 : w.cell? ⟨b, i, none⟩ = some vs[i] := by rw [h.2.1 i hj]; simp [hj]
      rw [List.getElem?_set_self hj]
      simp [e1, go_sem]
    · have e2 : (⟨b, i, none⟩ : Addr) ≠ ⟨b, j, none⟩ := by intro k; injection k with k1 k2 k3; exact e k2
      rw [List.getElem?_set_ne e, ← h.2.1 j hj]
      first | exact World.cell?_setCell_other w _ _ e2 | exact World.cell?_setCell_other w _ _ _ e2 | exact World.cell?_setCell_other w _ e2
  · rw [List.length_set] at hj
    rw [World.frozen?_setCell]; exact h.2.2 j hj
theorem At.flag {w : World} {b q : Nat} {f : Nat → Bool} (h : At w b (cellsB f 6)) (hq : q < 6) : w.cell? ⟨b, q, none⟩ = some (.bool (f q)) ∧ w.frozen? ⟨b, q, none⟩ = false := by
  have hl : q < (cellsB f 6).length := by rw [cellsB_len]; exact hq
  exact ⟨by rw [h.2.1 q hl, cellsB_at f hq], h.2.2 q hl⟩
theorem At.flagged {w : World} {b q : Nat} {f : Nat → Bool} (h : At w b (cellsB f 6)) (hq : q < 6) : At (w.setCell ⟨b, q, none⟩ (.bool true)) b (cellsB (setB f q) 6) := by
  rw [← cellsB_set f hq]; exact h.upd q _
end Go.Proofs.YtlbdcgnhmkjfiaiDoor
