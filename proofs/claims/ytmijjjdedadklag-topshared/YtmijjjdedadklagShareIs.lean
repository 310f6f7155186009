/- What package share is to answer: Split, Weights, Combine. -/
import Derived.Test.YtmijjjdedadklagRefShare
import Derived.Test.YtmijjjdedadklagRefSec
namespace Go.Proofs.Ytmijjjdedadklag
open Go.RowKit Go.Sort
set_option linter.unusedVariables false
set_option linter.unusedSimpArgs false
/-- So many weights times values, together. -/
def smI (X Y : Nat → Int) (q k : Nat) : Int := vI (sm (fun i => wtq (xq X) q i * zq (Y i)) k)
def SplitIs : Prop :=
  (∀ (sc : Option Addr) (m d : Nat) (z : Int) (w : World), 12 < m → m ≤ 9223372036854775807 → Calls Try.prog 8 #[.slice sc m d, .int .i64 z] w fun ex w' => ex = .returned (.tuple #[.slice none 0 0, errOf 4]) ∧ Below w.heap.size w w') ∧
  (∀ (sc : Option Addr) (m d : Nat) (C : Nat → Int) (z : Int) (w : World), ¬ 12 < m → (m = 0 ∨ ∃ b o : Nat, sc = some ⟨b, o, none⟩ ∧ RowI w b o m C) → (∀ i, i < m → (Lit.int .i64 (C i)).wf = true) → (Lit.int .i64 z).wf = true → (m = 0 ∨ z < 1 ∨ 12 < z ∨ ∃ j, j < m ∧ resB (C j) = false) → Calls Try.prog 8 #[.slice sc m d, .int .i64 z] w fun ex w' => ex = .returned (.tuple #[.slice none 0 0, errOf 1]) ∧ Below w.heap.size w w') ∧
  (∀ (b o m d : Nat) (C : Nat → Int) (n : Nat) (w : World), 1 ≤ m → m ≤ 12 → RowI w b o m C → (∀ i, i < m → resB (C i) = true) → 1 ≤ n → n ≤ 12 →
    Calls Try.prog 8 #[.slice (some ⟨b, o, none⟩) m d, .int .i64 (n : Int)] w fun ex w' => ∃ u, ex = .returned (.tuple #[u, .nilIface]) ∧ w'.ownsRow w.heap.size 36 2 u n (cellsP (fun i => (i : Int) + 1) (fun i => vI (vlq (xq C) (zq ((i : Int) + 1)) m)) n) ∧ Below w.heap.size w w')
def WeightsIs : Prop :=
  (∀ (sx : Option Addr) (p d : Nat) (w : World), 12 < p → p ≤ 9223372036854775807 → Calls Try.prog 36 #[.slice sx p d] w fun ex w' => ex = .returned (.tuple #[.slice none 0 0, errOf 4]) ∧ Below w.heap.size w w') ∧
  (∀ (sx : Option Addr) (d : Nat) (w : World), Calls Try.prog 36 #[.slice sx 0 d] w fun ex w' => ex = .returned (.tuple #[.slice none 0 0, errOf 5]) ∧ Below w.heap.size w w') ∧
  (∀ (b o p d : Nat) (X : Nat → Int) (w : World), 0 < p → p ≤ 12 → p ≤ d → RowI w b o p X → (∀ i, i < p → (Lit.int .i64 (X i)).wf = true) → (plE secB X p == 0) = false → Calls Try.prog 36 #[.slice (some ⟨b, o, none⟩) p d] w fun ex w' => ex = .returned (.tuple #[.slice none 0 0, errOf (plE secB X p)]) ∧ Below w.heap.size w w') ∧
  (∀ (b o p d : Nat) (X : Nat → Int) (w : World), 0 < p → p ≤ 12 → p ≤ d → RowI w b o p X → plE secB X p = 0 → Calls Try.prog 36 #[.slice (some ⟨b, o, none⟩) p d] w fun ex w' => ∃ u, ex = .returned (.tuple #[u, .nilIface]) ∧ w'.ownsRow w.heap.size 3 1 u p (cellsI (fun i => vI (wtq (xq X) p i)) p) ∧ Below w.heap.size w w')
theorem first_no (s : Nat → Bool) : ∀ n, ∃ t, t ≤ n ∧ (∀ k, k < t → s k = true) ∧ (t = n ∨ (t < n ∧ s t = false))
  | 0 => ⟨0, Nat.le_refl _, fun k hk => absurd hk (Nat.not_lt_zero _), Or.inl rfl⟩
  | n + 1 => by
    obtain ⟨t, h1, h2, h3⟩ := first_no s n
    rcases h3 with rfl | ⟨h3, h4⟩
    · cases h : s t with
      | false => exact ⟨t, by omega, h2, Or.inr ⟨by omega, h⟩⟩
      | true =>
        refine ⟨t + 1, by omega, fun k hk => ?_, Or.inl rfl⟩
        rcases Nat.lt_succ_iff_lt_or_eq.1 hk with h5 | rfl
        · exact h2 k h5
        · exact h
    · exact ⟨t, by omega, h2, Or.inr ⟨by omega, h4⟩⟩
theorem res_bd {n : Int} (h : resB n = true) : 0 ≤ n ∧ n < 1013 := of_decide_eq_true h
theorem sec_bd {n : Int} (h : secB n = true) : 1 ≤ n ∧ n < 1013 := of_decide_eq_true h
theorem smI_step (X Y : Nat → Int) (q k : Nat) : (smI X Y q k + vI (wtq (xq X) q k) * Y k) % 1013 = smI X Y q (k + 1) := by
  unfold smI
  rw [vI_addm, zq_vI]; rfl
end Go.Proofs.Ytmijjjdedadklag
