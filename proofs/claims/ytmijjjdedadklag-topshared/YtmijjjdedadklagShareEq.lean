/- Shares in the words of polynomials modulo 1013: what Combine tells of values at unlike places. Apart from the program's code. -/
import Derived.Test.YtmijjjdedadklagShareIs
namespace Go.Proofs.Ytmijjjdedadklag
open Go.RowKit Go.Sort
set_option linter.unusedVariables false
set_option linter.unusedSimpArgs false
/-- Split gives a fault, or shares. -/
theorem split_case (hS : SplitIs) (sc : Option Addr) (m d : Nat) (C : Nat → Int) (z : Int) (w : World) (hm : m ≤ 9223372036854775807) (hr : m = 0 ∨ ∃ b o : Nat, sc = some ⟨b, o, none⟩ ∧ RowI w b o m C) (hc : ∀ i, i < m → (Lit.int .i64 (C i)).wf = true) (hz : (Lit.int .i64 z).wf = true) :
    (∃ c : Int, ∀ W, Below w.heap.size w W → Calls Try.prog 8 #[.slice sc m d, .int .i64 z] W fun ex w' => ex = .returned (.tuple #[.slice none 0 0, errOf c]) ∧ Below W.heap.size W w') ∨
    ∃ b o n : Nat, sc = some ⟨b, o, none⟩ ∧ RowI w b o m C ∧ 1 ≤ m ∧ m ≤ 12 ∧ (∀ i, i < m → resB (C i) = true) ∧ z = (n : Int) ∧ 1 ≤ n ∧ n ≤ 12 ∧
      (∀ W, Below w.heap.size w W → Calls Try.prog 8 #[.slice sc m d, .int .i64 z] W fun ex w' => ∃ u, ex = .returned (.tuple #[u, .nilIface]) ∧ w'.ownsRow W.heap.size 36 2 u n (cellsP (fun i : Nat => (i : Int) + 1) (fun i : Nat => vI (vlq (xq C) (zq ((i : Int) + 1)) m)) n) ∧ Below W.heap.size W w') := by
  by_cases h1 : 12 < m
  · exact Or.inl ⟨4, fun W hW => hS.1 sc m d z W h1 hm⟩
  by_cases h2 : m = 0 ∨ z < 1 ∨ 12 < z ∨ ∃ j, j < m ∧ resB (C j) = false
  · exact Or.inl ⟨1, fun W hW => hS.2.1 sc m d C z W h1 (hr.imp_right fun ⟨b, o, e, r⟩ => ⟨b, o, e, r.below r.1 hW⟩) hc hz h2⟩
  have h3 : ¬ m = 0 := fun h => h2 (Or.inl h)
  have h4 : ¬ z < 1 := fun h => h2 (Or.inr (Or.inl h))
  have h5 : ¬ 12 < z := fun h => h2 (Or.inr (Or.inr (Or.inl h)))
  have h6 : ∀ i, i < m → resB (C i) = true := fun i hi => by
    cases hb : resB (C i) with
    | true => rfl
    | false => exact absurd (Or.inr (Or.inr (Or.inr ⟨i, hi, hb⟩))) h2
  clear h2
  obtain ⟨b, o, rfl, r⟩ := hr.resolve_left h3
  obtain ⟨n, rfl⟩ := Int.eq_ofNat_of_zero_le (show 0 ≤ z by omega)
  exact Or.inr ⟨b, o, n, rfl, r, by omega, by omega, h6, rfl, by omega, by omega, fun W hW => hS.2.2 b o m d C n W (by omega) (by omega) (r.below r.1 hW) h6 (by omega) (by omega)⟩
theorem pl_ok {s : Int → Bool} {X : Nat → Int} : ∀ {n : Nat}, (∀ i, i < n → s (X i) = true ∧ ∀ j, j < i → X j ≠ X i) → plE s X n = 0
  | 0, _ => rfl
  | n + 1, h => by
    have e := pl_ok (n := n) fun i hi => h i (by omega)
    obtain ⟨a, b⟩ := h n (by omega)
    show (bif plE s X n == 0 then (bif s (X n) then (bif clsB X n then (7 : Int) else 0) else 1) else plE s X n) = 0
    rw [e, a, cls_no b]; rfl
theorem sec_yes {n : Int} (h1 : 1 ≤ n) (h2 : n < 1013) : secB n = true := decide_eq_true ⟨h1, h2⟩
theorem res_yes {n : Int} (h1 : 0 ≤ n) (h2 : n < 1013) : resB n = true := decide_eq_true ⟨h1, h2⟩
theorem sec_zq {n : Int} (h1 : 1 ≤ n) (h2 : n < 1013) : zq n ≠ 0 := by
  intro h
  have := congrArg vI h
  rw [vI_zq, vI_zero] at this
  omega
theorem ev_first (X : Nat → QF) {m : Nat} (h : 1 ≤ m) : ev ((List.range m).map X) 0 = X 0 := by
  obtain ⟨k, rfl⟩ : ∃ k, m = k + 1 := ⟨m - 1, by omega⟩
  rw [List.range_succ_eq_map]
  show X 0 + 0 * _ = X 0
  grind
/-- Values of a polynomial at so many unlike places, weighed, are its first coefficient. -/
theorem tells {X : Nat → Int} {n : Nat} (hp : plE secB X n = 0) (C : Nat → Int) {m : Nat} (h1 : 1 ≤ m) (h2 : m ≤ n) : sm (fun i => wtq (xq X) n i * vlq (xq C) (xq X i) m) n = xq C 0 := by
  have e : sm (fun i => wtq (xq X) n i * vlq (xq C) (xq X i) m) n = sm (fun i => wtq (xq X) n i * ev ((List.range m).map (xq C)) (xq X i)) n := sm_congr fun i hi => by rw [vl_ev]
  rw [e, lagrange _ (by rw [List.length_map, List.length_range]; exact h2) (fun j hj => by obtain ⟨a, b⟩ := sec_bd (pl_good hp j hj).1; exact sec_zq a b) (pl_dist (fun m h => sec_bd h) hp), ev_first _ h1]
theorem smI_tells {X Y : Nat → Int} {n : Nat} (hp : plE secB X n = 0) (C : Nat → Int) {m : Nat} (h1 : 1 ≤ m) (h2 : m ≤ n) (hy : ∀ i, i < n → Y i = vI (vlq (xq C) (xq X i) m)) : smI X Y n n = C 0 % 1013 := by
  unfold smI
  rw [sm_congr (g := fun i => wtq (xq X) n i * vlq (xq C) (xq X i) m) fun i hi => by rw [hy i hi, zq_vI], tells hp C h1 h2]
  exact vI_zq _
theorem smI_two {X Y : Nat → Int} {n : Nat} (hp : plE secB X n = 0) (A B : Nat → Int) {m p : Nat} (h1 : 1 ≤ m) (h2 : m ≤ n) (h3 : 1 ≤ p) (h4 : p ≤ n)
    (hy : ∀ i, i < n → Y i = (vI (vlq (xq A) (xq X i) m) + vI (vlq (xq B) (xq X i) p)) % 1013) : smI X Y n n = (A 0 + B 0) % 1013 := by
  unfold smI
  rw [sm_congr (g := fun i => wtq (xq X) n i * vlq (xq A) (xq X i) m + wtq (xq X) n i * vlq (xq B) (xq X i) p) fun i hi => by
    rw [hy i hi]
    have : zq ((vI (vlq (xq A) (xq X i) m) + vI (vlq (xq B) (xq X i) p)) % 1013) = vlq (xq A) (xq X i) m + vlq (xq B) (xq X i) p := by
      have h := vI_zq (vI (vlq (xq A) (xq X i) m) + vI (vlq (xq B) (xq X i) p))
      rw [← h, zq_vI, zq_add, zq_vI, zq_vI]
    rw [this]; grind]
  rw [sm_add, tells hp A h1 h2, tells hp B h3 h4]
  have h : zq (A 0 + B 0) = xq A 0 + xq B 0 := zq_add _ _
  rw [← h, vI_zq]
theorem ones_ok {n : Nat} (h : n ≤ 12) : plE secB (fun i => (i : Int) + 1) n = 0 := pl_ok fun i hi => ⟨sec_yes (by omega) (by omega), fun j hj => by omega⟩
theorem wt_one : vI (wtq (xq fun _ => 7) 1 0) = 1 := by decide +kernel
end Go.Proofs.Ytmijjjdedadklag
