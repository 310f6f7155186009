/- Proved: stonelaw1.PairTells answers true for every four spots, right ones and wrong ones, and every two lists of spots: the pair of two, whether two and two are the same, and the product of many are what the plain reckoning says, and the faults are told. No condition stands behind it but the listed variable. -/
import Derived.Test.YtnhcoceffmcekadDoorPairTellsR
namespace Go.Proofs.YtnhcoceffmcekadDoor
open Go.RowKit Go.Sort
set_option linter.unusedVariables false
set_option linter.unusedSimpArgs false
theorem first_bad (ef : Nat → Int) : ∀ n, ∃ t, t ≤ n ∧ (∀ k, k < t → ef k = 0) ∧ (t = n ∨ (t < n ∧ (ef t == 0) = false))
  | 0 => ⟨0, Nat.le_refl _, fun k hk => absurd hk (Nat.not_lt_zero _), Or.inl rfl⟩
  | n + 1 => by
    obtain ⟨t, h1, h2, h3⟩ := first_bad ef n
    rcases h3 with rfl | ⟨h3, h4⟩
    · cases h : ef t == 0 with
      | false => exact ⟨t, by omega, h2, Or.inr ⟨by omega, h⟩⟩
      | true =>
        refine ⟨t + 1, by omega, fun k hk => ?_, Or.inl rfl⟩
        rcases Nat.lt_succ_iff_lt_or_eq.1 hk with h5 | rfl
        · exact h2 k h5
        · simpa using h
    · exact ⟨t, by omega, h2, Or.inr ⟨by omega, h4⟩⟩
theorem walkPairTells (w : World) (p q r s : Int × Int × Bool) (sa : Option Addr) (n c : Nat) (sb : Option Addr) (m d : Nat)
    (_ : (Lit.int .i64 p.1).wf = true) (_ : (Lit.int .i64 p.2.1).wf = true) (_ : (Lit.int .i64 q.1).wf = true) (_ : (Lit.int .i64 q.2.1).wf = true) (_ : (Lit.int .i64 r.1).wf = true) (_ : (Lit.int .i64 r.2.1).wf = true) (_ : (Lit.int .i64 s.1).wf = true) (_ : (Lit.int .i64 s.2.1).wf = true)
    (hn : n ≤ maxLen) (hx : n = 0 ∨ ∃ (b o : Nat) (X Y : Nat → Int) (F : Nat → Bool), sa = some ⟨b, o, none⟩ ∧ RowO w b o n X Y F)
    (hm : m ≤ maxLen) (hy : m = 0 ∨ ∃ (b o : Nat) (X Y : Nat → Int) (F : Nat → Bool), sb = some ⟨b, o, none⟩ ∧ RowO w b o m X Y F) (hd : Door w) :
    Calls Tryd.prog 3 #[.agg #[.int .i64 p.1, .int .i64 p.2.1, .bool p.2.2], .agg #[.int .i64 q.1, .int .i64 q.2.1, .bool q.2.2], .agg #[.int .i64 r.1, .int .i64 r.2.1, .bool r.2.2], .agg #[.int .i64 s.1, .int .i64 s.2.1, .bool s.2.2], .slice sa n c, .slice sb m d] w fun e w' => e = .returned (.bool true) ∧ Below w.heap.size w w' := by
  have hn' : n ≤ 9223372036854775807 := hn
  have hm' : m ≤ 9223372036854775807 := hm
  obtain ⟨e1, x, v1, E, Y, bb, vs, hf⟩ := four_is p.1 p.2.1 q.1 q.2.1 r.1 r.2.1 s.1 s.2.1 p.2.2 q.2.2 r.2.2 s.2.2
  by_cases h12 : 12 < n ∨ 12 < m
  · exact ptells_flat _ _ _ _ _ _ _ _ _ _ _ _ e1 x v1 E Y bb vs w hd hf sa sb n m c d true 4 (0, 0) (errOf 4) hn' hm'
      (by rcases h12 with h | h <;> simp [h]) (Or.inl ⟨rfl, rfl⟩) (fun h => by cases h) (fun _ => rfl)
      (fun W _ => prod_many sa sb n m c d W h12 hn' hm') (isErr_err _) rfl
  have a1 : ¬ 12 < n := fun h => h12 (Or.inl h)
  have a2 : ¬ 12 < m := fun h => h12 (Or.inr h)
  by_cases hnm : n = m
  · subst hnm
    by_cases h0 : n = 0
    · subst h0
      exact ptells_flat _ _ _ _ _ _ _ _ _ _ _ _ e1 x v1 E Y bb vs w hd hf sa sb 0 0 c d false 0 (1, 0) .nilIface hn' hm'
        rfl (Or.inr (Or.inr ⟨rfl, rfl, rfl⟩)) (fun _ => ⟨rfl, rfl⟩) (fun h => by cases h)
        (fun W _ => prod_nil sa sb c d W) isErr_nil rfl
    · rcases hx with h | ⟨b, o, A, B, C, rfl, hr⟩
      · exact absurd h h0
      rcases hy with h | ⟨b', o', A', B', C', rfl, hr'⟩
      · exact absurd h h0
      obtain ⟨ef, h⟩ := Classical.axiomOfChoice fun k => two_is (A k) (B k) (A' k) (B' k) (C k) (C' k)
      obtain ⟨P, h⟩ := Classical.axiomOfChoice h
      obtain ⟨vf, h⟩ := Classical.axiomOfChoice h
      obtain ⟨t, h1, h2, h3⟩ := first_bad ef n
      have ht : ∀ k, k < t → (∀ w, Calls Tryd.prog 5 #[.agg #[.int .i64 (A k), .int .i64 (B k), .bool (C k)], .agg #[.int .i64 (A' k), .int .i64 (B' k), .bool (C' k)]] w fun ex w' => ex = .returned (.int .i64 0) ∧ Below w.heap.size w w') ∧ (∀ w, Calls Tryd.prog 6 #[.agg #[.int .i64 (A k), .int .i64 (B k), .bool (C k)], .agg #[.int .i64 (A' k), .int .i64 (B' k), .bool (C' k)]] w fun ex w' => ex = .returned (.agg #[.int .i64 (P k).1, .int .i64 (P k).2]) ∧ Below w.heap.size w w') ∧ (∀ w, Calls Tryd.prog 7 #[.agg #[.int .i64 (A k), .int .i64 (B k), .bool (C k)], .agg #[.int .i64 (A' k), .int .i64 (B' k), .bool (C' k)]] w fun ex w' => ex = .returned (.tuple #[.agg #[.int .i64 (P k).1, .int .i64 (P k).2], .nilIface]) ∧ Below w.heap.size w w') := by
        intro k hk
        obtain ⟨g1, g2, g3⟩ := h k
        have e0 := h2 k hk
        rcases g3 with ⟨_, g4, g5⟩ | ⟨g4, _, _⟩
        · rw [e0] at g1
          rw [g4] at g2
          exact ⟨g1, g5, g2⟩
        · rw [e0] at g4; cases g4
      rcases h3 with rfl | ⟨h3, h4⟩
      · exact ptells_row _ _ _ _ _ _ _ _ _ _ _ _ e1 x v1 E Y bb vs w hd hf b o b' o' t c d t A B A' B' C C' P 0 (prodN P t) .nilIface (by omega) hr hr' (Nat.le_refl _)
          (fun k hk => ⟨(ht k hk).1, (ht k hk).2.1⟩) (Or.inl ⟨rfl, rfl, rfl⟩)
          (fun W hW => prod_row b o b' o' t c d t A B A' B' C C' P 0 W (by omega) (hr.below hr.1 hW) (hr'.below hr'.1 hW) (Nat.le_refl _) (fun k hk => (ht k hk).2.2) _ (Or.inl ⟨rfl, rfl⟩)) isErr_nil rfl
      · obtain ⟨g1, g2, g3⟩ := h t
        rcases g3 with ⟨g4, _, _⟩ | ⟨g4, g5, g6⟩
        · rw [g4] at h4; cases h4
        rw [g5, g6] at g2
        exact ptells_row _ _ _ _ _ _ _ _ _ _ _ _ e1 x v1 E Y bb vs w hd hf b o b' o' n c d t A B A' B' C C' P (ef t) (0, 0) (errOf (ef t)) (by omega) hr hr' h1
          (fun k hk => ⟨(ht k hk).1, (ht k hk).2.1⟩) (Or.inr ⟨h3, g1, g4, rfl⟩)
          (fun W hW => prod_row b o b' o' n c d t A B A' B' C C' P (ef t) W (by omega) (hr.below hr.1 hW) (hr'.below hr'.1 hW) h1 (fun k hk => (ht k hk).2.2) _ (Or.inr ⟨h3, g2, rfl⟩)) (isErr_err _) (told_self _)
  · exact ptells_flat _ _ _ _ _ _ _ _ _ _ _ _ e1 x v1 E Y bb vs w hd hf sa sb n m c d false 3 (0, 0) (errOf 3) hn' hm'
      (by simp [a1, a2]) (Or.inr (Or.inl ⟨rfl, hnm, rfl⟩)) (fun h => by cases h) (fun _ => rfl)
      (fun W _ => prod_odd sa sb n m c d W a1 a2 hnm) (isErr_err _) rfl
end Go.Proofs.YtnhcoceffmcekadDoor
