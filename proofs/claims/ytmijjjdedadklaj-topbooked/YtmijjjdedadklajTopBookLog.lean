/- The log that TopBooked plays, apart from the program: behind so many deals, so many of them safe. -/
import Derived.Test.YtmijjjdedadklajTopBookMath
namespace Go.Proofs.Ytmijjjdedadklaj
set_option linter.unusedVariables false
set_option linter.unusedSimpArgs false

/-- Behind i deals, a of them safe. -/
structure TbL (h c : Nat) (V R N : Nat → Nat) (i a : Nat) (s : LogS) : Prop where
  r : s.r = i
  ai : a ≤ i
  stop : s.stop = false
  left : s.left = none
  safe : s.M a ≤ s.safe
  book : ∀ k, k ≤ i → s.n k = c + k ∧ s.K k = tbK h c V R N k ∧ s.G k = tbG c k
theorem last_ge {M : Nat → Nat} {h a : Nat} (ha : M a ≤ h) : ∀ {r : Nat}, a ≤ r → a ≤ lastM M h r
  | 0, k => by have := Nat.le_zero.1 k; omega
  | r + 1, k => by
    by_cases e : M (r + 1) ≤ h
    · rw [lastM_yes e]; exact k
    · rw [lastM_no e]
      rcases Nat.lt_or_eq_of_le k with h1 | h1
      · exact last_ge ha (by omega)
      · subst h1; exact absurd ha e
section
variable {h c : Nat} {V R N : Nat → Nat} {i a : Nat} {s : LogS}
theorem TbL.new (h c : Nat) (V R N : Nat → Nat) : TbL h c V R N 0 0 (LogS.new c (tbK h c V R N 0)) :=
  ⟨rfl, Nat.le_refl _, rfl, rfl, Nat.le_refl _, fun k hk => by obtain rfl : k = 0 := by omega
                                                               exact ⟨rfl, rfl, rfl⟩⟩
theorem TbL.add (t : TbL h c V R N i a s) (b : Nat) : TbL h c V R N (i + 1) a (s.add b (c + (i + 1)) (tbK h c V R N (i + 1)) (tbG c (i + 1))) := by
  have hr := t.r
  have ha := t.ai
  refine ⟨by show s.r + 1 = i + 1; omega, by omega, rfl, by show lessO s.left = none; rw [t.left]; rfl, ?_, fun k hk => ?_⟩
  · show extN s.M (s.r + 1) b a ≤ s.safe
    rw [extN_lt s.M b (by omega)]
    exact t.safe
  · show extN s.n (s.r + 1) _ k = _ ∧ extN s.K (s.r + 1) _ k = _ ∧ extN s.G (s.r + 1) _ k = _
    rcases Nat.lt_or_eq_of_le hk with h1 | h1
    · rw [extN_lt s.n _ (by omega), extN_lt s.K _ (by omega), extN_lt s.G _ (by omega)]
      exact t.book k (by omega)
    · subst h1
      rw [hr, extN_at, extN_at, extN_at]
      exact ⟨rfl, rfl, rfl⟩
theorem TbL.sync (t : TbL h c V R N i a s) (ok : LogOk s) : TbL h c V R N i i s.sync := by
  have h2 := ok.m2
  rw [t.r] at h2
  exact ⟨t.r, Nat.le_refl _, t.stop, by show lessO s.left = none; rw [t.left]; rfl, h2, t.book⟩
theorem TbL.crash (t : TbL h c V R N i a s) (k : Int) : ∃ i', a ≤ i' ∧ i' ≤ i ∧ TbL h c V R N i' i' (s.crash k) := by
  have hh : s.M a ≤ s.high k := Nat.le_trans t.safe (Nat.le_add_right _ _)
  have h1 : a ≤ lastM s.M (s.high k) s.r := last_ge hh (by rw [t.r]; exact t.ai)
  have h2 := lastM_le s.M (s.high k) s.r
  refine ⟨lastM s.M (s.high k) s.r, h1, by rw [← t.r]; exact h2, rfl, Nat.le_refl _, rfl, rfl, Nat.le_refl _, fun j hj => t.book j (by have := t.r; omega)⟩
end
end Go.Proofs.Ytmijjjdedadklaj
