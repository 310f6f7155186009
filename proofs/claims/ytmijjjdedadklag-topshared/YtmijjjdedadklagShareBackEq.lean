/- Shares that are picked: any as many as there are coefficients tell the secret; with one less, and one chosen at will, any other secret is told. Apart from the program's code. -/
import Derived.Test.YtmijjjdedadklagShareEq
namespace Go.Proofs.Ytmijjjdedadklag
open Go.RowKit Go.Sort
set_option linter.unusedVariables false
set_option linter.unusedSimpArgs false
/-- So many unlike numbers below n: no more than n. -/
theorem unlike_le : ∀ (n r : Nat) (J : Nat → Nat), (∀ i, i < r → J i < n) → (∀ i j, i < r → j < r → J i = J j → i = j) → r ≤ n
  | 0, r, J, h, _ => by
    rcases Nat.eq_zero_or_pos r with h0 | h0
    · omega
    · exact absurd (h 0 h0) (Nat.not_lt_zero _)
  | n + 1, r, J, h, hj => by
    by_cases he : ∃ i, i < r ∧ J i = n
    · obtain ⟨i0, h1, h2⟩ := he
      have key := unlike_le n (r - 1) (fun i => bif Nat.beq i i0 then J (r - 1) else J i) ?_ ?_
      · omega
      · intro i hi
        cases hb : Nat.beq i i0 with
        | true =>
          have e := Nat.eq_of_beq_eq_true hb
          have h3 := h (r - 1) (by omega)
          have h4 : J (r - 1) ≠ n := fun k => by have := hj (r - 1) i0 (by omega) h1 (by rw [k, h2]); omega
          simp only [cond_true]; omega
        | false =>
          have h3 := h i (by omega)
          have h4 : J i ≠ n := fun k => by
            have := hj i i0 (by omega) h1 (by rw [k, h2])
            rw [this, Nat.beq_refl] at hb; cases hb
          simp only [cond_false]; omega
      · intro i j hi hj' e
        cases hb : Nat.beq i i0 with
        | true =>
          cases hc : Nat.beq j i0 with
          | true => rw [Nat.eq_of_beq_eq_true hb, Nat.eq_of_beq_eq_true hc]
          | false =>
            rw [hb, hc] at e
            have := hj (r - 1) j (by omega) (by omega) e
            omega
        | false =>
          cases hc : Nat.beq j i0 with
          | true =>
            rw [hb, hc] at e
            have := hj i (r - 1) (by omega) (by omega) e
            omega
          | false =>
            rw [hb, hc] at e
            exact hj i j (by omega) (by omega) e
    · have := unlike_le n r J (fun i hi => by
        have h1 := h i hi
        have h2 : J i ≠ n := fun k => he ⟨i, hi, k⟩
        omega) hj
      omega
/-- Which are picked: unlike ones below n. -/
def Picks (J : Nat → Nat) (r n : Nat) : Prop := (∀ i, i < r → J i < n) ∧ ∀ i j, i < r → j < r → J i = J j → i = j
theorem Picks.le {J : Nat → Nat} {r n : Nat} (h : Picks J r n) : r ≤ n := unlike_le n r J h.1 h.2
def pkX (J : Nat → Nat) : Nat → Int := fun i => (J i : Int) + 1
def pkY (C : Nat → Int) (m : Nat) (J : Nat → Nat) : Nat → Int := fun i => vI (vlq (xq C) (zq ((J i : Int) + 1)) m)
theorem picks_ok {J : Nat → Nat} {r n : Nat} (h : Picks J r n) (hn : n ≤ 12) : plE secB (pkX J) r = 0 :=
  pl_ok fun i hi => by
    have h1 := h.1 i hi
    refine ⟨sec_yes (by unfold pkX; omega) (by unfold pkX; omega), fun j hj e => ?_⟩
    have := h.2 j i (by omega) hi (by unfold pkX at e; omega)
    omega
theorem picks_tell {J : Nat → Nat} {r n m : Nat} {C : Nat → Int} (h : Picks J r n) (hn : n ≤ 12) (h1 : 1 ≤ m) (h2 : m ≤ r) (hc : resB (C 0) = true) : smI (pkX J) (pkY C m J) r r = C 0 := by
  obtain ⟨a, b⟩ := res_bd hc
  have e : smI (pkX J) (pkY C m J) r r = C 0 % 1013 := smI_tells (picks_ok h hn) C h1 h2 (fun i hi => rfl)
  rw [e]
  omega
/-- The places that are picked, and 1000. -/
def moX (J : Nat → Nat) (r : Nat) : Nat → Int := extN (pkX J) r 1000
theorem more_ok {J : Nat → Nat} {r n : Nat} (h : Picks J r n) (hn : n ≤ 12) : plE secB (moX J r) (r + 1) = 0 :=
  pl_ok fun i hi => by
    unfold moX
    rcases Nat.lt_succ_iff_lt_or_eq.1 hi with hi | rfl
    · rw [extN_lt _ _ hi]
      have h1 := h.1 i hi
      refine ⟨sec_yes (by unfold pkX; omega) (by unfold pkX; omega), fun j hj e => ?_⟩
      rw [extN_lt _ _ (show j < r by omega)] at e
      have := h.2 j i (by omega) hi (by unfold pkX at e; omega)
      omega
    · rw [extN_at]
      refine ⟨rfl, fun j hj e => ?_⟩
      rw [extN_lt _ _ hj] at e
      have h1 := h.1 j hj
      unfold pkX at e; omega
/-- So many weights times values, together, as a whole number. -/
def sbI (W Y : Nat → Int) : Nat → Int
  | 0 => 0
  | k + 1 => sbI W Y k + W k * Y k
theorem sb_zq (W Y : Nat → Int) (f : Nat → QF) (h : ∀ i, zq (W i) = f i) : ∀ k, zq (sbI W Y k) = sm (fun i => f i * zq (Y i)) k
  | 0 => rfl
  | k + 1 => by
    show zq (sbI W Y k + W k * Y k) = sm (fun i => f i * zq (Y i)) k + f k * zq (Y k)
    rw [zq_add, zq_mul, sb_zq W Y f h k, h]
theorem sb_bd {W Y : Nat → Int} {r : Nat} (h : ∀ i, i < r → (0 ≤ W i * Y i ∧ W i * Y i ≤ 1100000)) : ∀ k, k ≤ r → 0 ≤ sbI W Y k ∧ sbI W Y k ≤ 1100000 * k
  | 0, _ => ⟨Int.le_refl _, Int.le_refl _⟩
  | k + 1, hk => by
    have h1 := sb_bd h k (by omega)
    have h2 := h k (by omega)
    show 0 ≤ sbI W Y k + W k * Y k ∧ sbI W Y k + W k * Y k ≤ 1100000 * ((k + 1 : Nat) : Int)
    omega
theorem last_bd {J : Nat → Nat} {r n : Nat} (h : Picks J r n) (hn : n ≤ 12) : 1 ≤ vI (wtq (xq (moX J r)) (r + 1) r) ∧ vI (wtq (xq (moX J r)) (r + 1) r) < 1013 := by
  have hp := more_ok h hn
  have h1 : wtq (xq (moX J r)) (r + 1) r ≠ 0 := wt_ne (fun j hj => by obtain ⟨a, b⟩ := sec_bd (pl_good hp j hj).1; exact sec_zq a b) (pl_dist (fun m h => sec_bd h) hp) (by omega)
  have h2 := vI_lo (wtq (xq (moX J r)) (r + 1) r)
  have h3 := vI_hi (wtq (xq (moX J r)) (r + 1) r)
  refine ⟨?_, h3⟩
  rcases Int.lt_or_eq_of_le h2 with h4 | h4
  · omega
  · exfalso
    apply h1
    have := zq_vI (wtq (xq (moX J r)) (r + 1) r)
    rw [← h4, zq_zero] at this
    exact this.symm
theorem q_fill {S w o v : QF} (h : w * v = 1) : S + w * ((o - S) * v) = o := by
  have e : S + w * ((o - S) * v) = S + (o - S) * (w * v) := by grind
  rw [e, h]; grind
/-- One chosen at will, and any other secret is told. -/
theorem will_tell {J : Nat → Nat} {r n : Nat} (h : Picks J r n) (hn : n ≤ 12) (Y : Nat → Int) (o : Int) (o0 : 0 ≤ o) (o1 : o < 1013) (W : Nat → Int) (hW : ∀ i, W i = vI (wtq (xq (moX J r)) (r + 1) i)) :
    smI (moX J r) (extN Y r ((((o - sbI W Y r) % 1013) * vI (ivq (wtq (xq (moX J r)) (r + 1) r))) % 1013)) (r + 1) (r + 1) = o := by
  have hp := more_ok h hn
  have h1 : wtq (xq (moX J r)) (r + 1) r ≠ 0 := wt_ne (fun j hj => by obtain ⟨a, b⟩ := sec_bd (pl_good hp j hj).1; exact sec_zq a b) (pl_dist (fun m h => sec_bd h) hp) (by omega)
  unfold smI
  show vI (sm (fun i => wtq (xq (moX J r)) (r + 1) i * zq (extN Y r _ i)) r + wtq (xq (moX J r)) (r + 1) r * zq (extN Y r _ r)) = o
  rw [extN_at, sm_congr (g := fun i => wtq (xq (moX J r)) (r + 1) i * zq (Y i)) fun i hi => by rw [extN_lt Y _ hi], ← sb_zq W Y (fun i => wtq (xq (moX J r)) (r + 1) i) (fun i => by rw [hW, zq_vI]) r]
  rw [zq_mod, zq_mul, zq_mod, zq_sub, zq_vI, q_fill (iv_mul h1), vI_zq]
  omega
end Go.Proofs.Ytmijjjdedadklag
