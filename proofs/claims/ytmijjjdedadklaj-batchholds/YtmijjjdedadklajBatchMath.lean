/- Many seals at once, apart from the program: what is wrong with the first, the sum of all, which are not right. -/
import Derived.Test.YtmijjjdedadklajSealMath
import Derived.Test.YtmijjjdedadklajSumMath
import Derived.Test.YtmijjjdedadklajShareMath
import Derived.Test.YtmijjjdedadklajTimesMath
import Derived.Test.YtmijjjdedadklajRefSec
import Derived.Test.YtmijjjdedadklajOwn
import Derived.Test.YtmijjjdedadklajCurveMath
namespace Go.Proofs.Ytmijjjdedadklaj
open Go.RowKit Go.Sort
set_option linter.unusedVariables false
set_option linter.unusedSimpArgs false

/-- One of them: a key, a text, a seal, and so many times. -/
structure BatI where
  kx : Int
  ky : Int
  kf : Bool
  t : ByteArray
  rx : Int
  ry : Int
  rf : Bool
  s : Int
  w : Int
/-- In block b, from o on, lie so many seals in a row. -/
def RowL (W : World) (b o n : Nat) (I : Nat → BatI) : Prop := b < W.heap.size ∧ ∀ i, i < n → W.cell? ⟨b, o + i * 4, none⟩ = some (.int .i64 (I i).rx) ∧ W.cell? ⟨b, o + i * 4 + 1, none⟩ = some (.int .i64 (I i).ry) ∧ W.cell? ⟨b, o + i * 4 + 2, none⟩ = some (.bool (I i).rf) ∧ W.cell? ⟨b, o + i * 4 + 3, none⟩ = some (.int .i64 (I i).s)
theorem RowL.below {W W' : World} {b o n B : Nat} {I : Nat → BatI} (h : RowL W b o n I) (hB : b < B) (k : Below B W W') : RowL W' b o n I :=
  ⟨Nat.lt_of_lt_of_le h.1 k.size, fun i hi => ⟨(k.cell (p := ⟨b, o + i * 4, none⟩) hB).trans (h.2 i hi).1, (k.cell (p := ⟨b, o + i * 4 + 1, none⟩) hB).trans (h.2 i hi).2.1, (k.cell (p := ⟨b, o + i * 4 + 2, none⟩) hB).trans (h.2 i hi).2.2.1, (k.cell (p := ⟨b, o + i * 4 + 3, none⟩) hB).trans (h.2 i hi).2.2.2⟩⟩
/-- What is wrong with one as a seal. -/
def seaE (x : BatI) : Int := bif decide (60 < x.t.size) then 4 else bif ckI x.kx x.ky x.kf == 0 then (bif ckI x.rx x.ry x.rf == 0 then (bif resB x.s then 0 else 1) else ckI x.rx x.ry x.rf) else ckI x.kx x.ky x.kf
/-- What is wrong with one, and how often it is taken. -/
def itmE (x : BatI) : Int := bif seaE x == 0 then (bif secB x.w then 0 else 1) else seaE x
/-- Of the first that is wrong. -/
def batF (I : Nat → BatI) : Nat → Int
  | 0 => 0
  | n + 1 => bif batF I n == 0 then seaE (I n) else batF I n
def batE (I : Nat → BatI) : Nat → Int
  | 0 => 0
  | n + 1 => bif batE I n == 0 then itmE (I n) else batE I n
/-- One of which nothing is wrong: its key and its spot so many times (3, 156), its number. -/
structure SealOk (x : BatI) (k r s : Nat) : Prop where
  ht : x.t.size ≤ 60
  hkx : x.kx = ((tM k).1 : Int)
  hky : x.ky = ((tM k).2.1 : Int)
  hkf : x.kf = (tM k).2.2
  hrx : x.rx = ((tM r).1 : Int)
  hry : x.ry = ((tM r).2.1 : Int)
  hrf : x.rf = (tM r).2.2
  hs : x.s = (s : Int)
  hlt : s < 1013
structure BatOk (x : BatI) (k r s w : Nat) : Prop extends SealOk x k r s where
  hw : x.w = (w : Int)
  hw1 : 1 ≤ w
  hw2 : w < 1013
/-- One, so many times: S times the base, less R, less the challenge times the key. -/
def batN (x : BatI) (k r s w : Nat) : Nat := (4 * s + 4051 * r + 4051 * (k * askN r k x.t)) * w
/-- The sum of all. -/
def batS (I : Nat → BatI) (K R S W : Nat → Nat) (n : Nat) : Nat := jsN (fun i => batN (I i) (K i) (R i) (S i) (W i)) n
/-- Those that are not right, rising. -/
def batL (I : Nat → BatI) (K R S : Nat → Nat) : Nat → List Nat
  | 0 => []
  | n + 1 => bif sameS (tM (4 * S n)) (tM (R n + K n * askN (R n) (K n) (I n).t)) then batL I K R S n else batL I K R S n ++ [n]
/-- One that is right adds nothing. -/
theorem bat_right {x : BatI} {k r s w : Nat} (h : tM (4 * s) = tM (r + k * askN r k x.t)) : tM (batN x k r s w) = tM 0 := by
  have e := tM_inj h
  unfold batN
  refine tM_congr ?_
  generalize k * askN r k x.t = y at *
  have e2 : (4 * s + 4051 * r + 4051 * y) % 4052 = 0 := by omega
  rw [Nat.mul_mod, e2, Nat.zero_mul]
theorem seaE_ok {x : BatI} (h : seaE x = 0) : ∃ k r s, SealOk x k r s := by
  unfold seaE at h
  cases h1 : decide (60 < x.t.size) with
  | true => rw [h1] at h; cases h
  | false =>
    rw [h1, cond_false] at h
    cases h2 : ckI x.kx x.ky x.kf == 0 with
    | false => rw [h2, cond_false] at h; rw [h] at h2; cases h2
    | true =>
      rw [h2, cond_true] at h
      cases h3 : ckI x.rx x.ry x.rf == 0 with
      | false => rw [h3, cond_false] at h; rw [h] at h3; cases h3
      | true =>
        rw [h3, cond_true] at h
        cases h4 : resB x.s with
        | false => rw [h4] at h; cases h
        | true =>
          obtain ⟨k, _, a1, a2, a3⟩ := ckI_tN (show ckI x.kx x.ky x.kf = 0 by simpa using h2)
          obtain ⟨r, _, b1, b2, b3⟩ := ckI_tN (show ckI x.rx x.ry x.rf = 0 by simpa using h3)
          have h5 := of_decide_eq_true (show decide (0 ≤ x.s ∧ x.s < 1013) = true from h4)
          have h6 := of_decide_eq_false h1
          exact ⟨k, r, x.s.toNat, by omega, a1, a2, a3, b1, b2, b3, by omega, by omega⟩
theorem itmE_ok {x : BatI} (h : itmE x = 0) : ∃ k r s w, BatOk x k r s w := by
  unfold itmE at h
  cases h1 : seaE x == 0 with
  | false => rw [h1, cond_false] at h; rw [h] at h1; cases h1
  | true =>
    rw [h1, cond_true] at h
    cases h2 : secB x.w with
    | false => rw [h2] at h; cases h
    | true =>
      obtain ⟨k, r, s, h3⟩ := seaE_ok (show seaE x = 0 by simpa using h1)
      have h4 := of_decide_eq_true (show decide (1 ≤ x.w ∧ x.w < 1013) = true from h2)
      exact ⟨k, r, s, x.w.toNat, h3, by omega, by omega, by omega⟩
theorem batE_zero {I : Nat → BatI} : ∀ {n : Nat}, batE I n = 0 → ∀ i, i < n → itmE (I i) = 0
  | 0, _, i, hi => absurd hi (Nat.not_lt_zero _)
  | n + 1, h, i, hi => by
    unfold batE at h
    cases h1 : batE I n == 0
    · rw [h1] at h; simp only [cond_false] at h; rw [h] at h1; cases h1
    · rw [h1] at h; simp only [cond_true] at h
      rcases Nat.lt_succ_iff_lt_or_eq.1 hi with h2 | rfl
      · exact batE_zero (by simpa using h1) i h2
      · exact h
theorem batF_zero {I : Nat → BatI} : ∀ {n : Nat}, batF I n = 0 → ∀ i, i < n → seaE (I i) = 0
  | 0, _, i, hi => absurd hi (Nat.not_lt_zero _)
  | n + 1, h, i, hi => by
    unfold batF at h
    cases h1 : batF I n == 0
    · rw [h1] at h; simp only [cond_false] at h; rw [h] at h1; cases h1
    · rw [h1] at h; simp only [cond_true] at h
      rcases Nat.lt_succ_iff_lt_or_eq.1 hi with h2 | rfl
      · exact batF_zero (by simpa using h1) i h2
      · exact h
/-- Seals that are right are right all at once. -/
theorem batS_right {I : Nat → BatI} {K R S W : Nat → Nat} : ∀ {n : Nat}, (∀ i, i < n → tM (4 * S i) = tM (R i + K i * askN (R i) (K i) (I i).t)) → tM (batS I K R S W n) = tM 0
  | 0, _ => rfl
  | n + 1, h => by
    show tM (batS I K R S W n + batN (I n) (K n) (R n) (S n) (W n)) = tM 0
    rw [← tM_add, batS_right (n := n) fun i hi => h i (by omega), bat_right (h n (by omega)), tM_add]
/-- With one that is wrong by so much they are not. -/
theorem batS_wrong {I : Nat → BatI} {K R S W : Nat → Nat} {at_ more : Nat} (h1 : 1 ≤ more) (h2 : more < 1013) (hW : ∀ i, 1 ≤ W i ∧ W i < 1013) : ∀ {n : Nat}, at_ < n → (∀ i, i < n → i ≠ at_ → tM (4 * S i) = tM (R i + K i * askN (R i) (K i) (I i).t)) → tM (4 * S at_) = tM (4 * more + (R at_ + K at_ * askN (R at_) (K at_) (I at_).t)) → tM (batS I K R S W n) = tM (4 * (more * W at_))
  | 0, h, _, _ => absurd h (Nat.not_lt_zero _)
  | n + 1, h, hr, hw => by
    show tM (batS I K R S W n + batN (I n) (K n) (R n) (S n) (W n)) = _
    by_cases e : n = at_
    · subst e
      rw [← tM_add, batS_right fun i hi => hr i (by omega) (by omega), tM_add, Nat.zero_add]
      have e1 := tM_inj hw
      unfold batN
      refine tM_congr ?_
      generalize K n * askN (R n) (K n) (I n).t = y at *
      have e2 : (4 * S n + 4051 * R n + 4051 * y) % 4052 = (4 * more) % 4052 := by omega
      rw [Nat.mul_mod, e2, ← Nat.mul_mod, Nat.mul_assoc]
    · rw [← tM_add, batS_wrong h1 h2 hW (by omega) (fun i hi => hr i (by omega)) hw, bat_right (hr n (by omega) e), tM_add]
      rfl
end Go.Proofs.Ytmijjjdedadklaj
