/- What is left of the mathematics of the pair: which spots count, lines in whole numbers, the steps of a loop over digits. Nothing of the program stands in here. -/
import Derived.Test.YtmijjjdedadklagPairMath
import Derived.Test.YtmijjjdedadklagTimesMath
namespace Go.Proofs.Ytmijjjdedadklag
set_option linter.unusedVariables false
set_option linter.unusedSimpArgs false

theorem cnt_four {i : Nat} (h : farI (i * 1013) = true) : ∃ j, i = 4 * j := by
  have := (farI_iff _).1 h
  exact ⟨i / 4, by omega⟩
theorem four_cnt (j : Nat) : farI (4 * j * 1013) = true := by
  rw [farI_iff]; omega
theorem four_far_iff (j : Nat) : farI (4 * j) = Nat.beq (j % 1013) 0 := by
  cases h : Nat.beq (j % 1013) 0 with
  | true => have := Nat.eq_of_beq_eq_true h; rw [farI_iff]; omega
  | false => have := Nat.ne_of_beq_eq_false h; rw [← Bool.not_eq_true, farI_iff]; omega
theorem gcd_all : allLT (fun n => Nat.beq n 0 || Nat.beq (Nat.gcd 1013 n) 1) 1013 = true := by decide +kernel
theorem not_near {j n : Nat} (hj : j % 1013 ≠ 0) (h0 : 0 < n) (h1 : n < 1013) : (n * (4 * j)) % 4052 ≠ 0 := by
  intro h
  have hg := allLT_spec gcd_all n h1
  have n0 : Nat.beq n 0 = false := by rw [← Bool.not_eq_true]; intro e; have := Nat.eq_of_beq_eq_true e; omega
  rw [n0, Bool.false_or] at hg
  have hc : Nat.Coprime 1013 n := Nat.eq_of_beq_eq_true hg
  have e : (n * (4 * j)) = 4 * (n * j) := by rw [← Nat.mul_assoc, ← Nat.mul_assoc, Nat.mul_comm n 4]
  rw [e] at h
  have hd : 1013 ∣ n * j := Nat.dvd_of_mod_eq_zero (by omega)
  have := hc.dvd_of_dvd_mul_left hd
  exact hj (Nat.mod_eq_zero_of_dvd this)
/-- What a line is, in whole numbers. -/
theorem lvI {a : Sn} (b q : Sn) (h : a.2.1 < 4051) : fm (fm ((slN a b : Int) * fm ((q.1 : Int) + a.1)) - a.2.1) = (lvN a b q : Int) := by
  unfold lvN
  rw [nat_fm, fm_mul_r, fm_sub_l]
  refine (fm_of 1 ?_).symm
  rw [Int.natCast_add, Int.natCast_mul, Int.natCast_add, Int.natCast_sub (by omega)]
  omega
theorem lvR {a : Sn} (b q : Sn) (h : a.2.1 < 4051) : fm ((slN a b : Int) * ((q.1 : Int) + a.1) - a.2.1) = (lvN a b q : Int) := by
  rw [← lvI b q h, fm_mul_r, fm_sub_l]
theorem sl_lt (a b : Sn) : slN a b < 4051 := by
  unfold slN cslN dslN
  cases Nat.beq a.1 b.1
  · exact Nat.mod_lt _ (by omega)
  · exact Nat.mod_lt _ (by omega)
theorem hvI_yes {a b : Sn} (q : Sn) (h : hasL a b = true) : toI (hvN a b q) = ((lvN a b q : Int), (q.2.1 : Int)) := by rw [hv_line q h]; rfl
theorem hvI_no {a b : Sn} (q : Sn) (h : hasL a b = false) : toI (hvN a b q) = (1, 0) := by rw [hv_none q h]; rfl
/-- The pair of two that count. -/
theorem pair_far_l {j : Nat} (h : j % 1013 = 0) (k : Nat) : tp gI (j * k) = (1, 0) := by
  rw [gI_congr (n := 0) (by rw [Nat.mul_mod, h, Nat.zero_mul]), tp_zero]
theorem pair_far_r {k : Nat} (h : k % 1013 = 0) (j : Nat) : tp gI (j * k) = (1, 0) := by
  rw [Nat.mul_comm]; exact pair_far_l h j
theorem pair_end {j k : Nat} (h : k % 1013 ≠ 0) {f : Int × Int} (hc : Ch (tM (4 * k)) (4 * j) 1013 f) : tp f 16200 = tp gI (j * k) :=
  (ch_end (tM4_good h) hc).trans (pair_F h j)
/-- Along the digits of 1013: how many times behind so many of them. -/
def upN (k : Nat) : Nat := 1013 / 2 ^ (9 - k)
theorem up_zero : upN 0 = 1 := rfl
theorem up_nine : upN 9 = 1013 := rfl
theorem up_even : ∀ k, k < 9 → upN (k + 1) % 2 = 0 → upN (k + 1) = 2 * upN k := by decide
theorem up_odd : ∀ k, k < 9 → upN (k + 1) % 2 = 1 → upN (k + 1) = 2 * upN k + 1 := by decide
theorem up_bit : ∀ k, k < 9 → (1013 : Int) / 2 ^ (8 - k) = ((upN (k + 1) : Nat) : Int) := by decide
theorem up_le (k : Nat) : upN k ≤ 1013 := Nat.div_le_self _ _
theorem upJ_even {c i J : Nat} (hc : c < 9) (he : upN (c + 1) % 2 = 0) (hJ : upN c * i = J) : J + J = upN (c + 1) * i := by
  rw [up_even c hc he, ← hJ, Nat.mul_assoc]; omega
theorem upJ_odd {c i J : Nat} (hc : c < 9) (he : upN (c + 1) % 2 = 1) (hJ : upN c * i = J) : J + J + i = upN (c + 1) * i := by
  rw [up_odd c hc he, ← hJ, Nat.succ_mul, Nat.mul_assoc]; omega
theorem ch_even {q : Sn} (hq : Good q) {i c J : Nat} {f : Int × Int} (hc : c < 9) (he : upN (c + 1) % 2 = 0) (hJ : upN c * i = J) (h : Ch q i (upN c) f) :
    Ch q i (upN (c + 1)) (tm (tm f f) (toI (hvN (tM J) (tM J) q))) := by
  have := ch_dbl hq h
  rwa [hJ, ← up_even c hc he] at this
theorem ch_odd {q : Sn} (hq : Good q) {i c J : Nat} {f : Int × Int} (hc : c < 9) (he : upN (c + 1) % 2 = 1) (hJ : upN c * i = J) (h : Ch q i (upN c) f) :
    Ch q i (upN (c + 1)) (tm (tm (tm f f) (toI (hvN (tM J) (tM J) q))) (toI (hvN (tM (J + J)) (tM i) q))) := by
  have h1 := ch_dbl hq h
  have h2 := ch_add hq h1
  rwa [hJ, Nat.mul_assoc, hJ, show 2 * J = J + J by omega, ← up_odd c hc he] at h2
end Go.Proofs.Ytmijjjdedadklag
