/- What is hidden, as numbers modulo 1013. -/
import Derived.Test.YtmijjjdedadklajUSpot
import Derived.Test.YtmijjjdedadklajSealMath
import Derived.Test.YtmijjjdedadklajShareMath
namespace Go.Proofs.Ytmijjjdedadklaj
set_option linter.unusedSimpArgs false
set_option linter.unusedVariables false

theorem un_ne (t : ByteArray) : uN t % 1013 ≠ 0 := by
  intro h
  have h1 := sp_near (longN t)
  rw [uN_is] at h1
  have h2 := (farI_iff (4 * uN t)).2 (by omega)
  rw [h2] at h1; cases h1
/-- Each number that is not 0 modulo 1013 has one by which it is 1. -/
theorem turn_q {d : Nat} (h : d % 1013 ≠ 0) : ∃ e, (d * e) % 1013 = 1 := by
  have hd : Fin.ofNat 1013 d ≠ (0 : QF) := by
    intro e
    have := congrArg Fin.val e
    exact h this
  have h1 := congrArg Fin.val (iv_mul hd)
  rw [Fin.val_mul] at h1
  refine ⟨(ivq (Fin.ofNat 1013 d)).val, ?_⟩
  have h2 : (d % 1013) * (ivq (Fin.ofNat 1013 d)).val % 1013 = 1 := h1
  rwa [Nat.mul_mod, Nat.mod_mod, ← Nat.mul_mod] at h2
section
variable {h : Nat} (hh : h % 1013 ≠ 0)
include hh
theorem hf_find (i v : Nat) : ∃ n, n < 1013 ∧ (v + h * n) % 1013 = i % 1013 := by
  obtain ⟨e, he⟩ := turn_q hh
  obtain ⟨d, hd⟩ : ∃ d, (v + d) % 1013 = i % 1013 := ⟨i % 1013 + 1013 - v % 1013, by have := Nat.mod_lt v (show 0 < 1013 by omega); omega⟩
  refine ⟨(e * d) % 1013, Nat.mod_lt _ (by omega), ?_⟩
  have h1 : (h * (e * d % 1013)) % 1013 = d % 1013 := by
    rw [Nat.mul_mod, Nat.mod_mod, ← Nat.mul_mod, ← Nat.mul_assoc, Nat.mul_mod, he, Nat.one_mul, Nat.mod_mod]
  omega
theorem hf_one {v n m : Nat} (hn : n < 1013) (hm : m < 1013) (k : (v + h * n) % 1013 = (v + h * m) % 1013) : n = m := by
  obtain ⟨e, he⟩ := turn_q hh
  have h1 : (h * n) % 1013 = (h * m) % 1013 := by omega
  have key : ∀ k, (h * k * e) % 1013 = k % 1013 := fun k => by
    rw [show h * k * e = h * e * k by ac_rfl, Nat.mul_mod, he, Nat.one_mul, Nat.mod_mod]
  have h2 : (h * n * e) % 1013 = (h * m * e) % 1013 := by rw [Nat.mul_mod, h1, ← Nat.mul_mod]
  rw [key, key] at h2
  omega
theorem hf_far {v r : Nat} (hv : v < 1013) (hr : r < 1013) (k : (v + h * r) % 1013 = 0) : r = 0 ↔ v = 0 := by
  constructor
  · rintro rfl
    omega
  · rintro rfl
    exact hf_one hh (v := 0) hr (by omega) (k.trans (by omega))
end
theorem hf_sum (h v r w s : Nat) : ((v + h * r) + (w + h * s)) % 1013 = ((v + w) % 1013 + h * ((r + s) % 1013)) % 1013 := by
  have h1 : (h * ((r + s) % 1013)) % 1013 = (h * (r + s)) % 1013 := by rw [Nat.mul_mod, Nat.mod_mod, ← Nat.mul_mod]
  have h2 : h * (r + s) = h * r + h * s := Nat.mul_add _ _ _
  omega
theorem hf_em (h v r : Nat) : (4 * em (v : Int) + 4 * h * em (r : Int)) % 4052 = (4 * (v + h * r)) % 4052 := by
  have h1 : (4 * h * em (r : Int)) % 4052 = (4 * h * r) % 4052 := by
    rw [Nat.mul_mod, show em (r : Int) % 4052 = r % 4052 by unfold em; omega, ← Nat.mul_mod]
  have h2 : 4 * em (v : Int) % 4052 = 4 * v % 4052 := by unfold em; omega
  have h3 : 4 * (v + h * r) = 4 * v + 4 * h * r := by rw [Nat.mul_add, Nat.mul_assoc]
  omega
/-- The word of the second base. -/
def secT : ByteArray := ⟨#[115, 101, 99, 111, 110, 100]⟩
/-- The second base is so many times the base. -/
def h2N : Nat := uN secT
theorem h2_is : h2N = uN secT := by unfold h2N; rfl
theorem h2_ne : h2N % 1013 ≠ 0 := by rw [h2_is]; exact un_ne secT
theorem h2_f : (tM (4 * h2N)).2.2 = false := by rw [h2_is]; exact uN_f secT
/-- A value, and a number by which it is hidden: so many times the base. -/
def hdN (v r : Nat) : Nat := v + h2N * r
theorem hd_is (v r : Nat) : hdN v r = v + h2N * r := by unfold hdN; rfl
/-- Any number is hidden by some number, of any value. -/
theorem hd_find (i v : Nat) : ∃ n, n < 1013 ∧ hdN v n % 1013 = i % 1013 := by
  obtain ⟨n, h1, h2⟩ := hf_find h2_ne i v
  exact ⟨n, h1, by rw [hd_is]; exact h2⟩
/-- And by no other one. -/
theorem hd_one {v n m : Nat} (hn : n < 1013) (hm : m < 1013) (h : hdN v n % 1013 = hdN v m % 1013) : n = m := by
  rw [hd_is, hd_is] at h
  exact hf_one h2_ne hn hm h
theorem hd_iff (i v r : Nat) : tM (4 * i) = tM (4 * hdN v r) ↔ i % 1013 = hdN v r % 1013 := t4_iff _ _
theorem hd_sum (v r w s : Nat) : tM (4 * hdN v r + 4 * hdN w s) = tM (4 * hdN ((v + w) % 1013) ((r + s) % 1013)) := by
  rw [← Nat.mul_add, hd_is, hd_is, hd_is]
  exact t4_congr (hf_sum h2N v r w s)
theorem hd_far {v r : Nat} (hv : v < 1013) (hr : r < 1013) (h : hdN v r % 1013 = 0) : r = 0 ↔ v = 0 := by
  rw [hd_is] at h
  exact hf_far h2_ne hv hr h
theorem hd_em (v r : Nat) : tM (4 * em (v : Int) + 4 * h2N * em (r : Int)) = tM (4 * hdN v r) := by
  rw [hd_is]
  exact tM_congr (hf_em h2N v r)
theorem hd_zero : tM (4 * hdN 0 0) = (0, 0, true) := by
  rw [hd_is, Nat.mul_zero]; rfl
end Go.Proofs.Ytmijjjdedadklaj
