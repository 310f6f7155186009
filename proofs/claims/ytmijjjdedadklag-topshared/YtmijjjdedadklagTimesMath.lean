/- So many times a spot, its order, whether it counts: as numbers modulo 4052. -/
import Derived.Test.YtmijjjdedadklagCurveMath
namespace Go.Proofs.Ytmijjjdedadklag

/-- A whole number modulo 4052. -/
def em (n : Int) : Nat := (n % 4052).toNat
theorem em_lt (n : Int) : em n < 4052 := by unfold em; omega
theorem em_cast (n : Int) : ((em n : Nat) : Int) = n % 4052 := by unfold em; omega
theorem em_ex (n : Int) : ∃ q : Int, ((em n : Nat) : Int) = n - 4052 * q := ⟨n / 4052, by unfold em; omega⟩
theorem em_small {n : Int} (h0 : 0 ≤ n) (h1 : n < 4052) : em n = n.toNat := by unfold em; omega
theorem mod_of_ex {a b : Nat} (h : ∃ k : Int, (a : Int) - b = 4052 * k) : a % 4052 = b % 4052 := by
  obtain ⟨k, hk⟩ := h; omega
theorem em_sum (i : Nat) (n m : Int) : (i * em n + i * em m) % 4052 = (i * em (n + m)) % 4052 := by
  obtain ⟨a, ha⟩ := em_ex n
  obtain ⟨b, hb⟩ := em_ex m
  obtain ⟨c, hc⟩ := em_ex (n + m)
  refine mod_of_ex ⟨(i : Int) * (c - a - b), ?_⟩
  push_cast
  rw [ha, hb, hc]; grind
theorem em_mul (i : Nat) (n m : Int) : (i * em n * em m) % 4052 = (i * em (n * m)) % 4052 := by
  obtain ⟨a, ha⟩ := em_ex n
  obtain ⟨b, hb⟩ := em_ex m
  obtain ⟨c, hc⟩ := em_ex (n * m)
  refine mod_of_ex ⟨(i : Int) * (c - a * m - n * b + 4052 * a * b), ?_⟩
  push_cast
  rw [ha, hb, hc]; grind
theorem tM_sum (i : Nat) (n m : Int) : tM (i * em n + i * em m) = tM (i * em (n + m)) := tM_congr (em_sum i n m)
theorem tM_mul (i : Nat) (n m : Int) : tM (i * em n * em m) = tM (i * em (n * m)) := tM_congr (em_mul i n m)
theorem tM_both (i j : Nat) (n : Int) : tM (i * em n + j * em n) = tM ((i + j) * em n) := by rw [Nat.add_mul]
theorem tM_em (i : Nat) (n : Nat) : tM (i * em (n : Int)) = tM (i * n) := by
  refine tM_congr ?_
  obtain ⟨a, ha⟩ := em_ex (n : Int)
  refine mod_of_ex ⟨-(i : Int) * a, ?_⟩
  push_cast
  rw [ha]; grind
/-- Is so many times the one spot far? -/
def farI (i : Nat) : Bool := Nat.beq (i % 4052) 0
theorem tM_f (i : Nat) : (tM i).2.2 = farI i := by
  unfold farI
  by_cases h : i % 4052 = 0
  · rw [tM_N, h]; rfl
  · rw [tM_N, tN_aff h]; symm; rw [← Bool.not_eq_true]; intro e; exact h (Nat.eq_of_beq_eq_true e)
theorem farI_iff (i : Nat) : farI i = true ↔ i % 4052 = 0 := by
  unfold farI
  exact ⟨fun h => Nat.eq_of_beq_eq_true h, fun h => by rw [h]; rfl⟩
theorem tM_isfar {i : Nat} (h : farI i = true) : tM i = farN := by rw [tM_N, (farI_iff i).1 h]; rfl
/-- The order of so many times the one spot. -/
def gM (i : Nat) : Nat := 4052 / Nat.gcd 4052 i
theorem gM_pos (i : Nat) : 1 ≤ gM i := by
  unfold gM
  exact Nat.div_pos (Nat.gcd_le_left i (by omega)) (Nat.gcd_pos_of_pos_left i (by omega))
theorem gM_le (i : Nat) : gM i ≤ 4052 := Nat.div_le_self _ _
theorem gM_dvd (i : Nat) : 4052 % gM i = 0 := by
  unfold gM
  exact Nat.mod_eq_zero_of_dvd (Nat.div_dvd_of_dvd (Nat.gcd_dvd_left 4052 i))
theorem gM_hit (i : Nat) : farI (i * gM i) = true := by
  rw [farI_iff]
  obtain ⟨c, hc⟩ := Nat.gcd_dvd_right 4052 i
  have h2 : Nat.gcd 4052 i * gM i = 4052 := Nat.mul_div_cancel' (Nat.gcd_dvd_left 4052 i)
  refine Nat.mod_eq_zero_of_dvd ⟨c, ?_⟩
  calc i * gM i = Nat.gcd 4052 i * c * gM i := by rw [← hc]
    _ = Nat.gcd 4052 i * gM i * c := by rw [Nat.mul_right_comm]
    _ = 4052 * c := by rw [h2]
theorem gM_low {i n : Nat} (h0 : 0 < n) (h1 : n < gM i) : farI (i * n) = false := by
  rw [← Bool.not_eq_true, farI_iff]
  intro h
  have hg : 0 < Nat.gcd 4052 i := Nat.gcd_pos_of_pos_left i (by omega)
  have hc := Nat.coprime_div_gcd_div_gcd (m := 4052) (n := i) hg
  obtain ⟨c, hc2⟩ := Nat.gcd_dvd_right 4052 i
  have e1 : i / Nat.gcd 4052 i = c := Nat.div_eq_of_eq_mul_right hg hc2
  obtain ⟨q, hq⟩ := Nat.dvd_of_mod_eq_zero h
  have h2 : Nat.gcd 4052 i * gM i = 4052 := Nat.mul_div_cancel' (Nat.gcd_dvd_left 4052 i)
  have h3 : Nat.gcd 4052 i * (c * n) = Nat.gcd 4052 i * (gM i * q) := by
    rw [← Nat.mul_assoc, ← hc2, hq, ← Nat.mul_assoc, h2]
  have h4 := Nat.eq_of_mul_eq_mul_left hg h3
  have h5 : gM i ∣ n := Nat.Coprime.dvd_of_dvd_mul_left (m := c) (by rw [← e1]; exact hc) ⟨q, h4⟩
  have := Nat.le_of_dvd h0 h5
  omega
theorem gM_mod (i : Nat) : gM (i % 4052) = gM i := by
  unfold gM
  rw [Nat.gcd_comm, ← Nat.gcd_rec, Nat.gcd_comm]
theorem gM_in_all : allLT (fun i => cond (farI (i * 1013)) (Nat.beq (gM i) 1 || Nat.beq (gM i) 1013) (!(Nat.beq (gM i) 1 || Nat.beq (gM i) 1013))) 4052 = true := by decide +kernel
theorem gM_in (i : Nat) : farI (i * 1013) = (Nat.beq (gM i) 1 || Nat.beq (gM i) 1013) := by
  have h := allLT_spec gM_in_all (i % 4052) (Nat.mod_lt _ (by omega))
  rw [gM_mod] at h
  have e : farI (i % 4052 * 1013) = farI (i * 1013) := by unfold farI; rw [show i % 4052 * 1013 % 4052 = i * 1013 % 4052 by omega]
  rw [e] at h
  revert h
  cases farI (i * 1013) <;> cases (Nat.beq (gM i) 1 || Nat.beq (gM i) 1013) <;> simp
theorem base_yes : tM 4 = ((tM 4).1, (tM 4).2.1, false) := by rw [show tM 4 = ((tM 4).1, (tM 4).2.1, (tM 4).2.2) from rfl, tM_f]; rfl
theorem tM_one : tM 1 = (3, 156, false) := tN_one
end Go.Proofs.Ytmijjjdedadklag
