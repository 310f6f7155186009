/- Plain facts for the plain reckoning: Euclid's way to an inverse, the least root; nothing of the program stands in here. -/
import Derived.Test.YtmijjjdedadklagMath
namespace Go.Proofs.Ytmijjjdedadklag

/-- A number with a sign. -/
def sg (s : Bool) (n : Nat) : Int := bif s then (n : Int) else -(n : Int)
/-- Euclid's way, with the greatness of what is carried along looked at, and its end held against e. -/
def chkT (m e : Nat) : Nat → Bool → Nat → Nat → Nat → Nat → Bool
  | 0, _, _, _, _, _ => false
  | f + 1, s, a, b, px, py => Nat.ble py 5000 && (bif Nat.beq b 0 then Nat.beq (bif s then px % m else (m - px % m) % m) e else chkT m e f (!s) b (a % b) py (px + a / b * py))
theorem chkT_end {m e f : Nat} {s : Bool} {a px py : Nat} (hm : 0 < m) (h : chkT m e f s a 0 px py = true) : sg s px % (m : Int) = e := by
  cases f with
  | zero => simp [chkT] at h
  | succ f =>
    simp only [chkT, Bool.and_eq_true] at h
    have h2 : Nat.beq (bif s then px % m else (m - px % m) % m) e = true := h.2
    have h3 := Nat.eq_of_beq_eq_true h2
    cases s with
    | true =>
      simp only [cond_true] at h3
      simp only [sg, cond_true]; rw [← h3]; rfl
    | false =>
      simp only [cond_false] at h3
      simp only [sg, cond_false]
      have hlt := Nat.mod_lt px hm
      have hd := Nat.div_add_mod px m
      have hd' : (px : Int) = (m : Int) * ((px / m : Nat) : Int) + ((px % m : Nat) : Int) := by
        rw [← Int.natCast_mul, ← Int.natCast_add, hd]
      by_cases h0 : px % m = 0
      · rw [h0, Nat.sub_zero, Nat.mod_self] at h3
        rw [h0] at hd'
        rw [hd', ← h3]
        have : -((m : Int) * ((px / m : Nat) : Int) + ((0 : Nat) : Int)) = (m : Int) * (-((px / m : Nat) : Int)) := by
          rw [Int.mul_neg]; simp
        rw [this, Int.mul_emod_right]; rfl
      · rw [Nat.mod_eq_of_lt (by omega)] at h3
        have : -(px : Int) = ((m - px % m : Nat) : Int) + (m : Int) * (-((px / m : Nat) : Int) - 1) := by
          rw [Int.mul_sub, Int.mul_neg, Int.mul_one]; omega
        rw [this, Int.add_mul_emod_self_left, h3]
        exact Int.emod_eq_of_lt (by omega) (by omega)
theorem chkT_step {m e f : Nat} {s : Bool} {a b px py : Nat} (hb : 0 < b) (h : chkT m e f s a b px py = true) :
    ∃ g, chkT m e g (!s) b (a % b) py (px + a / b * py) = true := by
  cases f with
  | zero => simp [chkT] at h
  | succ f =>
    simp only [chkT, Bool.and_eq_true] at h
    have h2 : (bif Nat.beq b 0 then Nat.beq (bif s then px % m else (m - px % m) % m) e else chkT m e f (!s) b (a % b) py (px + a / b * py)) = true := h.2
    cases hz : Nat.beq b 0 with
    | true => have := Nat.eq_of_beq_eq_true hz; omega
    | false => rw [hz] at h2; exact ⟨f, h2⟩
theorem chkT_py {m e f : Nat} {s : Bool} {a b px py : Nat} (h : chkT m e f s a b px py = true) : py ≤ 5000 := by
  cases f with
  | zero => simp [chkT] at h
  | succ f =>
    simp only [chkT, Bool.and_eq_true] at h
    exact Nat.le_of_ble_eq_true h.1
theorem turn_all : allLT (fun n => Nat.beq n 0 || chkT 4051 (pw n 4049) 40 false 4051 n 0 1) 4051 = true := by decide +kernel
theorem turn_start {n : Int} (h0 : 1 ≤ n) (h1 : n ≤ 4050) : chkT 4051 (fpow n 4049).toNat 40 false 4051 n.toNat 0 1 = true := by
  have h := fm_all turn_all n
  rw [fm_id (by omega) h1] at h
  simp only [Bool.or_eq_true] at h
  rcases h with h | h
  · have := Nat.eq_of_beq_eq_true h; omega
  · rw [fm_nat_pow, fm_id (by omega) h1, Int.toNat_natCast]; exact h

theorem root_all : allLT (fun r => !(Nat.ble (2 * r) 4051) || (okN (r * r % 4051) && Nat.beq (minN (r * r % 4051)) r)) 4051 = true := by decide +kernel
/-- Who finds a root among the lesser ones has found the one that is told. -/
theorem root_hit {a r : Int} (h0 : 0 ≤ r) (h1 : 2 * r ≤ 4051) (h : r * r % 4051 = fm a) : rtOk a = true ∧ rtMin a = r := by
  have hh := allLT_spec root_all r.toNat (by omega)
  have e : ((r.toNat : Nat) : Int) = r := by omega
  have hb : Nat.ble (2 * r.toNat) 4051 = true := Nat.ble_eq_true_of_le (by omega)
  simp only [hb, Bool.not_true, Bool.false_or, Bool.and_eq_true] at hh
  have hx : (fm a).toNat = r.toNat * r.toNat % 4051 := by
    have : ((r.toNat * r.toNat % 4051 : Nat) : Int) = fm a := by rw [← h, ← e]; simp
    rw [← this, Int.toNat_natCast]
  rw [rtOk_nat, rtMin_nat, hx]
  exact ⟨hh.1, by rw [Nat.eq_of_beq_eq_true hh.2]; exact e⟩
/-- Who finds none among the lesser ones has looked at all that there are. -/
theorem root_miss {a : Int} (h : ∀ r : Int, 0 ≤ r → 2 * r ≤ 4051 → r * r % 4051 ≠ fm a) : rtOk a = false := by
  cases e : rtOk a with
  | false => rfl
  | true => exact absurd (least e).1 (h _ (least e).2.1 (least e).2.2)
/-- What the plain reckoning answers for a root. -/
def rootI (a : Int) : Int := bif rtOk a then rtMin a else -1
theorem rootI_hit {a r : Int} (h0 : 0 ≤ r) (h1 : 2 * r ≤ 4051) (h : r * r % 4051 = fm a) : r = rootI a := by
  have := root_hit h0 h1 h; rw [rootI, this.1]; exact this.2.symm
theorem rootI_miss {a : Int} (h : ∀ r : Int, 0 ≤ r → 2 * r ≤ 4051 → r * r % 4051 ≠ fm a) : -1 = rootI a := by
  rw [rootI, root_miss h]; rfl

theorem fpow_zero (n : Int) : fpow n 0 = 1 := by unfold fpow; rw [Int.pow_zero]; rfl
theorem fpow_half (n k : Int) (h : 0 ≤ k) (h2 : k % 2 = 0) : fpow n (k / 2).toNat * fpow n (k / 2).toNat % 4051 = fpow n k.toNat := by
  have e : k.toNat = (k / 2).toNat + (k / 2).toNat := by omega
  rw [e]; unfold fpow; rw [pow_add]; exact fm_mul _ _
theorem fpow_half1 (n k : Int) (h : 0 < k) (h2 : k % 2 = 1) : fpow n (k / 2).toNat * fpow n (k / 2).toNat % 4051 * (n % 4051) % 4051 = fpow n k.toNat := by
  have e : k.toNat = (k / 2).toNat + (k / 2).toNat + 1 := by omega
  rw [e]; unfold fpow; rw [Int.pow_succ, pow_add]
  show fm (fm (fm _ * fm _) * fm n) = _
  rw [fm_mul]
  exact fm_mul_congr (fm_mul _ _) rfl
end Go.Proofs.Ytmijjjdedadklag
