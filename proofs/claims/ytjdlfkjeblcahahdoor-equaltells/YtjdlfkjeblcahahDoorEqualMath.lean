/- Challenges of five spots, and proofs that a number is the same. Apart from the program. -/
import Derived.Test.YtjdlfkjeblcahahDoorGroupMath
import Derived.Test.YtjdlfkjeblcahahDoorTimesMath
namespace Go.Proofs.YtjdlfkjeblcahahDoor
set_option linter.unusedSimpArgs false
set_option linter.unusedVariables false

/-- Five in a row. -/
def fiveR {α : Type} (a b c d e : α) (i : Nat) : α := bif Nat.beq i 0 then a else bif Nat.beq i 1 then b else bif Nat.beq i 2 then c else bif Nat.beq i 3 then d else e
/-- Three in a row. -/
def threeR {α : Type} (a b c : α) (i : Nat) : α := bif Nat.beq i 0 then a else bif Nat.beq i 1 then b else c
theorem five_0 {α : Type} (a b c d e : α) : fiveR a b c d e 0 = a := rfl
theorem five_1 {α : Type} (a b c d e : α) : fiveR a b c d e 1 = b := rfl
theorem five_2 {α : Type} (a b c d e : α) : fiveR a b c d e 2 = c := rfl
theorem five_3 {α : Type} (a b c d e : α) : fiveR a b c d e 3 = d := rfl
theorem five_4 {α : Type} (a b c d e : α) : fiveR a b c d e 4 = e := rfl
theorem three_0 {α : Type} (a b c : α) : threeR a b c 0 = a := rfl
theorem three_1 {α : Type} (a b c : α) : threeR a b c 1 = b := rfl
theorem three_2 {α : Type} (a b c : α) : threeR a b c 2 = c := rfl
/-- The challenge of five spots. -/
def eaN (a b c r s : Nat) : Nat := longN (lsB (fiveR a b c r s) 5) % 1013
theorem eaN_lt (a b c r s : Nat) : eaN a b c r s < 1013 := Nat.mod_lt _ (by omega)
theorem eaI (a b c r s : Nat) : ((longN (lsB (fiveR a b c r s) 5) : Nat) : Int) % 1013 = (eaN a b c r s : Int) := by unfold eaN; omega
theorem lt_five {i : Nat} (h : i < 5) : i = 0 ∨ i = 1 ∨ i = 2 ∨ i = 3 ∨ i = 4 := by omega
theorem lt_three {i : Nat} (h : i < 3) : i = 0 ∨ i = 1 ∨ i = 2 := by omega
theorem ea_congr {a b c r s a' b' c' r' s' : Nat} (h1 : tM a = tM a') (h2 : tM b = tM b') (h3 : tM c = tM c') (h4 : tM r = tM r') (h5 : tM s = tM s') : eaN a b c r s = eaN a' b' c' r' s' := by
  unfold eaN lsB lsL
  rw [rowL_congr (K := fiveR a b c r s) (J := fiveR a' b' c' r' s') fun i hi => ?_]
  rcases lt_five hi with rfl | rfl | rfl | rfl | rfl
  · exact h1
  · exact h2
  · exact h3
  · exact h4
  · exact h5
/-- A proof's challenge, and its number. -/
def epC (x k b : Nat) : Nat := eaN (4 * x) b (b * x) (4 * k) (b * k)
def epS (x k b : Nat) : Nat := (k + epC x k b * x) % 1013
theorem epC_lt (x k b : Nat) : epC x k b < 1013 := eaN_lt _ _ _ _ _
theorem epS_lt (x k b : Nat) : epS x k b < 1013 := Nat.mod_lt _ (by omega)
/-- So many times one less so many times another one. -/
def lsN (a : Nat) (n : Int) (b : Nat) (m : Int) : Nat := a * em n + b * em (-m)
theorem em_neg (c : Nat) (hc : c < 1013) : em (-(c : Int)) = bif Nat.beq c 0 then 0 else 4052 - c := by
  unfold em
  cases h : Nat.beq c 0 with
  | true => have := Nat.eq_of_beq_eq_true h; subst this; rfl
  | false =>
    have : c ≠ 0 := fun e => by rw [e] at h; cases h
    show (-(c : Int) % 4052).toNat = 4052 - c
    omega
theorem em_negm (c : Nat) (hc : c < 1013) : (em (-(c : Int)) + c) % 1013 = 0 := by
  unfold em; omega
/-- What is proved: S times one less C times x times one is k times one, of one that counts. -/
theorem ls_k (j x k c : Nat) (hc : c < 1013) : tM (lsN (4 * j) (((k + c * x) % 1013 : Nat) : Int) (4 * j * x) (c : Int)) = tM (4 * j * k) := by
  unfold lsN
  obtain ⟨m, hm⟩ : ∃ m, em (-(c : Int)) = m := ⟨_, rfl⟩
  have h0 := em_negm c hc
  rw [hm] at h0 ⊢
  have h1 : em (((k + c * x) % 1013 : Nat) : Int) = (k + c * x) % 1013 := by unfold em; omega
  rw [h1, show 4 * j * ((k + c * x) % 1013) + 4 * j * x * m = 4 * (j * ((k + c * x) % 1013 + x * m)) by grind, show 4 * j * k = 4 * (j * k) by grind]
  refine t4_congr ?_
  have h2 : ((k + c * x) % 1013 + x * m) % 1013 = k % 1013 := by
    have h3 : (x * (m + c)) % 1013 = 0 := by rw [Nat.mul_mod, h0, Nat.mul_zero, Nat.zero_mod]
    have h4 : x * (m + c) = x * m + c * x := by grind
    rw [h4] at h3
    omega
  rw [Nat.mul_mod, h2, ← Nat.mul_mod]
end Go.Proofs.YtjdlfkjeblcahahDoor
