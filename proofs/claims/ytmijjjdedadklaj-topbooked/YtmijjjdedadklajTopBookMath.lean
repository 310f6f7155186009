/- What TopBooked plays, apart from the program: coins that go one by one, each in the place of another one of its value. h: the second base, so many times the base. -/
import Derived.Test.YtmijjjdedadklajLogMath
namespace Go.Proofs.Ytmijjjdedadklaj
set_option linter.unusedVariables false
set_option linter.unusedSimpArgs false

/-- A coin. -/
def tbH (h a b : Nat) : Nat := a + h * b
/-- The coins behind so many deals. -/
def tbK (h c : Nat) (V R N : Nat → Nat) : Nat → Nat → Nat
  | 0 => fun k => tbH h (V k) (R k)
  | i + 1 => appN (tbK h c V R N i) (c + i) (fun _ => tbH h (V i) (N i)) 1
/-- Which of them have gone. -/
def tbG (c : Nat) : Nat → Nat → Bool
  | 0 => fun _ => false
  | i + 1 => appN (mkG (tbG c i) (fun _ => (i : Int)) 1) (c + i) (fun _ => false) 1
/-- Sums, one by one. -/
def tbV (V : Nat → Nat) : Nat → Nat
  | 0 => 0
  | k + 1 => (tbV V k + V k) % 1013
/-- The sum of the numbers behind so many deals. -/
def tbS (c : Nat) (R N : Nat → Nat) : Nat → Nat
  | 0 => tbV R c
  | i + 1 => (tbS c R N i + N i + 1012 * R i) % 1013
theorem tbV_lt (V : Nat → Nat) : ∀ k, tbV V k < 1013
  | 0 => by show 0 < 1013; omega
  | k + 1 => Nat.mod_lt _ (by omega)
theorem tbS_lt (c : Nat) (R N : Nat → Nat) : ∀ i, tbS c R N i < 1013
  | 0 => tbV_lt R c
  | i + 1 => Nat.mod_lt _ (by omega)
theorem tb_first (h c : Nat) (V R N : Nat → Nat) {k : Nat} (hk : k < c) : ∀ i, tbK h c V R N i k = tbH h (V k) (R k)
  | 0 => rfl
  | i + 1 => by
    show appN (tbK h c V R N i) (c + i) (fun _ => tbH h (V i) (N i)) 1 k = _
    rw [appN_lt _ _ (by omega)]
    exact tb_first h c V R N hk i
theorem tb_live (c : Nat) : ∀ i, i ≤ c → ∀ k, i ≤ k → k < c + i → tbG c i k = false
  | 0, _, k, _, _ => rfl
  | i + 1, hi, k, h1, h2 => by
    show appN (mkG (tbG c i) (fun _ => (i : Int)) 1) (c + i) (fun _ => false) 1 k = false
    by_cases e : k = c + i
    · subst e; exact appN_at _ _ _ 0
    · rw [appN_lt _ _ (by omega)]
      have : mkG (tbG c i) (fun _ => (i : Int)) 1 k = tbG c i k := mkG_no fun j hj => by show ((i : Int)).toNat ≠ k; omega
      rw [this]
      exact tb_live c i (by omega) k (by omega) (by omega)
theorem tb_go (c : Nat) {i : Nat} (hi : i < c) : ∀ j, j < 1 → goE (c + i) (tbG c i) (fun _ => (i : Int)) j = 0 := fun j hj => by
  obtain rfl : j = 0 := by omega
  have h1 : inN (c + i) ((i : Nat) : Int) = true := decide_eq_true ⟨by omega, by omega⟩
  have h2 : tbG c i ((i : Nat) : Int).toNat = false := by rw [Int.toNat_natCast]; exact tb_live c i (by omega) i (Nat.le_refl _) (by omega)
  show (bif inN (c + i) ((i : Nat) : Int) then (bif tbG c i ((i : Nat) : Int).toNat then 6 else bif dupB (fun _ => (i : Int)) (i : Int) 0 then 7 else 0) else (1 : Int)) = 0
  rw [h1, h2]
  rfl
theorem tb_exc (h c : Nat) (V R N : Nat → Nat) {i : Nat} (hi : i < c) : exN (tbK h c V R N i) (fun _ => (i : Int)) 1 (fun _ => tbH h (V i) (N i)) 1 = 1012 * tbH h (V i) (R i) + tbH h (V i) (N i) := by
  show (0 + 1012 * tbK h c V R N i ((i : Nat) : Int).toNat) + (0 + tbH h (V i) (N i)) = _
  rw [Int.toNat_natCast, tb_first h c V R N hi]
  omega
/-- The excess is so many times the second base. -/
theorem tb_mod (h v r n : Nat) : (1012 * tbH h v r + tbH h v n) % 1013 = (h * ((n + 1012 * r) % 1013)) % 1013 := by
  unfold tbH
  have e1 : (h * ((n + 1012 * r) % 1013)) % 1013 = (h * (n + 1012 * r)) % 1013 := by rw [Nat.mul_mod, Nat.mod_mod, ← Nat.mul_mod]
  have e2 : h * (n + 1012 * r) = h * n + 1012 * (h * r) := by rw [Nat.mul_add, Nat.mul_left_comm]
  rw [e1, e2]
  generalize h * r = a
  generalize h * n = b
  omega
theorem tb_start (h : Nat) (V R : Nat → Nat) (c : Nat) (N : Nat → Nat) : ∀ k, ttN (fun k => tbH h (V k) (R k)) (fun _ => false) k % 1013 = (tbV V k + h * tbV R k) % 1013
  | 0 => by show 0 % 1013 = (0 + h * 0) % 1013; rw [Nat.mul_zero]
  | k + 1 => by
    have ih := tb_start h V R c N k
    rw [ttN_live rfl]
    generalize ttN (fun k => tbH h (V k) (R k)) (fun _ => false) k = t at ih ⊢
    show (t + (V k + h * R k)) % 1013 = ((tbV V k + V k) % 1013 + h * ((tbV R k + R k) % 1013)) % 1013
    have e1 : (h * ((tbV R k + R k) % 1013)) % 1013 = (h * (tbV R k + R k)) % 1013 := by rw [Nat.mul_mod, Nat.mod_mod, ← Nat.mul_mod]
    have e2 : h * (tbV R k + R k) = h * tbV R k + h * R k := Nat.mul_add _ _ _
    rw [e2] at e1
    generalize h * ((tbV R k + R k) % 1013) = y at *
    generalize h * R k = a at *
    generalize h * tbV R k = b at *
    omega
/-- What is live, together. -/
theorem tb_total (h c : Nat) (V R N : Nat → Nat) : ∀ i, i ≤ c → tM (4 * ttN (tbK h c V R N i) (tbG c i) (c + i)) = tM (4 * (tbV V c + h * tbS c R N i)) ∧ (lvL (tbG c i) (c + i)).length = c
  | 0, _ => by
    refine ⟨t4_congr (tb_start h V R c N c), ?_⟩
    have : ∀ n, (lvL (fun _ => false) n).length = n := fun n => by
      induction n with
      | zero => rfl
      | succ n ih => rw [lvL_live rfl, List.length_append, ih]; rfl
    exact this c
  | i + 1, hi => by
    obtain ⟨h1, h2⟩ := tb_total h c V R N i (by omega)
    obtain ⟨d1, d2⟩ := tt_deal (K := tbK h c V R N i) (J := fun _ => tbH h (V i) (N i)) (G := tbG c i) (Z := fun _ => (i : Int)) (n := c + i) (m := 1) (c := 1) (tb_go c (by omega))
    refine ⟨?_, by have : (lvL (tbG c (i + 1)) (c + i + 1)).length + 1 = (lvL (tbG c i) (c + i)).length + 1 := d2; show (lvL (tbG c (i + 1)) (c + i + 1)).length = c; omega⟩
    have e : tM (4 * ttN (tbK h c V R N (i + 1)) (tbG c (i + 1)) (c + i + 1)) = tM (4 * ttN (tbK h c V R N i) (tbG c i) (c + i) + 4 * exN (tbK h c V R N i) (fun _ => (i : Int)) 1 (fun _ => tbH h (V i) (N i)) 1) := d1
    show tM (4 * ttN (tbK h c V R N (i + 1)) (tbG c (i + 1)) (c + i + 1)) = _
    rw [e, ← tM_add, h1, tM_add, ← Nat.mul_add, tb_exc h c V R N (by omega)]
    refine t4_congr ?_
    have m1 := tb_mod h (V i) (R i) (N i)
    have e1 : (h * tbS c R N (i + 1)) % 1013 = (h * (tbS c R N i + N i + 1012 * R i)) % 1013 := by
      show (h * ((tbS c R N i + N i + 1012 * R i) % 1013)) % 1013 = _
      rw [Nat.mul_mod, Nat.mod_mod, ← Nat.mul_mod]
    have e3 : (h * ((N i + 1012 * R i) % 1013)) % 1013 = (h * (N i + 1012 * R i)) % 1013 := by rw [Nat.mul_mod, Nat.mod_mod, ← Nat.mul_mod]
    have e2 : h * (tbS c R N i + N i + 1012 * R i) = h * tbS c R N i + h * (N i + 1012 * R i) := by rw [Nat.add_assoc, Nat.mul_add]
    rw [e2] at e1
    rw [e3] at m1
    generalize 1012 * tbH h (V i) (R i) + tbH h (V i) (N i) = x at *
    generalize h * (N i + 1012 * R i) = y at *
    generalize h * tbS c R N i = u at *
    generalize h * tbS c R N (i + 1) = z at *
    omega
end Go.Proofs.Ytmijjjdedadklaj
