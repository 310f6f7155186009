/- Books of coins, apart from the program and its memory: what is wrong with those that go, the excess, what a deal leaves, which are live, and their total. -/
import Derived.Test.YtmijjjdedadklajT4Math
import Derived.Test.YtmijjjdedadklajSumMath
import Derived.Test.YtmijjjdedadklajGroupMath
import Derived.Test.YtmijjjdedadklajTimesMath
namespace Go.Proofs.Ytmijjjdedadklaj
set_option linter.unusedVariables false
set_option linter.unusedSimpArgs false

/-- Is it among the first so many? -/
def dupB (Z : Nat → Int) (z : Int) : Nat → Bool
  | 0 => false
  | k + 1 => dupB Z z k || (Z k == z)
theorem dupB_iff (Z : Nat → Int) (z : Int) : ∀ n, dupB Z z n = true ↔ ∃ k, k < n ∧ Z k = z
  | 0 => ⟨(fun h => by cases h), fun ⟨k, hk, _⟩ => absurd hk (Nat.not_lt_zero _)⟩
  | n + 1 => by
    show (dupB Z z n || (Z n == z)) = true ↔ _
    rw [Bool.or_eq_true, dupB_iff Z z n, beq_iff_eq]
    constructor
    · rintro (⟨k, hk, e⟩ | e)
      · exact ⟨k, by omega, e⟩
      · exact ⟨n, by omega, e⟩
    · rintro ⟨k, hk, e⟩
      rcases Nat.lt_succ_iff_lt_or_eq.1 hk with h | rfl
      · exact Or.inl ⟨k, h, e⟩
      · exact Or.inr e
theorem dupB_no {Z : Nat → Int} {z : Int} {n : Nat} (h : dupB Z z n = false) : ∀ k, k < n → Z k ≠ z := fun k hk e => by
  have := (dupB_iff Z z n).2 ⟨k, hk, e⟩
  rw [h] at this; cases this
/-- Is there such a coin? -/
def inN (n : Nat) (z : Int) : Bool := decide (0 ≤ z ∧ z < (n : Int))
theorem inN_yes {n : Nat} {z : Int} (h : inN n z = true) : 0 ≤ z ∧ z < (n : Int) := of_decide_eq_true h
theorem inN_no {n : Nat} {z : Int} (h : inN n z = false) : ¬ (0 ≤ z ∧ z < (n : Int)) := of_decide_eq_false h
/-- What is wrong with the one that goes at a place. -/
def goE (n : Nat) (G : Nat → Bool) (Z : Nat → Int) (i : Nat) : Int :=
  bif inN n (Z i) then (bif G (Z i).toNat then 6 else bif dupB Z (Z i) i then 7 else 0) else 1
/-- What is wrong with those that go: that of the first that is wrong. -/
def gnE (n : Nat) (G : Nat → Bool) (Z : Nat → Int) : Nat → Int
  | 0 => 0
  | m + 1 => bif gnE n G Z m == 0 then goE n G Z m else gnE n G Z m
theorem gnE_zero {n : Nat} {G : Nat → Bool} {Z : Nat → Int} : ∀ {m : Nat}, gnE n G Z m = 0 → ∀ i, i < m → goE n G Z i = 0
  | 0, _, i, hi => absurd hi (Nat.not_lt_zero _)
  | m + 1, h, i, hi => by
    unfold gnE at h
    cases h1 : gnE n G Z m == 0
    · rw [h1] at h; simp only [cond_false] at h; rw [h] at h1; cases h1
    · rw [h1] at h; simp only [cond_true] at h
      rcases Nat.lt_succ_iff_lt_or_eq.1 hi with h2 | rfl
      · exact gnE_zero (by simpa using h1) i h2
      · exact h
theorem gnE_all {n : Nat} {G : Nat → Bool} {Z : Nat → Int} : ∀ {m : Nat}, (∀ i, i < m → goE n G Z i = 0) → gnE n G Z m = 0
  | 0, _ => rfl
  | m + 1, h => by
    unfold gnE
    rw [gnE_all (m := m) fun i hi => h i (by omega)]
    exact h m (by omega)
theorem gnE_first {n : Nat} {G : Nat → Bool} {Z : Nat → Int} : ∀ {m : Nat}, (gnE n G Z m == 0) = false → ∃ t, t < m ∧ (∀ j, j < t → goE n G Z j = 0) ∧ (goE n G Z t == 0) = false ∧ gnE n G Z m = goE n G Z t
  | 0, h => by cases h
  | m + 1, h => by
    cases h1 : gnE n G Z m == 0
    · obtain ⟨t, h2, h3, h4, h5⟩ := gnE_first h1
      refine ⟨t, by omega, h3, h4, ?_⟩
      unfold gnE; rw [h1]; exact h5
    · have e : gnE n G Z (m + 1) = goE n G Z m := by unfold gnE; rw [h1]; rfl
      rw [e] at h ⊢
      exact ⟨m, by omega, gnE_zero (by simpa using h1), h, rfl⟩
/-- The four ways of one that goes. -/
theorem goE_way (n : Nat) (G : Nat → Bool) (Z : Nat → Int) (i : Nat) :
    (inN n (Z i) = false ∧ goE n G Z i = 1) ∨ (inN n (Z i) = true ∧ G (Z i).toNat = true ∧ goE n G Z i = 6) ∨ (inN n (Z i) = true ∧ G (Z i).toNat = false ∧ dupB Z (Z i) i = true ∧ goE n G Z i = 7) ∨ (inN n (Z i) = true ∧ G (Z i).toNat = false ∧ dupB Z (Z i) i = false ∧ goE n G Z i = 0) := by
  unfold goE
  cases h1 : inN n (Z i) <;> cases h2 : G (Z i).toNat <;> cases h3 : dupB Z (Z i) i <;> simp
theorem goE_ok {n : Nat} {G : Nat → Bool} {Z : Nat → Int} {i : Nat} (h : goE n G Z i = 0) : inN n (Z i) = true ∧ G (Z i).toNat = false ∧ dupB Z (Z i) i = false := by
  rcases goE_way n G Z i with ⟨_, e⟩ | ⟨_, _, e⟩ | ⟨_, _, _, e⟩ | ⟨a, b, c, _⟩
  · rw [h] at e; cases e
  · rw [h] at e; cases e
  · rw [h] at e; cases e
  · exact ⟨a, b, c⟩

/-- A turned coin. -/
theorem neg_t4 (k : Nat) : negN (tM (4 * k)) = tM (4 * (1012 * k)) := by
  rw [neg_tM]
  refine tM_congr ?_
  omega
/-- Those that go, turned, together. -/
def nsN (K : Nat → Nat) (Z : Nat → Int) (m : Nat) : Nat := jsN (fun i => 1012 * K (Z i).toNat) m
theorem nsN_succ (K : Nat → Nat) (Z : Nat → Int) (m : Nat) : nsN K Z (m + 1) = nsN K Z m + 1012 * K (Z m).toNat := rfl
/-- The excess. -/
def exN (K : Nat → Nat) (Z : Nat → Int) (m : Nat) (J : Nat → Nat) (c : Nat) : Nat := nsN K Z m + jsN J c

/-- A flag set. -/
def setB (G : Nat → Bool) (j : Nat) : Nat → Bool := fun i => bif Nat.beq i j then true else G i
theorem setB_at (G : Nat → Bool) (j : Nat) : setB G j j = true := by unfold setB; rw [Nat.beq_refl]; rfl
theorem beq_ne {i j : Nat} (h : i ≠ j) : Nat.beq i j = false := by
  cases hb : Nat.beq i j with
  | false => rfl
  | true => exact absurd (Nat.eq_of_beq_eq_true hb) h
theorem setB_ne (G : Nat → Bool) {i j : Nat} (h : i ≠ j) : setB G j i = G i := by unfold setB; rw [beq_ne h]; rfl
/-- Flags of those that have gone. -/
def mkG (G : Nat → Bool) (Z : Nat → Int) : Nat → Nat → Bool
  | 0 => G
  | m + 1 => setB (mkG G Z m) (Z m).toNat
theorem mkG_no {G : Nat → Bool} {Z : Nat → Int} {j : Nat} : ∀ {m : Nat}, (∀ i, i < m → (Z i).toNat ≠ j) → mkG G Z m j = G j
  | 0, _ => rfl
  | m + 1, h => by
    show setB (mkG G Z m) (Z m).toNat j = G j
    rw [setB_ne _ (fun e => h m (by omega) e.symm), mkG_no fun i hi => h i (by omega)]
/-- A row with others behind it. -/
def appN {α : Type} (K : Nat → α) (n : Nat) (J : Nat → α) : Nat → Nat → α
  | 0 => K
  | c + 1 => fun i => bif Nat.beq i (n + c) then J c else appN K n J c i
theorem appN_lt {α : Type} (K : Nat → α) {n : Nat} (J : Nat → α) {i : Nat} (h : i < n) : ∀ c, appN K n J c i = K i
  | 0 => rfl
  | c + 1 => by
    show (bif Nat.beq i (n + c) then J c else appN K n J c i) = K i
    rw [beq_ne (by omega), cond_false, appN_lt K J h c]
theorem appN_ge {α : Type} (K : Nat → α) (n : Nat) (J : Nat → α) {k : Nat} : ∀ {c : Nat}, k < c → appN K n J c (n + k) = J k
  | 0, h => absurd h (Nat.not_lt_zero _)
  | c + 1, h => by
    show (bif Nat.beq (n + k) (n + c) then J c else appN K n J c (n + k)) = J k
    by_cases e : k = c
    · subst e; rw [Nat.beq_refl]; rfl
    · rw [beq_ne (by omega), cond_false]
      exact appN_ge K n J (by omega)
theorem appN_at {α : Type} (K : Nat → α) (n : Nat) (J : Nat → α) (c : Nat) : appN K n J (c + 1) (n + c) = J c := appN_ge K n J (by omega)
theorem appN_step {α : Type} (K : Nat → α) (n : Nat) (J : Nat → α) (c : Nat) {i : Nat} (h : i < n + c) : appN K n J (c + 1) i = appN K n J c i := by
  show (bif Nat.beq i (n + c) then J c else appN K n J c i) = _
  rw [beq_ne (by omega)]; rfl

/-- Those that are live. -/
def lvL (G : Nat → Bool) : Nat → List Nat
  | 0 => []
  | n + 1 => bif G n then lvL G n else lvL G n ++ [n]
theorem lvL_gone {G : Nat → Bool} {n : Nat} (h : G n = true) : lvL G (n + 1) = lvL G n := by show (bif G n then _ else _) = _; rw [h]; rfl
theorem lvL_live {G : Nat → Bool} {n : Nat} (h : G n = false) : lvL G (n + 1) = lvL G n ++ [n] := by show (bif G n then _ else _) = _; rw [h]; rfl
theorem lvL_len (G : Nat → Bool) : ∀ n, (lvL G n).length ≤ n
  | 0 => Nat.le_refl _
  | n + 1 => by
    have := lvL_len G n
    cases h : G n
    · rw [lvL_live h]; simp; omega
    · rw [lvL_gone h]; omega
theorem lvL_congr {G H : Nat → Bool} : ∀ {n : Nat}, (∀ i, i < n → G i = H i) → lvL G n = lvL H n
  | 0, _ => rfl
  | n + 1, h => by
    have ih := lvL_congr (n := n) fun i hi => h i (by omega)
    have e := h n (by omega)
    cases k : G n
    · rw [lvL_live k, lvL_live (by rw [← e]; exact k), ih]
    · rw [lvL_gone k, lvL_gone (by rw [← e]; exact k), ih]
/-- Their total. -/
def ttN (K : Nat → Nat) (G : Nat → Bool) : Nat → Nat
  | 0 => 0
  | n + 1 => bif G n then ttN K G n else ttN K G n + K n
theorem ttN_gone {K : Nat → Nat} {G : Nat → Bool} {n : Nat} (h : G n = true) : ttN K G (n + 1) = ttN K G n := by show (bif G n then _ else _) = _; rw [h]; rfl
theorem ttN_live {K : Nat → Nat} {G : Nat → Bool} {n : Nat} (h : G n = false) : ttN K G (n + 1) = ttN K G n + K n := by show (bif G n then _ else _) = _; rw [h]; rfl
theorem ttN_congr {K J : Nat → Nat} {G H : Nat → Bool} : ∀ {n : Nat}, (∀ i, i < n → G i = H i ∧ K i = J i) → ttN K G n = ttN J H n
  | 0, _ => rfl
  | n + 1, h => by
    have ih := ttN_congr (n := n) fun i hi => h i (by omega)
    obtain ⟨e, f⟩ := h n (by omega)
    cases k : G n
    · rw [ttN_live k, ttN_live (by rw [← e]; exact k), ih, f]
    · rw [ttN_gone k, ttN_gone (by rw [← e]; exact k), ih]
/-- One of them gone. -/
theorem tt_set {K : Nat → Nat} {G : Nat → Bool} {z : Nat} (hG : G z = false) : ∀ {n : Nat}, z < n → ttN K (setB G z) n + K z = ttN K G n ∧ (lvL (setB G z) n).length + 1 = (lvL G n).length
  | 0, h => absurd h (Nat.not_lt_zero _)
  | n + 1, h => by
    by_cases e : z = n
    · subst e
      rw [ttN_gone (setB_at G z), ttN_live hG, lvL_gone (setB_at G z), lvL_live hG]
      rw [ttN_congr (K := K) (J := K) (G := setB G z) (H := G) fun i hi => ⟨setB_ne G (by omega), rfl⟩, lvL_congr (G := setB G z) (H := G) fun i hi => setB_ne G (by omega)]
      exact ⟨rfl, by simp⟩
    · obtain ⟨a, b⟩ := tt_set (K := K) hG (show z < n by omega)
      have s := setB_ne G (i := n) (j := z) (fun x => e x.symm)
      cases k : G n
      · rw [ttN_live k, ttN_live (by rw [s]; exact k), lvL_live k, lvL_live (by rw [s]; exact k)]
        simp only [List.length_append, List.length_singleton]
        omega
      · rw [ttN_gone k, ttN_gone (by rw [s]; exact k), lvL_gone k, lvL_gone (by rw [s]; exact k)]
        omega
/-- Those of a deal gone. -/
theorem tt_mark {K : Nat → Nat} {G : Nat → Bool} {Z : Nat → Int} {n : Nat} : ∀ {m : Nat}, (∀ i, i < m → goE n G Z i = 0) → (ttN K (mkG G Z m) n) % 1013 = (ttN K G n + nsN K Z m) % 1013 ∧ (lvL (mkG G Z m) n).length + m = (lvL G n).length
  | 0, _ => ⟨rfl, rfl⟩
  | m + 1, h => by
    obtain ⟨a, b⟩ := tt_mark (K := K) (m := m) fun i hi => h i (by omega)
    obtain ⟨h1, h2, h3⟩ := goE_ok (h m (by omega))
    obtain ⟨h4, h5⟩ := inN_yes h1
    have h6 : mkG G Z m (Z m).toNat = false := by
      rw [mkG_no fun i hi e => ?_]
      · exact h2
      · have h7 := dupB_no h3 i hi
        obtain ⟨h8, _, _⟩ := goE_ok (h i (by omega))
        obtain ⟨h9, _⟩ := inN_yes h8
        exact h7 (by omega)
    obtain ⟨c, d⟩ := tt_set (K := K) h6 (n := n) (show (Z m).toNat < n by omega)
    have e1 : ttN K (mkG G Z (m + 1)) n + K (Z m).toNat = ttN K (mkG G Z m) n := c
    have e2 : (lvL (mkG G Z (m + 1)) n).length + 1 = (lvL (mkG G Z m) n).length := d
    rw [nsN_succ]
    constructor
    · omega
    · omega
/-- Those of a deal come. -/
theorem tt_app {K J : Nat → Nat} {G : Nat → Bool} {n : Nat} : ∀ {c : Nat}, ttN (appN K n J c) (appN G n (fun _ => false) c) (n + c) = ttN K G n + jsN J c ∧ (lvL (appN G n (fun _ => false) c) (n + c)).length = (lvL G n).length + c
  | 0 => ⟨rfl, rfl⟩
  | c + 1 => by
    obtain ⟨a, b⟩ := tt_app (K := K) (J := J) (G := G) (n := n) (c := c)
    have g : appN G n (fun _ => false) (c + 1) (n + c) = false := appN_at G n (fun _ => false) c
    rw [show n + (c + 1) = (n + c) + 1 by omega, ttN_live g, lvL_live g, appN_at]
    rw [ttN_congr (K := appN K n J (c + 1)) (J := appN K n J c) (G := appN G n (fun _ => false) (c + 1)) (H := appN G n (fun _ => false) c) fun i hi => ⟨appN_step _ _ _ _ hi, appN_step _ _ _ _ hi⟩, lvL_congr (G := appN G n (fun _ => false) (c + 1)) (H := appN G n (fun _ => false) c) fun i hi => appN_step _ _ _ _ hi, a]
    refine ⟨?_, ?_⟩
    · show _ = ttN K G n + (jsN J c + J c); omega
    · simp only [List.length_append, List.length_singleton]; omega
/-- What a deal leaves. -/
theorem tt_deal {K J : Nat → Nat} {G : Nat → Bool} {Z : Nat → Int} {n m c : Nat} (h : ∀ i, i < m → goE n G Z i = 0) :
    tM (4 * ttN (appN K n J c) (appN (mkG G Z m) n (fun _ => false) c) (n + c)) = tM (4 * ttN K G n + 4 * exN K Z m J c) ∧ (lvL (appN (mkG G Z m) n (fun _ => false) c) (n + c)).length + m = (lvL G n).length + c := by
  obtain ⟨a, b⟩ := tt_mark (K := K) h
  obtain ⟨d, e⟩ := tt_app (K := K) (J := J) (G := mkG G Z m) (n := n) (c := c)
  refine ⟨?_, by omega⟩
  rw [d, ← Nat.mul_add]
  refine t4_congr ?_
  unfold exN
  omega

/-- Two in a row. -/
def twoR {α : Type} (a b : α) (i : Nat) : α := bif Nat.beq i 0 then a else b
theorem two_0 {α : Type} (a b : α) : twoR a b 0 = a := rfl
theorem two_1 {α : Type} (a b : α) : twoR a b 1 = b := rfl
theorem lt_two {i : Nat} (h : i < 2) : i = 0 ∨ i = 1 := by omega
/-- The challenge of two spots. -/
def baN (a b : Nat) : Nat := longN (lsB (twoR a b) 2) % 1013
theorem baN_lt (a b : Nat) : baN a b < 1013 := Nat.mod_lt _ (by omega)
theorem baI (a b : Nat) : ((longN (lsB (twoR a b) 2) : Nat) : Int) % 1013 = (baN a b : Int) := by unfold baN; omega
theorem ba_congr {a b a' b' : Nat} (h1 : tM a = tM a') (h2 : tM b = tM b') : baN a b = baN a' b' := by
  unfold baN lsB lsL
  rw [rowL_congr (K := twoR a b) (J := twoR a' b') fun i hi => ?_]
  rcases lt_two hi with rfl | rfl
  · exact h1
  · exact h2
end Go.Proofs.Ytmijjjdedadklaj
