/- What strconv writes and reads of numbers of at most four digits, against the session's own words. Apart from the program. -/
import Derived.Test.YtgngdabfmbipaakGreatDoorKG1
import Derived.Lib.ItoaNum
import Derived.Lib.AtoiAll
namespace Go.Proofs.YtgngdabfmbipaakGreatDoor
set_option linter.unusedVariables false
set_option linter.unusedSimpArgs false

theorem dec_dig : ∀ (f n : Nat), n < 10 ^ (f + 1) → digF f n = Lib.decDigits n
  | 0, n, h => by
    have h' : n < 10 := by simpa using h
    rw [digF_low h', Lib.decDigits, dif_pos h']
  | f + 1, n, h => by
    by_cases h' : n < 10
    · rw [digF_low h', Lib.decDigits, dif_pos h']
    · have h2 : n / 10 < 10 ^ (f + 1) := by
        rw [Nat.div_lt_iff_lt_mul (by omega), ← Nat.pow_succ]; exact h
      rw [digF_high h', Lib.decDigits, dif_neg h', dec_dig f _ h2]
theorem itoa_dig {n : Nat} (h : n < 1000000000000000000) : (⟨(Lib.itoa (n : Int)).toArray⟩ : ByteArray) = digB n := by
  unfold Lib.itoa digB
  rw [if_neg (by omega), dec_dig 20 n (Nat.lt_of_lt_of_le h (by decide))]
  rfl
set_option maxRecDepth 100000 in
theorem atoi_all : allLT (fun n => decide (Lib.atoiAll (digF 20 n) = .ok (n : Int))) 10000 = true := by decide +kernel
theorem atoi_dig {n : Nat} (h : n ≤ 9999) : Lib.atoiAll (digB n).data.toList = .ok (n : Int) :=
  of_decide_eq_true (allLT_spec atoi_all n (by omega))
theorem byte_at {s : ByteArray} {i : Nat} (h : i < s.size) : s.data.toList[i]? = some (UInt8.ofNat (byN s i)) := by
  rw [byN_at h, UInt8.ofNat_toNat, Array.getElem?_toList]
  have h' : i < s.data.size := h
  rw [Array.getElem?_eq_getElem h']
  rfl
theorem take_more {s : ByteArray} {i : Nat} (h : i < s.size) : s.data.toList.take (i + 1) = s.data.toList.take i ++ [UInt8.ofNat (byN s i)] := by
  rw [List.take_add_one, byte_at h]
  rfl
theorem num_step {s : ByteArray} {i n : Nat} (h : numS s (i + 1) = some n) : ∃ k, numS s i = some k ∧ 48 ≤ byN s i ∧ byN s i ≤ 57 ∧ n = k * 10 + byN s i - 48 := by
  unfold numS at h
  cases hk : numS s i with
  | none => rw [hk] at h; cases h
  | some k =>
    rw [hk] at h
    by_cases h1 : 48 ≤ byN s i
    · by_cases h2 : byN s i ≤ 57
      · simp only [decide_eq_true h1, decide_eq_true h2, Bool.and_self, cond_true] at h
        injection h with h
        exact ⟨k, rfl, h1, h2, h.symm⟩
      · simp only [decide_eq_true h1, decide_eq_false h2, Bool.and_false, cond_false] at h
        cases h
    · simp only [decide_eq_false h1, Bool.false_and, cond_false] at h
      cases h
theorem num_pref {s : ByteArray} : ∀ (i n : Nat), i + 1 ≤ s.size → (byN s 0 ≠ 48 ∨ i = 0) → numS s (i + 1) = some n →
    n < 10 ^ (i + 1) ∧ (byN s 0 ≠ 48 → 1 ≤ n) ∧ ∀ f, i ≤ f → digF f n = s.data.toList.take (i + 1)
  | 0, n, hi, h0, h => by
    obtain ⟨k, hk, h1, h2, hn⟩ := num_step h
    have hk0 : k = 0 := by
      have : some 0 = some k := hk
      injection this with this; exact this.symm
    subst hk0
    have hn' : n + 48 = byN s 0 := by omega
    refine ⟨by omega, fun h => by omega, fun f _ => ?_⟩
    rw [digF_low (by omega), take_more (by omega), ← hn', Nat.add_comm 48 n]
    rfl
  | i + 1, n, hi, h0, h => by
    obtain ⟨k, hk, h1, h2, hn⟩ := num_step h
    have h48 : byN s 0 ≠ 48 := h0.resolve_right (by omega)
    obtain ⟨a1, a2, a3⟩ := num_pref i k (by omega) (Or.inl h48) hk
    have hk1 := a2 h48
    have hp : 10 ^ (i + 1 + 1) = 10 ^ (i + 1) * 10 := Nat.pow_succ _ _
    refine ⟨by omega, fun _ => by omega, fun f hf => ?_⟩
    obtain ⟨g, rfl⟩ : ∃ g, f = g + 1 := ⟨f - 1, by omega⟩
    have e1 : n / 10 = k := by omega
    have e2 : 48 + n % 10 = byN s (i + 1) := by omega
    rw [digF_high (by omega), e1, e2, a3 g (by omega), take_more (show i + 1 < s.size by omega)]
/-- A word that is a number is what the number is written as. -/
theorem num_is {s : ByteArray} {n : Nat} (h : numB s = some n) : n ≤ 9999 ∧ s = digB n := by
  unfold numB at h
  by_cases h1 : s.size = 0
  · rw [h1] at h; cases h
  by_cases h2 : 4 < s.size
  · rw [decide_eq_true h2, Bool.or_true, Bool.true_or, cond_true] at h; cases h
  have e1 : Nat.beq s.size 0 = false := by
    cases hb : Nat.beq s.size 0 with
    | false => rfl
    | true => exact absurd (Nat.eq_of_beq_eq_true hb) h1
  rw [e1, decide_eq_false h2, Bool.false_or, Bool.false_or] at h
  obtain ⟨i, hi⟩ : ∃ i, s.size = i + 1 := ⟨s.size - 1, by omega⟩
  have h3 : byN s 0 ≠ 48 ∨ i = 0 := by
    by_cases e : byN s 0 = 48
    · by_cases e2 : 1 < s.size
      · rw [e, decide_eq_true e2] at h; cases h
      · exact Or.inr (by omega)
    · exact Or.inl e
  have h4 : numS s (i + 1) = some n := by
    rw [← hi]
    cases hb : (Nat.beq (byN s 0) 48 && decide (1 < s.size)) with
    | true => rw [hb] at h; cases h
    | false => rw [hb] at h; exact h
  obtain ⟨a1, a2, a3⟩ := num_pref i n (by omega) h3 h4
  have hp : 10 ^ (i + 1) ≤ 10 ^ 4 := Nat.pow_le_pow_right (by omega) (by omega)
  refine ⟨by omega, ?_⟩
  apply ByteArray.ext
  apply Array.ext'
  show s.data.toList = (digF 20 n).toArray.toList
  rw [a3 20 (by omega), List.take_of_length_le]
  show s.data.toList.length ≤ i + 1
  rw [Array.length_toList]
  exact Nat.le_of_eq hi
/-- A word is a number, written as it is written; or it is none, and none is written so. -/
theorem num_cases (s : ByteArray) : (∃ n, n ≤ 9999 ∧ s = digB n ∧ numB s = some n) ∨ (numB s = none ∧ ∀ n, n ≤ 9999 → s ≠ digB n) := by
  cases h : numB s with
  | some n => exact Or.inl ⟨n, (num_is h).1, (num_is h).2, rfl⟩
  | none => exact Or.inr ⟨rfl, fun n hn e => by rw [e, dig_num hn] at h; cases h⟩
/-- A number has no blank. -/
theorem num_no {s : ByteArray} {n : Nat} (h : numB s = some n) : NoB s 32 := by
  obtain ⟨h1, h2⟩ := num_is h
  rw [h2]
  exact dig_no32 h1
end Go.Proofs.YtgngdabfmbipaakGreatDoor
