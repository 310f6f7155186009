/- Lines and words as the library cuts them, against the session's own. Apart from the program. -/
import Derived.Test.YtgngdabfmbipaakGreatDoorKRunNum
import Derived.Lib.Split
import Derived.Lib.CutLaws
namespace Go.Proofs.YtgngdabfmbipaakGreatDoor
set_option linter.unusedVariables false
set_option linter.unusedSimpArgs false

theorem occ_one (l : List UInt8) (c : UInt8) (i : Nat) : Lib.occAt l [c] i = true ↔ l[i]? = some c := by
  unfold Lib.occAt
  rw [← List.head?_drop]
  cases l.drop i with
  | nil => simp
  | cons a r =>
    simp only [List.isPrefixOf, List.head?_cons, Option.some.injEq, Bool.and_true, beq_iff_eq]
    exact eq_comm
theorem byte_same {s : ByteArray} {c : UInt8} {i : Nat} (h : i < s.size) : s.data.toList[i]? = some c ↔ byN s i = c.toNat := by
  rw [byte_at h]
  constructor
  · intro e
    injection e with e
    rw [← e, byN_at h, UInt8.ofNat_toNat]
  · intro e
    rw [e, UInt8.ofNat_toNat]
theorem ba_part {s : ByteArray} {c : UInt8} {i : Nat} (h : s.data.toList[i]? = some c) : s = s.extract 0 i ++ ⟨#[c]⟩ ++ s.extract (i + 1) s.size := by
  apply ByteArray.ext
  apply Array.ext'
  have hl : s.data.toList.length = s.size := Array.length_toList
  obtain ⟨hi, he⟩ := List.getElem?_eq_some_iff.1 h
  simp only [ByteArray.data_append, ByteArray.data_extract, Array.toList_append, Array.toList_extract, List.extract_eq_take_drop, List.drop_zero, Nat.sub_zero]
  rw [List.take_of_length_le (l := List.drop (i + 1) s.data.toList) (by rw [List.length_drop]; omega)]
  show _ = List.take i s.data.toList ++ [c] ++ List.drop (i + 1) s.data.toList
  rw [List.append_assoc, List.singleton_append, ← he, ← List.drop_eq_getElem_cons hi, List.take_append_drop]
/-- A text has none of a byte, or it is what is ahead of the first one, it, and what is behind: and so the library cuts it. -/
theorem cut_cases (c : UInt8) (s : ByteArray) :
    (NoB s c.toNat ∧ Lib.indexB s ⟨#[c]⟩ = -1 ∧ (⟨(Lib.cut s.data.toList [c]).1.toArray⟩ : ByteArray) = s ∧ (⟨(Lib.cut s.data.toList [c]).2.1.toArray⟩ : ByteArray) = ⟨#[]⟩ ∧ (Lib.cut s.data.toList [c]).2.2 = false) ∨
    ∃ u v, s = u ++ ⟨#[c]⟩ ++ v ∧ NoB u c.toNat ∧ Lib.indexB s ⟨#[c]⟩ = u.size ∧ s.extract 0 u.size = u ∧ s.extract (u.size + 1) s.size = v ∧ (⟨(Lib.cut s.data.toList [c]).1.toArray⟩ : ByteArray) = u ∧ (⟨(Lib.cut s.data.toList [c]).2.1.toArray⟩ : ByteArray) = v ∧ (Lib.cut s.data.toList [c]).2.2 = true := by
  have hl : s.data.toList.length = s.size := Array.length_toList
  rcases Lib.index_spec s.data.toList [c] with ⟨h1, h2⟩ | ⟨i, h1, h2, h3, h4⟩
  · refine Or.inl ⟨fun i hi e => ?_, h1, ?_⟩
    · have := (occ_one s.data.toList c i).2 ((byte_same hi).2 e)
      rw [h2 i (by omega)] at this
      cases this
    · exact Lib.cutB_miss s ⟨#[c]⟩ h1
  · have hc := (occ_one _ _ _).1 h3
    have hi : i < s.size := by
      obtain ⟨hi, _⟩ := List.getElem?_eq_some_iff.1 hc
      omega
    have hu : (s.extract 0 i).size = i := size_extract (by omega)
    obtain ⟨a1, a2, a3⟩ := Lib.cutB_hit s ⟨#[c]⟩ i h1
    refine Or.inr ⟨s.extract 0 i, s.extract (i + 1) s.size, ba_part hc, fun j hj e => ?_, by rw [hu]; exact h1, by rw [hu], by rw [hu], a1, a2, a3⟩
    have hj' : j < i := by omega
    rw [at_extract (by omega) hj'] at e
    have := (occ_one s.data.toList c j).2 ((byte_same (by omega)).2 e)
    rw [h4 j hj'] at this
    cases this
/-- The first line, and what is behind it. -/
theorem cut_lines {s : ByteArray} (h : 0 < s.size) : ∃ u v, (⟨(Lib.cut s.data.toList [10]).1.toArray⟩ : ByteArray) = u ∧ (⟨(Lib.cut s.data.toList [10]).2.1.toArray⟩ : ByteArray) = v ∧ linesB s = u :: linesB v ∧ v.size < s.size ∧ u.size ≤ s.size := by
  rcases cut_cases 10 s with ⟨h1, _, h2, h3, _⟩ | ⟨u, v, e, hu, _, _, _, h2, h3, _⟩
  · refine ⟨s, ⟨#[]⟩, h2, h3, ?_, h, Nat.le_refl _⟩
    have e1 : linesB s = [s] := by
      have h1' : NoB s 10 := h1
      unfold linesB
      rw [cut_clean (n := s.size) h1' (Nat.le_refl _), decide_eq_true h, cond_true]
      exact cutB_none h1
    rw [e1]
    rfl
  · have hs : s.size = u.size + 1 + v.size := by rw [e, ByteArray.size_append, ByteArray.size_append]; rfl
    exact ⟨u, v, h2, h3, by rw [e]; exact lines_step hu, by omega, by omega⟩
/-- The first word. -/
theorem cut_word (s : ByteArray) : (⟨(Lib.cut s.data.toList [32]).1.toArray⟩ : ByteArray) = wordA s := by
  rcases cut_cases 32 s with ⟨h1, _, h2, _⟩ | ⟨u, v, e, hu, _, _, _, h2, _⟩
  · rw [h2]; exact (word_one h1).1.symm
  · rw [h2, e]; exact (word_two hu).1.symm
/-- A text cut at its first blanks, at so many at most. -/
def splitW : Nat → ByteArray → List ByteArray
  | 0, s => [s]
  | k + 1, s => bif wordM s then wordA s :: splitW k (wordR s) else [s]
theorem wordR_less {s : ByteArray} (h : wordM s = true) : (wordR s).size + 1 ≤ s.size := by
  unfold wordR
  rw [h, cond_true, ByteArray.size_extract]
  have : blankB s < s.size := of_decide_eq_true h
  omega
theorem wordM_zero {s : ByteArray} (h : s.size = 0) : wordM s = false := by
  unfold wordM
  rw [h]
  exact decide_eq_false (Nat.not_lt_zero _)
theorem split_words : ∀ (k : Nat) (s : ByteArray), Lib.splitB ⟨#[32]⟩ 0 k s = splitW k s
  | 0, s => rfl
  | k + 1, s => by
    rcases cut_cases 32 s with ⟨h1, h2, _⟩ | ⟨u, v, e, hu, h2, h3, h4, _⟩
    · rw [Lib.splitB_miss _ _ _ _ h2]
      show _ = bif wordM s then _ else _
      rw [(word_one h1).2.2]
      rfl
    · rw [Lib.splitB_hit _ _ _ _ _ h2, Nat.add_zero, h3]
      show u :: Lib.splitB ⟨#[32]⟩ 0 k (s.extract (u.size + 1) s.size) = bif wordM s then wordA s :: splitW k (wordR s) else [s]
      obtain ⟨w1, w2, w3⟩ := word_two (v := v) hu
      rw [h4, split_words k v, e, w1, w2, w3]
      rfl
theorem split_min : ∀ (k : Nat) (s : ByteArray), splitW (min k s.size) s = splitW k s
  | 0, s => by rw [Nat.zero_min]
  | k + 1, s => by
    by_cases h0 : s.size = 0
    · rw [h0, Nat.min_zero]
      show [s] = bif wordM s then _ else _
      rw [wordM_zero h0]
      rfl
    · obtain ⟨m, hm⟩ : ∃ m, s.size = m + 1 := ⟨s.size - 1, by omega⟩
      rw [hm, Nat.succ_min_succ]
      show (bif wordM s then wordA s :: splitW (min k m) (wordR s) else [s]) = bif wordM s then wordA s :: splitW k (wordR s) else [s]
      cases hw : wordM s with
      | false => rfl
      | true =>
        have h1 := wordR_less hw
        have h2 := split_min k (wordR s)
        have h3 := split_min (min k m) (wordR s)
        rw [show min (min k m) (wordR s).size = min k (wordR s).size by omega, h2] at h3
        rw [h3]
theorem split_n (n : Nat) (hn : 1 ≤ n) (s : ByteArray) : Lib.splitB ⟨#[32]⟩ 0 (min n (s.size + 1) - 1) s = splitW (n - 1) s := by
  rw [split_words, show min n (s.size + 1) - 1 = min (n - 1) s.size by omega, split_min]
theorem splitW_len : ∀ (k : Nat) (s : ByteArray), 1 ≤ (splitW k s).length ∧ (splitW k s).length ≤ k + 1
  | 0, s => ⟨Nat.le_refl _, Nat.le_refl _⟩
  | k + 1, s => by
    have e : splitW (k + 1) s = bif wordM s then wordA s :: splitW k (wordR s) else [s] := rfl
    rw [e]
    cases wordM s with
    | true =>
      have := splitW_len k (wordR s)
      simp only [cond_true, List.length_cons]
      omega
    | false =>
      simp only [cond_false, List.length_cons, List.length_nil]
      omega
theorem splitW_size : ∀ (k : Nat) (s x : ByteArray), x ∈ splitW k s → x.size ≤ s.size
  | 0, s, x, h => by rw [List.mem_singleton.1 h]; exact Nat.le_refl _
  | k + 1, s, x, h => by
    have h' : x ∈ (bif wordM s then wordA s :: splitW k (wordR s) else [s]) := h
    cases hw : wordM s with
    | true =>
      rw [hw, cond_true] at h'
      rcases List.mem_cons.1 h' with e | e
      · rw [e]
        unfold wordA
        rw [hw, cond_true, ByteArray.size_extract]
        omega
      · have := splitW_size k _ _ e
        have := wordR_less hw
        omega
    | false =>
      rw [hw, cond_false] at h'
      rw [List.mem_singleton.1 h']
      exact Nat.le_refl _
/-- What is behind the first word, cut likewise. -/
def tailW (k : Nat) (m : Bool) (r : ByteArray) : List ByteArray := bif m then splitW k r else []
theorem splitW_tail (k : Nat) (s : ByteArray) : splitW (k + 1) s = wordA s :: tailW k (wordM s) (wordR s) := by
  show (bif wordM s then wordA s :: splitW k (wordR s) else [s]) = _
  unfold tailW
  cases hw : wordM s with
  | true => rfl
  | false =>
    unfold wordA
    rw [hw]
    rfl
/-- So many numbers out of these words, and the text behind them, if there is to be one. -/
def readN : Nat → Bool → List ByteArray → Option (List Nat × ByteArray)
  | 0, b, l => bif b then (match l with | [t] => some ([], t) | _ => none) else (match l with | [] => some ([], ⟨#[]⟩) | _ => none)
  | k + 1, b, l => match l with
    | [] => none
    | x :: l => match numB x with
      | none => none
      | some n => (readN k b l).map fun (q : List Nat × ByteArray) => (n :: q.1, q.2)
theorem read_text : ∀ (k : Nat) (r : ByteArray) (m : Bool), ((argsB k r m).bind fun (q : List Nat × ByteArray × Bool) => bif q.2.2 then some (q.1, q.2.1) else none) = readN k true (tailW k m r)
  | 0, r, m => by
    cases m with
    | true => rfl
    | false => rfl
  | k + 1, r, m => by
    cases m with
    | false => rfl
    | true =>
      show ((match numB (wordA r) with | none => none | some x => (argsB k (wordR r) (wordM r)).map fun (q : List Nat × ByteArray × Bool) => (x :: q.1, q.2.1, q.2.2)).bind _) = readN (k + 1) true (splitW (k + 1) r)
      rw [splitW_tail]
      show _ = (match numB (wordA r) with | none => none | some n => (readN k true (tailW k (wordM r) (wordR r))).map fun (q : List Nat × ByteArray) => (n :: q.1, q.2))
      cases numB (wordA r) with
      | none => rfl
      | some n =>
        dsimp only
        rw [← read_text k (wordR r) (wordM r)]
        cases argsB k (wordR r) (wordM r) with
        | none => rfl
        | some q =>
          obtain ⟨a, b, c⟩ := q
          cases c with
          | true => rfl
          | false => rfl
theorem read_num : ∀ (k : Nat) (r : ByteArray) (m : Bool), ((argsB (k + 1) r m).bind fun (q : List Nat × ByteArray × Bool) => bif q.2.2 then none else some (q.1, q.2.1)) = readN (k + 1) false (tailW k m r)
  | k, r, false => by
    show none = readN (k + 1) false []
    rfl
  | 0, r, true => by
    show ((match numB (wordA r) with | none => none | some x => (some (([] : List Nat), wordR r, wordM r)).map fun (q : List Nat × ByteArray × Bool) => (x :: q.1, q.2.1, q.2.2)).bind _) = readN 1 false [r]
    show _ = (match numB r with | none => none | some n => (some (([] : List Nat), (⟨#[]⟩ : ByteArray))).map fun (q : List Nat × ByteArray) => (n :: q.1, q.2))
    cases hw : wordM r with
    | false =>
      have e : wordA r = r := by unfold wordA; rw [hw]; rfl
      have e2 : wordR r = ⟨#[]⟩ := by unfold wordR; rw [hw]; rfl
      rw [e, e2]
      cases numB r with
      | none => rfl
      | some n => rfl
    | true =>
      have e : numB r = none := by
        cases hn : numB r with
        | none => rfl
        | some n => rw [(word_one (num_no hn)).2.2] at hw; cases hw
      rw [e]
      cases numB (wordA r) with
      | none => rfl
      | some n => rfl
  | k + 1, r, true => by
    show ((match numB (wordA r) with | none => none | some x => (argsB (k + 1) (wordR r) (wordM r)).map fun (q : List Nat × ByteArray × Bool) => (x :: q.1, q.2.1, q.2.2)).bind _) = readN (k + 2) false (splitW (k + 1) r)
    rw [splitW_tail]
    show _ = (match numB (wordA r) with | none => none | some n => (readN (k + 1) false (tailW k (wordM r) (wordR r))).map fun (q : List Nat × ByteArray) => (n :: q.1, q.2))
    cases numB (wordA r) with
    | none => rfl
    | some n =>
      dsimp only
      rw [← read_num k (wordR r) (wordM r)]
      cases argsB (k + 1) (wordR r) (wordM r) with
      | none => rfl
      | some q =>
        obtain ⟨a, b, c⟩ := q
        cases c with
        | true => rfl
        | false => rfl
end Go.Proofs.YtgngdabfmbipaakGreatDoor
