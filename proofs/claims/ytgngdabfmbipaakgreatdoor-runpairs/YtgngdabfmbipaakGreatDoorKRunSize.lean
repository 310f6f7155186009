/- How long answers are; what package run is to answer. -/
import Derived.Test.YtgngdabfmbipaakGreatDoorKRefRunF
import Derived.Test.YtgngdabfmbipaakGreatDoorKRunLib
namespace Go.Proofs.YtgngdabfmbipaakGreatDoor
open Go.RowKit Go.Sort
set_option linter.unusedVariables false
set_option linter.unusedSimpArgs false
/-- What package run is to answer, where the listed variables lie as they are laid. -/
def RunIs : Prop := ∀ (t : ByteArray), t.size ≤ 9223372036854775807 → ∀ (a : Addr) (w : World), Lie a w → Calls Tryz.prog 6 #[.string t] w fun e w' => e = .returned (.string (runB lineB t)) ∧ Below w.heap.size w w'
theorem pair_size (a b : ByteArray) : (pairB a b).size = a.size + 1 + b.size := by
  unfold pairB
  rw [ByteArray.size_append, ByteArray.size_append]
  rfl
theorem told_size (p : Sn) : (toldB p).size ≤ 300 := by
  unfold toldB
  have := digB_size p.1
  have := digB_size p.2.1
  cases p.2.2 with
  | true => rw [cond_true]; decide
  | false => rw [cond_false, pair_size]; omega
theorem ans_size (k a b c : Nat) (t : ByteArray) : (ansB k a b c t).size ≤ 2000 := by
  have d : ∀ n, (digB n).size ≤ 100 := digB_size
  have p : ∀ m n, (pairB (digB m) (digB n)).size ≤ 300 := fun m n => by rw [pair_size]; have := d m; have := d n; omega
  have e1 : rangeB.size ≤ 2000 := by decide
  have e2 : fullB.size ≤ 2000 := by decide
  have e3 : noneB.size ≤ 2000 := by decide
  unfold ansB
  cases Nat.beq k 1 with
  | true => rw [cond_true]; exact Nat.le_trans (told_size _) (by omega)
  | false =>
  rw [cond_false]
  cases Nat.beq k 2 with
  | true =>
    rw [cond_true]
    cases decide (4051 ≤ a) with
    | true => exact e1
    | false =>
      rw [cond_false]
      cases rtOk (sqI (a : Int)) with
      | true => exact Nat.le_trans (p _ _) (by omega)
      | false => exact e3
  | false =>
  rw [cond_false]
  cases Nat.beq k 3 with
  | true => exact Nat.le_trans (d _) (by omega)
  | false =>
  rw [cond_false]
  cases Nat.beq k 4 with
  | true => exact Nat.le_trans (p _ _) (by omega)
  | false =>
  rw [cond_false]
  cases Nat.beq k 5 with
  | true =>
    rw [cond_true]
    generalize tM (4 * hdN a b) = P
    cases decide (1013 ≤ a) || decide (1013 ≤ b) with
    | true => exact e1
    | false => exact Nat.le_trans (told_size P) (by omega)
  | false =>
  rw [cond_false]
  cases Nat.beq k 6 with
  | true =>
    rw [cond_true]
    by_cases h : 12 < c
    · rw [decide_eq_true h, Bool.or_true]; exact e1
    · cases decide (1013 ≤ a) || decide (1013 ≤ b) || Nat.beq c 0 || decide (12 < c) with
      | true => exact e1
      | false => rw [cond_false]; have := shares_size a b c; have : c * 101 ≤ 12 * 101 := Nat.mul_le_mul_right _ (by omega); omega
  | false =>
  rw [cond_false]
  cases Nat.beq k 7 with
  | true => exact Nat.le_trans (d _) (by omega)
  | false =>
  rw [cond_false]
  cases Nat.beq k 8 with
  | true =>
    rw [cond_true]
    cases Nat.beq a 0 || decide (1013 ≤ a) with
    | true => exact e1
    | false =>
      rw [cond_false]
      cases decide (60 < t.size) with
      | true => exact e2
      | false => exact Nat.le_trans (told_size _) (by omega)
  | false =>
  rw [cond_false]
  cases Nat.beq a 0 || decide (1013 ≤ a) || Nat.beq b 0 || decide (1013 ≤ b) with
  | true => exact e1
  | false =>
  rw [cond_false]
  cases decide (60 < t.size) with
  | true => exact e2
  | false =>
    rw [cond_false, pair_size]
    have := p (tM (4 * b)).1 (tM (4 * b)).2.1
    have := d (sgN a b t)
    omega
theorem line_size (s : ByteArray) : (lineB s).size ≤ 2000 := by
  have e : badB.size ≤ 2000 := by decide
  unfold lineB
  cases Nat.beq (kindB (wordA s)) 0 with
  | true => exact e
  | false =>
    rw [cond_false]
    cases argsB (manyB (kindB (wordA s))) (wordR s) (wordM s) with
    | none => exact e
    | some q =>
      show ByteArray.size (bif q.2.2 == textB (kindB (wordA s)) then _ else _) ≤ 2000
      cases q.2.2 == textB (kindB (wordA s)) with
      | true => exact ans_size _ _ _ _ _
      | false => exact e
theorem out_size : ∀ l : List ByteArray, (outB lineB l).size ≤ l.length * 2001
  | [] => Nat.zero_le _
  | x :: l => by
    have := out_size l
    have := line_size x
    show (lineB x ++ ⟨#[10]⟩ ++ outB lineB l).size ≤ (l.length + 1) * 2001
    rw [ByteArray.size_append, ByteArray.size_append]
    show _ + 1 + _ ≤ _
    omega
end Go.Proofs.YtgngdabfmbipaakGreatDoor
