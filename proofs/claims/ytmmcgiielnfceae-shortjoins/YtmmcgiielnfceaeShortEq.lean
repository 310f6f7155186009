/- Package short in the words of numbers modulo 1013: which short seals are right; two joined. -/
import Derived.Test.YtmmcgiielnfceaeShort
import Derived.Test.YtmmcgiielnfceaeIdxMath
namespace Go.Proofs.Ytmmcgiielnfceae
open Go.RowKit Go.Sort
set_option linter.unusedVariables false
set_option linter.unusedSimpArgs false
theorem pair_g (i : Nat) (w : World) : Calls Try.prog 12 #[.agg #[.int .i64 ((tM (4 * i)).1 : Int), .int .i64 ((tM (4 * i)).2.1 : Int), .bool (tM (4 * i)).2.2], .agg #[.int .i64 ((tM 4).1 : Int), .int .i64 ((tM 4).2.1 : Int), .bool false]] w fun e w' => e = .returned (.tuple #[.agg #[.int .i64 (tp gI i).1, .int .i64 (tp gI i).2], .nilIface]) ∧ Below w.heap.size w w' := by
  have := pair_eq (i := i) (j := 1) (x := tp gI i) (by rw [Nat.mul_one]) w
  rwa [show (tM (4 * 1)).2.2 = false by rw [tM_f]; rfl] at this
theorem pair_o (t : ByteArray) (j : Nat) (w : World) : Calls Try.prog 12 #[.agg #[.int .i64 ((tM (4 * uN t)).1 : Int), .int .i64 ((tM (4 * uN t)).2.1 : Int), .bool false], .agg #[.int .i64 ((tM (4 * j)).1 : Int), .int .i64 ((tM (4 * j)).2.1 : Int), .bool (tM (4 * j)).2.2]] w fun e w' => e = .returned (.tuple #[.agg #[.int .i64 (tp gI (uN t * j)).1, .int .i64 (tp gI (uN t * j)).2], .nilIface]) ∧ Below w.heap.size w w' := by
  have := pair_eq (i := uN t) (j := j) rfl w
  rwa [uN_f] at this
theorem sverify_yes {i j : Nat} {t : ByteArray} (ht : t.size ≤ 60) (h : i % 1013 = (uN t * j) % 1013) (w : World) : Calls Try.prog 17 #[.agg #[.int .i64 ((tM (4 * j)).1 : Int), .int .i64 ((tM (4 * j)).2.1 : Int), .bool (tM (4 * j)).2.2], .string t, .agg #[.int .i64 ((tM (4 * i)).1 : Int), .int .i64 ((tM (4 * i)).2.1 : Int), .bool (tM (4 * i)).2.2]] w fun e w' => e = .returned (.tuple #[.bool true, .nilIface]) ∧ Below w.heap.size w w' := by
  have e := (gI_iff _ _).2 h
  exact sverify_by ht (fun w => psame_ok (t1 := true) (t2 := true) (fun w => pair_g i w) (fun w => pair_o t j w) (by rw [e]; simp) (by rw [e]; simp) w) w
theorem sverify_no {i j : Nat} {t : ByteArray} (ht : t.size ≤ 60) (h : i % 1013 ≠ (uN t * j) % 1013) (w : World) : Calls Try.prog 17 #[.agg #[.int .i64 ((tM (4 * j)).1 : Int), .int .i64 ((tM (4 * j)).2.1 : Int), .bool (tM (4 * j)).2.2], .string t, .agg #[.int .i64 ((tM (4 * i)).1 : Int), .int .i64 ((tM (4 * i)).2.1 : Int), .bool (tM (4 * i)).2.2]] w fun e w' => e = .returned (.tuple #[.bool false, .nilIface]) ∧ Below w.heap.size w w' := by
  have e : tp gI i ≠ tp gI (uN t * j) := fun e => h ((gI_iff _ _).1 e)
  have := fun w => sverify_by (v := .nilIface) ht (fun w => psame_ok (fun w => pair_g i w) (fun w => pair_o t j w) rfl rfl w) w
  have hb : (((tp gI i).1 == (tp gI (uN t * j)).1) && ((tp gI i).2 == (tp gI (uN t * j)).2)) = false := by
    cases hc : (((tp gI i).1 == (tp gI (uN t * j)).1) && ((tp gI i).2 == (tp gI (uN t * j)).2)) with
    | false => rfl
    | true =>
      rw [Bool.and_eq_true, beq_iff_eq, beq_iff_eq] at hc
      exact absurd (Prod.ext hc.1 hc.2) e
  have h2 := this w
  rwa [hb] at h2
theorem rowT_zero {X Y : Nat → Int} {F : Nat → Bool} {K : Nat → Nat} : ∀ {n : Nat}, (∀ i, i < n → X i = ((tM (K i)).1 : Int) ∧ Y i = ((tM (K i)).2.1 : Int) ∧ F i = (tM (K i)).2.2) → rowE X Y F n = 0
  | 0, _ => by unfold rowE; rfl
  | n + 1, h => by
    have e := rowT_zero (n := n) fun i hi => h i (by omega)
    obtain ⟨a, b, c⟩ := h n (by omega)
    unfold rowE
    rw [e, a, b, c, ck_tM]; rfl
theorem sjoin_two {w : World} {b c i j : Nat} {r : Sn} (e : tM (i + j) = r) (h : At w b [.int .i64 ((tM i).1 : Int), .int .i64 ((tM i).2.1 : Int), .bool (tM i).2.2, .int .i64 ((tM j).1 : Int), .int .i64 ((tM j).2.1 : Int), .bool (tM j).2.2]) : Calls Try.prog 19 #[.slice (some ⟨b, 0, none⟩) 2 c] w fun e w' => e = .returned (.tuple #[.agg #[.int .i64 ((r).1 : Int), .int .i64 ((r).2.1 : Int), .bool (r).2.2], .nilIface]) ∧ Below w.heap.size w w' := by
  have hr : RowO w b 0 2 (fun k => bif Nat.beq k 0 then ((tM i).1 : Int) else ((tM j).1 : Int)) (fun k => bif Nat.beq k 0 then ((tM i).2.1 : Int) else ((tM j).2.1 : Int)) (fun k => bif Nat.beq k 0 then (tM i).2.2 else (tM j).2.2) := by
    refine ⟨h.1, fun k hk => ?_⟩
    rcases k with _ | _ | k
    · exact ⟨h.2.1 0 (by simp), h.2.1 1 (by simp), h.2.1 2 (by simp)⟩
    · exact ⟨h.2.1 3 (by simp), h.2.1 4 (by simp), h.2.1 5 (by simp)⟩
    · omega
  have hK : ∀ k, k < 2 → (fun k => bif Nat.beq k 0 then ((tM i).1 : Int) else ((tM j).1 : Int)) k = ((tM ((fun k => bif Nat.beq k 0 then i else j) k)).1 : Int) ∧ (fun k => bif Nat.beq k 0 then ((tM i).2.1 : Int) else ((tM j).2.1 : Int)) k = ((tM ((fun k => bif Nat.beq k 0 then i else j) k)).2.1 : Int) ∧ (fun k => bif Nat.beq k 0 then (tM i).2.2 else (tM j).2.2) k = (tM ((fun k => bif Nat.beq k 0 then i else j) k)).2.2 := by
    intro k hk
    rcases k with _ | _ | k
    · exact ⟨rfl, rfl, rfl⟩
    · exact ⟨rfl, rfl, rfl⟩
    · omega
  have := sjoin_row b 0 2 c _ _ _ _ w (by omega) hr (rowT_zero hK) hK
  have e2 : jsN (fun k => bif Nat.beq k 0 then i else j) 2 = i + j := by show 0 + i + j = i + j; omega
  rwa [e2, e] at this
end Go.Proofs.Ytmmcgiielnfceae
