/- Short seals of many: rows that a call has made itself, joined, and held against keys and texts at once; what is told of any spot held against a key and a text. -/
import Derived.Test.YtmmcgiielnfceaeShortEq
namespace Go.Proofs.Ytmmcgiielnfceae
open Go.RowKit Go.Sort
set_option linter.unusedVariables false
set_option linter.unusedSimpArgs false
theorem jsN_shift (K : Nat → Nat) : ∀ n, jsN K (n + 1) = K 0 + jsN (fun i => K (i + 1)) n
  | 0 => by show 0 + K 0 = K 0 + 0; omega
  | n + 1 => by
    show jsN K (n + 1) + K (n + 1) = K 0 + (jsN (fun i => K (i + 1)) n + K (n + 1))
    rw [jsN_shift K n]; omega
theorem prod_gI (U : Nat → Nat) : ∀ n, prodN (fun i => tp gI (U i)) n = tp gI (jsN U n)
  | 0 => rfl
  | n + 1 => by
    show tm (prodN (fun i => tp gI (U i)) n) (tp gI (U n)) = tp gI (jsN U n + U n)
    rw [prod_gI U n, tp_add]
theorem q_both {x y : Nat} (hx : x % 1013 ≠ 0) (hy : y % 1013 ≠ 0) : (x * y) % 1013 ≠ 0 := by
  obtain ⟨e, he⟩ := q_turn hx
  intro h
  have h1 : (x * y * e) % 1013 = 0 := by rw [Nat.mul_mod, h, Nat.zero_mul, Nat.zero_mod]
  rw [show x * y * e = x * e * y by ac_rfl, Nat.mul_mod, he, Nat.one_mul, Nat.mod_mod] at h1
  exact hy h1
theorem uN_ne (t : ByteArray) : uN t % 1013 ≠ 0 := by
  intro h
  have h1 := sp_near (longN t)
  rw [uN_is] at h1
  have h2 := (farI_iff (4 * uN t)).2 (by omega)
  rw [h2] at h1; cases h1
theorem ux_ne (t : ByteArray) {x : Nat} (x1 : 1 ≤ x) (x2 : x < 1013) : (uN t * x) % 1013 ≠ 0 := q_both (uN_ne t) (by omega)
theorem ux_f (t : ByteArray) {x : Nat} (x1 : 1 ≤ x) (x2 : x < 1013) : (tM (4 * (uN t * x))).2.2 = false := by
  have h := ux_ne t x1 x2
  rw [tM_f]
  cases hf : farI (4 * (uN t * x)) with
  | false => rfl
  | true => have := (farI_iff _).1 hf; omega
theorem join_own {W : World} {B q : Nat} {v : Value} {X Y : Nat → Int} {F : Nat → Bool} {U : Nat → Nat} (hq : q ≤ 12) (hK : ∀ i, i < q → X i = ((tM (4 * U i)).1 : Int) ∧ Y i = ((tM (4 * U i)).2.1 : Int) ∧ F i = (tM (4 * U i)).2.2) (h : W.ownsRow B 23 3 v q (cellsT X Y F q)) :
    Calls Try.prog 19 #[v] W fun e w' => e = .returned (.tuple #[.agg #[.int .i64 ((tM (4 * jsN U q)).1 : Int), .int .i64 ((tM (4 * jsN U q)).2.1 : Int), .bool (tM (4 * jsN U q)).2.2], .nilIface]) ∧ Below W.heap.size W w' := by
  obtain ⟨sa, c, rfl, h1⟩ := own_spots h
  rcases h1 with rfl | ⟨g, rfl, _, _, hr⟩
  · exact sjoin_nil sa c W
  · have := sjoin_row g 0 q c X Y F (fun i => 4 * U i) W hq hr (rowT_zero hK) hK
    rwa [jsN_four] at this
theorem join_tail {W : World} {g q c : Nat} {X Y : Nat → Int} {F : Nat → Bool} {U : Nat → Nat} (hq : q ≤ 12) (hK : ∀ i, i < q + 1 → X i = ((tM (4 * U i)).1 : Int) ∧ Y i = ((tM (4 * U i)).2.1 : Int) ∧ F i = (tM (4 * U i)).2.2) (hr : RowO W g 0 (q + 1) X Y F) :
    Calls Try.prog 19 #[.slice (some ⟨g, 3, none⟩) q c] W fun e w' => e = .returned (.tuple #[.agg #[.int .i64 ((tM (4 * jsN (fun i => U (i + 1)) q)).1 : Int), .int .i64 ((tM (4 * jsN (fun i => U (i + 1)) q)).2.1 : Int), .bool (tM (4 * jsN (fun i => U (i + 1)) q)).2.2], .nilIface]) ∧ Below W.heap.size W w' := by
  have hr' : RowO W g 3 q (fun i => X (i + 1)) (fun i => Y (i + 1)) (fun i => F (i + 1)) := by
    refine ⟨hr.1, fun i hi => ?_⟩
    have := hr.2 (i + 1) (by omega)
    rwa [show 0 + (i + 1) * 3 = 3 + i * 3 by omega] at this
  have hK' : ∀ i, i < q → (fun i => X (i + 1)) i = ((tM (4 * U (i + 1))).1 : Int) ∧ (fun i => Y (i + 1)) i = ((tM (4 * U (i + 1))).2.1 : Int) ∧ (fun i => F (i + 1)) i = (tM (4 * U (i + 1))).2.2 := fun i hi => hK (i + 1) (by omega)
  have := sjoin_row g 3 q c _ _ _ (fun i => 4 * U (i + 1)) W hq hr' (rowT_zero (K := fun i => 4 * U (i + 1)) hK') hK'
  rwa [jsN_four (fun i => U (i + 1))] at this
theorem all_own {W : World} {B1 B2 q : Nat} {kv lv : Value} {x : Nat → Nat} {T : Nat → ByteArray} (hq : q ≤ 12) (hk : W.ownsRow B1 23 3 kv q (cellsT (fun i => ((tM (4 * x i)).1 : Int)) (fun i => ((tM (4 * x i)).2.1 : Int)) (fun i => (tM (4 * x i)).2.2) q)) (hl : W.ownsRow B2 9 1 lv q (cellsZ T q)) (hT : ∀ i, i < q → (T i).size ≤ 60)
    {S : Nat} {t : Bool} (ht : decide (S % 1013 = jsN (fun i => uN (T i) * x i) q % 1013) = t) :
    Calls Try.prog 20 #[kv, lv, .agg #[.int .i64 ((tM (4 * S)).1 : Int), .int .i64 ((tM (4 * S)).2.1 : Int), .bool (tM (4 * S)).2.2]] W fun e w' => e = .returned (.tuple #[.bool t, .nilIface]) ∧ Below W.heap.size W w' := by
  obtain ⟨sa, c, rfl, h1⟩ := own_spots hk
  obtain ⟨sb, d, rfl, h2⟩ := own_texts hl
  have h2' : q = 0 ∨ ∃ b o : Nat, sb = some ⟨b, o, none⟩ ∧ RowZ W b o q T := h2.imp_right fun ⟨g, e, _, _, hz⟩ => ⟨g, 0, e, hz⟩
  have main := sall_ok sa sb q q c d T _ _ _ (tp gI S) (tp gI (jsN (fun i => uN (T i) * x i) q)) .nilIface .nilIface W rfl hq (Nat.le_refl _) h2' hT (fun i hi => by have := hT i hi; omega) (fun w => pair_g S w)
    (fun W' v hW hv => by
      obtain ⟨sm, cm, rfl, h3⟩ := own_spots hv
      rcases h3 with rfl | ⟨g, rfl, _, _, hrm⟩
      · exact prod_nil sm sa cm c W'
      · rcases h1 with rfl | ⟨g1, rfl, _, _, hrk⟩
        · exact prod_nil _ sa cm c W'
        · have := prod_row g 0 g1 0 q cm c q _ _ _ _ _ _ (fun j => tp gI (uN (T j) * x j)) 0 W' hq hrm (hrk.below hrk.1 hW) (Nat.le_refl _) (fun j hj w => pair_o (T j) (x j) w) _ (Or.inl ⟨rfl, rfl⟩)
          rwa [prod_gI (fun j => uN (T j) * x j)] at this) _ _ rfl rfl rfl rfl
  have hb : (((tp gI S).1 == (tp gI (jsN (fun i => uN (T i) * x i) q)).1) && ((tp gI S).2 == (tp gI (jsN (fun i => uN (T i) * x i) q)).2)) = t := by
    rw [← ht]
    by_cases h : S % 1013 = jsN (fun i => uN (T i) * x i) q % 1013
    · rw [(gI_iff _ _).2 h, decide_eq_true h]; simp
    · rw [decide_eq_false h]
      cases hc : (((tp gI S).1 == (tp gI (jsN (fun i => uN (T i) * x i) q)).1) && ((tp gI S).2 == (tp gI (jsN (fun i => uN (T i) * x i) q)).2)) with
      | false => rfl
      | true =>
        rw [Bool.and_eq_true, beq_iff_eq, beq_iff_eq] at hc
        exact absurd ((gI_iff _ _).1 (Prod.ext hc.1 hc.2)) h
  rwa [hb] at main
theorem tM_none : tM (4 * 0) = (0, 0, true) := by decide +kernel
theorem all_none {W : World} {B1 B2 : Nat} {kv lv : Value} {x : Nat → Nat} {T : Nat → ByteArray} (hk : W.ownsRow B1 23 3 kv 0 (cellsT (fun i => ((tM (4 * x i)).1 : Int)) (fun i => ((tM (4 * x i)).2.1 : Int)) (fun i => (tM (4 * x i)).2.2) 0)) (hl : W.ownsRow B2 9 1 lv 0 (cellsZ T 0)) :
    Calls Try.prog 20 #[kv, lv, .agg #[.int .i64 0, .int .i64 0, .bool true]] W fun e w' => e = .returned (.tuple #[.bool true, .nilIface]) ∧ Below W.heap.size W w' := by
  have h := all_own (S := 0) (t := true) (q := 0) (by omega) hk hl (fun i hi => absurd hi (Nat.not_lt_zero _)) (decide_eq_true rfl)
  rw [tM_none] at h
  exact h
/-- Seals of at least one, joined: right of all at once; without the first they are not. -/
theorem joined_all {W : World} {B1 B2 B3 q : Nat} {kv lv : Value} {g c : Nat} {x : Nat → Nat} {T : Nat → ByteArray} (h0 : ¬ q = 0) (hq : q ≤ 6) (hf : ∀ i, i < q → 1 ≤ x i ∧ x i < 1013 ∧ (T i).size ≤ 60) (hk : W.ownsRow B1 23 3 kv q (cellsT (fun i => ((tM (4 * x i)).1 : Int)) (fun i => ((tM (4 * x i)).2.1 : Int)) (fun i => (tM (4 * x i)).2.2) q)) (hl : W.ownsRow B2 9 1 lv q (cellsZ T q))
    (hs : W.ownsRow B3 23 3 (.slice (some ⟨g, 0, none⟩) q c) q (cellsT (fun i => ((tM (4 * (uN (T i) * x i))).1 : Int)) (fun i => ((tM (4 * (uN (T i) * x i))).2.1 : Int)) (fun _ => false) q)) (hr : RowO W g 0 q (fun i => ((tM (4 * (uN (T i) * x i))).1 : Int)) (fun i => ((tM (4 * (uN (T i) * x i))).2.1 : Int)) (fun _ => false)) :
    ∃ S R : Nat, (∀ W', Below W.heap.size W W' → Calls Try.prog 19 #[.slice (some ⟨g, 0, none⟩) q c] W' fun e w' => e = .returned (.tuple #[.agg #[.int .i64 ((tM (4 * S)).1 : Int), .int .i64 ((tM (4 * S)).2.1 : Int), .bool (tM (4 * S)).2.2], .nilIface]) ∧ Below W'.heap.size W' w') ∧
      (∀ W' d, Below W.heap.size W W' → Calls Try.prog 19 #[.slice (some ⟨g, 3, none⟩) (q - 1) d] W' fun e w' => e = .returned (.tuple #[.agg #[.int .i64 ((tM (4 * R)).1 : Int), .int .i64 ((tM (4 * R)).2.1 : Int), .bool (tM (4 * R)).2.2], .nilIface]) ∧ Below W'.heap.size W' w') ∧
      (∀ W', Below W.heap.size W W' → Calls Try.prog 20 #[kv, lv, .agg #[.int .i64 ((tM (4 * S)).1 : Int), .int .i64 ((tM (4 * S)).2.1 : Int), .bool (tM (4 * S)).2.2]] W' fun e w' => e = .returned (.tuple #[.bool true, .nilIface]) ∧ Below W'.heap.size W' w') ∧
      (∀ W', Below W.heap.size W W' → Calls Try.prog 20 #[kv, lv, .agg #[.int .i64 ((tM (4 * R)).1 : Int), .int .i64 ((tM (4 * R)).2.1 : Int), .bool (tM (4 * R)).2.2]] W' fun e w' => e = .returned (.tuple #[.bool false, .nilIface]) ∧ Below W'.heap.size W' w') ∧
      (∀ W' a d, q = 1 → Calls Try.prog 19 #[.slice a 0 d] W' fun e w' => e = .returned (.tuple #[.agg #[.int .i64 ((tM (4 * R)).1 : Int), .int .i64 ((tM (4 * R)).2.1 : Int), .bool (tM (4 * R)).2.2], .nilIface]) ∧ Below W'.heap.size W' w') := by
  obtain ⟨S, hS⟩ : ∃ S, jsN (fun i => uN (T i) * x i) q = S := ⟨_, rfl⟩
  obtain ⟨R, hR⟩ : ∃ R, jsN (fun i => uN (T (i + 1)) * x (i + 1)) (q - 1) = R := ⟨_, rfl⟩
  obtain ⟨p, rfl⟩ : ∃ p, q = p + 1 := ⟨q - 1, by omega⟩
  rw [Nat.add_sub_cancel] at hR
  have hSR : S = uN (T 0) * x 0 + R := by
    rw [← hS, ← hR]; exact jsN_shift (fun i => uN (T i) * x i) p
  have hne : ¬ R % 1013 = S % 1013 := by
    have := ux_ne (T 0) (hf 0 (by omega)).1 (hf 0 (by omega)).2.1
    omega
  have hK : ∀ i, i < p + 1 → (fun i => ((tM (4 * (uN (T i) * x i))).1 : Int)) i = ((tM (4 * (fun i => uN (T i) * x i) i)).1 : Int) ∧ (fun i => ((tM (4 * (uN (T i) * x i))).2.1 : Int)) i = ((tM (4 * (fun i => uN (T i) * x i) i)).2.1 : Int) ∧ (fun _ => false) i = (tM (4 * (fun i => uN (T i) * x i) i)).2.2 := fun i hi => ⟨rfl, rfl, (ux_f (T i) (hf i hi).1 (hf i hi).2.1).symm⟩
  refine ⟨S, R, fun W' hW => ?_, fun W' d hW => ?_, fun W' hW => ?_, fun W' hW => ?_, fun W' a d hq1 => ?_⟩
  · have := join_own (U := fun i => uN (T i) * x i) (by omega) hK (own_stay hs hW)
    rwa [hS] at this
  · have := join_tail (U := fun i => uN (T i) * x i) (c := d) (by omega) hK (hr.below hr.1 hW)
    rw [hR] at this
    exact this
  · exact all_own (by omega) (own_stay hk hW) (own_stay hl hW) (fun i hi => (hf i hi).2.2) (decide_eq_true (by rw [hS]))
  · exact all_own (by omega) (own_stay hk hW) (own_stay hl hW) (fun i hi => (hf i hi).2.2) (decide_eq_false (by rw [hS]; exact hne))
  · obtain rfl : p = 0 := by omega
    obtain rfl : R = 0 := hR.symm
    rw [tM_none]
    exact sjoin_nil a d W'
/-- What is told of any spot, held against a key and a text: a fault; or whether it is the seal. -/
theorem other_is (x2 y2 : Int) (f2 : Bool) (x : Nat) (t : ByteArray) (h1 : 1 ≤ x) (h2 : x < 1013) (ht : t.size ≤ 60) : ∃ (q : Bool) (v : Value), (∀ w, Calls Try.prog 17 #[.agg #[.int .i64 ((tM (4 * x)).1 : Int), .int .i64 ((tM (4 * x)).2.1 : Int), .bool (tM (4 * x)).2.2], .string t, .agg #[.int .i64 x2, .int .i64 y2, .bool f2]] w fun e w' => e = .returned (.tuple #[.bool q, v]) ∧ Below w.heap.size w w') ∧
    ((∃ c : Int, v = errOf c) ∨ (v = .nilIface ∧ ∃ t1 t2 : Bool, (x2 == ((tM (4 * (uN t * x))).1 : Int)) = t1 ∧ (y2 == ((tM (4 * (uN t * x))).2.1 : Int)) = t2 ∧ q = (t1 && t2 && !f2))) := by
  rcases pair_case x2 y2 ((tM 4).1 : Int) ((tM 4).2.1 : Int) f2 false with ⟨i, j, rfl, rfl, rfl, _⟩ | ⟨c, _, hc⟩
  · refine ⟨sameS (tM (4 * i)) (tM (4 * (uN t * x))), .nilIface, ?_, Or.inr ⟨rfl, _, _, rfl, rfl, ?_⟩⟩
    · intro w
      by_cases h : i % 1013 = (uN t * x) % 1013
      · rw [sameS_yes (t4_congr h)]; exact sverify_yes ht h w
      · rw [sameS_no (fun e => h ((t4_iff _ _).1 e))]; exact sverify_no ht h w
    · unfold sameS
      rw [ux_f t h1 h2]
      cases (tM (4 * i)).2.2 <;> simp
  · exact ⟨false, errOf c, fun w => sverify_by ht (fun w => psame_bad1 hc w) w, Or.inl ⟨c, rfl⟩⟩
end Go.Proofs.Ytmmcgiielnfceae
