/- The answer to shares, as the plain reckoning has it (stoneref2.answer). -/
import Derived.Test.YtgngdabfmbipaakGreatDoorKRefRunD
import Derived.Test.YtgngdabfmbipaakGreatDoorKG19
namespace Go.Proofs.YtgngdabfmbipaakGreatDoor
open Go.RowKit Go.Sort
set_option linter.unusedVariables false
set_option linter.unusedSimpArgs false
def rv2 (a b : Int) : Nat → Int
  | 0 => a
  | _ => b
theorem rval_two (a b i : Nat) : vI (vlq (xq (rv2 (a : Int) (b : Int))) (zq (i : Int)) 2) = (((a + b * i) % 1013 : Nat) : Int) := by
  have h : vlq (xq (rv2 (a : Int) (b : Int))) (zq (i : Int)) 2 = zq (((a + b * i : Nat) : Int)) := by
    rw [Int.natCast_add, Int.natCast_mul, zq_add, zq_mul]
    show 0 + zq (a : Int) * pwq (zq (i : Int)) 0 + zq (b : Int) * pwq (zq (i : Int)) 1 = _
    simp only [pwq]
    grind
  rw [h, vI_zq]
  omega
theorem rv2_row {W : World} {d : Nat} {a b : Int} (h : At W d [.int .i64 a, .int .i64 b]) : RowI W d 0 2 (rv2 a b) := by
  obtain ⟨z, c0, c1, _⟩ := h.two
  refine ⟨z, fun i hi => ?_⟩
  rw [Nat.zero_add]
  match i, hi with
  | 0, _ => exact c0
  | 1, _ => exact c1
theorem shares_size (a b : Nat) : ∀ n, (sharesB a b n).size ≤ n * 101
  | 0 => Nat.le_refl _
  | n + 1 => by
    have h := shares_size a b n
    have h2 := digB_size ((a + b * (n + 1)) % 1013)
    have h3 := digB_size ((a + b * 1) % 1013)
    unfold sharesB
    cases Nat.beq n 0 with
    | true => rw [cond_true]; omega
    | false =>
      rw [cond_false, ByteArray.size_append, ByteArray.size_append]
      show _ + 1 + _ ≤ _
      omega
theorem shares_more (a b : Nat) {n : Nat} (h : n ≠ 0) : sharesB a b (n + 1) = sharesB a b n ++ ⟨#[32]⟩ ++ digB ((a + b * (n + 1)) % 1013) := by
  show (bif Nat.beq n 0 then _ else _) = _
  rw [beq_no h]; rfl
theorem rvalue_two (a b i : Nat) (ha : a < 1013) (hb : b < 1013) (hi : i < 1013) (W : World) (d : Nat) (h : At W d [.int .i64 (a : Int), .int .i64 (b : Int)]) : Calls Tryz.prog 62 #[.slice (some ⟨d, 0, none⟩) 2 2, .int .i64 (i : Int)] W fun e w' => e = .returned (.int .i64 (((a + b * i) % 1013 : Nat) : Int)) ∧ Below W.heap.size W w' := by
  have := rvalue_row d 0 2 2 (rv2 (a : Int) (b : Int)) (i : Int) W (by omega) (rv2_row h) (fun k hk => by
    match k, hk with
    | 0, _ => exact ⟨show (0 : Int) ≤ (a : Int) by omega, show (a : Int) < 1013 by omega⟩
    | 1, _ => exact ⟨show (0 : Int) ≤ (b : Int) by omega, show (b : Int) < 1013 by omega⟩) (by omega) (by omega)
  rwa [rval_two] at this
theorem rres_or {a : Nat} (h : resB (a : Int) = false) : decide (1013 ≤ a) = true := by
  have := of_decide_eq_false (p := 0 ≤ (a : Int) ∧ (a : Int) < 1013) h
  exact decide_eq_true (by omega)
theorem rres_no {a : Nat} (h : resB (a : Int) = true) : decide (1013 ≤ a) = false ∧ a < 1013 := by
  have := of_decide_eq_true (p := 0 ≤ (a : Int) ∧ (a : Int) < 1013) h
  exact ⟨decide_eq_false (by omega), by omega⟩
set_option maxRecDepth 100000 in
set_option maxHeartbeats 4000000 in
theorem rans_shares (a b c : Nat) (t : ByteArray) (w : World) (ha : a ≤ 9999) (hb : b ≤ 9999) (hc : c ≤ 9999) (ht : t.size ≤ 3000)  : Calls Tryz.prog 19 #[.string ⟨#[115, 104, 97, 114, 101, 115]⟩, .agg #[.int .i64 (a : Int), .int .i64 (b : Int), .int .i64 (c : Int)], .string t] w fun e w' => e = .returned (.string (ansB 6 a b c t)) ∧ Below w.heap.size w w' := by
  have A1 : Hid (∀ w, Calls Tryz.prog 49 #[.int .i64 (a : Int)] w fun e w' => e = .returned (.bool (secB (a : Int))) ∧ Below w.heap.size w w') := fun w => rsecret _ w
  have A2 : Hid (∀ w, Calls Tryz.prog 49 #[.int .i64 (b : Int)] w fun e w' => e = .returned (.bool (secB (b : Int))) ∧ Below w.heap.size w w') := fun w => rsecret _ w
  have A3 : Hid (∀ w, Calls Tryz.prog 50 #[.int .i64 (a : Int)] w fun e w' => e = .returned (.bool (resB (a : Int))) ∧ Below w.heap.size w w') := fun w => rrest _ w
  have A4 : Hid (∀ w, Calls Tryz.prog 50 #[.int .i64 (b : Int)] w fun e w' => e = .returned (.bool (resB (b : Int))) ∧ Below w.heap.size w w') := fun w => rrest _ w
  cases h1 : resB (a : Int) with
  | false =>
    rw [h1] at A3
    have HX : Hid (ansB 6 a b c t = rangeB) := by unfold Hid ansB; rw [rres_or h1]; rfl
    clear h1
    have m1 : True := trivial; have m2 : True := trivial; have m3 : True := trivial; have m4 : True := trivial; have m5 : True := trivial
    go_enter Tryz.func19, Tryz.ntmps19
    go_wp2_with (first | (go_at_call 49; clear m1; refine (A1.out _).mono ?_; rintro e w1 ⟨rfl, hbw1⟩; have knw1 : At w1 (w.heap.size) [.int .i64 (a : Int), .int .i64 (b : Int), .int .i64 (c : Int)] := (at_red); have hqw1 : Below w.heap.size w w1 := (below_by); have hzw1 := hqw1.size; obtain ⟨znw1, cn0w1, cn1w1, cn2w1, fn0w1, fn1w1, fn2w1⟩ := knw1.three; clear hbw1) | (go_at_call 49; clear m2; refine (A2.out _).mono ?_; rintro e w2 ⟨rfl, hbw2⟩; have knw2 : At w2 (w.heap.size) [.int .i64 (a : Int), .int .i64 (b : Int), .int .i64 (c : Int)] := (at_red); have hqw2 : Below w.heap.size w w2 := (below_by); have hzw2 := hqw2.size; obtain ⟨znw2, cn0w2, cn1w2, cn2w2, fn0w2, fn1w2, fn2w2⟩ := knw2.three; clear knw1 cn0w1 fn0w1 cn1w1 fn1w1 cn2w1 fn2w1 hqw1; clear hbw2) | (go_at_call 50; clear m3; refine (A3.out _).mono ?_; rintro e w3 ⟨rfl, hbw3⟩; have knw3 : At w3 (w.heap.size) [.int .i64 (a : Int), .int .i64 (b : Int), .int .i64 (c : Int)] := (at_red); have hqw3 : Below w.heap.size w w3 := (below_by); have hzw3 := hqw3.size; obtain ⟨znw3, cn0w3, cn1w3, cn2w3, fn0w3, fn1w3, fn2w3⟩ := knw3.three; clear knw2 cn0w2 fn0w2 cn1w2 fn1w2 cn2w2 fn2w2 hqw2; clear hbw3) | (go_at_call 50; clear m4; refine (A4.out _).mono ?_; rintro e w4 ⟨rfl, hbw4⟩; have knw4 : At w4 (w.heap.size) [.int .i64 (a : Int), .int .i64 (b : Int), .int .i64 (c : Int)] := (at_red); have hqw4 : Below w.heap.size w w4 := (below_by); have hzw4 := hqw4.size; obtain ⟨znw4, cn0w4, cn1w4, cn2w4, fn0w4, fn1w4, fn2w4⟩ := knw4.three; clear knw3 cn0w3 fn0w3 cn1w3 fn1w3 cn2w3 fn2w3 hqw3; clear hbw4) | (go_at_call 53; clear m5; refine (rname1 _).mono ?_; rintro e w5 ⟨rfl, hbw5⟩; have hqw5 : Below w.heap.size w w5 := (below_by); have hzw5 := hqw5.size; clear knw4 cn0w4 fn0w4 cn1w4 fn1w4 cn2w4 fn2w4 hqw4; clear hbw5))
    go_ret
    exact ⟨by rw [HX.out]; rfl, below_by⟩
  | true =>
  rw [h1] at A3
  obtain ⟨e1, a1⟩ := rres_no h1
  cases h2 : resB (b : Int) with
  | false =>
    rw [h2] at A4
    have HX : Hid (ansB 6 a b c t = rangeB) := by unfold Hid ansB; rw [rres_or h2, Bool.or_true]; rfl
    clear h1 h2 e1
    have m1 : True := trivial; have m2 : True := trivial; have m3 : True := trivial; have m4 : True := trivial; have m5 : True := trivial
    go_enter Tryz.func19, Tryz.ntmps19
    go_wp2_with (first | (go_at_call 49; clear m1; refine (A1.out _).mono ?_; rintro e w1 ⟨rfl, hbw1⟩; have knw1 : At w1 (w.heap.size) [.int .i64 (a : Int), .int .i64 (b : Int), .int .i64 (c : Int)] := (at_red); have hqw1 : Below w.heap.size w w1 := (below_by); have hzw1 := hqw1.size; obtain ⟨znw1, cn0w1, cn1w1, cn2w1, fn0w1, fn1w1, fn2w1⟩ := knw1.three; clear hbw1) | (go_at_call 49; clear m2; refine (A2.out _).mono ?_; rintro e w2 ⟨rfl, hbw2⟩; have knw2 : At w2 (w.heap.size) [.int .i64 (a : Int), .int .i64 (b : Int), .int .i64 (c : Int)] := (at_red); have hqw2 : Below w.heap.size w w2 := (below_by); have hzw2 := hqw2.size; obtain ⟨znw2, cn0w2, cn1w2, cn2w2, fn0w2, fn1w2, fn2w2⟩ := knw2.three; clear knw1 cn0w1 fn0w1 cn1w1 fn1w1 cn2w1 fn2w1 hqw1; clear hbw2) | (go_at_call 50; clear m3; refine (A3.out _).mono ?_; rintro e w3 ⟨rfl, hbw3⟩; have knw3 : At w3 (w.heap.size) [.int .i64 (a : Int), .int .i64 (b : Int), .int .i64 (c : Int)] := (at_red); have hqw3 : Below w.heap.size w w3 := (below_by); have hzw3 := hqw3.size; obtain ⟨znw3, cn0w3, cn1w3, cn2w3, fn0w3, fn1w3, fn2w3⟩ := knw3.three; clear knw2 cn0w2 fn0w2 cn1w2 fn1w2 cn2w2 fn2w2 hqw2; clear hbw3) | (go_at_call 50; clear m4; refine (A4.out _).mono ?_; rintro e w4 ⟨rfl, hbw4⟩; have knw4 : At w4 (w.heap.size) [.int .i64 (a : Int), .int .i64 (b : Int), .int .i64 (c : Int)] := (at_red); have hqw4 : Below w.heap.size w w4 := (below_by); have hzw4 := hqw4.size; obtain ⟨znw4, cn0w4, cn1w4, cn2w4, fn0w4, fn1w4, fn2w4⟩ := knw4.three; clear knw3 cn0w3 fn0w3 cn1w3 fn1w3 cn2w3 fn2w3 hqw3; clear hbw4) | (go_at_call 53; clear m5; refine (rname1 _).mono ?_; rintro e w5 ⟨rfl, hbw5⟩; have hqw5 : Below w.heap.size w w5 := (below_by); have hzw5 := hqw5.size; clear knw4 cn0w4 fn0w4 cn1w4 fn1w4 cn2w4 fn2w4 hqw4; clear hbw5))
    go_ret
    exact ⟨by rw [HX.out]; rfl, below_by⟩
  | true =>
  rw [h2] at A4
  obtain ⟨e2, b1⟩ := rres_no h2
  by_cases c0 : c = 0
  · have c1 : (c : Int) < 1 := by omega
    have HX : Hid (ansB 6 a b c t = rangeB) := by unfold Hid ansB; rw [c0, e1, e2]; rfl
    clear h1 h2 e1 e2 c0
    have m1 : True := trivial; have m2 : True := trivial; have m3 : True := trivial; have m4 : True := trivial; have m5 : True := trivial
    go_enter Tryz.func19, Tryz.ntmps19
    go_wp2_with (first | (go_at_call 49; clear m1; refine (A1.out _).mono ?_; rintro e w1 ⟨rfl, hbw1⟩; have knw1 : At w1 (w.heap.size) [.int .i64 (a : Int), .int .i64 (b : Int), .int .i64 (c : Int)] := (at_red); have hqw1 : Below w.heap.size w w1 := (below_by); have hzw1 := hqw1.size; obtain ⟨znw1, cn0w1, cn1w1, cn2w1, fn0w1, fn1w1, fn2w1⟩ := knw1.three; clear hbw1) | (go_at_call 49; clear m2; refine (A2.out _).mono ?_; rintro e w2 ⟨rfl, hbw2⟩; have knw2 : At w2 (w.heap.size) [.int .i64 (a : Int), .int .i64 (b : Int), .int .i64 (c : Int)] := (at_red); have hqw2 : Below w.heap.size w w2 := (below_by); have hzw2 := hqw2.size; obtain ⟨znw2, cn0w2, cn1w2, cn2w2, fn0w2, fn1w2, fn2w2⟩ := knw2.three; clear knw1 cn0w1 fn0w1 cn1w1 fn1w1 cn2w1 fn2w1 hqw1; clear hbw2) | (go_at_call 50; clear m3; refine (A3.out _).mono ?_; rintro e w3 ⟨rfl, hbw3⟩; have knw3 : At w3 (w.heap.size) [.int .i64 (a : Int), .int .i64 (b : Int), .int .i64 (c : Int)] := (at_red); have hqw3 : Below w.heap.size w w3 := (below_by); have hzw3 := hqw3.size; obtain ⟨znw3, cn0w3, cn1w3, cn2w3, fn0w3, fn1w3, fn2w3⟩ := knw3.three; clear knw2 cn0w2 fn0w2 cn1w2 fn1w2 cn2w2 fn2w2 hqw2; clear hbw3) | (go_at_call 50; clear m4; refine (A4.out _).mono ?_; rintro e w4 ⟨rfl, hbw4⟩; have knw4 : At w4 (w.heap.size) [.int .i64 (a : Int), .int .i64 (b : Int), .int .i64 (c : Int)] := (at_red); have hqw4 : Below w.heap.size w w4 := (below_by); have hzw4 := hqw4.size; obtain ⟨znw4, cn0w4, cn1w4, cn2w4, fn0w4, fn1w4, fn2w4⟩ := knw4.three; clear knw3 cn0w3 fn0w3 cn1w3 fn1w3 cn2w3 fn2w3 hqw3; clear hbw4) | (go_at_call 53; clear m5; refine (rname1 _).mono ?_; rintro e w5 ⟨rfl, hbw5⟩; have hqw5 : Below w.heap.size w w5 := (below_by); have hzw5 := hqw5.size; clear knw4 cn0w4 fn0w4 cn1w4 fn1w4 cn2w4 fn2w4 hqw4; clear hbw5))
    go_ret
    exact ⟨by rw [HX.out]; rfl, below_by⟩
  have c1 : ¬ (c : Int) < 1 := by omega
  by_cases c2 : 12 < c
  · have c3 : (c : Int) > 12 := by omega
    have HX : Hid (ansB 6 a b c t = rangeB) := by unfold Hid ansB; rw [decide_eq_true c2, Bool.or_true]; rfl
    clear h1 h2 e1 e2 c0
    have m1 : True := trivial; have m2 : True := trivial; have m3 : True := trivial; have m4 : True := trivial; have m5 : True := trivial
    go_enter Tryz.func19, Tryz.ntmps19
    go_wp2_with (first | (go_at_call 49; clear m1; refine (A1.out _).mono ?_; rintro e w1 ⟨rfl, hbw1⟩; have knw1 : At w1 (w.heap.size) [.int .i64 (a : Int), .int .i64 (b : Int), .int .i64 (c : Int)] := (at_red); have hqw1 : Below w.heap.size w w1 := (below_by); have hzw1 := hqw1.size; obtain ⟨znw1, cn0w1, cn1w1, cn2w1, fn0w1, fn1w1, fn2w1⟩ := knw1.three; clear hbw1) | (go_at_call 49; clear m2; refine (A2.out _).mono ?_; rintro e w2 ⟨rfl, hbw2⟩; have knw2 : At w2 (w.heap.size) [.int .i64 (a : Int), .int .i64 (b : Int), .int .i64 (c : Int)] := (at_red); have hqw2 : Below w.heap.size w w2 := (below_by); have hzw2 := hqw2.size; obtain ⟨znw2, cn0w2, cn1w2, cn2w2, fn0w2, fn1w2, fn2w2⟩ := knw2.three; clear knw1 cn0w1 fn0w1 cn1w1 fn1w1 cn2w1 fn2w1 hqw1; clear hbw2) | (go_at_call 50; clear m3; refine (A3.out _).mono ?_; rintro e w3 ⟨rfl, hbw3⟩; have knw3 : At w3 (w.heap.size) [.int .i64 (a : Int), .int .i64 (b : Int), .int .i64 (c : Int)] := (at_red); have hqw3 : Below w.heap.size w w3 := (below_by); have hzw3 := hqw3.size; obtain ⟨znw3, cn0w3, cn1w3, cn2w3, fn0w3, fn1w3, fn2w3⟩ := knw3.three; clear knw2 cn0w2 fn0w2 cn1w2 fn1w2 cn2w2 fn2w2 hqw2; clear hbw3) | (go_at_call 50; clear m4; refine (A4.out _).mono ?_; rintro e w4 ⟨rfl, hbw4⟩; have knw4 : At w4 (w.heap.size) [.int .i64 (a : Int), .int .i64 (b : Int), .int .i64 (c : Int)] := (at_red); have hqw4 : Below w.heap.size w w4 := (below_by); have hzw4 := hqw4.size; obtain ⟨znw4, cn0w4, cn1w4, cn2w4, fn0w4, fn1w4, fn2w4⟩ := knw4.three; clear knw3 cn0w3 fn0w3 cn1w3 fn1w3 cn2w3 fn2w3 hqw3; clear hbw4) | (go_at_call 53; clear m5; refine (rname1 _).mono ?_; rintro e w5 ⟨rfl, hbw5⟩; have hqw5 : Below w.heap.size w w5 := (below_by); have hzw5 := hqw5.size; clear knw4 cn0w4 fn0w4 cn1w4 fn1w4 cn2w4 fn2w4 hqw4; clear hbw5))
    go_ret
    exact ⟨by rw [HX.out]; rfl, below_by⟩
  have c3 : ¬ (c : Int) > 12 := by omega
  have HX : Hid (ansB 6 a b c t = sharesB a b c) := by unfold Hid ansB; rw [e1, e2, decide_eq_false c2, beq_no c0]; rfl
  clear h1 h2 e1 e2
  have m1 : True := trivial; have m2 : True := trivial; have m3 : True := trivial; have m4 : True := trivial; have m5 : True := trivial
  go_enter Tryz.func19, Tryz.ntmps19
  go_wp2_with (first | (go_at_call 49; clear m1; refine (A1.out _).mono ?_; rintro e w1 ⟨rfl, hbw1⟩; have knw1 : At w1 (w.heap.size) [.int .i64 (a : Int), .int .i64 (b : Int), .int .i64 (c : Int)] := (at_red); have hqw1 : Below w.heap.size w w1 := (below_by); have hzw1 := hqw1.size; obtain ⟨znw1, cn0w1, cn1w1, cn2w1, fn0w1, fn1w1, fn2w1⟩ := knw1.three; clear hbw1) | (go_at_call 49; clear m2; refine (A2.out _).mono ?_; rintro e w2 ⟨rfl, hbw2⟩; have knw2 : At w2 (w.heap.size) [.int .i64 (a : Int), .int .i64 (b : Int), .int .i64 (c : Int)] := (at_red); have hqw2 : Below w.heap.size w w2 := (below_by); have hzw2 := hqw2.size; obtain ⟨znw2, cn0w2, cn1w2, cn2w2, fn0w2, fn1w2, fn2w2⟩ := knw2.three; clear knw1 cn0w1 fn0w1 cn1w1 fn1w1 cn2w1 fn2w1 hqw1; clear hbw2) | (go_at_call 50; clear m3; refine (A3.out _).mono ?_; rintro e w3 ⟨rfl, hbw3⟩; have knw3 : At w3 (w.heap.size) [.int .i64 (a : Int), .int .i64 (b : Int), .int .i64 (c : Int)] := (at_red); have hqw3 : Below w.heap.size w w3 := (below_by); have hzw3 := hqw3.size; obtain ⟨znw3, cn0w3, cn1w3, cn2w3, fn0w3, fn1w3, fn2w3⟩ := knw3.three; clear knw2 cn0w2 fn0w2 cn1w2 fn1w2 cn2w2 fn2w2 hqw2; clear hbw3) | (go_at_call 50; clear m4; refine (A4.out _).mono ?_; rintro e w4 ⟨rfl, hbw4⟩; have knw4 : At w4 (w.heap.size) [.int .i64 (a : Int), .int .i64 (b : Int), .int .i64 (c : Int)] := (at_red); have hqw4 : Below w.heap.size w w4 := (below_by); have hzw4 := hqw4.size; obtain ⟨znw4, cn0w4, cn1w4, cn2w4, fn0w4, fn1w4, fn2w4⟩ := knw4.three; clear knw3 cn0w3 fn0w3 cn1w3 fn1w3 cn2w3 fn2w3 hqw3; clear hbw4))
  go_loopw [20, 21] (fun tq ti wl => ∃ i : Nat, 1 ≤ i ∧ i ≤ c + 1 ∧ ti = .int .i64 i ∧ tq = .string (sharesB a b (i - 1)) ∧ At wl (w.heap.size) [.int .i64 (a : Int), .int .i64 (b : Int), .int .i64 (c : Int)] ∧ Below w.heap.size w wl) (fun _ ti _ => c + 1 - (intOf ti).toNat)
  case atStart => exact ⟨1, by omega, by omega, rfl, rfl, at_red, below_by⟩
  case round =>
    clear knw4 cn0w4 fn0w4 cn1w4 fn1w4 cn2w4 fn2w4 hqw4
    obtain ⟨i, i1, ic, rfl, rfl, knV, hqV⟩ := hrel
    rename World => V
    have hzV := hqV.size
    obtain ⟨znV, cn0V, cn1V, cn2V, fn0V, fn1V, fn2V⟩ := knV.three
    have hsz := shares_size a b (i - 1)
    by_cases hlt : i ≤ c
    · have hlt' : (i : Int) ≤ (c : Int) := by omega
      obtain ⟨q, hq⟩ : ∃ q, (a + b * i) % 1013 = q := ⟨_, rfl⟩
      have q1 : q < 1013 := by rw [← hq]; exact Nat.mod_lt _ (by omega)
      have HV : Hid (∀ W d, At W d [.int .i64 (a : Int), .int .i64 (b : Int)] → Calls Tryz.prog 62 #[.slice (some ⟨d, 0, none⟩) 2 2, .int .i64 (i : Int)] W fun e w' => e = .returned (.int .i64 (q : Int)) ∧ Below W.heap.size W w') := fun W d h => by
        have := rvalue_two a b i a1 b1 (by omega) W d h
        rwa [hq] at this
      have s2 := digB_size q
      by_cases i2 : i = 1
      · have i3 : ¬ (i : Int) > 1 := by omega
        have HO : Hid (sharesB a b (i + 1 - 1) = sharesB a b (i - 1) ++ digB q) := by unfold Hid; rw [i2, ← hq, i2]; exact (ba_nil' _).symm
        generalize sharesB a b (i - 1) = O at *
        clear hq i2
        go_wp2_with (first | (go_at_call 62; refine (HV.out _ _ (at_red)).mono ?_; rintro e v1 ⟨rfl, hb1⟩; have knv1 : At v1 (w.heap.size) [.int .i64 (a : Int), .int .i64 (b : Int), .int .i64 (c : Int)] := (at_red); have hqv1 : Below w.heap.size w v1 := (below_by); have hzv1 := hqv1.size; clear hb1) | (go_at_call 11; refine (rdigits q _ (by omega)).mono ?_; rintro e v2 ⟨rfl, hb2⟩; have knv2 : At v2 (w.heap.size) [.int .i64 (a : Int), .int .i64 (b : Int), .int .i64 (c : Int)] := (at_red); have hqv2 : Below w.heap.size w v2 := (below_by); have hzv2 := hqv2.size; clear hb2))
        go_roundw
        case rel => exact ⟨i + 1, by omega, by omega, by simp, by rw [HO.out], at_red, below_by⟩
        case measure => simp [intOf]; omega
      · have i3 : (i : Int) > 1 := by omega
        have HO : Hid (sharesB a b (i + 1 - 1) = sharesB a b (i - 1) ++ ⟨#[32]⟩ ++ digB q) := by
          unfold Hid
          obtain ⟨n, rfl⟩ : ∃ n, i = n + 1 := ⟨i - 1, by omega⟩
          rw [← hq, show n + 1 + 1 - 1 = n + 1 by omega, show n + 1 - 1 = n by omega, shares_more a b (by omega)]
        generalize sharesB a b (i - 1) = O at *
        clear hq i2
        go_wp2_with (first | (go_at_call 62; refine (HV.out _ _ (at_red)).mono ?_; rintro e v1 ⟨rfl, hb1⟩; have knv1 : At v1 (w.heap.size) [.int .i64 (a : Int), .int .i64 (b : Int), .int .i64 (c : Int)] := (at_red); have hqv1 : Below w.heap.size w v1 := (below_by); have hzv1 := hqv1.size; clear hb1) | (go_at_call 11; refine (rdigits q _ (by omega)).mono ?_; rintro e v2 ⟨rfl, hb2⟩; have knv2 : At v2 (w.heap.size) [.int .i64 (a : Int), .int .i64 (b : Int), .int .i64 (c : Int)] := (at_red); have hqv2 : Below w.heap.size w v2 := (below_by); have hzv2 := hqv2.size; clear hb2))
        go_roundw
        case rel => exact ⟨i + 1, by omega, by omega, by simp, by rw [HO.out], at_red, below_by⟩
        case measure => simp [intOf]; omega
    · have hlt' : ¬ (i : Int) ≤ (c : Int) := by omega
      have HC : Hid (sharesB a b (i - 1) = sharesB a b c) := by unfold Hid; rw [show i - 1 = c by omega]
      go_wp2_with fail
      go_ret
      exact ⟨by rw [HX.out, ← HC.out]; rfl, below_by⟩
end Go.Proofs.YtgngdabfmbipaakGreatDoor
