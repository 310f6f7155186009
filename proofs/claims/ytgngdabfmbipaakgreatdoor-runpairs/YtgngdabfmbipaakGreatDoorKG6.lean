/- What package times answers: so many times a spot (in the words of the group), its order, whether it counts, the base. -/
import Derived.Test.YtgngdabfmbipaakGreatDoorKG5
import Derived.Test.YtgngdabfmbipaakGreatDoorKG1
import Derived.Lib.BitFns
import Derived.Lib.RabinKarpLaws
import Derived.Test.YtgngdabfmbipaakGreatDoorKG4
namespace Go.Proofs.YtgngdabfmbipaakGreatDoor
open Go.RowKit Go.Sort
set_option linter.unusedVariables false
set_option linter.unusedSimpArgs false

theorem len_all : allLT (fun n => Nat.blt n (2 ^ Lib.bitLen n) && Nat.ble (Lib.bitLen n) 12) 4096 = true := by decide +kernel
theorem len_spec {n : Nat} (h : n < 4096) : n < 2 ^ Lib.bitLen n ∧ Lib.bitLen n ≤ 12 := by
  have := allLT_spec len_all n h
  simp only [Bool.and_eq_true] at this
  exact ⟨Nat.le_of_ble_eq_true this.1, Nat.le_of_ble_eq_true this.2⟩
theorem tab_at (i : Nat) (h : i < Lib.len8tab.size) : ((Lib.len8tab[i].toNat : Nat) : Int) = (Lib.bitLen i : Int) := by
  have h' := h
  rw [Lib.len8tab_size] at h'
  have e := Lib.len8_of (i : Int) (by omega) (by omega)
  unfold Lib.len8 at e
  rw [Int.toNat_natCast, getElem?_pos Lib.len8tab i h] at e
  exact e
set_option maxHeartbeats 4000000 in
set_option maxRecDepth 100000 in
theorem len64_small (x : Int) (w : World) (h0 : 0 ≤ x) (h1 : x < 4096) :
    Calls Tryz.prog 104 #[.int .u64 x] w fun e w' => e = .returned (.int .i64 (Lib.bitLen x.toNat)) ∧ w' = w := by
  go_enter Tryz.func104, Tryz.ntmps104
  by_cases hx : 256 ≤ x
  · have hz1 : 0 ≤ x / 256 := by omega
    have hz2 : x / 256 < (Lib.len8tab.size : Int) := by rw [Lib.len8tab_size]; omega
    go_wp2
    go_ret
    refine ⟨congrArg Ending.returned (congrArg (Value.int IntKind.i64) ?_), rfl⟩
    rw [tab_at]
    have e : (x / 256).toNat = x.toNat / 256 := by omega
    have s := Lib.bitLen_shift8 x.toNat (by omega) (by omega)
    have l := (len_spec (n := x.toNat) (by omega)).2
    rw [e]
    unfold wrap64; omega
  · have hz2 : x < (Lib.len8tab.size : Int) := by rw [Lib.len8tab_size]; omega
    go_wp2
    go_ret
    refine ⟨congrArg Ending.returned (congrArg (Value.int IntKind.i64) ?_), rfl⟩
    rw [tab_at]
    have l := (len_spec (n := x.toNat) (by omega)).2
    unfold wrap64; omega
theorem len_small (x : Int) (w : World) (h0 : 0 ≤ x) (h1 : x < 4096) :
    Calls Tryz.prog 66 #[.int .u64 x] w fun e w' => e = .returned (.int .i64 (Lib.bitLen x.toNat)) ∧ w' = w := by
  go_enter Tryz.func66, Tryz.ntmps66
  go_wp2_with (go_at_call 104; refine (len64_small _ _ h0 h1).mono ?_; rintro e w' ⟨rfl, rfl⟩)
  go_ret
  exact ⟨rfl, rfl⟩
theorem round_eq (n : Int) : (n.tmod 4052 + 4052).tmod 4052 = ((em n : Nat) : Int) := by
  rw [em_cast]
  have h1 := Int.emod_nonneg n (by omega : (4052 : Int) ≠ 0)
  have h2 := Int.emod_lt_of_pos n (by omega : (0 : Int) < 4052)
  have h3 : n.tmod 4052 = n % 4052 ∨ n.tmod 4052 = n % 4052 - 4052 := by
    by_cases h : 0 ≤ n
    · left; exact Int.tmod_eq_emod_of_nonneg h
    · have e : n.tmod 4052 = - ((-n) % 4052) := by
        rw [← Int.tmod_eq_emod_of_nonneg (by omega : 0 ≤ -n), Int.neg_tmod, Int.neg_neg]
      rw [e]; omega
  rcases h3 with h | h <;> rw [h, Int.tmod_eq_emod_of_nonneg (by omega)] <;> omega
theorem round_bd (n : Int) : -4052 < n.tmod 4052 ∧ n.tmod 4052 < 4052 := by
  by_cases h : 0 ≤ n
  · rw [Int.tmod_eq_emod_of_nonneg h]; omega
  · have e : n.tmod 4052 = - ((-n) % 4052) := by
      rw [← Int.tmod_eq_emod_of_nonneg (by omega : 0 ≤ -n), Int.neg_tmod, Int.neg_neg]
    rw [e]; omega
theorem round_any (n : Int) (w : World) :
    Calls Tryz.prog 22 #[.int .i64 n] w fun e w' => e = .returned (.int .i64 (em n : Int)) ∧ w' = w := by
  obtain ⟨hb1, hb2⟩ := round_bd n
  have H : Hid ((n.tmod 4052 + 4052) % 4052 = ((em n : Nat) : Int)) := by have := round_eq n; rwa [Int.tmod_eq_emod_of_nonneg (by omega)] at this
  go_enter Tryz.func22, Tryz.ntmps22
  go_wp2
  go_ret
  exact ⟨ret_int H.out, rfl⟩
theorem len_nat {n L : Nat} (h : Lib.bitLen n = L) (w : World) (h1 : n < 4096) :
    Calls Tryz.prog 66 #[.int .u64 (n : Int)] w fun e w' => e = .returned (.int .i64 (L : Int)) ∧ w' = w := by
  subst h; exact len_small n w (by omega) (by omega)
theorem half_step (n : Nat) {L k : Nat} (h : k < L) : n / 2 ^ (L - k) = n / 2 ^ (L - (k + 1)) / 2 := by
  rw [Nat.div_div_eq_div_mul, ← Nat.pow_succ, show (L - (k + 1)).succ = L - k by omega]
theorem bit_is (n L k : Nat) (hn : n < 4052) : bits BinOp.and IntKind.i64 ((n : Int) / 2 ^ (L - 1 - k)) 1 = ((n / 2 ^ (L - (k + 1)) % 2 : Nat) : Int) := by
  have e : ((n : Int) / 2 ^ (L - 1 - k)) = ((n / 2 ^ (L - (k + 1)) : Nat) : Int) := by
    rw [show L - 1 - k = L - (k + 1) by omega]; push_cast; rfl
  rw [e, Go.Proofs.and_one _ (Nat.lt_of_le_of_lt (Nat.div_le_self _ _) (by omega))]
theorem half_even (i m : Nat) (h : m % 2 = 0) : i * (m / 2) + i * (m / 2) = i * m := by
  rw [← Nat.mul_add, show m / 2 + m / 2 = m by omega]
theorem half_odd (i m : Nat) (h : m % 2 = 1) : i * (m / 2) + i * (m / 2) + i = i * m := by
  rw [← Nat.mul_add, ← Nat.mul_succ, show (m / 2 + m / 2).succ = m by omega]
set_option maxRecDepth 100000 in
set_option maxHeartbeats 4000000 in
theorem rep_tM (i n : Nat) (w : World) (hn : n < 4052) :
    Calls Tryz.prog 21 #[.agg #[.int .i64 ((tM i).1 : Int), .int .i64 ((tM i).2.1 : Int), .bool (tM i).2.2], .int .i64 (n : Int)] w fun e w' => e = .returned (.tuple #[.agg #[.int .i64 ((tM (i * n)).1 : Int), .int .i64 ((tM (i * n)).2.1 : Int), .bool (tM (i * n)).2.2], .nilIface]) ∧ Below w.heap.size w w' := by
  obtain ⟨L, hL⟩ : ∃ L, Lib.bitLen n = L := ⟨_, rfl⟩
  obtain ⟨h2, hl⟩ := len_spec (n := n) (by omega)
  rw [hL] at h2 hl
  have HL : Hid (n < 2 ^ L) := h2
  have HB : Hid (Lib.bitLen n = L) := hL
  clear h2 hL
  go_enter Tryz.func21, Tryz.ntmps21
  go_wp2_with (go_at_call 66; refine (len_nat HB.out _ (by omega)).mono ?_; rintro e w' ⟨rfl, rfl⟩)
  go_loopw [16] (fun ti wl => ∃ k : Nat, k ≤ L ∧ ti = .int .i64 k ∧ At wl w.heap.size [.int .i64 ((tM i).1 : Int), .int .i64 ((tM i).2.1 : Int), .bool (tM i).2.2] ∧ At wl (w.heap.size + 1) [.int .i64 0, .int .i64 0, .bool false] ∧ At wl (w.heap.size + 2) [.int .i64 ((tM (i * (n / 2 ^ (L - k)))).1 : Int), .int .i64 ((tM (i * (n / 2 ^ (L - k)))).2.1 : Int), .bool (tM (i * (n / 2 ^ (L - k)))).2.2] ∧ Below w.heap.size w wl) (fun ti _ => L - (intOf ti).toNat)
  case atStart =>
    have e : tM (i * (n / 2 ^ (L - 0))) = farN := by
      rw [Nat.sub_zero, Nat.div_eq_of_lt HL.out, Nat.mul_zero]; rfl
    refine ⟨0, by omega, rfl, at_by, at_by, ?_, below_by⟩
    rw [e]
    show At _ _ [.int .i64 0, .int .i64 0, .bool true]
    exact (at_by)
  case round =>
    obtain ⟨k, hk, rfl, kaV, krV, ksV, hqV⟩ := hrel
    have hz := hqV.size
    obtain ⟨zaV, ca0V, ca1V, ca2V, fa0V, fa1V, fa2V⟩ := kaV.three
    obtain ⟨zrV, cr0V, cr1V, cr2V, fr0V, fr1V, fr2V⟩ := krV.three
    obtain ⟨zsV, cs0V, cs1V, cs2V, fs0V, fs1V, fs2V⟩ := ksV.three
    by_cases hlt : k < L
    · have hlt' : (k : Int) < L := by omega
      obtain ⟨J, hJ⟩ : ∃ J, i * (n / 2 ^ (L - k)) = J := ⟨_, rfl⟩
      rw [hJ] at ksV cs0V cs1V cs2V
      have hs := half_step n hlt
      have hb := bit_is n L k hn
      have he := half_even i (n / 2 ^ (L - (k + 1)))
      have ho := half_odd i (n / 2 ^ (L - (k + 1)))
      rw [← hs, hJ] at he ho
      by_cases hbit : n / 2 ^ (L - (k + 1)) % 2 = 0
      · have HE : Hid (J + J = i * (n / 2 ^ (L - (k + 1)))) := he hbit
        have hbt : (bits BinOp.and IntKind.i64 ((n : Int) / 2 ^ (L - 1 - k)) 1 == 0) = true := by rw [hb, hbit]; rfl
        clear he ho hb hs hJ hbit
        have m1 : True := trivial
        go_wp2_with (first | (go_at_call 67; clear m1; refine (cadd_tM _ _ _).mono ?_; rintro e w1 ⟨rfl, hbw1⟩; have kaw1 : At w1 (w.heap.size) [.int .i64 ((tM i).1 : Int), .int .i64 ((tM i).2.1 : Int), .bool (tM i).2.2] := (at_by); have krw1 : At w1 (w.heap.size + 1) [.int .i64 0, .int .i64 0, .bool false] := (at_by); have ksw1 : At w1 (w.heap.size + 2) [.int .i64 ((tM J).1 : Int), .int .i64 ((tM J).2.1 : Int), .bool (tM J).2.2] := (at_by); have hqw1 : Below w.heap.size w w1 := (below_by); have hzw1 := hqw1.size; obtain ⟨zaw1, ca0w1, ca1w1, ca2w1, fa0w1, fa1w1, fa2w1⟩ := kaw1.three; obtain ⟨zrw1, cr0w1, cr1w1, cr2w1, fr0w1, fr1w1, fr2w1⟩ := krw1.three; obtain ⟨zsw1, cs0w1, cs1w1, cs2w1, fs0w1, fs1w1, fs2w1⟩ := ksw1.three; clear kaV ca0V fa0V ca1V fa1V ca2V fa2V krV cr0V fr0V cr1V fr1V cr2V fr2V ksV cs0V fs0V cs1V fs1V cs2V fs2V hqV; clear hbw1))
        go_roundw
        case rel => exact ⟨k + 1, by omega, by simp, at_by, at_by, by rw [← HE.out]; exact (at_by), below_by⟩
        case measure => simp [intOf]; omega
      · have HO : Hid (J + J + i = i * (n / 2 ^ (L - (k + 1)))) := ho (by omega)
        have hbt : (bits BinOp.and IntKind.i64 ((n : Int) / 2 ^ (L - 1 - k)) 1 == 0) = false := by rw [hb, show n / 2 ^ (L - (k + 1)) % 2 = 1 by omega]; rfl
        clear he ho hb hs hJ hbit
        have m1 : True := trivial
        have m2 : True := trivial
        go_wp2_with (first | (go_at_call 67; clear m1; refine (cadd_tM _ _ _).mono ?_; rintro e w1 ⟨rfl, hbw1⟩; have kaw1 : At w1 (w.heap.size) [.int .i64 ((tM i).1 : Int), .int .i64 ((tM i).2.1 : Int), .bool (tM i).2.2] := (at_by); have krw1 : At w1 (w.heap.size + 1) [.int .i64 0, .int .i64 0, .bool false] := (at_by); have ksw1 : At w1 (w.heap.size + 2) [.int .i64 ((tM J).1 : Int), .int .i64 ((tM J).2.1 : Int), .bool (tM J).2.2] := (at_by); have hqw1 : Below w.heap.size w w1 := (below_by); have hzw1 := hqw1.size; obtain ⟨zaw1, ca0w1, ca1w1, ca2w1, fa0w1, fa1w1, fa2w1⟩ := kaw1.three; obtain ⟨zrw1, cr0w1, cr1w1, cr2w1, fr0w1, fr1w1, fr2w1⟩ := krw1.three; obtain ⟨zsw1, cs0w1, cs1w1, cs2w1, fs0w1, fs1w1, fs2w1⟩ := ksw1.three; clear kaV ca0V fa0V ca1V fa1V ca2V fa2V krV cr0V fr0V cr1V fr1V cr2V fr2V ksV cs0V fs0V cs1V fs1V cs2V fs2V hqV; clear hbw1) | (go_at_call 67; clear m2; refine (cadd_tM _ _ _).mono ?_; rintro e w2 ⟨rfl, hbw2⟩; have kaw2 : At w2 (w.heap.size) [.int .i64 ((tM i).1 : Int), .int .i64 ((tM i).2.1 : Int), .bool (tM i).2.2] := (at_by); have krw2 : At w2 (w.heap.size + 1) [.int .i64 0, .int .i64 0, .bool false] := (at_by); have ksw2 : At w2 (w.heap.size + 2) [.int .i64 ((tM (J + J)).1 : Int), .int .i64 ((tM (J + J)).2.1 : Int), .bool (tM (J + J)).2.2] := (at_by); have hqw2 : Below w.heap.size w w2 := (below_by); have hzw2 := hqw2.size; obtain ⟨zaw2, ca0w2, ca1w2, ca2w2, fa0w2, fa1w2, fa2w2⟩ := kaw2.three; obtain ⟨zrw2, cr0w2, cr1w2, cr2w2, fr0w2, fr1w2, fr2w2⟩ := krw2.three; obtain ⟨zsw2, cs0w2, cs1w2, cs2w2, fs0w2, fs1w2, fs2w2⟩ := ksw2.three; clear kaw1 ca0w1 fa0w1 ca1w1 fa1w1 ca2w1 fa2w1 krw1 cr0w1 fr0w1 cr1w1 fr1w1 cr2w1 fr2w1 ksw1 cs0w1 fs0w1 cs1w1 fs1w1 cs2w1 fs2w1 hqw1; clear hbw2))
        go_roundw
        case rel => exact ⟨k + 1, by omega, by simp, at_by, at_by, by rw [← HO.out]; exact (at_by), below_by⟩
        case measure => simp [intOf]; omega
    · have hlt' : ¬ (k : Int) < L := by omega
      obtain rfl : k = L := by omega
      rw [Nat.sub_self, Nat.pow_zero, Nat.div_one] at ksV cs0V cs1V cs2V
      go_wp2_with fail
      exact bodyPost_ret (v := .tuple #[.agg #[.int .i64 ((tM (i * n)).1 : Int), .int .i64 ((tM (i * n)).2.1 : Int), .bool (tM (i * n)).2.2], .nilIface]) (by simp [results, Tryz.results21, go_sem, *]) rfl ⟨rfl, below_by⟩
set_option maxRecDepth 100000 in
set_option maxHeartbeats 4000000 in
theorem times_tM (i : Nat) (n : Int) (w : World) :
    Calls Tryz.prog 9 #[.agg #[.int .i64 ((tM i).1 : Int), .int .i64 ((tM i).2.1 : Int), .bool (tM i).2.2], .int .i64 n] w fun e w' => e = .returned (.tuple #[.agg #[.int .i64 ((tM (i * em n)).1 : Int), .int .i64 ((tM (i * em n)).2.1 : Int), .bool (tM (i * em n)).2.2], .nilIface]) ∧ Below w.heap.size w w' := by
  have m1 : True := trivial
  have hem := em_lt n
  go_enter Tryz.func9, Tryz.ntmps9
  go_wp2_with (go_at_call 20; clear m1; refine (check_tM _ _).mono ?_; rintro e w1 ⟨rfl, hbw1⟩; have kaw1 : At w1 (w.heap.size) [.int .i64 ((tM i).1 : Int), .int .i64 ((tM i).2.1 : Int), .bool (tM i).2.2] := (at_by); have krw1 : At w1 (w.heap.size + 1) [.int .i64 0, .int .i64 0, .bool false] := (at_by); have hqw1 : Below w.heap.size w w1 := (below_by); have hzw1 := hqw1.size; obtain ⟨zaw1, ca0w1, ca1w1, ca2w1, fa0w1, fa1w1, fa2w1⟩ := kaw1.three; obtain ⟨zrw1, cr0w1, cr1w1, cr2w1, fr0w1, fr1w1, fr2w1⟩ := krw1.three; clear hbw1)
  refine wp_gen (fun W2 => At W2 (w.heap.size) [.int .i64 ((tM i).1 : Int), .int .i64 ((tM i).2.1 : Int), .bool (tM i).2.2] ∧ At W2 (w.heap.size + 1) [.int .i64 0, .int .i64 0, .bool false] ∧ Below w.heap.size w W2) ⟨at_by, at_by, below_by⟩ ?_
  rintro W2 ⟨kaW2, krW2, hqW2⟩
  have hzW2 := hqW2.size
  clear kaw1 ca0w1 fa0w1 ca1w1 fa1w1 ca2w1 fa2w1 krw1 cr0w1 fr0w1 cr1w1 fr1w1 cr2w1 fr2w1 hqw1
  obtain ⟨zaW2, ca0W2, ca1W2, ca2W2, fa0W2, fa1W2, fa2W2⟩ := kaW2.three
  obtain ⟨zrW2, cr0W2, cr1W2, cr2W2, fr0W2, fr1W2, fr2W2⟩ := krW2.three
  go_region_with (first | (go_at_call 22; refine (round_any _ _).mono ?_; rintro e w3 ⟨rfl, rfl⟩) | (go_at_call 21; refine (rep_tM _ _ _ hem).mono ?_; rintro e w3 ⟨rfl, hb3⟩; have kaw3 : At w3 (w.heap.size) [.int .i64 ((tM i).1 : Int), .int .i64 ((tM i).2.1 : Int), .bool (tM i).2.2] := (at_by); have krw3 : At w3 (w.heap.size + 1) [.int .i64 0, .int .i64 0, .bool false] := (at_by); have hq3 : Below w.heap.size w w3 := (below_by); obtain ⟨zaw3, ca0w3, ca1w3, ca2w3, fa0w3, fa1w3, fa2w3⟩ := kaw3.three; obtain ⟨zrw3, cr0w3, cr1w3, cr2w3, fr0w3, fr1w3, fr2w3⟩ := krw3.three))
  all_goals (try go_wp2_with fail)
  all_goals exact bodyPost_ret (v := .tuple #[.agg #[.int .i64 ((tM (i * em n)).1 : Int), .int .i64 ((tM (i * em n)).2.1 : Int), .bool (tM (i * em n)).2.2], .nilIface]) (by simp [results, Tryz.results9, go_sem, *]) rfl ⟨rfl, below_by⟩
end Go.Proofs.YtgngdabfmbipaakGreatDoor

/- What times.Times answers of a wrong spot; times.Order, times.In, times.Base. -/
namespace Go.Proofs.YtgngdabfmbipaakGreatDoor
open Go.RowKit Go.Sort
set_option linter.unusedVariables false
set_option linter.unusedSimpArgs false
theorem times_eq {i : Nat} {n : Int} {r : Sn} (h : tM (i * em n) = r) (w : World) :
    Calls Tryz.prog 9 #[.agg #[.int .i64 ((tM i).1 : Int), .int .i64 ((tM i).2.1 : Int), .bool (tM i).2.2], .int .i64 n] w fun e w' => e = .returned (.tuple #[.agg #[.int .i64 ((r).1 : Int), .int .i64 ((r).2.1 : Int), .bool (r).2.2], .nilIface]) ∧ Below w.heap.size w w' := by
  have := times_tM i n w
  rwa [h] at this
theorem ord_f (i k : Nat) : (tM (i * em ((k : Int) + 1))).2.2 = farI (i * (k + 1)) := by
  rw [show ((k : Int) + 1) = ((k + 1 : Nat) : Int) by push_cast; rfl, tM_em, tM_f]
theorem ord_mod (k : Nat) : (4052 : Int) % ((k : Int) + 1) = ((4052 % (k + 1) : Nat) : Int) := by
  have h := Int.natCast_emod 4052 (k + 1)
  rw [Int.natCast_add] at h
  exact h.symm
set_option maxRecDepth 100000 in
set_option maxHeartbeats 4000000 in
theorem order_tM (i : Nat) (w : World) :
    Calls Tryz.prog 70 #[.agg #[.int .i64 ((tM i).1 : Int), .int .i64 ((tM i).2.1 : Int), .bool (tM i).2.2]] w fun e w' => e = .returned (.tuple #[.int .i64 (gM i : Int), .nilIface]) ∧ Below w.heap.size w w' := by
  have hg1 := gM_pos i
  have hg2 := gM_le i
  go_enter Tryz.func70, Tryz.ntmps70
  go_wp2_with fail
  go_loopw [8] (fun ti wl => ∃ k : Nat, k < gM i ∧ ti = .int .i64 k ∧ At wl w.heap.size [.int .i64 ((tM i).1 : Int), .int .i64 ((tM i).2.1 : Int), .bool (tM i).2.2] ∧ Below w.heap.size w wl) (fun ti _ => gM i - (intOf ti).toNat)
  case atStart => exact ⟨0, by omega, rfl, at_by, below_by⟩
  case round =>
    obtain ⟨k, hk, rfl, kaV, hqV⟩ := hrel
    have hz := hqV.size
    obtain ⟨zaV, ca0V, ca1V, ca2V, fa0V, fa1V, fa2V⟩ := kaV.three
    have hlt' : (k : Int) < 4052 := by omega
    by_cases hm : 4052 % (k + 1) = 0
    · have hm' : ((4052 : Int) % ((k : Int) + 1) != 0) = false := by rw [ord_mod, hm]; rfl
      have hf := ord_f i k
      have m1 : True := trivial
      by_cases hk2 : k + 1 = gM i
      · rw [show i * (k + 1) = i * gM i by rw [hk2], gM_hit] at hf
        have hr : ((k : Int) + 1) = (gM i : Int) := by omega
        have HR : Hid (((k : Int) + 1) = (gM i : Int)) := hr
        clear hr hm
        go_wp2_with (go_at_call 9; clear m1; refine (times_tM _ _ _).mono ?_; rintro e w1 ⟨rfl, hbw1⟩; have hqw1 : Below w.heap.size w w1 := (below_by); have hzw1 := hqw1.size; clear kaV ca0V fa0V ca1V fa1V ca2V fa2V hqV; clear hbw1)
        go_ret2
        exact ⟨ret2_int HR.out, below_by⟩
      · rw [gM_low (by omega) (by omega)] at hf
        clear hm
        go_wp2_with (go_at_call 9; clear m1; refine (times_tM _ _ _).mono ?_; rintro e w1 ⟨rfl, hbw1⟩; have kaw1 : At w1 (w.heap.size) [.int .i64 ((tM i).1 : Int), .int .i64 ((tM i).2.1 : Int), .bool (tM i).2.2] := (at_by); have hqw1 : Below w.heap.size w w1 := (below_by); have hzw1 := hqw1.size; obtain ⟨zaw1, ca0w1, ca1w1, ca2w1, fa0w1, fa1w1, fa2w1⟩ := kaw1.three; clear kaV ca0V fa0V ca1V fa1V ca2V fa2V hqV; clear hbw1)
        go_roundw
        case rel => exact ⟨k + 1, by omega, by simp, at_by, below_by⟩
        case measure => simp [intOf]; omega
    · have hm' : ((4052 : Int) % ((k : Int) + 1) != 0) = true := by
        rw [ord_mod]
        simp only [bne_iff_ne, ne_eq]
        omega
      have hne : k + 1 ≠ gM i := by intro e; rw [e, gM_dvd] at hm; exact hm rfl
      clear hm
      go_wp2_with fail
      go_roundw
      case rel => exact ⟨k + 1, by omega, by simp, at_by, below_by⟩
      case measure => simp [intOf]; omega
theorem in_f (i : Nat) : (tM (i * em 1013)).2.2 = farI (i * 1013) := by rw [tM_f]; rfl
set_option maxRecDepth 100000 in
set_option maxHeartbeats 4000000 in
theorem in_tM (i : Nat) (w : World) :
    Calls Tryz.prog 135 #[.agg #[.int .i64 ((tM i).1 : Int), .int .i64 ((tM i).2.1 : Int), .bool (tM i).2.2]] w fun e w' => e = .returned (.tuple #[.bool (farI (i * 1013)), .nilIface]) ∧ Below w.heap.size w w' := by
  have hf := in_f i
  have m1 : True := trivial
  go_enter Tryz.func135, Tryz.ntmps135
  go_wp2_with (go_at_call 9; clear m1; refine (times_tM _ _ _).mono ?_; rintro e w1 ⟨rfl, hbw1⟩; have hqw1 : Below w.heap.size w w1 := (below_by); have hzw1 := hqw1.size; clear hbw1)
  exact bodyPost_ret (v := .tuple #[.bool (farI (i * 1013)), .nilIface]) (by simp [results, Tryz.results135, go_sem, *]) rfl ⟨rfl, below_by⟩
theorem in_eq {i : Nat} {b : Bool} (h : farI (i * 1013) = b) (w : World) :
    Calls Tryz.prog 135 #[.agg #[.int .i64 ((tM i).1 : Int), .int .i64 ((tM i).2.1 : Int), .bool (tM i).2.2]] w fun e w' => e = .returned (.tuple #[.bool b, .nilIface]) ∧ Below w.heap.size w w' := by
  have := in_tM i w
  rwa [h] at this
theorem times_z (w : World) : Calls Tryz.prog 9 #[.agg #[.int .i64 0, .int .i64 0, .bool false], .int .i64 4] w fun e w' => e = .returned (.tuple #[.agg #[.int .i64 0, .int .i64 0, .bool true], .nilIface]) ∧ Below w.heap.size w w' := by
  have := times_eq (i := 2026) (n := 4) (r := farN) (tM_isfar rfl) w
  rwa [tM_nul] at this
theorem times_g (w : World) : Calls Tryz.prog 9 #[.agg #[.int .i64 3, .int .i64 156, .bool false], .int .i64 4] w fun e w' => e = .returned (.tuple #[.agg #[.int .i64 ((tM 4).1 : Int), .int .i64 ((tM 4).2.1 : Int), .bool (tM 4).2.2], .nilIface]) ∧ Below w.heap.size w w' := by
  have := times_eq (i := 1) (n := 4) (r := tM 4) rfl w
  rwa [tM_one] at this
theorem blift_0 (w : World) : Calls Tryz.prog 23 #[.int .i64 0] w fun e w' => e = .returned (.tuple #[.agg #[.int .i64 0, .int .i64 0, .bool false], .nilIface]) ∧ Below w.heap.size w w' := by
  have := lift_yes 0 w (by omega) (by omega) (by decide +kernel)
  rwa [show rtMin (sqI 0) = 0 by decide +kernel] at this
theorem blift_3 (w : World) : Calls Tryz.prog 23 #[.int .i64 3] w fun e w' => e = .returned (.tuple #[.agg #[.int .i64 3, .int .i64 156, .bool false], .nilIface]) ∧ Below w.heap.size w w' := by
  have := lift_yes 3 w (by omega) (by omega) (by decide +kernel)
  rwa [show rtMin (sqI 3) = 156 by decide +kernel] at this
set_option maxRecDepth 100000 in
set_option maxHeartbeats 4000000 in
theorem base_is (w : World) : Calls Tryz.prog 10 #[] w fun e w' => e = .returned (.agg #[.int .i64 ((tM 4).1 : Int), .int .i64 ((tM 4).2.1 : Int), .bool (tM 4).2.2]) ∧ Below w.heap.size w w' := by
  have h4 : (tM 4).2.2 = false := by rw [tM_f]; rfl
  go_enter Tryz.func10, Tryz.ntmps10
  go_wp2_with fail
  go_loopw [6] (fun ti wl => ∃ k : Nat, k < 4 ∧ ti = .int .i64 k ∧ At wl w.heap.size [.int .i64 0, .int .i64 0, .bool false] ∧ Below w.heap.size w wl) (fun ti _ => 4 - (intOf ti).toNat)
  case atStart => exact ⟨0, by omega, rfl, at_by, below_by⟩
  case round =>
    obtain ⟨k, hk, rfl, krV, hqV⟩ := hrel
    have hz := hqV.size
    obtain ⟨zrV, cr0V, cr1V, cr2V, fr0V, fr1V, fr2V⟩ := krV.three
    have m1 : True := trivial; have m2 : True := trivial
    obtain rfl | rfl | rfl | rfl : k = 0 ∨ k = 1 ∨ k = 2 ∨ k = 3 := by omega
    · go_wp2_with (first | (go_at_call 23; clear m1; refine (blift_0 _).mono ?_; rintro e w1 ⟨rfl, hbw1⟩; have krw1 : At w1 (w.heap.size) [.int .i64 0, .int .i64 0, .bool false] := (at_by); have hqw1 : Below w.heap.size w w1 := (below_by); have hzw1 := hqw1.size; obtain ⟨zrw1, cr0w1, cr1w1, cr2w1, fr0w1, fr1w1, fr2w1⟩ := krw1.three; clear krV cr0V fr0V cr1V fr1V cr2V fr2V hqV; clear hbw1) | (go_at_call 9; clear m2; refine (times_z _).mono ?_; rintro e w2 ⟨rfl, hbw2⟩; have krw2 : At w2 (w.heap.size) [.int .i64 0, .int .i64 0, .bool false] := (at_by); have hqw2 : Below w.heap.size w w2 := (below_by); have hzw2 := hqw2.size; obtain ⟨zrw2, cr0w2, cr1w2, cr2w2, fr0w2, fr1w2, fr2w2⟩ := krw2.three; clear krw1 cr0w1 fr0w1 cr1w1 fr1w1 cr2w1 fr2w1 hqw1; clear hbw2))
      go_roundw
      case rel => exact ⟨1, by omega, by simp, at_by, below_by⟩
      case measure => simp [intOf]
    · go_wp2_with (first | (go_at_call 23; clear m1; refine (lift_none 1 _ (by omega) (by omega) (by decide +kernel)).mono ?_; rintro e w1 ⟨rfl, hbw1⟩; have krw1 : At w1 (w.heap.size) [.int .i64 0, .int .i64 0, .bool false] := (at_by); have hqw1 : Below w.heap.size w w1 := (below_by); have hzw1 := hqw1.size; obtain ⟨zrw1, cr0w1, cr1w1, cr2w1, fr0w1, fr1w1, fr2w1⟩ := krw1.three; clear krV cr0V fr0V cr1V fr1V cr2V fr2V hqV; clear hbw1))
      go_roundw
      case rel => exact ⟨2, by omega, by simp, at_by, below_by⟩
      case measure => simp [intOf]
    · go_wp2_with (first | (go_at_call 23; clear m1; refine (lift_none 2 _ (by omega) (by omega) (by decide +kernel)).mono ?_; rintro e w1 ⟨rfl, hbw1⟩; have krw1 : At w1 (w.heap.size) [.int .i64 0, .int .i64 0, .bool false] := (at_by); have hqw1 : Below w.heap.size w w1 := (below_by); have hzw1 := hqw1.size; obtain ⟨zrw1, cr0w1, cr1w1, cr2w1, fr0w1, fr1w1, fr2w1⟩ := krw1.three; clear krV cr0V fr0V cr1V fr1V cr2V fr2V hqV; clear hbw1))
      go_roundw
      case rel => exact ⟨3, by omega, by simp, at_by, below_by⟩
      case measure => simp [intOf]
    · go_wp2_with (first | (go_at_call 23; clear m1; refine (blift_3 _).mono ?_; rintro e w1 ⟨rfl, hbw1⟩; have krw1 : At w1 (w.heap.size) [.int .i64 0, .int .i64 0, .bool false] := (at_by); have hqw1 : Below w.heap.size w w1 := (below_by); have hzw1 := hqw1.size; obtain ⟨zrw1, cr0w1, cr1w1, cr2w1, fr0w1, fr1w1, fr2w1⟩ := krw1.three; clear krV cr0V fr0V cr1V fr1V cr2V fr2V hqV; clear hbw1) | (go_at_call 9; clear m2; refine (times_g _).mono ?_; rintro e w2 ⟨rfl, hbw2⟩; have krw2 : At w2 (w.heap.size) [.int .i64 0, .int .i64 0, .bool false] := (at_by); have hqw2 : Below w.heap.size w w2 := (below_by); have hzw2 := hqw2.size; obtain ⟨zrw2, cr0w2, cr1w2, cr2w2, fr0w2, fr1w2, fr2w2⟩ := krw2.three; clear krw1 cr0w1 fr0w1 cr1w1 fr1w1 cr2w1 fr2w1 hqw1; clear hbw2))
      exact bodyPost_ret (v := .agg #[.int .i64 ((tM 4).1 : Int), .int .i64 ((tM 4).2.1 : Int), .bool (tM 4).2.2]) (by simp [results, Tryz.results10, go_sem, *]) rfl ⟨rfl, below_by⟩
theorem base_f (w : World) : Calls Tryz.prog 10 #[] w fun e w' => e = .returned (.agg #[.int .i64 ((tM 4).1 : Int), .int .i64 ((tM 4).2.1 : Int), .bool false]) ∧ Below w.heap.size w w' := by
  have := base_is w
  rwa [show (tM 4).2.2 = false by rw [tM_f]; rfl] at this
end Go.Proofs.YtgngdabfmbipaakGreatDoor

/- What curve.Slope and the lines of package pair answer of so many times one, in whatever memory; nothing that was there is turned. -/
namespace Go.Proofs.YtgngdabfmbipaakGreatDoor
open Go.RowKit Go.Sort
set_option linter.unusedVariables false
set_option linter.unusedSimpArgs false
set_option maxRecDepth 100000 in
set_option maxHeartbeats 2000000 in
theorem slope_up1 (x y1 y2 : Nat) (w : World) (h : ((y1 : Int) == (y2 : Int)) = false) :
    Calls Tryz.prog 107 #[.agg #[.int .i64 (x : Int), .int .i64 (y1 : Int), .bool false], .agg #[.int .i64 (x : Int), .int .i64 (y2 : Int), .bool false]] w fun e w' => ∃ n : Int, e = .returned (.tuple #[.int .i64 n, errOf 5]) ∧ Below w.heap.size w w' := by
  have H0 : Hid (fm ((x : Int) - x) = 0) := by show fm _ = 0; rw [Int.sub_self]; rfl
  have R : (fm 0 == 0) = true := rfl
  go_enter Tryz.func107, Tryz.ntmps107
  go_wp2_with fail
  refine wp_region_quiet_below (by kernel_rfl) (by kernel_rfl) ?_
  repeat (go_big_quiet_step (first | (go_at_call 110; with_reducible exact Calls.regrown_of (below_of_same (sub_eq H0.out _))) | (go_at_call 110; with_reducible exact Calls.regrown_of (below_of_same (sub_any _ _ _)))))
  refine wpQuiet_nil ?_
  intro _ hw1
  obtain ⟨⟨dq, osq⟩, hw2⟩ := hw1
  subst hw2
  go_wp2_with (first | (go_at_call 132; refine (inv_no _ _ R).mono ?_; rintro e w' ⟨rfl, rfl⟩) | (go_at_call 64; refine (mul_any _ _ _).mono ?_; rintro e w' ⟨rfl, rfl⟩))
  go_ret2
  exact ⟨_, rfl, below_by⟩
set_option maxRecDepth 100000 in
set_option maxHeartbeats 2000000 in
theorem slope_up2 (x : Nat) (w : World) :
    Calls Tryz.prog 107 #[.agg #[.int .i64 (x : Int), .int .i64 0, .bool false], .agg #[.int .i64 (x : Int), .int .i64 0, .bool false]] w fun e w' => ∃ n : Int, e = .returned (.tuple #[.int .i64 n, errOf 5]) ∧ Below w.heap.size w w' := by
  have H0 : Hid (fm (2 * 0) = 0) := rfl
  have R : (fm 0 == 0) = true := rfl
  have m1 : True := trivial
  go_enter Tryz.func107, Tryz.ntmps107
  go_wp2_with fail
  refine wp_region_quiet_below (by kernel_rfl) (by kernel_rfl) ?_
  repeat (go_big_quiet_step ((go_at_call 110; exact Calls.regrown_of (below_of_same (sub_any _ _ _)))))
  refine wpQuiet_nil ?_
  intro _ hw1
  obtain ⟨⟨dq, osq⟩, hw2⟩ := hw1
  subst hw2
  go_wp2_with (first | (go_at_call 132; refine (inv_no _ _ R).mono ?_; rintro e w' ⟨rfl, rfl⟩) | (go_at_call 64; refine (mul_any _ _ _).mono ?_; rintro e w' ⟨rfl, rfl⟩; first | rw [H0.out] | skip) | (go_at_call 102; refine (add_any _ _ _).mono ?_; rintro e w' ⟨rfl, rfl⟩))
  go_ret2
  exact ⟨_, rfl, below_by⟩
set_option maxRecDepth 100000 in
set_option maxHeartbeats 2000000 in
theorem cslope_far1 (x2 y2 : Int) (f2 : Bool) (w : World) (h2 : ckI x2 y2 f2 = 0) :
    Calls Tryz.prog 167 #[.agg #[.int .i64 0, .int .i64 0, .bool true], .agg #[.int .i64 x2, .int .i64 y2, .bool f2]] w fun e w' => e = .returned (.tuple #[.int .i64 0, errOf 5]) ∧ Below w.heap.size w w' := by
  have h1 : ckI 0 0 true = 0 := rfl
  have m1 : True := trivial
  go_enter Tryz.func167, Tryz.ntmps167
  go_wp2_with (go_at_call 105; clear m1; refine (checkAll_yes (at_by) h1 h2).mono ?_; rintro e w1 ⟨rfl, hbw1⟩; have kaw1 : At w1 (w.heap.size) [.int .i64 0, .int .i64 0, .bool true] := (at_by); have kbw1 : At w1 (w.heap.size + 1) [.int .i64 x2, .int .i64 y2, .bool f2] := (at_by); have hqw1 : Below w.heap.size w w1 := (below_by); have hzw1 := hqw1.size; obtain ⟨zaw1, ca0w1, ca1w1, ca2w1, fa0w1, fa1w1, fa2w1⟩ := kaw1.three; obtain ⟨zbw1, cb0w1, cb1w1, cb2w1, fb0w1, fb1w1, fb2w1⟩ := kbw1.three; clear hbw1)
  go_ret2
  exact ⟨rfl, below_by⟩
set_option maxRecDepth 100000 in
set_option maxHeartbeats 2000000 in
theorem cslope_far2 (x1 y1 : Int) (w : World) (h1 : ckI x1 y1 false = 0) :
    Calls Tryz.prog 167 #[.agg #[.int .i64 x1, .int .i64 y1, .bool false], .agg #[.int .i64 0, .int .i64 0, .bool true]] w fun e w' => e = .returned (.tuple #[.int .i64 0, errOf 5]) ∧ Below w.heap.size w w' := by
  have h2 : ckI 0 0 true = 0 := rfl
  have m1 : True := trivial
  go_enter Tryz.func167, Tryz.ntmps167
  go_wp2_with (go_at_call 105; clear m1; refine (checkAll_yes (at_by) h1 h2).mono ?_; rintro e w1 ⟨rfl, hbw1⟩; have kaw1 : At w1 (w.heap.size) [.int .i64 x1, .int .i64 y1, .bool false] := (at_by); have kbw1 : At w1 (w.heap.size + 1) [.int .i64 0, .int .i64 0, .bool true] := (at_by); have hqw1 : Below w.heap.size w w1 := (below_by); have hzw1 := hqw1.size; obtain ⟨zaw1, ca0w1, ca1w1, ca2w1, fa0w1, fa1w1, fa2w1⟩ := kaw1.three; obtain ⟨zbw1, cb0w1, cb1w1, cb2w1, fb0w1, fb1w1, fb2w1⟩ := kbw1.three; clear hbw1)
  go_ret2
  exact ⟨rfl, below_by⟩
set_option maxRecDepth 100000 in
set_option maxHeartbeats 2000000 in
theorem cslope_two (x1 y1 x2 y2 : Nat) (w : World) (k1 : x1 < 4051) (k2 : x2 < 4051) (j1 : y1 < 4051) (j2 : y2 < 4051) (hne : x1 ≠ x2) (h1 : ckI (x1 : Int) (y1 : Int) false = 0) (h2 : ckI (x2 : Int) (y2 : Int) false = 0) :
    Calls Tryz.prog 167 #[.agg #[.int .i64 (x1 : Int), .int .i64 (y1 : Int), .bool false], .agg #[.int .i64 (x2 : Int), .int .i64 (y2 : Int), .bool false]] w fun e w' => e = .returned (.tuple #[.int .i64 (cslN x1 y1 x2 y2 : Int), .nilIface]) ∧ Below w.heap.size w w' := by
  have m1 : True := trivial; have m2 : True := trivial
  go_enter Tryz.func167, Tryz.ntmps167
  go_wp2_with (first | (go_at_call 105; clear m1; refine (checkAll_yes (at_by) h1 h2).mono ?_; rintro e w1 ⟨rfl, hbw1⟩; have kaw1 : At w1 (w.heap.size) [.int .i64 (x1 : Int), .int .i64 (y1 : Int), .bool false] := (at_by); have kbw1 : At w1 (w.heap.size + 1) [.int .i64 (x2 : Int), .int .i64 (y2 : Int), .bool false] := (at_by); have hqw1 : Below w.heap.size w w1 := (below_by); have hzw1 := hqw1.size; obtain ⟨zaw1, ca0w1, ca1w1, ca2w1, fa0w1, fa1w1, fa2w1⟩ := kaw1.three; obtain ⟨zbw1, cb0w1, cb1w1, cb2w1, fb0w1, fb1w1, fb2w1⟩ := kbw1.three; clear hbw1) | (go_at_call 107; clear m2; refine (slope_two _ _ _ _ _ k1 k2 j1 j2 hne).mono ?_; rintro e w2 ⟨rfl, hbw2⟩; have hqw2 : Below w.heap.size w w2 := (below_by); have hzw2 := hqw2.size; clear kaw1 ca0w1 fa0w1 ca1w1 fa1w1 ca2w1 fa2w1 kbw1 cb0w1 fb0w1 cb1w1 fb1w1 cb2w1 fb2w1 hqw1; clear hbw2))
  go_ret2
  exact ⟨rfl, below_by⟩
set_option maxRecDepth 100000 in
set_option maxHeartbeats 2000000 in
theorem cslope_one (x1 y1 : Nat) (w : World) (j1 : y1 < 4051) (hne : y1 ≠ 0) (h1 : ckI (x1 : Int) (y1 : Int) false = 0) :
    Calls Tryz.prog 167 #[.agg #[.int .i64 (x1 : Int), .int .i64 (y1 : Int), .bool false], .agg #[.int .i64 (x1 : Int), .int .i64 (y1 : Int), .bool false]] w fun e w' => e = .returned (.tuple #[.int .i64 (dslN x1 y1 : Int), .nilIface]) ∧ Below w.heap.size w w' := by
  have m1 : True := trivial; have m2 : True := trivial
  go_enter Tryz.func167, Tryz.ntmps167
  go_wp2_with (first | (go_at_call 105; clear m1; refine (checkAll_yes (at_by) h1 h1).mono ?_; rintro e w1 ⟨rfl, hbw1⟩; have kaw1 : At w1 (w.heap.size) [.int .i64 (x1 : Int), .int .i64 (y1 : Int), .bool false] := (at_by); have kbw1 : At w1 (w.heap.size + 1) [.int .i64 (x1 : Int), .int .i64 (y1 : Int), .bool false] := (at_by); have hqw1 : Below w.heap.size w w1 := (below_by); have hzw1 := hqw1.size; obtain ⟨zaw1, ca0w1, ca1w1, ca2w1, fa0w1, fa1w1, fa2w1⟩ := kaw1.three; obtain ⟨zbw1, cb0w1, cb1w1, cb2w1, fb0w1, fb1w1, fb2w1⟩ := kbw1.three; clear hbw1) | (go_at_call 107; clear m2; refine (slope_one _ _ _ j1 hne).mono ?_; rintro e w2 ⟨rfl, hbw2⟩; have hqw2 : Below w.heap.size w w2 := (below_by); have hzw2 := hqw2.size; clear kaw1 ca0w1 fa0w1 ca1w1 fa1w1 ca2w1 fa2w1 kbw1 cb0w1 fb0w1 cb1w1 fb1w1 cb2w1 fb2w1 hqw1; clear hbw2))
  go_ret2
  exact ⟨rfl, below_by⟩
set_option maxRecDepth 100000 in
set_option maxHeartbeats 2000000 in
theorem cslope_up1 (x1 y1 y2 : Nat) (w : World) (h : ((y1 : Int) == (y2 : Int)) = false) (h1 : ckI (x1 : Int) (y1 : Int) false = 0) (h2 : ckI (x1 : Int) (y2 : Int) false = 0) :
    Calls Tryz.prog 167 #[.agg #[.int .i64 (x1 : Int), .int .i64 (y1 : Int), .bool false], .agg #[.int .i64 (x1 : Int), .int .i64 (y2 : Int), .bool false]] w fun e w' => ∃ n : Int, e = .returned (.tuple #[.int .i64 n, errOf 5]) ∧ Below w.heap.size w w' := by
  have HE : Hid (((y1 : Int) == (y2 : Int)) = false) := h
  clear h
  have m1 : True := trivial; have m2 : True := trivial
  go_enter Tryz.func167, Tryz.ntmps167
  go_wp2_with (first | (go_at_call 105; clear m1; refine (checkAll_yes (at_by) h1 h2).mono ?_; rintro e w1 ⟨rfl, hbw1⟩; have kaw1 : At w1 (w.heap.size) [.int .i64 (x1 : Int), .int .i64 (y1 : Int), .bool false] := (at_by); have kbw1 : At w1 (w.heap.size + 1) [.int .i64 (x1 : Int), .int .i64 (y2 : Int), .bool false] := (at_by); have hqw1 : Below w.heap.size w w1 := (below_by); have hzw1 := hqw1.size; obtain ⟨zaw1, ca0w1, ca1w1, ca2w1, fa0w1, fa1w1, fa2w1⟩ := kaw1.three; obtain ⟨zbw1, cb0w1, cb1w1, cb2w1, fb0w1, fb1w1, fb2w1⟩ := kbw1.three; clear hbw1) | (go_at_call 107; clear m2; refine (slope_up1 _ _ _ _ HE.out).mono ?_; rintro e w2 ⟨nx, rfl, hbw2⟩; have hqw2 : Below w.heap.size w w2 := (below_by); have hzw2 := hqw2.size; clear kaw1 ca0w1 fa0w1 ca1w1 fa1w1 ca2w1 fa2w1 kbw1 cb0w1 fb0w1 cb1w1 fb1w1 cb2w1 fb2w1 hqw1; clear hbw2))
  go_ret2
  exact ⟨_, rfl, below_by⟩
set_option maxRecDepth 100000 in
set_option maxHeartbeats 2000000 in
theorem cslope_up2 (x1 : Nat) (w : World) (h1 : ckI (x1 : Int) 0 false = 0) :
    Calls Tryz.prog 167 #[.agg #[.int .i64 (x1 : Int), .int .i64 0, .bool false], .agg #[.int .i64 (x1 : Int), .int .i64 0, .bool false]] w fun e w' => ∃ n : Int, e = .returned (.tuple #[.int .i64 n, errOf 5]) ∧ Below w.heap.size w w' := by
  have m1 : True := trivial; have m2 : True := trivial
  go_enter Tryz.func167, Tryz.ntmps167
  go_wp2_with (first | (go_at_call 105; clear m1; refine (checkAll_yes (at_by) h1 h1).mono ?_; rintro e w1 ⟨rfl, hbw1⟩; have kaw1 : At w1 (w.heap.size) [.int .i64 (x1 : Int), .int .i64 0, .bool false] := (at_by); have kbw1 : At w1 (w.heap.size + 1) [.int .i64 (x1 : Int), .int .i64 0, .bool false] := (at_by); have hqw1 : Below w.heap.size w w1 := (below_by); have hzw1 := hqw1.size; obtain ⟨zaw1, ca0w1, ca1w1, ca2w1, fa0w1, fa1w1, fa2w1⟩ := kaw1.three; obtain ⟨zbw1, cb0w1, cb1w1, cb2w1, fb0w1, fb1w1, fb2w1⟩ := kbw1.three; clear hbw1) | (go_at_call 107; clear m2; refine (slope_up2 _ _).mono ?_; rintro e w2 ⟨nx, rfl, hbw2⟩; have hqw2 : Below w.heap.size w w2 := (below_by); have hzw2 := hqw2.size; clear kaw1 ca0w1 fa0w1 ca1w1 fa1w1 ca2w1 fa2w1 kbw1 cb0w1 fb0w1 cb1w1 fb1w1 cb2w1 fb2w1 hqw1; clear hbw2))
  go_ret2
  exact ⟨_, rfl, below_by⟩
/-- The slope of the line through two, where it does not stand upright. -/
theorem cslope_has {a b : Sn} (w : World) (ha : okS a = true) (hb : okS b = true) (h : hasL a b = true) :
    Calls Tryz.prog 167 #[.agg #[.int .i64 ((a).1 : Int), .int .i64 ((a).2.1 : Int), .bool (a).2.2], .agg #[.int .i64 ((b).1 : Int), .int .i64 ((b).2.1 : Int), .bool (b).2.2]] w fun e w' => e = .returned (.tuple #[.int .i64 (slN a b : Int), .nilIface]) ∧ Below w.heap.size w w' := by
  obtain ⟨fa, fb⟩ := has_aff h
  obtain ⟨x1, y1, f1⟩ := a
  obtain ⟨x2, y2, f2⟩ := b
  simp only at fa fb
  subst fa fb
  have h1 := ckI_of_ok ha
  have h2 := ckI_of_ok hb
  have l1 := okS_lt ha
  have l2 := okS_lt hb
  simp only at h1 h2 l1 l2
  unfold hasL at h
  unfold slN
  simp only [cond_false] at h ⊢
  cases hx : Nat.beq x1 x2 with
  | true =>
    rw [hx] at h
    simp only [cond_true, Bool.and_eq_true, Bool.not_eq_true'] at h ⊢
    obtain rfl := Nat.eq_of_beq_eq_true hx
    obtain rfl := Nat.eq_of_beq_eq_true h.1
    exact cslope_one x1 y1 w l1.2 (Nat.ne_of_beq_eq_false h.2) h1
  | false => exact cslope_two x1 y1 x2 y2 w l1.1 l2.1 l1.2 l2.2 (Nat.ne_of_beq_eq_false hx) h1 h2
theorem cslope_no {a b : Sn} (w : World) (ha : okS a = true) (hb : okS b = true) (h : hasL a b = false) :
    Calls Tryz.prog 167 #[.agg #[.int .i64 ((a).1 : Int), .int .i64 ((a).2.1 : Int), .bool (a).2.2], .agg #[.int .i64 ((b).1 : Int), .int .i64 ((b).2.1 : Int), .bool (b).2.2]] w fun e w' => ∃ n : Int, e = .returned (.tuple #[.int .i64 n, errOf 5]) ∧ Below w.heap.size w w' := by
  obtain ⟨x1, y1, f1⟩ := a
  obtain ⟨x2, y2, f2⟩ := b
  have h1 := ckI_of_ok ha
  have h2 := ckI_of_ok hb
  simp only at h1 h2
  cases f1 with
  | true =>
    obtain ⟨rfl, rfl⟩ : x1 = 0 ∧ y1 = 0 := by
      unfold okS at ha; simp only [cond_true, Bool.and_eq_true] at ha
      exact ⟨Nat.eq_of_beq_eq_true ha.1, Nat.eq_of_beq_eq_true ha.2⟩
    exact (cslope_far1 x2 y2 f2 w h2).mono fun e w' hh => ⟨0, hh⟩
  | false =>
    cases f2 with
    | true =>
      obtain ⟨rfl, rfl⟩ : x2 = 0 ∧ y2 = 0 := by
        unfold okS at hb; simp only [cond_true, Bool.and_eq_true] at hb
        exact ⟨Nat.eq_of_beq_eq_true hb.1, Nat.eq_of_beq_eq_true hb.2⟩
      exact (cslope_far2 x1 y1 w h1).mono fun e w' hh => ⟨0, hh⟩
    | false =>
      unfold hasL at h
      simp only [cond_false] at h
      cases hx : Nat.beq x1 x2 with
      | false => rw [hx] at h; cases h
      | true =>
        rw [hx] at h
        obtain rfl := Nat.eq_of_beq_eq_true hx
        by_cases hy : y1 = y2
        · subst hy
          have hz : y1 = 0 := by
            have e : Nat.beq y1 y1 = true := Nat.beq_refl y1
            simp only [cond_true, e, Bool.true_and, Bool.not_eq_false'] at h
            exact Nat.eq_of_beq_eq_true h
          subst hz
          exact cslope_up2 x1 w h1
        · exact cslope_up1 x1 y1 y2 w (by rw [beq_eq_false_iff_ne]; omega) h1 h2
theorem one_is (w : World) : Calls Tryz.prog 115 #[] w fun e w' => e = .returned (.agg #[.int .i64 1, .int .i64 0]) ∧ Below w.heap.size w w' := by
  go_enter Tryz.func115, Tryz.ntmps115
  go_wp2_with fail
  exact bodyPost_ret (v := .agg #[.int .i64 1, .int .i64 0]) (by simp [results, Tryz.results115, go_sem, *]) rfl ⟨rfl, below_by⟩
set_option maxRecDepth 100000 in
set_option maxHeartbeats 2000000 in
theorem line_yes (i j : Nat) (q : Sn) (w : World) (h : hasL (tM i) (tM j) = true) :
    Calls Tryz.prog 155 #[.agg #[.int .i64 ((tM i).1 : Int), .int .i64 ((tM i).2.1 : Int), .bool (tM i).2.2], .agg #[.int .i64 ((tM j).1 : Int), .int .i64 ((tM j).2.1 : Int), .bool (tM j).2.2], .agg #[.int .i64 ((q).1 : Int), .int .i64 ((q).2.1 : Int), .bool (q).2.2]] w fun e w' => e = .returned (.agg #[.int .i64 (lvN (tM i) (tM j) q : Int), .int .i64 (q.2.1 : Int)]) ∧ Below w.heap.size w w' := by
  have HL : Hid (hasL (tM i) (tM j) = true) := h
  have H : Hid (fm (fm ((slN (tM i) (tM j) : Int) * fm ((q.1 : Int) + ((tM i).1 : Int))) - ((tM i).2.1 : Int)) = (lvN (tM i) (tM j) q : Int)) := lvI _ _ (okS_lt (tM_ok i)).2
  clear h
  have m1 : True := trivial
  go_enter Tryz.func155, Tryz.ntmps155
  go_wp2_with (go_at_call 167; clear m1; refine (cslope_has _ (tM_ok i) (tM_ok j) HL.out).mono ?_; rintro e w1 ⟨rfl, hbw1⟩; have kaw1 : At w1 (w.heap.size) [.int .i64 ((tM i).1 : Int), .int .i64 ((tM i).2.1 : Int), .bool (tM i).2.2] := (at_by); have kbw1 : At w1 (w.heap.size + 1) [.int .i64 ((tM j).1 : Int), .int .i64 ((tM j).2.1 : Int), .bool (tM j).2.2] := (at_by); have kqw1 : At w1 (w.heap.size + 2) [.int .i64 ((q).1 : Int), .int .i64 ((q).2.1 : Int), .bool (q).2.2] := (at_by); have krw1 : At w1 (w.heap.size + 3) [.int .i64 0, .int .i64 0] := (at_by); have hqw1 : Below w.heap.size w w1 := (below_by); have hzw1 := hqw1.size; obtain ⟨zaw1, ca0w1, ca1w1, ca2w1, fa0w1, fa1w1, fa2w1⟩ := kaw1.three; obtain ⟨zbw1, cb0w1, cb1w1, cb2w1, fb0w1, fb1w1, fb2w1⟩ := kbw1.three; obtain ⟨zqw1, cq0w1, cq1w1, cq2w1, fq0w1, fq1w1, fq2w1⟩ := kqw1.three; obtain ⟨zrw1, cr0w1, cr1w1, fr0w1, fr1w1⟩ := krw1.two; clear hbw1)
  refine quiet_last (by kernel_rfl) (by kernel_rfl) ?_
  dsimp only [List.dropLast, List.length, List.drop]
  repeat (go_big_quiet_step (first | (go_at_call 110; with_reducible exact Calls.quiet_of_same (sub_eq H.out _)) | (go_at_call 64; with_reducible exact Calls.quiet_of_same (mul_any _ _ _)) | (go_at_call 102; with_reducible exact Calls.quiet_of_same (add_any _ _ _))))
  refine wpQuiet_nil ?_
  intro _ hw1
  obtain ⟨nq, hw2⟩ := hw1
  subst hw2
  go_wp2_with fail
  exact bodyPost_ret (v := .agg #[.int .i64 (lvN (tM i) (tM j) q : Int), .int .i64 (q.2.1 : Int)]) (by simp [results, Tryz.results155, go_sem, *]) rfl ⟨rfl, below_by⟩
set_option maxRecDepth 100000 in
set_option maxHeartbeats 2000000 in
theorem line_no (i j : Nat) (q : Sn) (w : World) (h : hasL (tM i) (tM j) = false) :
    Calls Tryz.prog 155 #[.agg #[.int .i64 ((tM i).1 : Int), .int .i64 ((tM i).2.1 : Int), .bool (tM i).2.2], .agg #[.int .i64 ((tM j).1 : Int), .int .i64 ((tM j).2.1 : Int), .bool (tM j).2.2], .agg #[.int .i64 ((q).1 : Int), .int .i64 ((q).2.1 : Int), .bool (q).2.2]] w fun e w' => e = .returned (.agg #[.int .i64 1, .int .i64 0]) ∧ Below w.heap.size w w' := by
  have HL : Hid (hasL (tM i) (tM j) = false) := h
  clear h
  have m1 : True := trivial; have m2 : True := trivial
  go_enter Tryz.func155, Tryz.ntmps155
  go_wp2_with (first | (go_at_call 167; clear m1; refine (cslope_no _ (tM_ok i) (tM_ok j) HL.out).mono ?_; rintro e w1 ⟨nx, rfl, hbw1⟩; have kaw1 : At w1 (w.heap.size) [.int .i64 ((tM i).1 : Int), .int .i64 ((tM i).2.1 : Int), .bool (tM i).2.2] := (at_by); have kbw1 : At w1 (w.heap.size + 1) [.int .i64 ((tM j).1 : Int), .int .i64 ((tM j).2.1 : Int), .bool (tM j).2.2] := (at_by); have kqw1 : At w1 (w.heap.size + 2) [.int .i64 ((q).1 : Int), .int .i64 ((q).2.1 : Int), .bool (q).2.2] := (at_by); have krw1 : At w1 (w.heap.size + 3) [.int .i64 0, .int .i64 0] := (at_by); have hqw1 : Below w.heap.size w w1 := (below_by); have hzw1 := hqw1.size; obtain ⟨zaw1, ca0w1, ca1w1, ca2w1, fa0w1, fa1w1, fa2w1⟩ := kaw1.three; obtain ⟨zbw1, cb0w1, cb1w1, cb2w1, fb0w1, fb1w1, fb2w1⟩ := kbw1.three; obtain ⟨zqw1, cq0w1, cq1w1, cq2w1, fq0w1, fq1w1, fq2w1⟩ := kqw1.three; obtain ⟨zrw1, cr0w1, cr1w1, fr0w1, fr1w1⟩ := krw1.two; clear hbw1) | (go_at_call 115; clear m2; refine (one_is _).mono ?_; rintro e w2 ⟨rfl, hbw2⟩; have kaw2 : At w2 (w.heap.size) [.int .i64 ((tM i).1 : Int), .int .i64 ((tM i).2.1 : Int), .bool (tM i).2.2] := (at_by); have kbw2 : At w2 (w.heap.size + 1) [.int .i64 ((tM j).1 : Int), .int .i64 ((tM j).2.1 : Int), .bool (tM j).2.2] := (at_by); have kqw2 : At w2 (w.heap.size + 2) [.int .i64 ((q).1 : Int), .int .i64 ((q).2.1 : Int), .bool (q).2.2] := (at_by); have krw2 : At w2 (w.heap.size + 3) [.int .i64 0, .int .i64 0] := (at_by); have hqw2 : Below w.heap.size w w2 := (below_by); have hzw2 := hqw2.size; obtain ⟨zaw2, ca0w2, ca1w2, ca2w2, fa0w2, fa1w2, fa2w2⟩ := kaw2.three; obtain ⟨zbw2, cb0w2, cb1w2, cb2w2, fb0w2, fb1w2, fb2w2⟩ := kbw2.three; obtain ⟨zqw2, cq0w2, cq1w2, cq2w2, fq0w2, fq1w2, fq2w2⟩ := kqw2.three; obtain ⟨zrw2, cr0w2, cr1w2, fr0w2, fr1w2⟩ := krw2.two; clear kaw1 ca0w1 fa0w1 ca1w1 fa1w1 ca2w1 fa2w1 kbw1 cb0w1 fb0w1 cb1w1 fb1w1 cb2w1 fb2w1 kqw1 cq0w1 fq0w1 cq1w1 fq1w1 cq2w1 fq2w1 krw1 cr0w1 fr0w1 cr1w1 fr1w1 hqw1; clear hbw2))
  exact bodyPost_ret (v := .agg #[.int .i64 1, .int .i64 0]) (by simp [results, Tryz.results155, go_sem, *]) rfl ⟨rfl, below_by⟩
theorem line_any (i j : Nat) (q : Sn) (w : World) :
    Calls Tryz.prog 155 #[.agg #[.int .i64 ((tM i).1 : Int), .int .i64 ((tM i).2.1 : Int), .bool (tM i).2.2], .agg #[.int .i64 ((tM j).1 : Int), .int .i64 ((tM j).2.1 : Int), .bool (tM j).2.2], .agg #[.int .i64 ((q).1 : Int), .int .i64 ((q).2.1 : Int), .bool (q).2.2]] w fun e w' => e = .returned (.agg #[.int .i64 (toI (hvN (tM i) (tM j) q)).1, .int .i64 (toI (hvN (tM i) (tM j) q)).2]) ∧ Below w.heap.size w w' := by
  cases h : hasL (tM i) (tM j) with
  | true => rw [hvI_yes q h]; exact line_yes i j q w h
  | false => rw [hvI_no q h]; exact line_no i j q w h
end Go.Proofs.YtgngdabfmbipaakGreatDoor
