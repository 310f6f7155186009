/- What package times answers: so many times a spot (in the words of the group), its order, whether it counts, the base. -/
import Derived.Test.YtmijjjdedadklagCurveEq
import Derived.Test.YtmijjjdedadklagTimesMath
import Derived.Lib.BitFns
import Derived.Lib.RabinKarpLaws
namespace Go.Proofs.Ytmijjjdedadklag
open Go.RowKit Go.Sort
set_option linter.unusedVariables false
set_option linter.unusedSimpArgs false

theorem len_all : allLT (fun n => Nat.blt n (2 ^ Lib.bitLen n) && Nat.ble (Lib.bitLen n) 12) 4096 = true := by decide +kernel
theorem len_spec {n : Nat} (h : n < 4096) : n < 2 ^ Lib.bitLen n ∧ Lib.bitLen n ≤ 12 := by
  have := allLT_spec len_all n h
  simp only [Bool.and_eq_true] at this
  exact ⟨Nat.le_of_ble_eq_true this.1, Nat.le_of_ble_eq_true this.2⟩
theorem tab_at (i : Nat) (h : i < Lib.len8tab.size) : ((Lib.len8tab[i].toNat : Nat) : Int) = (Lib.bitLen i : Int) := by
  have h' := h
  rw [Lib.len8tab_size] at h'
  have e := Lib.len8_of (i : Int) (by omega) (by omega)
  unfold Lib.len8 at e
  rw [Int.toNat_natCast, getElem?_pos Lib.len8tab i h] at e
  exact e
set_option maxHeartbeats 4000000 in
set_option maxRecDepth 100000 in
theorem len64_small (x : Int) (w : World) (h0 : 0 ≤ x) (h1 : x < 4096) :
    Calls Try.prog 93 #[.int .u64 x] w fun e w' => e = .returned (.int .i64 (Lib.bitLen x.toNat)) ∧ w' = w := by
  go_enter Try.func93, Try.ntmps93
  by_cases hx : 256 ≤ x
  · have hz1 : 0 ≤ x / 256 := by omega
    have hz2 : x / 256 < (Lib.len8tab.size : Int) := by rw [Lib.len8tab_size]; omega
    go_wp2
    go_ret
    refine ⟨congrArg Ending.returned (congrArg (Value.int IntKind.i64) ?_), rfl⟩
    rw [tab_at]
    have e : (x / 256).toNat = x.toNat / 256 := by omega
    have s := Lib.bitLen_shift8 x.toNat (by omega) (by omega)
    have l := (len_spec (n := x.toNat) (by omega)).2
    rw [e]
    unfold wrap64; omega
  · have hz2 : x < (Lib.len8tab.size : Int) := by rw [Lib.len8tab_size]; omega
    go_wp2
    go_ret
    refine ⟨congrArg Ending.returned (congrArg (Value.int IntKind.i64) ?_), rfl⟩
    rw [tab_at]
    have l := (len_spec (n := x.toNat) (by omega)).2
    unfold wrap64; omega
theorem len_small (x : Int) (w : World) (h0 : 0 ≤ x) (h1 : x < 4096) :
    Calls Try.prog 79 #[.int .u64 x] w fun e w' => e = .returned (.int .i64 (Lib.bitLen x.toNat)) ∧ w' = w := by
  go_enter Try.func79, Try.ntmps79
  go_wp2_with (go_at_call 93; refine (len64_small _ _ h0 h1).mono ?_; rintro e w' ⟨rfl, rfl⟩)
  go_ret
  exact ⟨rfl, rfl⟩
theorem round_eq (n : Int) : (n.tmod 4052 + 4052).tmod 4052 = ((em n : Nat) : Int) := by
  rw [em_cast]
  have h1 := Int.emod_nonneg n (by omega : (4052 : Int) ≠ 0)
  have h2 := Int.emod_lt_of_pos n (by omega : (0 : Int) < 4052)
  have h3 : n.tmod 4052 = n % 4052 ∨ n.tmod 4052 = n % 4052 - 4052 := by
    by_cases h : 0 ≤ n
    · left; exact Int.tmod_eq_emod_of_nonneg h
    · have e : n.tmod 4052 = - ((-n) % 4052) := by
        rw [← Int.tmod_eq_emod_of_nonneg (by omega : 0 ≤ -n), Int.neg_tmod, Int.neg_neg]
      rw [e]; omega
  rcases h3 with h | h <;> rw [h, Int.tmod_eq_emod_of_nonneg (by omega)] <;> omega
theorem round_bd (n : Int) : -4052 < n.tmod 4052 ∧ n.tmod 4052 < 4052 := by
  by_cases h : 0 ≤ n
  · rw [Int.tmod_eq_emod_of_nonneg h]; omega
  · have e : n.tmod 4052 = - ((-n) % 4052) := by
      rw [← Int.tmod_eq_emod_of_nonneg (by omega : 0 ≤ -n), Int.neg_tmod, Int.neg_neg]
    rw [e]; omega
theorem round_any (n : Int) (w : World) :
    Calls Try.prog 52 #[.int .i64 n] w fun e w' => e = .returned (.int .i64 (em n : Int)) ∧ w' = w := by
  obtain ⟨hb1, hb2⟩ := round_bd n
  have H : Hid ((n.tmod 4052 + 4052) % 4052 = ((em n : Nat) : Int)) := by have := round_eq n; rwa [Int.tmod_eq_emod_of_nonneg (by omega)] at this
  go_enter Try.func52, Try.ntmps52
  go_wp2
  go_ret
  exact ⟨ret_int H.out, rfl⟩
theorem len_nat {n L : Nat} (h : Lib.bitLen n = L) (w : World) (h1 : n < 4096) :
    Calls Try.prog 79 #[.int .u64 (n : Int)] w fun e w' => e = .returned (.int .i64 (L : Int)) ∧ w' = w := by
  subst h; exact len_small n w (by omega) (by omega)
theorem half_step (n : Nat) {L k : Nat} (h : k < L) : n / 2 ^ (L - k) = n / 2 ^ (L - (k + 1)) / 2 := by
  rw [Nat.div_div_eq_div_mul, ← Nat.pow_succ, show (L - (k + 1)).succ = L - k by omega]
theorem bit_is (n L k : Nat) (hn : n < 4052) : bits BinOp.and IntKind.i64 ((n : Int) / 2 ^ (L - 1 - k)) 1 = ((n / 2 ^ (L - (k + 1)) % 2 : Nat) : Int) := by
  have e : ((n : Int) / 2 ^ (L - 1 - k)) = ((n / 2 ^ (L - (k + 1)) : Nat) : Int) := by
    rw [show L - 1 - k = L - (k + 1) by omega]; push_cast; rfl
  rw [e, Go.Proofs.and_one _ (Nat.lt_of_le_of_lt (Nat.div_le_self _ _) (by omega))]
theorem half_even (i m : Nat) (h : m % 2 = 0) : i * (m / 2) + i * (m / 2) = i * m := by
  rw [← Nat.mul_add, show m / 2 + m / 2 = m by omega]
theorem half_odd (i m : Nat) (h : m % 2 = 1) : i * (m / 2) + i * (m / 2) + i = i * m := by
  rw [← Nat.mul_add, ← Nat.mul_succ, show (m / 2 + m / 2).succ = m by omega]
set_option maxRecDepth 100000 in
set_option maxHeartbeats 4000000 in
theorem rep_tM (i n : Nat) (w : World) (hn : n < 4052) :
    Calls Try.prog 51 #[.agg #[.int .i64 ((tM i).1 : Int), .int .i64 ((tM i).2.1 : Int), .bool (tM i).2.2], .int .i64 (n : Int)] w fun e w' => e = .returned (.tuple #[.agg #[.int .i64 ((tM (i * n)).1 : Int), .int .i64 ((tM (i * n)).2.1 : Int), .bool (tM (i * n)).2.2], .nilIface]) ∧ Below w.heap.size w w' := by
  obtain ⟨L, hL⟩ : ∃ L, Lib.bitLen n = L := ⟨_, rfl⟩
  obtain ⟨h2, hl⟩ := len_spec (n := n) (by omega)
  rw [hL] at h2 hl
  have HL : Hid (n < 2 ^ L) := h2
  have HB : Hid (Lib.bitLen n = L) := hL
  clear h2 hL
  go_enter Try.func51, Try.ntmps51
  go_wp2_with (go_at_call 79; refine (len_nat HB.out _ (by omega)).mono ?_; rintro e w' ⟨rfl, rfl⟩)
  go_loopw [16] (fun ti wl => ∃ k : Nat, k ≤ L ∧ ti = .int .i64 k ∧ At wl w.heap.size [.int .i64 ((tM i).1 : Int), .int .i64 ((tM i).2.1 : Int), .bool (tM i).2.2] ∧ At wl (w.heap.size + 1) [.int .i64 0, .int .i64 0, .bool false] ∧ At wl (w.heap.size + 2) [.int .i64 ((tM (i * (n / 2 ^ (L - k)))).1 : Int), .int .i64 ((tM (i * (n / 2 ^ (L - k)))).2.1 : Int), .bool (tM (i * (n / 2 ^ (L - k)))).2.2] ∧ Below w.heap.size w wl) (fun ti _ => L - (intOf ti).toNat)
  case atStart =>
    have e : tM (i * (n / 2 ^ (L - 0))) = farN := by
      rw [Nat.sub_zero, Nat.div_eq_of_lt HL.out, Nat.mul_zero]; rfl
    refine ⟨0, by omega, rfl, by repeat (first | assumption | ((with_reducible refine at_new' _ _ _ _ ?_); (first | rfl | (simp; done))) | (with_reducible refine At.alloc ?_ _) | (with_reducible refine At.drewN ?_) | (with_reducible refine At.grow ?_) | (with_reducible refine At.store4 (by assumption)) | (with_reducible refine At.store3 (by assumption)) | (with_reducible refine At.store2 (by assumption)) | (with_reducible refine At.set ?_ (by omega)) | (with_reducible apply At.store4) | (with_reducible apply At.store3) | (with_reducible apply At.put43) | (refine At.below ?_ (by assumption))), by repeat (first | assumption | ((with_reducible refine at_new' _ _ _ _ ?_); (first | rfl | (simp; done))) | (with_reducible refine At.alloc ?_ _) | (with_reducible refine At.drewN ?_) | (with_reducible refine At.grow ?_) | (with_reducible refine At.store4 (by assumption)) | (with_reducible refine At.store3 (by assumption)) | (with_reducible refine At.store2 (by assumption)) | (with_reducible refine At.set ?_ (by omega)) | (with_reducible apply At.store4) | (with_reducible apply At.store3) | (with_reducible apply At.put43) | (refine At.below ?_ (by assumption))), ?_, by repeat (first | (with_reducible exact Below.refl _ _) | (with_reducible assumption) | (with_reducible refine Below.setCell ?_ (by first | (simp; done) | (simp; omega) | omega) _) | (with_reducible refine Below.alloc ?_ (by first | (simp; done) | (simp; omega) | omega) _) | (refine bl_call ?_ (by assumption) (by first | (simp; done) | (simp; omega) | omega)) | (with_reducible refine bl_drewN ?_) | (with_reducible refine Below.drew ?_) | (with_reducible refine bl_grow ?_ (by first | (simp; done) | (simp; omega) | omega)))⟩
    rw [e]
    show At _ _ [.int .i64 0, .int .i64 0, .bool true]
    exact (by repeat (first | assumption | ((with_reducible refine at_new' _ _ _ _ ?_); (first | rfl | (simp; done))) | (with_reducible refine At.alloc ?_ _) | (with_reducible refine At.drewN ?_) | (with_reducible refine At.grow ?_) | (with_reducible refine At.store4 (by assumption)) | (with_reducible refine At.store3 (by assumption)) | (with_reducible refine At.store2 (by assumption)) | (with_reducible refine At.set ?_ (by omega)) | (with_reducible apply At.store4) | (with_reducible apply At.store3) | (with_reducible apply At.put43) | (refine At.below ?_ (by assumption))))
  case round =>
    obtain ⟨k, hk, rfl, kaV, krV, ksV, hqV⟩ := hrel
    have hz := hqV.size
    obtain ⟨zaV, ca0V, ca1V, ca2V, fa0V, fa1V, fa2V⟩ := kaV.three
    obtain ⟨zrV, cr0V, cr1V, cr2V, fr0V, fr1V, fr2V⟩ := krV.three
    obtain ⟨zsV, cs0V, cs1V, cs2V, fs0V, fs1V, fs2V⟩ := ksV.three
    by_cases hlt : k < L
    · have hlt' : (k : Int) < L := by omega
      obtain ⟨J, hJ⟩ : ∃ J, i * (n / 2 ^ (L - k)) = J := ⟨_, rfl⟩
      rw [hJ] at ksV cs0V cs1V cs2V
      have hs := half_step n hlt
      have hb := bit_is n L k hn
      have he := half_even i (n / 2 ^ (L - (k + 1)))
      have ho := half_odd i (n / 2 ^ (L - (k + 1)))
      rw [← hs, hJ] at he ho
      by_cases hbit : n / 2 ^ (L - (k + 1)) % 2 = 0
      · have HE : Hid (J + J = i * (n / 2 ^ (L - (k + 1)))) := he hbit
        have hbt : (bits BinOp.and IntKind.i64 ((n : Int) / 2 ^ (L - 1 - k)) 1 == 0) = true := by rw [hb, hbit]; rfl
        clear he ho hb hs hJ hbit
        have m1 : True := trivial
        go_wp2_with (first | (go_at_call 23; clear m1; refine (cadd_tM _ _ _).mono ?_; rintro e w1 ⟨rfl, hbw1⟩; have kaw1 : At w1 (w.heap.size) [.int .i64 ((tM i).1 : Int), .int .i64 ((tM i).2.1 : Int), .bool (tM i).2.2] := (by repeat (first | assumption | ((with_reducible refine at_new' _ _ _ _ ?_); (first | rfl | (simp; done))) | (with_reducible refine At.alloc ?_ _) | (with_reducible refine At.drewN ?_) | (with_reducible refine At.grow ?_) | (with_reducible refine At.store4 (by assumption)) | (with_reducible refine At.store3 (by assumption)) | (with_reducible refine At.store2 (by assumption)) | (with_reducible refine At.set ?_ (by omega)) | (with_reducible apply At.store4) | (with_reducible apply At.store3) | (with_reducible apply At.put43) | (refine At.below ?_ (by assumption)))); have krw1 : At w1 (w.heap.size + 1) [.int .i64 0, .int .i64 0, .bool false] := (by repeat (first | assumption | ((with_reducible refine at_new' _ _ _ _ ?_); (first | rfl | (simp; done))) | (with_reducible refine At.alloc ?_ _) | (with_reducible refine At.drewN ?_) | (with_reducible refine At.grow ?_) | (with_reducible refine At.store4 (by assumption)) | (with_reducible refine At.store3 (by assumption)) | (with_reducible refine At.store2 (by assumption)) | (with_reducible refine At.set ?_ (by omega)) | (with_reducible apply At.store4) | (with_reducible apply At.store3) | (with_reducible apply At.put43) | (refine At.below ?_ (by assumption)))); have ksw1 : At w1 (w.heap.size + 2) [.int .i64 ((tM J).1 : Int), .int .i64 ((tM J).2.1 : Int), .bool (tM J).2.2] := (by repeat (first | assumption | ((with_reducible refine at_new' _ _ _ _ ?_); (first | rfl | (simp; done))) | (with_reducible refine At.alloc ?_ _) | (with_reducible refine At.drewN ?_) | (with_reducible refine At.grow ?_) | (with_reducible refine At.store4 (by assumption)) | (with_reducible refine At.store3 (by assumption)) | (with_reducible refine At.store2 (by assumption)) | (with_reducible refine At.set ?_ (by omega)) | (with_reducible apply At.store4) | (with_reducible apply At.store3) | (with_reducible apply At.put43) | (refine At.below ?_ (by assumption)))); have hqw1 : Below w.heap.size w w1 := (by repeat (first | (with_reducible exact Below.refl _ _) | (with_reducible assumption) | (with_reducible refine Below.setCell ?_ (by first | (simp; done) | (simp; omega) | omega) _) | (with_reducible refine Below.alloc ?_ (by first | (simp; done) | (simp; omega) | omega) _) | (refine bl_call ?_ (by assumption) (by first | (simp; done) | (simp; omega) | omega)) | (with_reducible refine bl_drewN ?_) | (with_reducible refine Below.drew ?_) | (with_reducible refine bl_grow ?_ (by first | (simp; done) | (simp; omega) | omega)))); have hzw1 := hqw1.size; obtain ⟨zaw1, ca0w1, ca1w1, ca2w1, fa0w1, fa1w1, fa2w1⟩ := kaw1.three; obtain ⟨zrw1, cr0w1, cr1w1, cr2w1, fr0w1, fr1w1, fr2w1⟩ := krw1.three; obtain ⟨zsw1, cs0w1, cs1w1, cs2w1, fs0w1, fs1w1, fs2w1⟩ := ksw1.three; clear kaV ca0V fa0V ca1V fa1V ca2V fa2V krV cr0V fr0V cr1V fr1V cr2V fr2V ksV cs0V fs0V cs1V fs1V cs2V fs2V hqV; clear hbw1))
        go_roundw
        case rel => exact ⟨k + 1, by omega, by simp, by repeat (first | assumption | ((with_reducible refine at_new' _ _ _ _ ?_); (first | rfl | (simp; done))) | (with_reducible refine At.alloc ?_ _) | (with_reducible refine At.drewN ?_) | (with_reducible refine At.grow ?_) | (with_reducible refine At.store4 (by assumption)) | (with_reducible refine At.store3 (by assumption)) | (with_reducible refine At.store2 (by assumption)) | (with_reducible refine At.set ?_ (by omega)) | (with_reducible apply At.store4) | (with_reducible apply At.store3) | (with_reducible apply At.put43) | (refine At.below ?_ (by assumption))), by repeat (first | assumption | ((with_reducible refine at_new' _ _ _ _ ?_); (first | rfl | (simp; done))) | (with_reducible refine At.alloc ?_ _) | (with_reducible refine At.drewN ?_) | (with_reducible refine At.grow ?_) | (with_reducible refine At.store4 (by assumption)) | (with_reducible refine At.store3 (by assumption)) | (with_reducible refine At.store2 (by assumption)) | (with_reducible refine At.set ?_ (by omega)) | (with_reducible apply At.store4) | (with_reducible apply At.store3) | (with_reducible apply At.put43) | (refine At.below ?_ (by assumption))), by rw [← HE.out]; exact (by repeat (first | assumption | ((with_reducible refine at_new' _ _ _ _ ?_); (first | rfl | (simp; done))) | (with_reducible refine At.alloc ?_ _) | (with_reducible refine At.drewN ?_) | (with_reducible refine At.grow ?_) | (with_reducible refine At.store4 (by assumption)) | (with_reducible refine At.store3 (by assumption)) | (with_reducible refine At.store2 (by assumption)) | (with_reducible refine At.set ?_ (by omega)) | (with_reducible apply At.store4) | (with_reducible apply At.store3) | (with_reducible apply At.put43) | (refine At.below ?_ (by assumption)))), by repeat (first | (with_reducible exact Below.refl _ _) | (with_reducible assumption) | (with_reducible refine Below.setCell ?_ (by first | (simp; done) | (simp; omega) | omega) _) | (with_reducible refine Below.alloc ?_ (by first | (simp; done) | (simp; omega) | omega) _) | (refine bl_call ?_ (by assumption) (by first | (simp; done) | (simp; omega) | omega)) | (with_reducible refine bl_drewN ?_) | (with_reducible refine Below.drew ?_) | (with_reducible refine bl_grow ?_ (by first | (simp; done) | (simp; omega) | omega)))⟩
        case measure => simp [intOf]; omega
      · have HO : Hid (J + J + i = i * (n / 2 ^ (L - (k + 1)))) := ho (by omega)
        have hbt : (bits BinOp.and IntKind.i64 ((n : Int) / 2 ^ (L - 1 - k)) 1 == 0) = false := by rw [hb, show n / 2 ^ (L - (k + 1)) % 2 = 1 by omega]; rfl
        clear he ho hb hs hJ hbit
        have m1 : True := trivial
        have m2 : True := trivial
        go_wp2_with (first | (go_at_call 23; clear m1; refine (cadd_tM _ _ _).mono ?_; rintro e w1 ⟨rfl, hbw1⟩; have kaw1 : At w1 (w.heap.size) [.int .i64 ((tM i).1 : Int), .int .i64 ((tM i).2.1 : Int), .bool (tM i).2.2] := (by repeat (first | assumption | ((with_reducible refine at_new' _ _ _ _ ?_); (first | rfl | (simp; done))) | (with_reducible refine At.alloc ?_ _) | (with_reducible refine At.drewN ?_) | (with_reducible refine At.grow ?_) | (with_reducible refine At.store4 (by assumption)) | (with_reducible refine At.store3 (by assumption)) | (with_reducible refine At.store2 (by assumption)) | (with_reducible refine At.set ?_ (by omega)) | (with_reducible apply At.store4) | (with_reducible apply At.store3) | (with_reducible apply At.put43) | (refine At.below ?_ (by assumption)))); have krw1 : At w1 (w.heap.size + 1) [.int .i64 0, .int .i64 0, .bool false] := (by repeat (first | assumption | ((with_reducible refine at_new' _ _ _ _ ?_); (first | rfl | (simp; done))) | (with_reducible refine At.alloc ?_ _) | (with_reducible refine At.drewN ?_) | (with_reducible refine At.grow ?_) | (with_reducible refine At.store4 (by assumption)) | (with_reducible refine At.store3 (by assumption)) | (with_reducible refine At.store2 (by assumption)) | (with_reducible refine At.set ?_ (by omega)) | (with_reducible apply At.store4) | (with_reducible apply At.store3) | (with_reducible apply At.put43) | (refine At.below ?_ (by assumption)))); have ksw1 : At w1 (w.heap.size + 2) [.int .i64 ((tM J).1 : Int), .int .i64 ((tM J).2.1 : Int), .bool (tM J).2.2] := (by repeat (first | assumption | ((with_reducible refine at_new' _ _ _ _ ?_); (first | rfl | (simp; done))) | (with_reducible refine At.alloc ?_ _) | (with_reducible refine At.drewN ?_) | (with_reducible refine At.grow ?_) | (with_reducible refine At.store4 (by assumption)) | (with_reducible refine At.store3 (by assumption)) | (with_reducible refine At.store2 (by assumption)) | (with_reducible refine At.set ?_ (by omega)) | (with_reducible apply At.store4) | (with_reducible apply At.store3) | (with_reducible apply At.put43) | (refine At.below ?_ (by assumption)))); have hqw1 : Below w.heap.size w w1 := (by repeat (first | (with_reducible exact Below.refl _ _) | (with_reducible assumption) | (with_reducible refine Below.setCell ?_ (by first | (simp; done) | (simp; omega) | omega) _) | (with_reducible refine Below.alloc ?_ (by first | (simp; done) | (simp; omega) | omega) _) | (refine bl_call ?_ (by assumption) (by first | (simp; done) | (simp; omega) | omega)) | (with_reducible refine bl_drewN ?_) | (with_reducible refine Below.drew ?_) | (with_reducible refine bl_grow ?_ (by first | (simp; done) | (simp; omega) | omega)))); have hzw1 := hqw1.size; obtain ⟨zaw1, ca0w1, ca1w1, ca2w1, fa0w1, fa1w1, fa2w1⟩ := kaw1.three; obtain ⟨zrw1, cr0w1, cr1w1, cr2w1, fr0w1, fr1w1, fr2w1⟩ := krw1.three; obtain ⟨zsw1, cs0w1, cs1w1, cs2w1, fs0w1, fs1w1, fs2w1⟩ := ksw1.three; clear kaV ca0V fa0V ca1V fa1V ca2V fa2V krV cr0V fr0V cr1V fr1V cr2V fr2V ksV cs0V fs0V cs1V fs1V cs2V fs2V hqV; clear hbw1) | (go_at_call 23; clear m2; refine (cadd_tM _ _ _).mono ?_; rintro e w2 ⟨rfl, hbw2⟩; have kaw2 : At w2 (w.heap.size) [.int .i64 ((tM i).1 : Int), .int .i64 ((tM i).2.1 : Int), .bool (tM i).2.2] := (by repeat (first | assumption | ((with_reducible refine at_new' _ _ _ _ ?_); (first | rfl | (simp; done))) | (with_reducible refine At.alloc ?_ _) | (with_reducible refine At.drewN ?_) | (with_reducible refine At.grow ?_) | (with_reducible refine At.store4 (by assumption)) | (with_reducible refine At.store3 (by assumption)) | (with_reducible refine At.store2 (by assumption)) | (with_reducible refine At.set ?_ (by omega)) | (with_reducible apply At.store4) | (with_reducible apply At.store3) | (with_reducible apply At.put43) | (refine At.below ?_ (by assumption)))); have krw2 : At w2 (w.heap.size + 1) [.int .i64 0, .int .i64 0, .bool false] := (by repeat (first | assumption | ((with_reducible refine at_new' _ _ _ _ ?_); (first | rfl | (simp; done))) | (with_reducible refine At.alloc ?_ _) | (with_reducible refine At.drewN ?_) | (with_reducible refine At.grow ?_) | (with_reducible refine At.store4 (by assumption)) | (with_reducible refine At.store3 (by assumption)) | (with_reducible refine At.store2 (by assumption)) | (with_reducible refine At.set ?_ (by omega)) | (with_reducible apply At.store4) | (with_reducible apply At.store3) | (with_reducible apply At.put43) | (refine At.below ?_ (by assumption)))); have ksw2 : At w2 (w.heap.size + 2) [.int .i64 ((tM (J + J)).1 : Int), .int .i64 ((tM (J + J)).2.1 : Int), .bool (tM (J + J)).2.2] := (by repeat (first | assumption | ((with_reducible refine at_new' _ _ _ _ ?_); (first | rfl | (simp; done))) | (with_reducible refine At.alloc ?_ _) | (with_reducible refine At.drewN ?_) | (with_reducible refine At.grow ?_) | (with_reducible refine At.store4 (by assumption)) | (with_reducible refine At.store3 (by assumption)) | (with_reducible refine At.store2 (by assumption)) | (with_reducible refine At.set ?_ (by omega)) | (with_reducible apply At.store4) | (with_reducible apply At.store3) | (with_reducible apply At.put43) | (refine At.below ?_ (by assumption)))); have hqw2 : Below w.heap.size w w2 := (by repeat (first | (with_reducible exact Below.refl _ _) | (with_reducible assumption) | (with_reducible refine Below.setCell ?_ (by first | (simp; done) | (simp; omega) | omega) _) | (with_reducible refine Below.alloc ?_ (by first | (simp; done) | (simp; omega) | omega) _) | (refine bl_call ?_ (by assumption) (by first | (simp; done) | (simp; omega) | omega)) | (with_reducible refine bl_drewN ?_) | (with_reducible refine Below.drew ?_) | (with_reducible refine bl_grow ?_ (by first | (simp; done) | (simp; omega) | omega)))); have hzw2 := hqw2.size; obtain ⟨zaw2, ca0w2, ca1w2, ca2w2, fa0w2, fa1w2, fa2w2⟩ := kaw2.three; obtain ⟨zrw2, cr0w2, cr1w2, cr2w2, fr0w2, fr1w2, fr2w2⟩ := krw2.three; obtain ⟨zsw2, cs0w2, cs1w2, cs2w2, fs0w2, fs1w2, fs2w2⟩ := ksw2.three; clear kaw1 ca0w1 fa0w1 ca1w1 fa1w1 ca2w1 fa2w1 krw1 cr0w1 fr0w1 cr1w1 fr1w1 cr2w1 fr2w1 ksw1 cs0w1 fs0w1 cs1w1 fs1w1 cs2w1 fs2w1 hqw1; clear hbw2))
        go_roundw
        case rel => exact ⟨k + 1, by omega, by simp, by repeat (first | assumption | ((with_reducible refine at_new' _ _ _ _ ?_); (first | rfl | (simp; done))) | (with_reducible refine At.alloc ?_ _) | (with_reducible refine At.drewN ?_) | (with_reducible refine At.grow ?_) | (with_reducible refine At.store4 (by assumption)) | (with_reducible refine At.store3 (by assumption)) | (with_reducible refine At.store2 (by assumption)) | (with_reducible refine At.set ?_ (by omega)) | (with_reducible apply At.store4) | (with_reducible apply At.store3) | (with_reducible apply At.put43) | (refine At.below ?_ (by assumption))), by repeat (first | assumption | ((with_reducible refine at_new' _ _ _ _ ?_); (first | rfl | (simp; done))) | (with_reducible refine At.alloc ?_ _) | (with_reducible refine At.drewN ?_) | (with_reducible refine At.grow ?_) | (with_reducible refine At.store4 (by assumption)) | (with_reducible refine At.store3 (by assumption)) | (with_reducible refine At.store2 (by assumption)) | (with_reducible refine At.set ?_ (by omega)) | (with_reducible apply At.store4) | (with_reducible apply At.store3) | (with_reducible apply At.put43) | (refine At.below ?_ (by assumption))), by rw [← HO.out]; exact (by repeat (first | assumption | ((with_reducible refine at_new' _ _ _ _ ?_); (first | rfl | (simp; done))) | (with_reducible refine At.alloc ?_ _) | (with_reducible refine At.drewN ?_) | (with_reducible refine At.grow ?_) | (with_reducible refine At.store4 (by assumption)) | (with_reducible refine At.store3 (by assumption)) | (with_reducible refine At.store2 (by assumption)) | (with_reducible refine At.set ?_ (by omega)) | (with_reducible apply At.store4) | (with_reducible apply At.store3) | (with_reducible apply At.put43) | (refine At.below ?_ (by assumption)))), by repeat (first | (with_reducible exact Below.refl _ _) | (with_reducible assumption) | (with_reducible refine Below.setCell ?_ (by first | (simp; done) | (simp; omega) | omega) _) | (with_reducible refine Below.alloc ?_ (by first | (simp; done) | (simp; omega) | omega) _) | (refine bl_call ?_ (by assumption) (by first | (simp; done) | (simp; omega) | omega)) | (with_reducible refine bl_drewN ?_) | (with_reducible refine Below.drew ?_) | (with_reducible refine bl_grow ?_ (by first | (simp; done) | (simp; omega) | omega)))⟩
        case measure => simp [intOf]; omega
    · have hlt' : ¬ (k : Int) < L := by omega
      obtain rfl : k = L := by omega
      rw [Nat.sub_self, Nat.pow_zero, Nat.div_one] at ksV cs0V cs1V cs2V
      go_wp2_with fail
      exact bodyPost_ret (v := .tuple #[.agg #[.int .i64 ((tM (i * n)).1 : Int), .int .i64 ((tM (i * n)).2.1 : Int), .bool (tM (i * n)).2.2], .nilIface]) (by simp [results, Try.results51, go_sem, *]) rfl ⟨rfl, by repeat (first | (with_reducible exact Below.refl _ _) | (with_reducible assumption) | (with_reducible refine Below.setCell ?_ (by first | (simp; done) | (simp; omega) | omega) _) | (with_reducible refine Below.alloc ?_ (by first | (simp; done) | (simp; omega) | omega) _) | (refine bl_call ?_ (by assumption) (by first | (simp; done) | (simp; omega) | omega)) | (with_reducible refine bl_drewN ?_) | (with_reducible refine Below.drew ?_) | (with_reducible refine bl_grow ?_ (by first | (simp; done) | (simp; omega) | omega)))⟩
set_option maxRecDepth 100000 in
set_option maxHeartbeats 4000000 in
theorem times_tM (i : Nat) (n : Int) (w : World) :
    Calls Try.prog 19 #[.agg #[.int .i64 ((tM i).1 : Int), .int .i64 ((tM i).2.1 : Int), .bool (tM i).2.2], .int .i64 n] w fun e w' => e = .returned (.tuple #[.agg #[.int .i64 ((tM (i * em n)).1 : Int), .int .i64 ((tM (i * em n)).2.1 : Int), .bool (tM (i * em n)).2.2], .nilIface]) ∧ Below w.heap.size w w' := by
  have m1 : True := trivial
  have hem := em_lt n
  go_enter Try.func19, Try.ntmps19
  go_wp2_with (go_at_call 31; clear m1; refine (check_tM _ _).mono ?_; rintro e w1 ⟨rfl, hbw1⟩; have kaw1 : At w1 (w.heap.size) [.int .i64 ((tM i).1 : Int), .int .i64 ((tM i).2.1 : Int), .bool (tM i).2.2] := (by repeat (first | assumption | ((with_reducible refine at_new' _ _ _ _ ?_); (first | rfl | (simp; done))) | (with_reducible refine At.alloc ?_ _) | (with_reducible refine At.drewN ?_) | (with_reducible refine At.grow ?_) | (with_reducible refine At.store4 (by assumption)) | (with_reducible refine At.store3 (by assumption)) | (with_reducible refine At.store2 (by assumption)) | (with_reducible refine At.set ?_ (by omega)) | (with_reducible apply At.store4) | (with_reducible apply At.store3) | (with_reducible apply At.put43) | (refine At.below ?_ (by assumption)))); have krw1 : At w1 (w.heap.size + 1) [.int .i64 0, .int .i64 0, .bool false] := (by repeat (first | assumption | ((with_reducible refine at_new' _ _ _ _ ?_); (first | rfl | (simp; done))) | (with_reducible refine At.alloc ?_ _) | (with_reducible refine At.drewN ?_) | (with_reducible refine At.grow ?_) | (with_reducible refine At.store4 (by assumption)) | (with_reducible refine At.store3 (by assumption)) | (with_reducible refine At.store2 (by assumption)) | (with_reducible refine At.set ?_ (by omega)) | (with_reducible apply At.store4) | (with_reducible apply At.store3) | (with_reducible apply At.put43) | (refine At.below ?_ (by assumption)))); have hqw1 : Below w.heap.size w w1 := (by repeat (first | (with_reducible exact Below.refl _ _) | (with_reducible assumption) | (with_reducible refine Below.setCell ?_ (by first | (simp; done) | (simp; omega) | omega) _) | (with_reducible refine Below.alloc ?_ (by first | (simp; done) | (simp; omega) | omega) _) | (refine bl_call ?_ (by assumption) (by first | (simp; done) | (simp; omega) | omega)) | (with_reducible refine bl_drewN ?_) | (with_reducible refine Below.drew ?_) | (with_reducible refine bl_grow ?_ (by first | (simp; done) | (simp; omega) | omega)))); have hzw1 := hqw1.size; obtain ⟨zaw1, ca0w1, ca1w1, ca2w1, fa0w1, fa1w1, fa2w1⟩ := kaw1.three; obtain ⟨zrw1, cr0w1, cr1w1, cr2w1, fr0w1, fr1w1, fr2w1⟩ := krw1.three; clear hbw1)
  refine wp_gen (fun W2 => At W2 (w.heap.size) [.int .i64 ((tM i).1 : Int), .int .i64 ((tM i).2.1 : Int), .bool (tM i).2.2] ∧ At W2 (w.heap.size + 1) [.int .i64 0, .int .i64 0, .bool false] ∧ Below w.heap.size w W2) ⟨by repeat (first | assumption | ((with_reducible refine at_new' _ _ _ _ ?_); (first | rfl | (simp; done))) | (with_reducible refine At.alloc ?_ _) | (with_reducible refine At.drewN ?_) | (with_reducible refine At.grow ?_) | (with_reducible refine At.store4 (by assumption)) | (with_reducible refine At.store3 (by assumption)) | (with_reducible refine At.store2 (by assumption)) | (with_reducible refine At.set ?_ (by omega)) | (with_reducible apply At.store4) | (with_reducible apply At.store3) | (with_reducible apply At.put43) | (refine At.below ?_ (by assumption))), by repeat (first | assumption | ((with_reducible refine at_new' _ _ _ _ ?_); (first | rfl | (simp; done))) | (with_reducible refine At.alloc ?_ _) | (with_reducible refine At.drewN ?_) | (with_reducible refine At.grow ?_) | (with_reducible refine At.store4 (by assumption)) | (with_reducible refine At.store3 (by assumption)) | (with_reducible refine At.store2 (by assumption)) | (with_reducible refine At.set ?_ (by omega)) | (with_reducible apply At.store4) | (with_reducible apply At.store3) | (with_reducible apply At.put43) | (refine At.below ?_ (by assumption))), by repeat (first | (with_reducible exact Below.refl _ _) | (with_reducible assumption) | (with_reducible refine Below.setCell ?_ (by first | (simp; done) | (simp; omega) | omega) _) | (with_reducible refine Below.alloc ?_ (by first | (simp; done) | (simp; omega) | omega) _) | (refine bl_call ?_ (by assumption) (by first | (simp; done) | (simp; omega) | omega)) | (with_reducible refine bl_drewN ?_) | (with_reducible refine Below.drew ?_) | (with_reducible refine bl_grow ?_ (by first | (simp; done) | (simp; omega) | omega)))⟩ ?_
  rintro W2 ⟨kaW2, krW2, hqW2⟩
  have hzW2 := hqW2.size
  clear kaw1 ca0w1 fa0w1 ca1w1 fa1w1 ca2w1 fa2w1 krw1 cr0w1 fr0w1 cr1w1 fr1w1 cr2w1 fr2w1 hqw1
  obtain ⟨zaW2, ca0W2, ca1W2, ca2W2, fa0W2, fa1W2, fa2W2⟩ := kaW2.three
  obtain ⟨zrW2, cr0W2, cr1W2, cr2W2, fr0W2, fr1W2, fr2W2⟩ := krW2.three
  go_region_with (first | (go_at_call 52; refine (round_any _ _).mono ?_; rintro e w3 ⟨rfl, rfl⟩) | (go_at_call 51; refine (rep_tM _ _ _ hem).mono ?_; rintro e w3 ⟨rfl, hb3⟩; have kaw3 : At w3 (w.heap.size) [.int .i64 ((tM i).1 : Int), .int .i64 ((tM i).2.1 : Int), .bool (tM i).2.2] := (by repeat (first | assumption | ((with_reducible refine at_new' _ _ _ _ ?_); (first | rfl | (simp; done))) | (with_reducible refine At.alloc ?_ _) | (with_reducible refine At.drewN ?_) | (with_reducible refine At.grow ?_) | (with_reducible refine At.store4 (by assumption)) | (with_reducible refine At.store3 (by assumption)) | (with_reducible refine At.store2 (by assumption)) | (with_reducible refine At.set ?_ (by omega)) | (with_reducible apply At.store4) | (with_reducible apply At.store3) | (with_reducible apply At.put43) | (refine At.below ?_ (by assumption)))); have krw3 : At w3 (w.heap.size + 1) [.int .i64 0, .int .i64 0, .bool false] := (by repeat (first | assumption | ((with_reducible refine at_new' _ _ _ _ ?_); (first | rfl | (simp; done))) | (with_reducible refine At.alloc ?_ _) | (with_reducible refine At.drewN ?_) | (with_reducible refine At.grow ?_) | (with_reducible refine At.store4 (by assumption)) | (with_reducible refine At.store3 (by assumption)) | (with_reducible refine At.store2 (by assumption)) | (with_reducible refine At.set ?_ (by omega)) | (with_reducible apply At.store4) | (with_reducible apply At.store3) | (with_reducible apply At.put43) | (refine At.below ?_ (by assumption)))); have hq3 : Below w.heap.size w w3 := (by repeat (first | (with_reducible exact Below.refl _ _) | (with_reducible assumption) | (with_reducible refine Below.setCell ?_ (by first | (simp; done) | (simp; omega) | omega) _) | (with_reducible refine Below.alloc ?_ (by first | (simp; done) | (simp; omega) | omega) _) | (refine bl_call ?_ (by assumption) (by first | (simp; done) | (simp; omega) | omega)) | (with_reducible refine bl_drewN ?_) | (with_reducible refine Below.drew ?_) | (with_reducible refine bl_grow ?_ (by first | (simp; done) | (simp; omega) | omega)))); obtain ⟨zaw3, ca0w3, ca1w3, ca2w3, fa0w3, fa1w3, fa2w3⟩ := kaw3.three; obtain ⟨zrw3, cr0w3, cr1w3, cr2w3, fr0w3, fr1w3, fr2w3⟩ := krw3.three))
  all_goals (try go_wp2_with fail)
  all_goals exact bodyPost_ret (v := .tuple #[.agg #[.int .i64 ((tM (i * em n)).1 : Int), .int .i64 ((tM (i * em n)).2.1 : Int), .bool (tM (i * em n)).2.2], .nilIface]) (by simp [results, Try.results19, go_sem, *]) rfl ⟨rfl, by repeat (first | (with_reducible exact Below.refl _ _) | (with_reducible assumption) | (with_reducible refine Below.setCell ?_ (by first | (simp; done) | (simp; omega) | omega) _) | (with_reducible refine Below.alloc ?_ (by first | (simp; done) | (simp; omega) | omega) _) | (refine bl_call ?_ (by assumption) (by first | (simp; done) | (simp; omega) | omega)) | (with_reducible refine bl_drewN ?_) | (with_reducible refine Below.drew ?_) | (with_reducible refine bl_grow ?_ (by first | (simp; done) | (simp; omega) | omega)))⟩
end Go.Proofs.Ytmijjjdedadklag
