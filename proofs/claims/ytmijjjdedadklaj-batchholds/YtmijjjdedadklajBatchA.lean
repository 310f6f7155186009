/- What the inner functions of package batch answer: checkMany, check, weighed, answered. -/
import Derived.Test.YtmijjjdedadklajBatchIs
import Derived.Test.YtmijjjdedadklajSeal
import Derived.Test.YtmijjjdedadklajSealVerify
import Derived.Test.YtmijjjdedadklajTimesOrd
import Derived.Test.YtmijjjdedadklajCurveEq
import Derived.Test.YtmijjjdedadklajOwn
import Derived.Test.YtmijjjdedadklajLast
import Derived.Lib.QuietBelow
import Derived.Deep.RegionHeld3
import Derived.Deep.CutRange
namespace Go.Proofs.Ytmijjjdedadklaj
open Go.RowKit Go.Sort
set_option linter.unusedVariables false
set_option linter.unusedSimpArgs false
/-- An error, or none. -/
def bE (e : Int) : Value := bif e == 0 then .nilIface else errOf e
theorem bE_no {e : Int} (h : (e == 0) = false) : bE e = errOf e := by unfold bE; rw [h]; rfl
theorem bE_yes {e : Int} (h : (e == 0) = true) : bE e = .nilIface := by unfold bE; rw [h]; rfl
theorem batE_stop {I : Nat → BatI} {k : Nat} (h0 : batE I k = 0) (h1 : (itmE (I k) == 0) = false) : ∀ {n : Nat}, k < n → batE I n = itmE (I k)
  | 0, h => absurd h (Nat.not_lt_zero _)
  | n + 1, h => by
    unfold batE
    rcases Nat.lt_succ_iff_lt_or_eq.1 h with h2 | rfl
    · rw [batE_stop h0 h1 h2, h1]; rfl
    · rw [h0]; rfl
theorem batF_stop {I : Nat → BatI} {k : Nat} (h0 : batF I k = 0) (h1 : (seaE (I k) == 0) = false) : ∀ {n : Nat}, k < n → batF I n = seaE (I k)
  | 0, h => absurd h (Nat.not_lt_zero _)
  | n + 1, h => by
    unfold batF
    rcases Nat.lt_succ_iff_lt_or_eq.1 h with h2 | rfl
    · rw [batF_stop h0 h1 h2, h1]; rfl
    · rw [h0]; rfl
theorem batE_go {I : Nat → BatI} {k : Nat} (h0 : batE I k = 0) (h1 : itmE (I k) = 0) : batE I (k + 1) = 0 := by unfold batE; rw [h0]; exact h1
theorem batF_go {I : Nat → BatI} {k : Nat} (h0 : batF I k = 0) (h1 : seaE (I k) = 0) : batF I (k + 1) = 0 := by unfold batF; rw [h0]; exact h1
theorem itmE_sea {x : BatI} (h : (seaE x == 0) = false) : itmE x = seaE x := by unfold itmE; rw [h]; rfl
theorem itmE_w {x : BatI} (h : (seaE x == 0) = true) (h2 : secB x.w = false) : itmE x = 1 := by unfold itmE; rw [h, h2]; rfl
theorem itmE_yes {x : BatI} (h : (seaE x == 0) = true) (h2 : secB x.w = true) : itmE x = 0 := by unfold itmE; rw [h, h2]; rfl
/-- S times the base, all of them, against what they must be. -/
theorem bat_split (I : Nat → BatI) (K R S W : Nat → Nat) : ∀ n, (batS I K R S W n + (jsN (fun i => (R i + K i * askN (R i) (K i) (I i).t) * W i) n)) % 4052 = (4 * (jsN (fun i => W i * S i) n)) % 4052
  | 0 => rfl
  | n + 1 => by
    have ih := bat_split I K R S W n
    show ((batS I K R S W n + batN (I n) (K n) (R n) (S n) (W n)) + ((jsN (fun i => (R i + K i * askN (R i) (K i) (I i).t) * W i) n) + (R n + K n * askN (R n) (K n) (I n).t) * W n)) % 4052 = (4 * ((jsN (fun i => W i * S i) n) + W n * S n)) % 4052
    have e : batN (I n) (K n) (R n) (S n) (W n) + (R n + K n * askN (R n) (K n) (I n).t) * W n = 4 * (W n * S n) + 4052 * ((R n + K n * askN (R n) (K n) (I n).t) * W n) := by
      unfold batN
      generalize K n * askN (R n) (K n) (I n).t = y
      rw [← Nat.add_mul, show 4 * S n + 4051 * R n + 4051 * y + (R n + y) = 4 * S n + 4052 * (R n + y) by omega, Nat.add_mul, Nat.mul_assoc, Nat.mul_assoc, Nat.mul_comm (S n)]
    generalize (R n + K n * askN (R n) (K n) (I n).t) * W n = y at *
    generalize batN (I n) (K n) (R n) (S n) (W n) = z at *
    generalize W n * S n = u at *
    omega
theorem bat_far (I : Nat → BatI) (K R S W : Nat → Nat) (n : Nat) : sameS (tM (4 * (jsN (fun i => W i * S i) n))) (tM (jsN (fun i => (R i + K i * askN (R i) (K i) (I i).t) * W i) n)) = farI (batS I K R S W n) := by
  have h := bat_split I K R S W n
  cases hf : farI (batS I K R S W n) with
  | true =>
    have h2 := (farI_iff _).1 hf
    exact sameS_yes (tM_congr (by omega))
  | false =>
    refine sameS_no fun h3 => ?_
    have h4 := tM_inj h3
    have h5 : farI (batS I K R S W n) = true := (farI_iff _).2 (by omega)
    rw [hf] at h5
    cases h5
theorem bsc_any (x : BatI) (w : World) (ht : x.t.size ≤ 9223372036854775807) (ws : (Lit.int .i64 x.s).wf = true) : Calls Try.prog 50 #[.agg #[.int .i64 x.kx, .int .i64 x.ky, .bool x.kf], .string x.t, .agg #[.int .i64 x.rx, .int .i64 x.ry, .bool x.rf, .int .i64 x.s]] w fun e w' => e = .returned (bE (seaE x)) ∧ Below w.heap.size w w' := by
  unfold seaE
  by_cases h60 : 60 < x.t.size
  · rw [decide_eq_true h60]
    exact scheck_full _ _ _ _ _ _ _ _ w h60 ht
  · rw [decide_eq_false h60, cond_false]
    have h6 : x.t.size ≤ 60 := by omega
    cases hk : ckI x.kx x.ky x.kf == 0 with
    | false =>
      rw [cond_false, bE_no hk]
      exact scheck_key _ _ _ _ _ _ _ _ w h6 hk
    | true =>
      have k0 : ckI x.kx x.ky x.kf = 0 := by simpa using hk
      rw [cond_true]
      cases hr : ckI x.rx x.ry x.rf == 0 with
      | false =>
        rw [cond_false, bE_no hr]
        exact scheck_r _ _ _ _ _ _ _ _ w h6 k0 hr
      | true =>
        have r0 : ckI x.rx x.ry x.rf = 0 := by simpa using hr
        rw [cond_true]
        cases hs : resB x.s with
        | false => exact scheck_s _ _ _ _ _ _ _ _ w h6 k0 r0 (by have := of_decide_eq_false (p := 0 ≤ x.s ∧ x.s < 1013) hs; omega)
        | true =>
          have := of_decide_eq_true (p := 0 ≤ x.s ∧ x.s < 1013) hs
          exact scheck_ok _ _ _ _ _ _ _ _ w h6 k0 r0 this.1 this.2
theorem bsv_no (x : BatI) (w : World) (ht : x.t.size ≤ 9223372036854775807) (ws : (Lit.int .i64 x.s).wf = true) (h : (seaE x == 0) = false) : Calls Try.prog 24 #[.agg #[.int .i64 x.kx, .int .i64 x.ky, .bool x.kf], .string x.t, .agg #[.int .i64 x.rx, .int .i64 x.ry, .bool x.rf, .int .i64 x.s]] w fun e w' => e = .returned (.tuple #[.bool false, errOf (seaE x)]) ∧ Below w.heap.size w w' :=
  verify_err (fun w => by have := bsc_any x w ht ws; rwa [bE_no h] at this) w
theorem bsv_ok {x : BatI} {k r s : Nat} (h : SealOk x k r s) (w : World) : Calls Try.prog 24 #[.agg #[.int .i64 x.kx, .int .i64 x.ky, .bool x.kf], .string x.t, .agg #[.int .i64 x.rx, .int .i64 x.ry, .bool x.rf, .int .i64 x.s]] w fun e w' => e = .returned (.tuple #[.bool (sameS (tM (4 * s)) (tM (r + k * askN r k x.t))), .nilIface]) ∧ Below w.heap.size w w' := by
  obtain ⟨h1, h2, h3, h4, h5, h6, h7, h8, h9⟩ := h
  rw [h2, h3, h4, h5, h6, h7, h8]
  exact verify_same h1 (by omega) (by omega) (by rw [em_nat h9]) w
theorem bsa_ok {x : BatI} {k r s : Nat} {q : Sn} (h : SealOk x k r s) (hq : tM (r + k * askN r k x.t) = q) (w : World) : Calls Try.prog 51 #[.agg #[.int .i64 x.kx, .int .i64 x.ky, .bool x.kf], .string x.t, .agg #[.int .i64 x.rx, .int .i64 x.ry, .bool x.rf]] w fun e w' => e = .returned (.tuple #[.agg #[.int .i64 ((q).1 : Int), .int .i64 ((q).2.1 : Int), .bool (q).2.2], .nilIface]) ∧ Below w.heap.size w w' := by
  obtain ⟨h1, h2, h3, h4, h5, h6, h7, h8, h9⟩ := h
  rw [h2, h3, h4, h5, h6, h7]
  exact answered_eq x.t hq w h1
set_option maxRecDepth 100000 in
set_option maxHeartbeats 4000000 in
theorem bmany_full (so : Option Addr) (n k d : Nat) (w : World) (h : 12 < n) : Calls Try.prog 49 #[.int .i64 (n : Int), .slice so k d] w fun e w' => e = .returned (errOf 4) ∧ Below w.heap.size w w' := by
  have h' : (n : Int) > 12 := by omega
  go_enter Try.func49, Try.ntmps49
  go_wp2_with fail
  go_ret
  exact ⟨rfl, by repeat (first | (with_reducible exact Below.refl _ _) | (with_reducible assumption) | (with_reducible refine Below.setCell ?_ (by first | (simp; done) | (simp; omega) | omega) _) | (with_reducible refine Below.alloc ?_ (by first | (simp; done) | (simp; omega) | omega) _) | (refine bl_call ?_ (by assumption) (by first | (simp; done) | (simp; omega) | omega)) | (with_reducible refine bl_drewN ?_) | (with_reducible refine Below.drew ?_) | (with_reducible refine bl_grow ?_ (by first | (simp; done) | (simp; omega) | omega)))⟩
set_option maxRecDepth 100000 in
set_option maxHeartbeats 4000000 in
theorem bmany_row (b n k d j : Nat) (X : Nat → Int) (w : World) (v : Value) (hn : n ≤ 12) (hk : k ≤ 1000000) (hr : RowI w b 0 k X) (hj : j ≤ k) (hok : ∀ i, i < j → (X i != (n : Int)) = false) (hv : (j = k ∧ v = .nilIface) ∨ (j < k ∧ (X j != (n : Int)) = true ∧ v = errOf 3)) :
    Calls Try.prog 49 #[.int .i64 (n : Int), .slice (some ⟨b, 0, none⟩) k d] w fun e w' => e = .returned (v) ∧ Below w.heap.size w w' := by
  have HR : Hid (RowI w b 0 k X) := hr
  have HO : Hid (∀ i, i < j → (X i != (n : Int)) = false) := hok
  have HV : Hid ((j = k ∧ v = .nilIface) ∨ (j < k ∧ (X j != (n : Int)) = true ∧ v = errOf 3)) := hv
  have h' : ¬ (n : Int) > 12 := by omega
  have hb := hr.1
  clear hr hok hv
  go_enter Try.func49, Try.ntmps49
  go_wp2_with fail
  go_loopw [12] (fun ti wl => ∃ i : Nat, i ≤ j ∧ ti = .int .i64 i ∧ Below w.heap.size w wl) (fun ti _ => k - (intOf ti).toNat)
  case atStart => exact ⟨0, by omega, rfl, Below.refl _ _⟩
  case round =>
    obtain ⟨i, hi, rfl, hbl⟩ := hrel
    have hz := hbl.size
    by_cases hlt : i < k
    · have hlt' : (i : Int) < k := by omega
      have c0 := (HR.out.below HR.out.1 hbl).2 i hlt
      rw [Nat.zero_add] at c0
      by_cases hij : i < j
      · have hne := HO.out i hij
        go_wp2_with fail
        go_roundw
        case rel => exact ⟨i + 1, by omega, by simp, by repeat (first | (with_reducible exact Below.refl _ _) | (with_reducible assumption) | (with_reducible refine Below.setCell ?_ (by first | (simp; done) | (simp; omega) | omega) _) | (with_reducible refine Below.alloc ?_ (by first | (simp; done) | (simp; omega) | omega) _) | (refine bl_call ?_ (by assumption) (by first | (simp; done) | (simp; omega) | omega)) | (with_reducible refine bl_drewN ?_) | (with_reducible refine Below.drew ?_) | (with_reducible refine bl_grow ?_ (by first | (simp; done) | (simp; omega) | omega)))⟩
        case measure => simp [intOf]; omega
      · obtain rfl : i = j := by omega
        obtain ⟨h1, h2, rfl⟩ : i < k ∧ (X i != (n : Int)) = true ∧ v = errOf 3 := by
          rcases HV.out with h | h
          · omega
          · exact h
        go_wp2_with fail
        go_ret
        exact ⟨rfl, by repeat (first | (with_reducible exact Below.refl _ _) | (with_reducible assumption) | (with_reducible refine Below.setCell ?_ (by first | (simp; done) | (simp; omega) | omega) _) | (with_reducible refine Below.alloc ?_ (by first | (simp; done) | (simp; omega) | omega) _) | (refine bl_call ?_ (by assumption) (by first | (simp; done) | (simp; omega) | omega)) | (with_reducible refine bl_drewN ?_) | (with_reducible refine Below.drew ?_) | (with_reducible refine bl_grow ?_ (by first | (simp; done) | (simp; omega) | omega)))⟩
    · have hlt' : ¬ (i : Int) < k := by omega
      obtain ⟨h1, rfl⟩ : j = k ∧ v = .nilIface := by
        rcases HV.out with h | h
        · exact h
        · omega
      go_wp2_with fail
      go_ret
      exact ⟨rfl, by repeat (first | (with_reducible exact Below.refl _ _) | (with_reducible assumption) | (with_reducible refine Below.setCell ?_ (by first | (simp; done) | (simp; omega) | omega) _) | (with_reducible refine Below.alloc ?_ (by first | (simp; done) | (simp; omega) | omega) _) | (refine bl_call ?_ (by assumption) (by first | (simp; done) | (simp; omega) | omega)) | (with_reducible refine bl_drewN ?_) | (with_reducible refine Below.drew ?_) | (with_reducible refine bl_grow ?_ (by first | (simp; done) | (simp; omega) | omega)))⟩
/-- Two or three numbers, held against one. -/
theorem bmany_pick (P : Nat → Bool) : ∀ k, (∃ j, j < k ∧ P j = true ∧ ∀ i, i < j → P i = false) ∨ ∀ i, i < k → P i = false
  | 0 => Or.inr fun i h => absurd h (Nat.not_lt_zero _)
  | k + 1 => by
    rcases bmany_pick P k with ⟨j, h1, h2, h3⟩ | h
    · exact Or.inl ⟨j, by omega, h2, h3⟩
    · cases hp : P k with
      | true => exact Or.inl ⟨k, by omega, hp, h⟩
      | false =>
        refine Or.inr fun i hi => ?_
        rcases Nat.lt_succ_iff_lt_or_eq.1 hi with h4 | h4
        · exact h i h4
        · rw [h4]; exact hp
theorem bmany_any (b n k d : Nat) (X : Nat → Int) (w : World) (hn : n ≤ 12) (hk : k ≤ 1000000) (hr : RowI w b 0 k X) :
    ((∀ i, i < k → X i = (n : Int)) → Calls Try.prog 49 #[.int .i64 (n : Int), .slice (some ⟨b, 0, none⟩) k d] w fun e w' => e = .returned (.nilIface) ∧ Below w.heap.size w w') ∧
    ((∃ i, i < k ∧ X i ≠ (n : Int)) → Calls Try.prog 49 #[.int .i64 (n : Int), .slice (some ⟨b, 0, none⟩) k d] w fun e w' => e = .returned (errOf 3) ∧ Below w.heap.size w w') := by
  constructor
  · intro h
    exact bmany_row b n k d k X w _ hn hk hr (Nat.le_refl _) (fun i hi => by rw [h i hi]; simp) (Or.inl ⟨rfl, rfl⟩)
  · rintro ⟨i, hi, hne⟩
    rcases bmany_pick (fun i => X i != (n : Int)) k with ⟨j, h1, h2, h3⟩ | h
    · exact bmany_row b n k d j X w _ hn hk hr (by omega) h3 (Or.inr ⟨h1, h2, rfl⟩)
    · exact absurd (by simpa using h i hi) hne
def bX3 (m q p : Int) : Nat → Int
  | 0 => m
  | 1 => q
  | _ => p
theorem bX3_row {w : World} {b : Nat} {m q p : Int} (h : At w b [.int .i64 m, .int .i64 q, .int .i64 p]) : RowI w b 0 3 (bX3 m q p) := by
  obtain ⟨z, c0, c1, c2, _⟩ := h.three
  refine ⟨z, fun i hi => ?_⟩
  rw [Nat.zero_add]
  match i, hi with
  | 0, _ => exact c0
  | 1, _ => exact c1
  | 2, _ => exact c2
theorem bX2_row {w : World} {b : Nat} {m q : Int} (h : At w b [.int .i64 m, .int .i64 q]) : RowI w b 0 2 (bX3 m q 0) := by
  obtain ⟨z, c0, c1, _⟩ := h.two
  refine ⟨z, fun i hi => ?_⟩
  rw [Nat.zero_add]
  match i, hi with
  | 0, _ => exact c0
  | 1, _ => exact c1
theorem bmany3_no {w : World} {b : Nat} {m q p n d : Nat} (h : At w b [.int .i64 (m : Int), .int .i64 (q : Int), .int .i64 (p : Int)]) (hn : n ≤ 12) (hne : m ≠ n ∨ q ≠ n ∨ p ≠ n) : Calls Try.prog 49 #[.int .i64 (n : Int), .slice (some ⟨b, 0, none⟩) 3 d] w fun e w' => e = .returned (errOf 3) ∧ Below w.heap.size w w' :=
  (bmany_any b n 3 d _ w hn (by omega) (bX3_row h)).2 (by
    rcases hne with h | h | h
    · exact ⟨0, by omega, fun h2 => h (Int.ofNat.inj h2)⟩
    · exact ⟨1, by omega, fun h2 => h (Int.ofNat.inj h2)⟩
    · exact ⟨2, by omega, fun h2 => h (Int.ofNat.inj h2)⟩)
theorem bmany3_yes {w : World} {b : Nat} {n d : Nat} (h : At w b [.int .i64 (n : Int), .int .i64 (n : Int), .int .i64 (n : Int)]) (hn : n ≤ 12) : Calls Try.prog 49 #[.int .i64 (n : Int), .slice (some ⟨b, 0, none⟩) 3 d] w fun e w' => e = .returned (.nilIface) ∧ Below w.heap.size w w' :=
  (bmany_any b n 3 d _ w hn (by omega) (bX3_row h)).1 (fun i hi => by
    match i, hi with
    | 0, _ => rfl
    | 1, _ => rfl
    | 2, _ => rfl)
theorem bmany2_no {w : World} {b : Nat} {m q n d : Nat} (h : At w b [.int .i64 (m : Int), .int .i64 (q : Int)]) (hn : n ≤ 12) (hne : m ≠ n ∨ q ≠ n) : Calls Try.prog 49 #[.int .i64 (n : Int), .slice (some ⟨b, 0, none⟩) 2 d] w fun e w' => e = .returned (errOf 3) ∧ Below w.heap.size w w' :=
  (bmany_any b n 2 d _ w hn (by omega) (bX2_row h)).2 (by
    rcases hne with h | h
    · exact ⟨0, by omega, fun h2 => h (Int.ofNat.inj h2)⟩
    · exact ⟨1, by omega, fun h2 => h (Int.ofNat.inj h2)⟩)
theorem bmany2_yes {w : World} {b : Nat} {n d : Nat} (h : At w b [.int .i64 (n : Int), .int .i64 (n : Int)]) (hn : n ≤ 12) : Calls Try.prog 49 #[.int .i64 (n : Int), .slice (some ⟨b, 0, none⟩) 2 d] w fun e w' => e = .returned (.nilIface) ∧ Below w.heap.size w w' :=
  (bmany_any b n 2 d _ w hn (by omega) (bX2_row h)).1 (fun i hi => by
    match i, hi with
    | 0, _ => rfl
    | 1, _ => rfl)
set_option maxRecDepth 100000 in
set_option maxHeartbeats 4000000 in
theorem bchk_full (sk st sl sw : Option Addr) (n dk m dt q dl p dw : Nat) (w : World) (h : 12 < n) : Calls Try.prog 45 #[.slice sk n dk, .slice st m dt, .slice sl q dl, .slice sw p dw] w fun e w' => e = .returned (errOf 4) ∧ Below w.heap.size w w' := by
  have m1 : True := trivial
  go_enter Try.func45, Try.ntmps45
  go_wp2_with (go_at_call 49; clear m1; refine (bmany_full _ _ _ _ _ h).mono ?_; rintro e w1 ⟨rfl, hbw1⟩; have hqw1 : Below w.heap.size w w1 := (by repeat (first | (with_reducible exact Below.refl _ _) | (with_reducible assumption) | (with_reducible refine Below.setCell ?_ (by first | (simp; done) | (simp; omega) | omega) _) | (with_reducible refine Below.alloc ?_ (by first | (simp; done) | (simp; omega) | omega) _) | (refine bl_call ?_ (by assumption) (by first | (simp; done) | (simp; omega) | omega)) | (with_reducible refine bl_drewN ?_) | (with_reducible refine Below.drew ?_) | (with_reducible refine bl_grow ?_ (by first | (simp; done) | (simp; omega) | omega)))); have hzw1 := hqw1.size; clear hbw1)
  go_ret
  exact ⟨rfl, by repeat (first | (with_reducible exact Below.refl _ _) | (with_reducible assumption) | (with_reducible refine Below.setCell ?_ (by first | (simp; done) | (simp; omega) | omega) _) | (with_reducible refine Below.alloc ?_ (by first | (simp; done) | (simp; omega) | omega) _) | (refine bl_call ?_ (by assumption) (by first | (simp; done) | (simp; omega) | omega)) | (with_reducible refine bl_drewN ?_) | (with_reducible refine Below.drew ?_) | (with_reducible refine bl_grow ?_ (by first | (simp; done) | (simp; omega) | omega)))⟩
set_option maxRecDepth 100000 in
set_option maxHeartbeats 4000000 in
theorem bchk_odd (sk st sl sw : Option Addr) (n dk m dt q dl p dw : Nat) (w : World) (hn : n ≤ 12) (h : m ≠ n ∨ q ≠ n ∨ p ≠ n) : Calls Try.prog 45 #[.slice sk n dk, .slice st m dt, .slice sl q dl, .slice sw p dw] w fun e w' => e = .returned (errOf 3) ∧ Below w.heap.size w w' := by
  have H : Hid (m ≠ n ∨ q ≠ n ∨ p ≠ n) := h
  clear h
  have m1 : True := trivial
  go_enter Try.func45, Try.ntmps45
  go_wp2_with (go_at_call 49; clear m1; refine (bmany3_no (by repeat (first | (with_reducible assumption) | ((with_reducible refine at_new' _ _ _ _ ?_); (first | rfl | (simp; done))) | (with_reducible refine At.alloc ?_ _) | (with_reducible refine At.drew ?_) | (with_reducible refine At.drewN ?_) | (with_reducible refine At.set ?_ (by omega)) | (with_reducible apply At.store4) | (with_reducible apply At.store3) | (with_reducible apply At.store2) | (with_reducible apply At.put43) | (refine At.below ?_ (by with_reducible assumption)))) hn H.out).mono ?_; rintro e w1 ⟨rfl, hbw1⟩; have hqw1 : Below w.heap.size w w1 := (by repeat (first | (with_reducible exact Below.refl _ _) | (with_reducible assumption) | (with_reducible refine Below.setCell ?_ (by first | (simp; done) | (simp; omega) | omega) _) | (with_reducible refine Below.alloc ?_ (by first | (simp; done) | (simp; omega) | omega) _) | (refine bl_call ?_ (by assumption) (by first | (simp; done) | (simp; omega) | omega)) | (with_reducible refine bl_drewN ?_) | (with_reducible refine Below.drew ?_) | (with_reducible refine bl_grow ?_ (by first | (simp; done) | (simp; omega) | omega)))); have hzw1 := hqw1.size; clear hbw1)
  go_ret
  exact ⟨rfl, by repeat (first | (with_reducible exact Below.refl _ _) | (with_reducible assumption) | (with_reducible refine Below.setCell ?_ (by first | (simp; done) | (simp; omega) | omega) _) | (with_reducible refine Below.alloc ?_ (by first | (simp; done) | (simp; omega) | omega) _) | (refine bl_call ?_ (by assumption) (by first | (simp; done) | (simp; omega) | omega)) | (with_reducible refine bl_drewN ?_) | (with_reducible refine Below.drew ?_) | (with_reducible refine bl_grow ?_ (by first | (simp; done) | (simp; omega) | omega)))⟩
set_option maxRecDepth 100000 in
set_option maxHeartbeats 4000000 in
theorem bchk_row (sk st sl sw : Option Addr) (n dk dt dl dw : Nat) (I : Nat → BatI) (w : World) (hn : n ≤ 12) (hf : (∀ i, i < n → (I i).t.size ≤ 9223372036854775807 ∧ (Lit.int .i64 (I i).s).wf = true ∧ (Lit.int .i64 (I i).w).wf = true)) (hk : (n = 0 ∨ ∃ b o : Nat, sk = some ⟨b, o, none⟩ ∧ RowO w b o n (fun i => (I i).kx) (fun i => (I i).ky) (fun i => (I i).kf))) (ht : (n = 0 ∨ ∃ b o : Nat, st = some ⟨b, o, none⟩ ∧ RowZ w b o n (fun i => (I i).t))) (hl : (n = 0 ∨ ∃ b o : Nat, sl = some ⟨b, o, none⟩ ∧ RowL w b o n I)) (hw : (n = 0 ∨ ∃ b o : Nat, sw = some ⟨b, o, none⟩ ∧ RowI w b o n (fun i => (I i).w))) : Calls Try.prog 45 #[.slice sk n dk, .slice st n dt, .slice sl n dl, .slice sw n dw] w fun e w' => e = .returned (bE (batE I n)) ∧ Below w.heap.size w w' := by
  have HF : Hid ((∀ i, i < n → (I i).t.size ≤ 9223372036854775807 ∧ (Lit.int .i64 (I i).s).wf = true ∧ (Lit.int .i64 (I i).w).wf = true)) := hf
  have HRK : Hid ((n = 0 ∨ ∃ b o : Nat, sk = some ⟨b, o, none⟩ ∧ RowO w b o n (fun i => (I i).kx) (fun i => (I i).ky) (fun i => (I i).kf))) := hk
  have HRT : Hid ((n = 0 ∨ ∃ b o : Nat, st = some ⟨b, o, none⟩ ∧ RowZ w b o n (fun i => (I i).t))) := ht
  have HRL : Hid ((n = 0 ∨ ∃ b o : Nat, sl = some ⟨b, o, none⟩ ∧ RowL w b o n I)) := hl
  have HRW : Hid ((n = 0 ∨ ∃ b o : Nat, sw = some ⟨b, o, none⟩ ∧ RowI w b o n (fun i => (I i).w))) := hw
  clear hk ht hl hw
  clear hf
  have m1 : True := trivial
  go_enter Try.func45, Try.ntmps45
  go_wp2_with (go_at_call 49; clear m1; refine (bmany3_yes (by repeat (first | (with_reducible assumption) | ((with_reducible refine at_new' _ _ _ _ ?_); (first | rfl | (simp; done))) | (with_reducible refine At.alloc ?_ _) | (with_reducible refine At.drew ?_) | (with_reducible refine At.drewN ?_) | (with_reducible refine At.set ?_ (by omega)) | (with_reducible apply At.store4) | (with_reducible apply At.store3) | (with_reducible apply At.store2) | (with_reducible apply At.put43) | (refine At.below ?_ (by with_reducible assumption)))) hn).mono ?_; rintro e w1 ⟨rfl, hbw1⟩; have hqw1 : Below w.heap.size w w1 := (by repeat (first | (with_reducible exact Below.refl _ _) | (with_reducible assumption) | (with_reducible refine Below.setCell ?_ (by first | (simp; done) | (simp; omega) | omega) _) | (with_reducible refine Below.alloc ?_ (by first | (simp; done) | (simp; omega) | omega) _) | (refine bl_call ?_ (by assumption) (by first | (simp; done) | (simp; omega) | omega)) | (with_reducible refine bl_drewN ?_) | (with_reducible refine Below.drew ?_) | (with_reducible refine bl_grow ?_ (by first | (simp; done) | (simp; omega) | omega)))); have hzw1 := hqw1.size; clear hbw1)
  go_loopw [28] (fun ti wl => ∃ k : Nat, k ≤ n ∧ ti = .int .i64 k ∧ batE I k = 0 ∧ Below w.heap.size w wl) (fun ti _ => n - (intOf ti).toNat)
  case atStart => exact ⟨0, by omega, rfl, rfl, by repeat (first | (with_reducible exact Below.refl _ _) | (with_reducible assumption) | (with_reducible refine Below.setCell ?_ (by first | (simp; done) | (simp; omega) | omega) _) | (with_reducible refine Below.alloc ?_ (by first | (simp; done) | (simp; omega) | omega) _) | (refine bl_call ?_ (by assumption) (by first | (simp; done) | (simp; omega) | omega)) | (with_reducible refine bl_drewN ?_) | (with_reducible refine Below.drew ?_) | (with_reducible refine bl_grow ?_ (by first | (simp; done) | (simp; omega) | omega)))⟩
  case round =>
    clear hqw1 hzw1
    obtain ⟨k, hk, rfl, he, hqV⟩ := hrel
    rename World => V
    have HE : Hid (batE I k = 0) := he
    clear he
    have hzV := hqV.size
    by_cases hlt : k < n
    · have hlt' : (k : Int) < n := by omega
      obtain ⟨bk, ok, rfl, rk⟩ := HRK.out.resolve_left (by omega)
      have Rk : Hid (RowO w bk ok n (fun i => (I i).kx) (fun i => (I i).ky) (fun i => (I i).kf)) := rk
      obtain ⟨bt, ot, rfl, rt⟩ := HRT.out.resolve_left (by omega)
      have Rt : Hid (RowZ w bt ot n (fun i => (I i).t)) := rt
      obtain ⟨bl, ol, rfl, rl⟩ := HRL.out.resolve_left (by omega)
      have Rl : Hid (RowL w bl ol n I) := rl
      obtain ⟨bw, ow, rfl, rw⟩ := HRW.out.resolve_left (by omega)
      have Rw : Hid (RowI w bw ow n (fun i => (I i).w)) := rw
      have hbk := Nat.lt_of_lt_of_le rk.1 hzV
      obtain ⟨a0, a1, a2⟩ := (rk.below rk.1 hqV).2 k hlt
      dsimp only at a0 a1 a2
      clear rk rt rl rw
      obtain ⟨hf1, hf2, hf3⟩ := HF.out k hlt
      cases hs : seaE (I k) == 0 with
      | false =>
        have HS : Hid (∀ w, Calls Try.prog 50 #[.agg #[.int .i64 (I k).kx, .int .i64 (I k).ky, .bool (I k).kf], .string (I k).t, .agg #[.int .i64 (I k).rx, .int .i64 (I k).ry, .bool (I k).rf, .int .i64 (I k).s]] w fun e w' => e = .returned (errOf (seaE (I k))) ∧ Below w.heap.size w w') := fun w => by
          have := bsc_any (I k) w hf1 hf2
          rwa [bE_no hs] at this
        have HX : Hid (batE I n = seaE (I k)) := by
          unfold Hid
          rw [batE_stop HE.out (by rw [itmE_sea hs]; exact hs) hlt, itmE_sea hs]
        have HN : Hid ((seaE (I k) == 0) = false) := hs
        clear hs
        go_wp2_with fail
        refine wp_gen (fun Y => At Y (V.heap.size) [.int .i64 (I k).kx, .int .i64 (I k).ky, .bool (I k).kf] ∧ Below w.heap.size w Y) ⟨by repeat (first | (with_reducible assumption) | ((with_reducible refine at_new' _ _ _ _ ?_); (first | rfl | (simp; done))) | (with_reducible refine At.alloc ?_ _) | (with_reducible refine At.drew ?_) | (with_reducible refine At.drewN ?_) | (with_reducible refine At.set ?_ (by omega)) | (with_reducible apply At.store4) | (with_reducible apply At.store3) | (with_reducible apply At.store2) | (with_reducible apply At.put43) | (refine At.below ?_ (by with_reducible assumption))), by repeat (first | (with_reducible exact Below.refl _ _) | (with_reducible assumption) | (with_reducible refine Below.setCell ?_ (by first | (simp; done) | (simp; omega) | omega) _) | (with_reducible refine Below.alloc ?_ (by first | (simp; done) | (simp; omega) | omega) _) | (refine bl_call ?_ (by assumption) (by first | (simp; done) | (simp; omega) | omega)) | (with_reducible refine bl_drewN ?_) | (with_reducible refine Below.drew ?_) | (with_reducible refine bl_grow ?_ (by first | (simp; done) | (simp; omega) | omega)))⟩ ?_
        rintro Y ⟨ksY, hqY⟩
        have hzY := hqY.size
        obtain ⟨zsY, cs0Y, cs1Y, cs2Y, fs0Y, fs1Y, fs2Y⟩ := ksY.three

        obtain ⟨c0, c1, c2⟩ := (Rk.out.below Rk.out.1 hqY).2 k hlt
        have ct := (Rt.out.below Rt.out.1 hqY).2 k hlt
        obtain ⟨l0, l1, l2, l3⟩ := (Rl.out.below Rl.out.1 hqY).2 k hlt
        have hbt := Nat.lt_of_lt_of_le Rt.out.1 hzY
        have hbl := Nat.lt_of_lt_of_le Rl.out.1 hzY
        refine wp_region_quiet_below (by kernel_rfl) (by kernel_rfl) ?_
        repeat (go_big_quiet_step (first | (go_at_call 50; with_reducible exact Calls.regrown_of (HS.out _))))
        refine wpQuiet_nil ?_
        intro Z hw1
        have hrZ := regrown_below hw1
        clear hw1
        have ksZ := ksY.below hrZ
        have hqZ := bl_call hqY hrZ (by omega)
        have hzZ := hqZ.size
        clear hrZ ksY cs0Y fs0Y cs1Y fs1Y cs2Y fs2Y hqY
        obtain ⟨zsZ, cs0Z, cs1Z, cs2Z, fs0Z, fs1Z, fs2Z⟩ := ksZ.three
        have cw := (Rw.out.below Rw.out.1 hqZ).2 k hlt
        have hbw := Nat.lt_of_lt_of_le Rw.out.1 hzZ
        go_wp2_with fail
        go_ret
        exact ⟨by rw [HX.out, bE_no HN.out]; rfl, by repeat (first | (with_reducible exact Below.refl _ _) | (with_reducible assumption) | (with_reducible refine Below.setCell ?_ (by first | (simp; done) | (simp; omega) | omega) _) | (with_reducible refine Below.alloc ?_ (by first | (simp; done) | (simp; omega) | omega) _) | (refine bl_call ?_ (by assumption) (by first | (simp; done) | (simp; omega) | omega)) | (with_reducible refine bl_drewN ?_) | (with_reducible refine Below.drew ?_) | (with_reducible refine bl_grow ?_ (by first | (simp; done) | (simp; omega) | omega)))⟩
      | true =>
        have HS : Hid (∀ w, Calls Try.prog 50 #[.agg #[.int .i64 (I k).kx, .int .i64 (I k).ky, .bool (I k).kf], .string (I k).t, .agg #[.int .i64 (I k).rx, .int .i64 (I k).ry, .bool (I k).rf, .int .i64 (I k).s]] w fun e w' => e = .returned (.nilIface) ∧ Below w.heap.size w w') := fun w => by
          have := bsc_any (I k) w hf1 hf2
          rwa [bE_yes hs] at this
        cases hw : secB (I k).w with
        | false =>
          have HX : Hid (batE I n = 1) := by
            unfold Hid
            rw [batE_stop HE.out (by rw [itmE_w hs hw]; rfl) hlt, itmE_w hs hw]
          have h9 := of_decide_eq_false (p := 1 ≤ (I k).w ∧ (I k).w < 1013) hw
          clear hs hw
          by_cases h1 : (I k).w < 1
          · go_wp2_with fail
            refine wp_gen (fun Y => At Y (V.heap.size) [.int .i64 (I k).kx, .int .i64 (I k).ky, .bool (I k).kf] ∧ Below w.heap.size w Y) ⟨by repeat (first | (with_reducible assumption) | ((with_reducible refine at_new' _ _ _ _ ?_); (first | rfl | (simp; done))) | (with_reducible refine At.alloc ?_ _) | (with_reducible refine At.drew ?_) | (with_reducible refine At.drewN ?_) | (with_reducible refine At.set ?_ (by omega)) | (with_reducible apply At.store4) | (with_reducible apply At.store3) | (with_reducible apply At.store2) | (with_reducible apply At.put43) | (refine At.below ?_ (by with_reducible assumption))), by repeat (first | (with_reducible exact Below.refl _ _) | (with_reducible assumption) | (with_reducible refine Below.setCell ?_ (by first | (simp; done) | (simp; omega) | omega) _) | (with_reducible refine Below.alloc ?_ (by first | (simp; done) | (simp; omega) | omega) _) | (refine bl_call ?_ (by assumption) (by first | (simp; done) | (simp; omega) | omega)) | (with_reducible refine bl_drewN ?_) | (with_reducible refine Below.drew ?_) | (with_reducible refine bl_grow ?_ (by first | (simp; done) | (simp; omega) | omega)))⟩ ?_
            rintro Y ⟨ksY, hqY⟩
            have hzY := hqY.size
            obtain ⟨zsY, cs0Y, cs1Y, cs2Y, fs0Y, fs1Y, fs2Y⟩ := ksY.three

            obtain ⟨c0, c1, c2⟩ := (Rk.out.below Rk.out.1 hqY).2 k hlt
            have ct := (Rt.out.below Rt.out.1 hqY).2 k hlt
            obtain ⟨l0, l1, l2, l3⟩ := (Rl.out.below Rl.out.1 hqY).2 k hlt
            have hbt := Nat.lt_of_lt_of_le Rt.out.1 hzY
            have hbl := Nat.lt_of_lt_of_le Rl.out.1 hzY
            refine wp_region_quiet_below (by kernel_rfl) (by kernel_rfl) ?_
            repeat (go_big_quiet_step (first | (go_at_call 50; with_reducible exact Calls.regrown_of (HS.out _))))
            refine wpQuiet_nil ?_
            intro Z hw1
            have hrZ := regrown_below hw1
            clear hw1
            have ksZ := ksY.below hrZ
            have hqZ := bl_call hqY hrZ (by omega)
            have hzZ := hqZ.size
            clear hrZ ksY cs0Y fs0Y cs1Y fs1Y cs2Y fs2Y hqY
            obtain ⟨zsZ, cs0Z, cs1Z, cs2Z, fs0Z, fs1Z, fs2Z⟩ := ksZ.three
            have cw := (Rw.out.below Rw.out.1 hqZ).2 k hlt
            have hbw := Nat.lt_of_lt_of_le Rw.out.1 hzZ
            go_wp2_with fail
            go_ret
            exact ⟨by rw [HX.out]; rfl, by repeat (first | (with_reducible exact Below.refl _ _) | (with_reducible assumption) | (with_reducible refine Below.setCell ?_ (by first | (simp; done) | (simp; omega) | omega) _) | (with_reducible refine Below.alloc ?_ (by first | (simp; done) | (simp; omega) | omega) _) | (refine bl_call ?_ (by assumption) (by first | (simp; done) | (simp; omega) | omega)) | (with_reducible refine bl_drewN ?_) | (with_reducible refine Below.drew ?_) | (with_reducible refine bl_grow ?_ (by first | (simp; done) | (simp; omega) | omega)))⟩
          · have h2 : (I k).w ≥ 1013 := by omega
            go_wp2_with fail
            refine wp_gen (fun Y => At Y (V.heap.size) [.int .i64 (I k).kx, .int .i64 (I k).ky, .bool (I k).kf] ∧ Below w.heap.size w Y) ⟨by repeat (first | (with_reducible assumption) | ((with_reducible refine at_new' _ _ _ _ ?_); (first | rfl | (simp; done))) | (with_reducible refine At.alloc ?_ _) | (with_reducible refine At.drew ?_) | (with_reducible refine At.drewN ?_) | (with_reducible refine At.set ?_ (by omega)) | (with_reducible apply At.store4) | (with_reducible apply At.store3) | (with_reducible apply At.store2) | (with_reducible apply At.put43) | (refine At.below ?_ (by with_reducible assumption))), by repeat (first | (with_reducible exact Below.refl _ _) | (with_reducible assumption) | (with_reducible refine Below.setCell ?_ (by first | (simp; done) | (simp; omega) | omega) _) | (with_reducible refine Below.alloc ?_ (by first | (simp; done) | (simp; omega) | omega) _) | (refine bl_call ?_ (by assumption) (by first | (simp; done) | (simp; omega) | omega)) | (with_reducible refine bl_drewN ?_) | (with_reducible refine Below.drew ?_) | (with_reducible refine bl_grow ?_ (by first | (simp; done) | (simp; omega) | omega)))⟩ ?_
            rintro Y ⟨ksY, hqY⟩
            have hzY := hqY.size
            obtain ⟨zsY, cs0Y, cs1Y, cs2Y, fs0Y, fs1Y, fs2Y⟩ := ksY.three

            obtain ⟨c0, c1, c2⟩ := (Rk.out.below Rk.out.1 hqY).2 k hlt
            have ct := (Rt.out.below Rt.out.1 hqY).2 k hlt
            obtain ⟨l0, l1, l2, l3⟩ := (Rl.out.below Rl.out.1 hqY).2 k hlt
            have hbt := Nat.lt_of_lt_of_le Rt.out.1 hzY
            have hbl := Nat.lt_of_lt_of_le Rl.out.1 hzY
            refine wp_region_quiet_below (by kernel_rfl) (by kernel_rfl) ?_
            repeat (go_big_quiet_step (first | (go_at_call 50; with_reducible exact Calls.regrown_of (HS.out _))))
            refine wpQuiet_nil ?_
            intro Z hw1
            have hrZ := regrown_below hw1
            clear hw1
            have ksZ := ksY.below hrZ
            have hqZ := bl_call hqY hrZ (by omega)
            have hzZ := hqZ.size
            clear hrZ ksY cs0Y fs0Y cs1Y fs1Y cs2Y fs2Y hqY
            obtain ⟨zsZ, cs0Z, cs1Z, cs2Z, fs0Z, fs1Z, fs2Z⟩ := ksZ.three
            have cw := (Rw.out.below Rw.out.1 hqZ).2 k hlt
            have hbw := Nat.lt_of_lt_of_le Rw.out.1 hzZ
            go_wp2_with fail
            go_ret
            exact ⟨by rw [HX.out]; rfl, by repeat (first | (with_reducible exact Below.refl _ _) | (with_reducible assumption) | (with_reducible refine Below.setCell ?_ (by first | (simp; done) | (simp; omega) | omega) _) | (with_reducible refine Below.alloc ?_ (by first | (simp; done) | (simp; omega) | omega) _) | (refine bl_call ?_ (by assumption) (by first | (simp; done) | (simp; omega) | omega)) | (with_reducible refine bl_drewN ?_) | (with_reducible refine Below.drew ?_) | (with_reducible refine bl_grow ?_ (by first | (simp; done) | (simp; omega) | omega)))⟩
        | true =>
          have HX : Hid (batE I (k + 1) = 0) := batE_go HE.out (itmE_yes hs hw)
          have h9 := of_decide_eq_true (p := 1 ≤ (I k).w ∧ (I k).w < 1013) hw
          have h1 : ¬ (I k).w < 1 := by omega
          have h2 : ¬ (I k).w ≥ 1013 := by omega
          clear hs hw h9
          go_wp2_with fail
          refine wp_gen (fun Y => At Y (V.heap.size) [.int .i64 (I k).kx, .int .i64 (I k).ky, .bool (I k).kf] ∧ Below w.heap.size w Y) ⟨by repeat (first | (with_reducible assumption) | ((with_reducible refine at_new' _ _ _ _ ?_); (first | rfl | (simp; done))) | (with_reducible refine At.alloc ?_ _) | (with_reducible refine At.drew ?_) | (with_reducible refine At.drewN ?_) | (with_reducible refine At.set ?_ (by omega)) | (with_reducible apply At.store4) | (with_reducible apply At.store3) | (with_reducible apply At.store2) | (with_reducible apply At.put43) | (refine At.below ?_ (by with_reducible assumption))), by repeat (first | (with_reducible exact Below.refl _ _) | (with_reducible assumption) | (with_reducible refine Below.setCell ?_ (by first | (simp; done) | (simp; omega) | omega) _) | (with_reducible refine Below.alloc ?_ (by first | (simp; done) | (simp; omega) | omega) _) | (refine bl_call ?_ (by assumption) (by first | (simp; done) | (simp; omega) | omega)) | (with_reducible refine bl_drewN ?_) | (with_reducible refine Below.drew ?_) | (with_reducible refine bl_grow ?_ (by first | (simp; done) | (simp; omega) | omega)))⟩ ?_
          rintro Y ⟨ksY, hqY⟩
          have hzY := hqY.size
          obtain ⟨zsY, cs0Y, cs1Y, cs2Y, fs0Y, fs1Y, fs2Y⟩ := ksY.three

          obtain ⟨c0, c1, c2⟩ := (Rk.out.below Rk.out.1 hqY).2 k hlt
          have ct := (Rt.out.below Rt.out.1 hqY).2 k hlt
          obtain ⟨l0, l1, l2, l3⟩ := (Rl.out.below Rl.out.1 hqY).2 k hlt
          have hbt := Nat.lt_of_lt_of_le Rt.out.1 hzY
          have hbl := Nat.lt_of_lt_of_le Rl.out.1 hzY
          refine wp_region_quiet_below (by kernel_rfl) (by kernel_rfl) ?_
          repeat (go_big_quiet_step (first | (go_at_call 50; with_reducible exact Calls.regrown_of (HS.out _))))
          refine wpQuiet_nil ?_
          intro Z hw1
          have hrZ := regrown_below hw1
          clear hw1
          have ksZ := ksY.below hrZ
          have hqZ := bl_call hqY hrZ (by omega)
          have hzZ := hqZ.size
          clear hrZ ksY cs0Y fs0Y cs1Y fs1Y cs2Y fs2Y hqY
          obtain ⟨zsZ, cs0Z, cs1Z, cs2Z, fs0Z, fs1Z, fs2Z⟩ := ksZ.three
          have cw := (Rw.out.below Rw.out.1 hqZ).2 k hlt
          have hbw := Nat.lt_of_lt_of_le Rw.out.1 hzZ
          go_wp2_with fail
          go_roundw
          case rel => exact ⟨k + 1, by omega, by simp, HX.out, by repeat (first | (with_reducible exact Below.refl _ _) | (with_reducible assumption) | (with_reducible refine Below.setCell ?_ (by first | (simp; done) | (simp; omega) | omega) _) | (with_reducible refine Below.alloc ?_ (by first | (simp; done) | (simp; omega) | omega) _) | (refine bl_call ?_ (by assumption) (by first | (simp; done) | (simp; omega) | omega)) | (with_reducible refine bl_drewN ?_) | (with_reducible refine Below.drew ?_) | (with_reducible refine bl_grow ?_ (by first | (simp; done) | (simp; omega) | omega)))⟩
          case measure => simp [intOf]; omega
    · have hlt' : ¬ (k : Int) < n := by omega
      obtain rfl : k = n := by omega
      go_wp2_with fail
      go_ret
      exact ⟨by rw [HE.out]; rfl, by repeat (first | (with_reducible exact Below.refl _ _) | (with_reducible assumption) | (with_reducible refine Below.setCell ?_ (by first | (simp; done) | (simp; omega) | omega) _) | (with_reducible refine Below.alloc ?_ (by first | (simp; done) | (simp; omega) | omega) _) | (refine bl_call ?_ (by assumption) (by first | (simp; done) | (simp; omega) | omega)) | (with_reducible refine bl_drewN ?_) | (with_reducible refine Below.drew ?_) | (with_reducible refine bl_grow ?_ (by first | (simp; done) | (simp; omega) | omega)))⟩
end Go.Proofs.Ytmijjjdedadklaj
