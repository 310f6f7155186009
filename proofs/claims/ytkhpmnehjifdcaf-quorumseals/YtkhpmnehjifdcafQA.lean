/- Texts joined: PairGone Pair PairMany RowE SumMath Short Bytes Seal. What pair.gone answers: the lines by which 1013 times the first came about. What pair.checkAll and pair.Pair answer: of two that count, one number to the power of both; else the fault. What pair.Same and pair.Product answer, by what pair.Pair answers of each two. What is wrong with a row of spots; curve.CheckAll over one. Sums of so many numbers. Apart from the program. What package short answers: short seals, whether one is right, many joined. What each function of package bytes answers, of right spots and wrong ones, of any bytes; nothing that was there is turned. What package seal answers, for all numbers, spots and texts, in whatever memory; nothing that was there is turned. -/
import Derived.Test.YtkhpmnehjifdcafPairStep
import Derived.Deep.CutRange
import Derived.Test.YtkhpmnehjifdcafGate
import Derived.Test.YtkhpmnehjifdcafStay
import Derived.Deep.RegionHeld3
import Derived.Test.YtkhpmnehjifdcafCurveEq
import Derived.Test.YtkhpmnehjifdcafCurveAll
import Derived.Test.YtkhpmnehjifdcafHashMath
import Derived.Test.YtkhpmnehjifdcafHash
import Derived.Test.YtkhpmnehjifdcafUSpot
import Derived.Test.YtkhpmnehjifdcafSealMath
import Derived.Test.YtkhpmnehjifdcafOwn
import Derived.Test.YtkhpmnehjifdcafBytesMath
import Derived.Laws.IdiomStrings
import Derived.BigQuiet
import Derived.Test.YtkhpmnehjifdcafTimesOrd
import Derived.Test.YtkhpmnehjifdcafHashLong
/- PairGone -/
namespace Go.Proofs.Ytkhpmnehjifdcaf
open Go.RowKit Go.Sort
set_option linter.unusedVariables false
set_option linter.unusedSimpArgs false
theorem below_lt {W w1 : World} (hb : Below W.heap.size W w1) : ∀ b, b < W.heap.size → b < w1.heap.size := fun b h => Nat.lt_of_lt_of_le h hb.size
theorem below_ne {W w1 : World} (hb : Below W.heap.size W w1) : ∀ b, b < W.heap.size → (b = w1.heap.size) = False := fun b h => eq_false (Nat.ne_of_lt (below_lt hb b h))
theorem below_ne2 {W w1 : World} (hb : Below W.heap.size W w1) : ∀ b, b < W.heap.size → (w1.heap.size = b) = False := fun b h => eq_false (Nat.ne_of_gt (below_lt hb b h))
theorem len_Q (w : World) : Calls Try.prog 52 #[.int .u64 1013] w fun e w' => e = .returned (.int .i64 10) ∧ w' = w := by
  have := len_small 1013 w (by omega) (by omega)
  rwa [show ((Lib.bitLen (1013 : Int).toNat : Nat) : Int) = 10 by decide] at this
end Go.Proofs.Ytkhpmnehjifdcaf
/- Pair -/
namespace Go.Proofs.Ytkhpmnehjifdcaf
open Go.RowKit Go.Sort
set_option linter.unusedVariables false
set_option linter.unusedSimpArgs false
end Go.Proofs.Ytkhpmnehjifdcaf
/- PairMany -/
namespace Go.Proofs.Ytkhpmnehjifdcaf
open Go.RowKit Go.Sort
set_option linter.unusedVariables false
set_option linter.unusedSimpArgs false
/-- The product of so many. -/
def prodN (P : Nat → Int × Int) : Nat → Int × Int
  | 0 => (1, 0)
  | k + 1 => tm (prodN P k) (P k)
theorem row_at {w W : World} {b o n : Nat} {X Y : Nat → Int} {F : Nat → Bool} (h : RowO w b o n X Y F) (k : Below w.heap.size w W) {i : Nat} (hi : i < n) :
    W.cell? ⟨b, o + i * 3, none⟩ = some (.int .i64 (X i)) ∧ W.cell? ⟨b, o + i * 3 + 1, none⟩ = some (.int .i64 (Y i)) ∧ W.cell? ⟨b, o + i * 3 + 2, none⟩ = some (.bool (F i)) := (h.below h.1 k).2 i hi
end Go.Proofs.Ytkhpmnehjifdcaf
/- RowE -/
namespace Go.Proofs.Ytkhpmnehjifdcaf
open Go.RowKit Go.Sort
set_option linter.unusedVariables false
set_option linter.unusedSimpArgs false
/-- What is wrong with a row of spots: that of the first that is wrong. -/
def rowE (X Y : Nat → Int) (F : Nat → Bool) (n : Nat) : Int :=
  match n with
  | 0 => 0
  | n + 1 => bif rowE X Y F n == 0 then ckI (X n) (Y n) (F n) else rowE X Y F n
theorem rowE_zero {X Y : Nat → Int} {F : Nat → Bool} : ∀ {n : Nat}, rowE X Y F n = 0 → ∀ j, j < n → ckI (X j) (Y j) (F j) = 0
  | 0, _, j, hj => absurd hj (Nat.not_lt_zero _)
  | n + 1, h, j, hj => by
    unfold rowE at h
    cases h1 : rowE X Y F n == 0
    · rw [h1] at h; simp only [cond_false] at h; rw [h] at h1; cases h1
    · rw [h1] at h; simp only [cond_true] at h
      rcases Nat.lt_succ_iff_lt_or_eq.1 hj with h2 | rfl
      · exact rowE_zero (by simpa using h1) j h2
      · exact h
/-- Either all are right, or the first wrong one is at m. -/
theorem rowE_first {X Y : Nat → Int} {F : Nat → Bool} : ∀ {n : Nat}, (rowE X Y F n == 0) = false → ∃ m, m < n ∧ (∀ j, j < m → ckI (X j) (Y j) (F j) = 0) ∧ (ckI (X m) (Y m) (F m) == 0) = false ∧ rowE X Y F n = ckI (X m) (Y m) (F m)
  | 0, h => by cases h
  | n + 1, h => by
    cases h1 : rowE X Y F n == 0
    · obtain ⟨m, h2, h3, h4, h5⟩ := rowE_first h1
      refine ⟨m, by omega, h3, h4, ?_⟩
      unfold rowE; rw [h1]; exact h5
    · have e : rowE X Y F (n + 1) = ckI (X n) (Y n) (F n) := by unfold rowE; rw [h1]; rfl
      rw [e] at h ⊢
      exact ⟨n, by omega, rowE_zero (by simpa using h1), h, rfl⟩
/-- A row of right ones: each is so many times one. -/
theorem row_tM {X Y : Nat → Int} {F : Nat → Bool} {n : Nat} (h : rowE X Y F n = 0) : ∃ K : Nat → Nat, ∀ i, i < n → X i = ((tM (K i)).1 : Int) ∧ Y i = ((tM (K i)).2.1 : Int) ∧ F i = (tM (K i)).2.2 :=
  Deep.choose_lt (p := fun i k => X i = ((tM k).1 : Int) ∧ Y i = ((tM k).2.1 : Int) ∧ F i = (tM k).2.2) fun i hi => by
    obtain ⟨k, _, h1, h2, h3⟩ := ckI_tN (rowE_zero h i hi)
    exact ⟨k, h1, h2, h3⟩
theorem checkAll_nil (sa : Option Addr) (c : Nat) (w : World) : Calls Try.prog 34 #[.slice sa 0 c] w fun e w' => e = .returned (.nilIface) ∧ Below w.heap.size w w' := by
  go_enter Try.func34, Try.ntmps34
  go_wp2_with fail
  go_loopw [8] (fun ti wl => ti = .int .i64 0 ∧ Below w.heap.size w wl) (fun _ _ => 0)
  case atStart => exact ⟨rfl, Below.refl _ _⟩
  case round =>
    obtain ⟨rfl, hbl⟩ := hrel
    go_wp2_with fail
    go_ret
    exact ⟨rfl, hbl⟩
set_option maxRecDepth 100000 in
set_option maxHeartbeats 2000000 in
theorem checkAll_row (b o n c m : Nat) (X Y : Nat → Int) (F : Nat → Bool) (w : World) (hn : n ≤ 1000000) (hr : RowO w b o n X Y F) (hm : m ≤ n) (hok : ∀ j, j < m → ckI (X j) (Y j) (F j) = 0) (v : Value)
    (hv : (m = n ∧ v = .nilIface) ∨ (m < n ∧ (ckI (X m) (Y m) (F m) == 0) = false ∧ v = errOf (ckI (X m) (Y m) (F m)))) :
    Calls Try.prog 34 #[.slice (some ⟨b, o, none⟩) n c] w fun e w' => e = .returned (v) ∧ Below w.heap.size w w' := by
  have HR : Hid (RowO w b o n X Y F) := hr
  have HO : Hid (∀ j, j < m → ckI (X j) (Y j) (F j) = 0) := hok
  have HV : Hid ((m = n ∧ v = .nilIface) ∨ (m < n ∧ (ckI (X m) (Y m) (F m) == 0) = false ∧ v = errOf (ckI (X m) (Y m) (F m)))) := hv
  have hb := hr.1
  clear hr hok hv
  go_enter Try.func34, Try.ntmps34
  go_wp2_with fail
  go_loopw [8] (fun ti wl => ∃ k : Nat, k ≤ m ∧ ti = .int .i64 k ∧ Below w.heap.size w wl) (fun ti _ => n - (intOf ti).toNat)
  case atStart => exact ⟨0, by omega, rfl, Below.refl _ _⟩
  case round =>
    obtain ⟨k, hk, rfl, hbl⟩ := hrel
    have hz := hbl.size
    by_cases hlt : k < n
    · have hlt' : (k : Int) < n := by omega
      obtain ⟨c0, c1, c2⟩ := (HR.out.below hb hbl).2 k hlt
      by_cases hkm : k < m
      · go_wp2_with (go_at_call 42; refine (check_yes _ _ _ _ (HO.out k hkm)).mono ?_; rintro e w1 ⟨rfl, hb1⟩)
        go_roundw
        case rel => exact ⟨k + 1, by omega, by simp, by repeat (first | (with_reducible exact Below.refl _ _) | (with_reducible assumption) | (with_reducible refine Below.setCell ?_ (by first | (simp; done) | (simp; omega) | omega) _) | (with_reducible refine Below.alloc ?_ (by first | (simp; done) | (simp; omega) | omega) _) | (refine bl_call ?_ (by assumption) (by first | (simp; done) | (simp; omega) | omega)) | (with_reducible refine bl_drewN ?_) | (with_reducible refine Below.drew ?_) | (with_reducible refine bl_grow ?_ (by first | (simp; done) | (simp; omega) | omega)))⟩
        case measure => simp [intOf]; omega
      · obtain rfl : k = m := by omega
        obtain ⟨h1, h2, rfl⟩ : k < n ∧ (ckI (X k) (Y k) (F k) == 0) = false ∧ v = errOf (ckI (X k) (Y k) (F k)) := by
          rcases HV.out with h | h
          · omega
          · exact h
        go_wp2_with (go_at_call 42; refine (check_no _ _ _ _ h2).mono ?_; rintro e w1 ⟨rfl, hb1⟩)
        go_ret
        exact ⟨rfl, by repeat (first | (with_reducible exact Below.refl _ _) | (with_reducible assumption) | (with_reducible refine Below.setCell ?_ (by first | (simp; done) | (simp; omega) | omega) _) | (with_reducible refine Below.alloc ?_ (by first | (simp; done) | (simp; omega) | omega) _) | (refine bl_call ?_ (by assumption) (by first | (simp; done) | (simp; omega) | omega)) | (with_reducible refine bl_drewN ?_) | (with_reducible refine Below.drew ?_) | (with_reducible refine bl_grow ?_ (by first | (simp; done) | (simp; omega) | omega)))⟩
    · have hlt' : ¬ (k : Int) < n := by omega
      obtain ⟨h1, rfl⟩ : m = n ∧ v = .nilIface := by
        rcases HV.out with h | h
        · exact h
        · omega
      go_wp2_with fail
      go_ret
      exact ⟨rfl, by repeat (first | (with_reducible exact Below.refl _ _) | (with_reducible assumption) | (with_reducible refine Below.setCell ?_ (by first | (simp; done) | (simp; omega) | omega) _) | (with_reducible refine Below.alloc ?_ (by first | (simp; done) | (simp; omega) | omega) _) | (refine bl_call ?_ (by assumption) (by first | (simp; done) | (simp; omega) | omega)) | (with_reducible refine bl_drewN ?_) | (with_reducible refine Below.drew ?_) | (with_reducible refine bl_grow ?_ (by first | (simp; done) | (simp; omega) | omega)))⟩
theorem checkAll_all (b o n c : Nat) (X Y : Nat → Int) (F : Nat → Bool) (w : World) (hn : n ≤ 1000000) (hr : RowO w b o n X Y F) (h : rowE X Y F n = 0) : Calls Try.prog 34 #[.slice (some ⟨b, o, none⟩) n c] w fun e w' => e = .returned (.nilIface) ∧ Below w.heap.size w w' :=
  checkAll_row b o n c n X Y F w hn hr (Nat.le_refl _) (rowE_zero h) _ (Or.inl ⟨rfl, rfl⟩)
theorem checkAll_bad (b o n c : Nat) (X Y : Nat → Int) (F : Nat → Bool) (w : World) (hn : n ≤ 1000000) (hr : RowO w b o n X Y F) (h : (rowE X Y F n == 0) = false) : Calls Try.prog 34 #[.slice (some ⟨b, o, none⟩) n c] w fun e w' => e = .returned (errOf (rowE X Y F n)) ∧ Below w.heap.size w w' := by
  obtain ⟨m, h1, h2, h3, h4⟩ := rowE_first h
  rw [h4]
  exact checkAll_row b o n c m X Y F w hn hr (Nat.le_of_lt h1) h2 _ (Or.inr ⟨h1, h3, rfl⟩)
end Go.Proofs.Ytkhpmnehjifdcaf
/- SumMath -/
namespace Go.Proofs.Ytkhpmnehjifdcaf
/-- So many together. -/
def jsN (K : Nat → Nat) : Nat → Nat
  | 0 => 0
  | k + 1 => jsN K k + K k
theorem jsN_congr {K J : Nat → Nat} : ∀ {n : Nat}, (∀ i, i < n → K i = J i) → jsN K n = jsN J n
  | 0, _ => rfl
  | n + 1, h => by show jsN K n + K n = jsN J n + J n; rw [jsN_congr (fun i hi => h i (by omega)), h n (by omega)]
theorem jsN_four (K : Nat → Nat) : ∀ n, jsN (fun i => 4 * K i) n = 4 * jsN K n
  | 0 => rfl
  | n + 1 => by show jsN (fun i => 4 * K i) n + 4 * K n = 4 * (jsN K n + K n); rw [jsN_four K n, Nat.mul_add]
end Go.Proofs.Ytkhpmnehjifdcaf
/- Short -/
namespace Go.Proofs.Ytkhpmnehjifdcaf
open Go.RowKit Go.Sort
set_option linter.unusedVariables false
set_option linter.unusedSimpArgs false
theorem tooLong_yes {t : ByteArray} (w : World) (h : 60 < t.size) (ht : t.size ≤ 9223372036854775807) : Calls Try.prog 36 #[.string t] w fun e w' => e = .returned (.bool true) ∧ w' = w := by
  have h' : (t.size : Int) > 60 := by omega
  go_enter Try.func36, Try.ntmps36
  go_wp2_with fail
  go_ret
  exact ⟨rfl, rfl⟩
theorem tooLong_no {t : ByteArray} (w : World) (h : t.size ≤ 60) : Calls Try.prog 36 #[.string t] w fun e w' => e = .returned (.bool false) ∧ w' = w := by
  have h' : ¬ (t.size : Int) > 60 := by omega
  go_enter Try.func36, Try.ntmps36
  go_wp2_with fail
  go_ret
  exact ⟨rfl, rfl⟩
set_option maxRecDepth 100000 in
set_option maxHeartbeats 2000000 in
theorem ssign_x (x : Int) (t : ByteArray) (w : World) (h : x < 1 ∨ 1013 ≤ x) : Calls Try.prog 16 #[.int .i64 x, .string t] w fun e w' => e = .returned (.tuple #[.agg #[.int .i64 0, .int .i64 0, .bool false], errOf 1]) ∧ Below w.heap.size w w' := by
  rcases Classical.em (x < 1) with h1 | h1
  · go_enter Try.func16, Try.ntmps16
    go_wp2_with fail
    exact bodyPost_ret (v := .tuple #[.agg #[.int .i64 0, .int .i64 0, .bool false], errOf 1]) (by simp [results, Try.results16, go_sem, *]) rfl ⟨rfl, by repeat (first | (with_reducible exact Below.refl _ _) | (with_reducible assumption) | (with_reducible refine Below.setCell ?_ (by first | (simp; done) | (simp; omega) | omega) _) | (with_reducible refine Below.alloc ?_ (by first | (simp; done) | (simp; omega) | omega) _) | (refine bl_call ?_ (by assumption) (by first | (simp; done) | (simp; omega) | omega)) | (with_reducible refine bl_drewN ?_) | (with_reducible refine Below.drew ?_) | (with_reducible refine bl_grow ?_ (by first | (simp; done) | (simp; omega) | omega)))⟩
  · have h2 : x ≥ 1013 := by omega
    clear h
    go_enter Try.func16, Try.ntmps16
    go_wp2_with fail
    exact bodyPost_ret (v := .tuple #[.agg #[.int .i64 0, .int .i64 0, .bool false], errOf 1]) (by simp [results, Try.results16, go_sem, *]) rfl ⟨rfl, by repeat (first | (with_reducible exact Below.refl _ _) | (with_reducible assumption) | (with_reducible refine Below.setCell ?_ (by first | (simp; done) | (simp; omega) | omega) _) | (with_reducible refine Below.alloc ?_ (by first | (simp; done) | (simp; omega) | omega) _) | (refine bl_call ?_ (by assumption) (by first | (simp; done) | (simp; omega) | omega)) | (with_reducible refine bl_drewN ?_) | (with_reducible refine Below.drew ?_) | (with_reducible refine bl_grow ?_ (by first | (simp; done) | (simp; omega) | omega)))⟩
set_option maxRecDepth 100000 in
set_option maxHeartbeats 2000000 in
theorem ssign_full (x : Nat) (t : ByteArray) (w : World) (x1 : 1 ≤ x) (x2 : x < 1013) (h : 60 < t.size) (ht : t.size ≤ 9223372036854775807) : Calls Try.prog 16 #[.int .i64 (x : Int), .string t] w fun e w' => e = .returned (.tuple #[.agg #[.int .i64 0, .int .i64 0, .bool false], errOf 4]) ∧ Below w.heap.size w w' := by
  have a1 : ¬ (x : Int) < 1 := by omega
  have a2 : ¬ (x : Int) ≥ 1013 := by omega
  go_enter Try.func16, Try.ntmps16
  go_wp2_with (go_at_call 36; refine (tooLong_yes _ h ht).mono ?_; rintro e v1 ⟨rfl, hv1⟩; subst v1)
  exact bodyPost_ret (v := .tuple #[.agg #[.int .i64 0, .int .i64 0, .bool false], errOf 4]) (by simp [results, Try.results16, go_sem, *]) rfl ⟨rfl, by repeat (first | (with_reducible exact Below.refl _ _) | (with_reducible assumption) | (with_reducible refine Below.setCell ?_ (by first | (simp; done) | (simp; omega) | omega) _) | (with_reducible refine Below.alloc ?_ (by first | (simp; done) | (simp; omega) | omega) _) | (refine bl_call ?_ (by assumption) (by first | (simp; done) | (simp; omega) | omega)) | (with_reducible refine bl_drewN ?_) | (with_reducible refine Below.drew ?_) | (with_reducible refine bl_grow ?_ (by first | (simp; done) | (simp; omega) | omega)))⟩
set_option maxRecDepth 100000 in
set_option maxHeartbeats 2000000 in
theorem ssign_ok (x : Nat) (t : ByteArray) (w : World) (x1 : 1 ≤ x) (x2 : x < 1013) (h : t.size ≤ 60) : Calls Try.prog 16 #[.int .i64 (x : Int), .string t] w fun e w' => e = .returned (.tuple #[.agg #[.int .i64 ((tM (4 * (uN t * x))).1 : Int), .int .i64 ((tM (4 * (uN t * x))).2.1 : Int), .bool (tM (4 * (uN t * x))).2.2], .nilIface]) ∧ Below w.heap.size w w' := by
  have a1 : ¬ (x : Int) < 1 := by omega
  have a2 : ¬ (x : Int) ≥ 1013 := by omega
  have ht : t.size ≤ 9223372036854775807 := by omega
  have E : Hid (tM (4 * uN t * em (x : Int)) = tM (4 * (uN t * x))) := by unfold Hid; rw [em_nat x2, Nat.mul_assoc]
  have m1 : True := trivial; have m2 : True := trivial
  go_enter Try.func16, Try.ntmps16
  go_wp2_with (first | (go_at_call 36; refine (tooLong_no _ h).mono ?_; rintro e v1 ⟨rfl, hv1⟩; subst v1) | (go_at_call 13; clear m1; refine (spot_w _ _ ht).mono ?_; rintro e w1 ⟨rfl, hbw1⟩; have krw1 : At w1 (w.heap.size) [.int .i64 0, .int .i64 0, .bool false] := (by repeat (first | (with_reducible assumption) | ((with_reducible refine at_new' _ _ _ _ ?_); (first | rfl | (simp; done))) | (with_reducible refine At.alloc ?_ _) | (with_reducible refine At.drew ?_) | (with_reducible refine At.drewN ?_) | (with_reducible refine At.set ?_ (by omega)) | (with_reducible apply At.store4) | (with_reducible apply At.store3) | (with_reducible apply At.store2) | (with_reducible apply At.put43) | (refine At.below ?_ (by with_reducible assumption)))); have hqw1 : Below w.heap.size w w1 := (by repeat (first | (with_reducible exact Below.refl _ _) | (with_reducible assumption) | (with_reducible refine Below.setCell ?_ (by first | (simp; done) | (simp; omega) | omega) _) | (with_reducible refine Below.alloc ?_ (by first | (simp; done) | (simp; omega) | omega) _) | (refine bl_call ?_ (by assumption) (by first | (simp; done) | (simp; omega) | omega)) | (with_reducible refine bl_drewN ?_) | (with_reducible refine Below.drew ?_) | (with_reducible refine bl_grow ?_ (by first | (simp; done) | (simp; omega) | omega)))); have hzw1 := hqw1.size; obtain ⟨zrw1, cr0w1, cr1w1, cr2w1, fr0w1, fr1w1, fr2w1⟩ := krw1.three; clear hbw1) | (go_at_call 28; clear m2; refine (times_eq E.out _).mono ?_; rintro e w2 ⟨rfl, hbw2⟩; have krw2 : At w2 (w.heap.size) [.int .i64 0, .int .i64 0, .bool false] := (by repeat (first | (with_reducible assumption) | ((with_reducible refine at_new' _ _ _ _ ?_); (first | rfl | (simp; done))) | (with_reducible refine At.alloc ?_ _) | (with_reducible refine At.drew ?_) | (with_reducible refine At.drewN ?_) | (with_reducible refine At.set ?_ (by omega)) | (with_reducible apply At.store4) | (with_reducible apply At.store3) | (with_reducible apply At.store2) | (with_reducible apply At.put43) | (refine At.below ?_ (by with_reducible assumption)))); have hqw2 : Below w.heap.size w w2 := (by repeat (first | (with_reducible exact Below.refl _ _) | (with_reducible assumption) | (with_reducible refine Below.setCell ?_ (by first | (simp; done) | (simp; omega) | omega) _) | (with_reducible refine Below.alloc ?_ (by first | (simp; done) | (simp; omega) | omega) _) | (refine bl_call ?_ (by assumption) (by first | (simp; done) | (simp; omega) | omega)) | (with_reducible refine bl_drewN ?_) | (with_reducible refine Below.drew ?_) | (with_reducible refine bl_grow ?_ (by first | (simp; done) | (simp; omega) | omega)))); have hzw2 := hqw2.size; obtain ⟨zrw2, cr0w2, cr1w2, cr2w2, fr0w2, fr1w2, fr2w2⟩ := krw2.three; clear krw1 cr0w1 fr0w1 cr1w1 fr1w1 cr2w1 fr2w1 hqw1; clear hbw2))
  exact bodyPost_ret (v := .tuple #[.agg #[.int .i64 ((tM (4 * (uN t * x))).1 : Int), .int .i64 ((tM (4 * (uN t * x))).2.1 : Int), .bool (tM (4 * (uN t * x))).2.2], .nilIface]) (by simp [results, Try.results16, go_sem, *]) rfl ⟨rfl, by repeat (first | (with_reducible exact Below.refl _ _) | (with_reducible assumption) | (with_reducible refine Below.setCell ?_ (by first | (simp; done) | (simp; omega) | omega) _) | (with_reducible refine Below.alloc ?_ (by first | (simp; done) | (simp; omega) | omega) _) | (refine bl_call ?_ (by assumption) (by first | (simp; done) | (simp; omega) | omega)) | (with_reducible refine bl_drewN ?_) | (with_reducible refine Below.drew ?_) | (with_reducible refine bl_grow ?_ (by first | (simp; done) | (simp; omega) | omega)))⟩
end Go.Proofs.Ytkhpmnehjifdcaf
/- Bytes -/
namespace Go.Proofs.Ytkhpmnehjifdcaf
open Go.RowKit Go.Sort
set_option linter.unusedVariables false
set_option linter.unusedSimpArgs false
theorem w64_in {n : Int} (h0 : -9223372036854775808 ≤ n) (h1 : n ≤ 9223372036854775807) : wrap64 n = n := by unfold wrap64; omega
theorem or_pl (d e : UInt8) : bits BinOp.or IntKind.i64 ((d.toNat : Int) * 256) (e.toNat : Int) = (plN d e : Int) := by
  have h1 := d.toNat_lt
  have h2 := e.toNat_lt
  have h3 : d.toNat * 256 ||| e.toNat = plN d e := by
    have := Nat.shiftLeft_add_eq_or_of_lt (i := 8) (b := e.toNat) (by omega) d.toNat
    rw [Nat.shiftLeft_eq] at this
    rw [← this]; rfl
  have h4 : plN d e < 65536 := by unfold plN; omega
  have e1 : (BitVec.ofInt 64 ((d.toNat : Int) * 256)).toNat = d.toNat * 256 := by
    rw [show ((d.toNat : Int) * 256) = ((d.toNat * 256 : Nat) : Int) by omega, BitVec.ofInt_natCast, BitVec.toNat_ofNat]; exact Nat.mod_eq_of_lt (by omega)
  have e2 : (BitVec.ofInt 64 (e.toNat : Int)).toNat = e.toNat := by
    rw [BitVec.ofInt_natCast, BitVec.toNat_ofNat]; exact Nat.mod_eq_of_lt (by omega)
  show IntKind.i64.wrap ((BitVec.ofInt 64 ((d.toNat : Int) * 256) ||| BitVec.ofInt 64 (e.toNat : Int)).toNat : Int) = _
  rw [BitVec.toNat_or, e1, e2, h3, IntKind.wrap_i64]
  omega
end Go.Proofs.Ytkhpmnehjifdcaf
/- Seal -/
namespace Go.Proofs.Ytkhpmnehjifdcaf
open Go.RowKit Go.Sort
set_option linter.unusedVariables false
set_option linter.unusedSimpArgs false
set_option maxRecDepth 100000 in
set_option maxHeartbeats 2000000 in
theorem key_no (x : Int) (w : World) (h : x < 1 ∨ 1013 ≤ x) :
    Calls Try.prog 17 #[.int .i64 x] w fun e w' => e = .returned (.tuple #[.agg #[.int .i64 0, .int .i64 0, .bool false], errOf 1]) ∧ Below w.heap.size w w' := by
  rcases Classical.em (x < 1) with h1 | h1
  · go_enter Try.func17, Try.ntmps17
    go_wp2_with fail
    exact bodyPost_ret (v := .tuple #[.agg #[.int .i64 0, .int .i64 0, .bool false], errOf 1]) (by simp [results, Try.results17, go_sem, *]) rfl ⟨rfl, by repeat (first | (with_reducible exact Below.refl _ _) | (with_reducible assumption) | (with_reducible refine Below.setCell ?_ (by first | (simp; done) | (simp; omega) | omega) _) | (with_reducible refine Below.alloc ?_ (by first | (simp; done) | (simp; omega) | omega) _) | (refine bl_call ?_ (by assumption) (by first | (simp; done) | (simp; omega) | omega)) | (with_reducible refine bl_drewN ?_) | (with_reducible refine Below.drew ?_) | (with_reducible refine bl_grow ?_ (by first | (simp; done) | (simp; omega) | omega)))⟩
  · have h2 : x ≥ 1013 := by omega
    clear h
    go_enter Try.func17, Try.ntmps17
    go_wp2_with fail
    exact bodyPost_ret (v := .tuple #[.agg #[.int .i64 0, .int .i64 0, .bool false], errOf 1]) (by simp [results, Try.results17, go_sem, *]) rfl ⟨rfl, by repeat (first | (with_reducible exact Below.refl _ _) | (with_reducible assumption) | (with_reducible refine Below.setCell ?_ (by first | (simp; done) | (simp; omega) | omega) _) | (with_reducible refine Below.alloc ?_ (by first | (simp; done) | (simp; omega) | omega) _) | (refine bl_call ?_ (by assumption) (by first | (simp; done) | (simp; omega) | omega)) | (with_reducible refine bl_drewN ?_) | (with_reducible refine Below.drew ?_) | (with_reducible refine bl_grow ?_ (by first | (simp; done) | (simp; omega) | omega)))⟩
set_option maxRecDepth 100000 in
set_option maxHeartbeats 2000000 in
theorem key_yes (k : Nat) (w : World) (h1 : 1 ≤ k) (h2 : k < 1013) :
    Calls Try.prog 17 #[.int .i64 (k : Int)] w fun e w' => e = .returned (.tuple #[.agg #[.int .i64 ((tM (4 * k)).1 : Int), .int .i64 ((tM (4 * k)).2.1 : Int), .bool (tM (4 * k)).2.2], .nilIface]) ∧ Below w.heap.size w w' := by
  have a1 : ¬ (k : Int) < 1 := by omega
  have a2 : ¬ (k : Int) ≥ 1013 := by omega
  have E : Hid (tM (4 * em (k : Int)) = tM (4 * k)) := by unfold Hid; rw [em_nat h2]
  clear h1 h2
  have m1 : True := trivial; have m2 : True := trivial
  go_enter Try.func17, Try.ntmps17
  go_wp2_with (first | (go_at_call 33; clear m1; refine (base_is _).mono ?_; rintro e w1 ⟨rfl, hbw1⟩; have krw1 : At w1 (w.heap.size) [.int .i64 0, .int .i64 0, .bool false] := (by repeat (first | (with_reducible assumption) | ((with_reducible refine at_new' _ _ _ _ ?_); (first | rfl | (simp; done))) | (with_reducible refine At.alloc ?_ _) | (with_reducible refine At.drew ?_) | (with_reducible refine At.drewN ?_) | (with_reducible refine At.set ?_ (by omega)) | (with_reducible apply At.store4) | (with_reducible apply At.store3) | (with_reducible apply At.store2) | (with_reducible apply At.put43) | (refine At.below ?_ (by with_reducible assumption)))); have hqw1 : Below w.heap.size w w1 := (by repeat (first | (with_reducible exact Below.refl _ _) | (with_reducible assumption) | (with_reducible refine Below.setCell ?_ (by first | (simp; done) | (simp; omega) | omega) _) | (with_reducible refine Below.alloc ?_ (by first | (simp; done) | (simp; omega) | omega) _) | (refine bl_call ?_ (by assumption) (by first | (simp; done) | (simp; omega) | omega)) | (with_reducible refine bl_drewN ?_) | (with_reducible refine Below.drew ?_) | (with_reducible refine bl_grow ?_ (by first | (simp; done) | (simp; omega) | omega)))); have hzw1 := hqw1.size; obtain ⟨zrw1, cr0w1, cr1w1, cr2w1, fr0w1, fr1w1, fr2w1⟩ := krw1.three; clear hbw1) | (go_at_call 28; clear m2; refine (times_eq E.out _).mono ?_; rintro e w2 ⟨rfl, hbw2⟩; have krw2 : At w2 (w.heap.size) [.int .i64 0, .int .i64 0, .bool false] := (by repeat (first | (with_reducible assumption) | ((with_reducible refine at_new' _ _ _ _ ?_); (first | rfl | (simp; done))) | (with_reducible refine At.alloc ?_ _) | (with_reducible refine At.drew ?_) | (with_reducible refine At.drewN ?_) | (with_reducible refine At.set ?_ (by omega)) | (with_reducible apply At.store4) | (with_reducible apply At.store3) | (with_reducible apply At.store2) | (with_reducible apply At.put43) | (refine At.below ?_ (by with_reducible assumption)))); have hqw2 : Below w.heap.size w w2 := (by repeat (first | (with_reducible exact Below.refl _ _) | (with_reducible assumption) | (with_reducible refine Below.setCell ?_ (by first | (simp; done) | (simp; omega) | omega) _) | (with_reducible refine Below.alloc ?_ (by first | (simp; done) | (simp; omega) | omega) _) | (refine bl_call ?_ (by assumption) (by first | (simp; done) | (simp; omega) | omega)) | (with_reducible refine bl_drewN ?_) | (with_reducible refine Below.drew ?_) | (with_reducible refine bl_grow ?_ (by first | (simp; done) | (simp; omega) | omega)))); have hzw2 := hqw2.size; obtain ⟨zrw2, cr0w2, cr1w2, cr2w2, fr0w2, fr1w2, fr2w2⟩ := krw2.three; clear krw1 cr0w1 fr0w1 cr1w1 fr1w1 cr2w1 fr2w1 hqw1; clear hbw2))
  exact bodyPost_ret (v := .tuple #[.agg #[.int .i64 ((tM (4 * k)).1 : Int), .int .i64 ((tM (4 * k)).2.1 : Int), .bool (tM (4 * k)).2.2], .nilIface]) (by simp [results, Try.results17, go_sem, *]) rfl ⟨rfl, by repeat (first | (with_reducible exact Below.refl _ _) | (with_reducible assumption) | (with_reducible refine Below.setCell ?_ (by first | (simp; done) | (simp; omega) | omega) _) | (with_reducible refine Below.alloc ?_ (by first | (simp; done) | (simp; omega) | omega) _) | (refine bl_call ?_ (by assumption) (by first | (simp; done) | (simp; omega) | omega)) | (with_reducible refine bl_drewN ?_) | (with_reducible refine Below.drew ?_) | (with_reducible refine bl_grow ?_ (by first | (simp; done) | (simp; omega) | omega)))⟩
end Go.Proofs.Ytkhpmnehjifdcaf
