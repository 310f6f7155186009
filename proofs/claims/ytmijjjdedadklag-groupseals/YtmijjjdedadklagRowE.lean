/- What is wrong with a row of spots; curve.CheckAll over one. -/
import Derived.Test.YtmijjjdedadklagCurveEq
import Derived.Test.YtmijjjdedadklagCurveAll
import Derived.Test.YtmijjjdedadklagStay
namespace Go.Proofs.Ytmijjjdedadklag
open Go.RowKit Go.Sort
set_option linter.unusedVariables false
set_option linter.unusedSimpArgs false
/-- What is wrong with a row of spots: that of the first that is wrong. -/
def rowE (X Y : Nat → Int) (F : Nat → Bool) (n : Nat) : Int :=
  match n with
  | 0 => 0
  | n + 1 => bif rowE X Y F n == 0 then ckI (X n) (Y n) (F n) else rowE X Y F n
theorem rowE_zero {X Y : Nat → Int} {F : Nat → Bool} : ∀ {n : Nat}, rowE X Y F n = 0 → ∀ j, j < n → ckI (X j) (Y j) (F j) = 0
  | 0, _, j, hj => absurd hj (Nat.not_lt_zero _)
  | n + 1, h, j, hj => by
    unfold rowE at h
    cases h1 : rowE X Y F n == 0
    · rw [h1] at h; simp only [cond_false] at h; rw [h] at h1; cases h1
    · rw [h1] at h; simp only [cond_true] at h
      rcases Nat.lt_succ_iff_lt_or_eq.1 hj with h2 | rfl
      · exact rowE_zero (by simpa using h1) j h2
      · exact h
/-- Either all are right, or the first wrong one is at m. -/
theorem rowE_first {X Y : Nat → Int} {F : Nat → Bool} : ∀ {n : Nat}, (rowE X Y F n == 0) = false → ∃ m, m < n ∧ (∀ j, j < m → ckI (X j) (Y j) (F j) = 0) ∧ (ckI (X m) (Y m) (F m) == 0) = false ∧ rowE X Y F n = ckI (X m) (Y m) (F m)
  | 0, h => by cases h
  | n + 1, h => by
    cases h1 : rowE X Y F n == 0
    · obtain ⟨m, h2, h3, h4, h5⟩ := rowE_first h1
      refine ⟨m, by omega, h3, h4, ?_⟩
      unfold rowE; rw [h1]; exact h5
    · have e : rowE X Y F (n + 1) = ckI (X n) (Y n) (F n) := by unfold rowE; rw [h1]; rfl
      rw [e] at h ⊢
      exact ⟨n, by omega, rowE_zero (by simpa using h1), h, rfl⟩
/-- A row of right ones: each is so many times one. -/
theorem row_tM {X Y : Nat → Int} {F : Nat → Bool} {n : Nat} (h : rowE X Y F n = 0) : ∃ K : Nat → Nat, ∀ i, i < n → X i = ((tM (K i)).1 : Int) ∧ Y i = ((tM (K i)).2.1 : Int) ∧ F i = (tM (K i)).2.2 :=
  Deep.choose_lt (p := fun i k => X i = ((tM k).1 : Int) ∧ Y i = ((tM k).2.1 : Int) ∧ F i = (tM k).2.2) fun i hi => by
    obtain ⟨k, _, h1, h2, h3⟩ := ckI_tN (rowE_zero h i hi)
    exact ⟨k, h1, h2, h3⟩
theorem checkAll_nil (sa : Option Addr) (c : Nat) (w : World) : Calls Try.prog 37 #[.slice sa 0 c] w fun e w' => e = .returned (.nilIface) ∧ Below w.heap.size w w' := by
  go_enter Try.func37, Try.ntmps37
  go_wp2_with fail
  go_loopw [8] (fun ti wl => ti = .int .i64 0 ∧ Below w.heap.size w wl) (fun _ _ => 0)
  case atStart => exact ⟨rfl, Below.refl _ _⟩
  case round =>
    obtain ⟨rfl, hbl⟩ := hrel
    go_wp2_with fail
    go_ret
    exact ⟨rfl, hbl⟩
set_option maxRecDepth 100000 in
set_option maxHeartbeats 2000000 in
theorem checkAll_row (b o n c m : Nat) (X Y : Nat → Int) (F : Nat → Bool) (w : World) (hn : n ≤ 1000000) (hr : RowO w b o n X Y F) (hm : m ≤ n) (hok : ∀ j, j < m → ckI (X j) (Y j) (F j) = 0) (v : Value)
    (hv : (m = n ∧ v = .nilIface) ∨ (m < n ∧ (ckI (X m) (Y m) (F m) == 0) = false ∧ v = errOf (ckI (X m) (Y m) (F m)))) :
    Calls Try.prog 37 #[.slice (some ⟨b, o, none⟩) n c] w fun e w' => e = .returned (v) ∧ Below w.heap.size w w' := by
  have HR : Hid (RowO w b o n X Y F) := hr
  have HO : Hid (∀ j, j < m → ckI (X j) (Y j) (F j) = 0) := hok
  have HV : Hid ((m = n ∧ v = .nilIface) ∨ (m < n ∧ (ckI (X m) (Y m) (F m) == 0) = false ∧ v = errOf (ckI (X m) (Y m) (F m)))) := hv
  have hb := hr.1
  clear hr hok hv
  go_enter Try.func37, Try.ntmps37
  go_wp2_with fail
  go_loopw [8] (fun ti wl => ∃ k : Nat, k ≤ m ∧ ti = .int .i64 k ∧ Below w.heap.size w wl) (fun ti _ => n - (intOf ti).toNat)
  case atStart => exact ⟨0, by omega, rfl, Below.refl _ _⟩
  case round =>
    obtain ⟨k, hk, rfl, hbl⟩ := hrel
    have hz := hbl.size
    by_cases hlt : k < n
    · have hlt' : (k : Int) < n := by omega
      obtain ⟨c0, c1, c2⟩ := (HR.out.below hb hbl).2 k hlt
      by_cases hkm : k < m
      · go_wp2_with (go_at_call 31; refine (check_yes _ _ _ _ (HO.out k hkm)).mono ?_; rintro e w1 ⟨rfl, hb1⟩)
        go_roundw
        case rel => exact ⟨k + 1, by omega, by simp, by repeat (first | (with_reducible exact Below.refl _ _) | (with_reducible assumption) | (with_reducible refine Below.setCell ?_ (by first | (simp; done) | (simp; omega) | omega) _) | (with_reducible refine Below.alloc ?_ (by first | (simp; done) | (simp; omega) | omega) _) | (refine bl_call ?_ (by assumption) (by first | (simp; done) | (simp; omega) | omega)) | (with_reducible refine bl_drewN ?_) | (with_reducible refine Below.drew ?_) | (with_reducible refine bl_grow ?_ (by first | (simp; done) | (simp; omega) | omega)))⟩
        case measure => simp [intOf]; omega
      · obtain rfl : k = m := by omega
        obtain ⟨h1, h2, rfl⟩ : k < n ∧ (ckI (X k) (Y k) (F k) == 0) = false ∧ v = errOf (ckI (X k) (Y k) (F k)) := by
          rcases HV.out with h | h
          · omega
          · exact h
        go_wp2_with (go_at_call 31; refine (check_no _ _ _ _ h2).mono ?_; rintro e w1 ⟨rfl, hb1⟩)
        go_ret
        exact ⟨rfl, by repeat (first | (with_reducible exact Below.refl _ _) | (with_reducible assumption) | (with_reducible refine Below.setCell ?_ (by first | (simp; done) | (simp; omega) | omega) _) | (with_reducible refine Below.alloc ?_ (by first | (simp; done) | (simp; omega) | omega) _) | (refine bl_call ?_ (by assumption) (by first | (simp; done) | (simp; omega) | omega)) | (with_reducible refine bl_drewN ?_) | (with_reducible refine Below.drew ?_) | (with_reducible refine bl_grow ?_ (by first | (simp; done) | (simp; omega) | omega)))⟩
    · have hlt' : ¬ (k : Int) < n := by omega
      obtain ⟨h1, rfl⟩ : m = n ∧ v = .nilIface := by
        rcases HV.out with h | h
        · exact h
        · omega
      go_wp2_with fail
      go_ret
      exact ⟨rfl, by repeat (first | (with_reducible exact Below.refl _ _) | (with_reducible assumption) | (with_reducible refine Below.setCell ?_ (by first | (simp; done) | (simp; omega) | omega) _) | (with_reducible refine Below.alloc ?_ (by first | (simp; done) | (simp; omega) | omega) _) | (refine bl_call ?_ (by assumption) (by first | (simp; done) | (simp; omega) | omega)) | (with_reducible refine bl_drewN ?_) | (with_reducible refine Below.drew ?_) | (with_reducible refine bl_grow ?_ (by first | (simp; done) | (simp; omega) | omega)))⟩
theorem checkAll_all (b o n c : Nat) (X Y : Nat → Int) (F : Nat → Bool) (w : World) (hn : n ≤ 1000000) (hr : RowO w b o n X Y F) (h : rowE X Y F n = 0) : Calls Try.prog 37 #[.slice (some ⟨b, o, none⟩) n c] w fun e w' => e = .returned (.nilIface) ∧ Below w.heap.size w w' :=
  checkAll_row b o n c n X Y F w hn hr (Nat.le_refl _) (rowE_zero h) _ (Or.inl ⟨rfl, rfl⟩)
theorem checkAll_bad (b o n c : Nat) (X Y : Nat → Int) (F : Nat → Bool) (w : World) (hn : n ≤ 1000000) (hr : RowO w b o n X Y F) (h : (rowE X Y F n == 0) = false) : Calls Try.prog 37 #[.slice (some ⟨b, o, none⟩) n c] w fun e w' => e = .returned (errOf (rowE X Y F n)) ∧ Below w.heap.size w w' := by
  obtain ⟨m, h1, h2, h3, h4⟩ := rowE_first h
  rw [h4]
  exact checkAll_row b o n c m X Y F w hn hr (Nat.le_of_lt h1) h2 _ (Or.inr ⟨h1, h3, rfl⟩)
end Go.Proofs.Ytmijjjdedadklag
