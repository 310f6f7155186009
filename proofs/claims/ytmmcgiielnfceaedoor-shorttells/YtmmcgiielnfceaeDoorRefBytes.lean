/- What the plain reckoning's Bytes, ReadBytes, Spots and List (stoneref1) answer. -/
import Derived.Test.YtmmcgiielnfceaeDoorRefCurve
import Derived.Test.YtmmcgiielnfceaeDoorList
namespace Go.Proofs.YtmmcgiielnfceaeDoor
open Go.RowKit Go.Sort
set_option linter.unusedVariables false
set_option linter.unusedSimpArgs false
theorem rspots_many (sa : Option Addr) (n c : Nat) (w : World) (h : 12 < n) : Calls Tryd.prog 13 #[.slice sa n c] w fun e w' => e = .returned (.int .i64 4) ∧ Below w.heap.size w w' := by
  have h1 : 12 < (n : Int) := by omega
  go_enter Tryd.func13, Tryd.ntmps13
  go_wp2_with fail
  go_ret
  exact ⟨rfl, by repeat (first | (with_reducible exact Below.refl _ _) | (with_reducible assumption) | (with_reducible refine Below.setCell ?_ (by first | (simp; done) | (simp; omega) | omega) _) | (with_reducible refine Below.alloc ?_ (by first | (simp; done) | (simp; omega) | omega) _) | (refine bl_call ?_ (by assumption) (by first | (simp; done) | (simp; omega) | omega)) | (with_reducible refine bl_drewN ?_) | (with_reducible refine Below.drew ?_) | (with_reducible refine bl_grow ?_ (by first | (simp; done) | (simp; omega) | omega)))⟩
theorem rspots_nil (sa : Option Addr) (c : Nat) (w : World) : Calls Tryd.prog 13 #[.slice sa 0 c] w fun e w' => e = .returned (.int .i64 0) ∧ Below w.heap.size w w' := by
  go_enter Tryd.func13, Tryd.ntmps13
  go_wp2_with fail
  go_loopw [3] (fun ti wl => ti = .int .i64 0 ∧ Below w.heap.size w wl) (fun _ _ => 0)
  case atStart => exact ⟨rfl, Below.refl _ _⟩
  case round =>
    obtain ⟨rfl, hbl⟩ := hrel
    go_wp2_with fail
    go_ret
    exact ⟨rfl, hbl⟩
set_option maxRecDepth 100000 in
set_option maxHeartbeats 1000000 in
theorem rspots_any (b o n c m : Nat) (X Y : Nat → Int) (F : Nat → Bool) (w : World) (hn : n ≤ 12) (hr : RowO w b o n X Y F) (hm : m ≤ n) (hok : ∀ j, j < m → ckI (X j) (Y j) (F j) = 0) (v : Int)
    (hv : (m = n ∧ v = 0) ∨ (m < n ∧ (ckI (X m) (Y m) (F m) == 0) = false ∧ v = ckI (X m) (Y m) (F m))) :
    Calls Tryd.prog 13 #[.slice (some ⟨b, o, none⟩) n c] w fun e w' => e = .returned (.int .i64 v) ∧ Below w.heap.size w w' := by
  have HR : Hid (RowO w b o n X Y F) := hr
  have HO : Hid (∀ j, j < m → ckI (X j) (Y j) (F j) = 0) := hok
  have HV : Hid ((m = n ∧ v = 0) ∨ (m < n ∧ (ckI (X m) (Y m) (F m) == 0) = false ∧ v = ckI (X m) (Y m) (F m))) := hv
  have hb := hr.1
  have h1 : ¬ (12 < (n : Int)) := by omega
  clear hr hok hv
  go_enter Tryd.func13, Tryd.ntmps13
  go_wp2_with fail
  go_loopw [3] (fun ti wl => ∃ k : Nat, k ≤ m ∧ ti = .int .i64 k ∧ Below w.heap.size w wl) (fun ti _ => n - (intOf ti).toNat)
  case atStart => exact ⟨0, by omega, rfl, Below.refl _ _⟩
  case round =>
    obtain ⟨k, hk, rfl, hbl⟩ := hrel
    have hz := hbl.size
    by_cases hlt : k < n
    · have hlt' : (k : Int) < n := by omega
      obtain ⟨c0, c1, c2⟩ := (HR.out.below hb hbl).2 k hlt
      by_cases hkm : k < m
      · go_wp2_with (go_at_call 26; refine (rspot_yes (HO.out k hkm) _).mono ?_; rintro e w1 ⟨rfl, hb1⟩)
        go_roundw
        case rel => exact ⟨k + 1, by omega, by simp, by repeat (first | (with_reducible exact Below.refl _ _) | (with_reducible assumption) | (with_reducible refine Below.setCell ?_ (by first | (simp; done) | (simp; omega) | omega) _) | (with_reducible refine Below.alloc ?_ (by first | (simp; done) | (simp; omega) | omega) _) | (refine bl_call ?_ (by assumption) (by first | (simp; done) | (simp; omega) | omega)) | (with_reducible refine bl_drewN ?_) | (with_reducible refine Below.drew ?_) | (with_reducible refine bl_grow ?_ (by first | (simp; done) | (simp; omega) | omega)))⟩
        case measure => simp [intOf]; omega
      · obtain rfl : k = m := by omega
        obtain ⟨h1, h2, rfl⟩ : k < n ∧ (ckI (X k) (Y k) (F k) == 0) = false ∧ v = ckI (X k) (Y k) (F k) := by
          rcases HV.out with h | h
          · omega
          · exact h
        go_wp2_with (go_at_call 26; refine (rspot_any _ _ _ _).mono ?_; rintro e w1 ⟨rfl, hb1⟩)
        go_ret
        exact ⟨rfl, by repeat (first | (with_reducible exact Below.refl _ _) | (with_reducible assumption) | (with_reducible refine Below.setCell ?_ (by first | (simp; done) | (simp; omega) | omega) _) | (with_reducible refine Below.alloc ?_ (by first | (simp; done) | (simp; omega) | omega) _) | (refine bl_call ?_ (by assumption) (by first | (simp; done) | (simp; omega) | omega)) | (with_reducible refine bl_drewN ?_) | (with_reducible refine Below.drew ?_) | (with_reducible refine bl_grow ?_ (by first | (simp; done) | (simp; omega) | omega)))⟩
    · have hlt' : ¬ (k : Int) < n := by omega
      obtain ⟨h1, rfl⟩ : m = n ∧ v = 0 := by
        rcases HV.out with h | h
        · exact h
        · omega
      go_wp2_with fail
      go_ret
      exact ⟨rfl, by repeat (first | (with_reducible exact Below.refl _ _) | (with_reducible assumption) | (with_reducible refine Below.setCell ?_ (by first | (simp; done) | (simp; omega) | omega) _) | (with_reducible refine Below.alloc ?_ (by first | (simp; done) | (simp; omega) | omega) _) | (refine bl_call ?_ (by assumption) (by first | (simp; done) | (simp; omega) | omega)) | (with_reducible refine bl_drewN ?_) | (with_reducible refine Below.drew ?_) | (with_reducible refine bl_grow ?_ (by first | (simp; done) | (simp; omega) | omega)))⟩
theorem rspots_row (b o n c : Nat) (X Y : Nat → Int) (F : Nat → Bool) (w : World) (hn : n ≤ 12) (hr : RowO w b o n X Y F) : Calls Tryd.prog 13 #[.slice (some ⟨b, o, none⟩) n c] w fun e w' => e = .returned (.int .i64 (rowE X Y F n)) ∧ Below w.heap.size w w' := by
  cases h : rowE X Y F n == 0
  · obtain ⟨m, h1, h2, h3, h4⟩ := rowE_first h
    rw [h4]
    exact rspots_any b o n c m X Y F w hn hr (Nat.le_of_lt h1) h2 _ (Or.inr ⟨h1, h3, rfl⟩)
  · have h0 : rowE X Y F n = 0 := by simpa using h
    rw [h0]
    exact rspots_any b o n c n X Y F w hn hr (Nat.le_refl _) (rowE_zero h0) _ (Or.inl ⟨rfl, rfl⟩)
end Go.Proofs.YtmmcgiielnfceaeDoor
