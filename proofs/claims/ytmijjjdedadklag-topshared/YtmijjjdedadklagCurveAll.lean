/- What curve.CheckAll answers of so many spots that lie in a row. -/
import Derived.Test.YtmijjjdedadklagCurve
namespace Go.Proofs.Ytmijjjdedadklag
open Go.RowKit Go.Sort
set_option linter.unusedVariables false
set_option linter.unusedSimpArgs false

/-- In block b lie so many spots in a row. -/
def RowS (w : World) (b n : Nat) (X Y : Nat → Int) (F : Nat → Bool) : Prop :=
  b < w.heap.size ∧ ∀ i, i < n → w.cell? ⟨b, i * 3, none⟩ = some (.int .i64 (X i)) ∧ w.cell? ⟨b, i * 3 + 1, none⟩ = some (.int .i64 (Y i)) ∧ w.cell? ⟨b, i * 3 + 2, none⟩ = some (.bool (F i))
theorem RowS.below {w w' : World} {b n : Nat} {X Y : Nat → Int} {F : Nat → Bool} (h : RowS w b n X Y F) (k : Below w.heap.size w w') : RowS w' b n X Y F :=
  ⟨Nat.lt_of_lt_of_le h.1 k.size, fun i hi => by
    obtain ⟨h1, h2, h3⟩ := h.2 i hi
    exact ⟨(k.cell (p := ⟨b, i * 3, none⟩) h.1).trans h1, (k.cell (p := ⟨b, i * 3 + 1, none⟩) h.1).trans h2, (k.cell (p := ⟨b, i * 3 + 2, none⟩) h.1).trans h3⟩⟩
theorem checkAll_any (b n c m : Nat) (X Y : Nat → Int) (F : Nat → Bool) (w : World) (hn : n ≤ 1000000) (hr : RowS w b n X Y F) (hm : m ≤ n) (hok : ∀ j, j < m → ckI (X j) (Y j) (F j) = 0) (v : Value)
    (hv : (m = n ∧ v = .nilIface) ∨ (m < n ∧ (ckI (X m) (Y m) (F m) == 0) = false ∧ v = errOf (ckI (X m) (Y m) (F m)))) :
    Calls Try.prog 37 #[.slice (some ⟨b, 0, none⟩) n c] w fun e w' => e = .returned v ∧ Below w.heap.size w w' := by
  have HR : Hid (RowS w b n X Y F) := hr
  have HO : Hid (∀ j, j < m → ckI (X j) (Y j) (F j) = 0) := hok
  have HV : Hid ((m = n ∧ v = .nilIface) ∨ (m < n ∧ (ckI (X m) (Y m) (F m) == 0) = false ∧ v = errOf (ckI (X m) (Y m) (F m)))) := hv
  have hb := hr.1
  clear hr hok hv
  go_enter Try.func37, Try.ntmps37
  go_wp2_with fail
  go_loopw [8] (fun ti wl => ∃ k : Nat, k ≤ m ∧ ti = .int .i64 k ∧ Below w.heap.size w wl) (fun ti _ => n - (intOf ti).toNat)
  case atStart => exact ⟨0, by omega, rfl, Below.refl _ _⟩
  case round =>
    obtain ⟨k, hk, rfl, hbl⟩ := hrel
    have hz := hbl.size
    by_cases hlt : k < n
    · have hlt' : (k : Int) < n := by omega
      obtain ⟨c0, c1, c2⟩ := (HR.out.below hbl).2 k hlt
      by_cases hkm : k < m
      · go_wp2_with (go_at_call 31; refine (check_yes _ _ _ _ (HO.out k hkm)).mono ?_; rintro e w1 ⟨rfl, hb1⟩)
        go_roundw
        case rel => exact ⟨k + 1, by omega, by simp, by repeat (first | (with_reducible exact Below.refl _ _) | (with_reducible assumption) | (with_reducible refine Below.setCell ?_ (by first | (simp; done) | (simp; omega) | omega) _) | (with_reducible refine Below.alloc ?_ (by first | (simp; done) | (simp; omega) | omega) _) | (refine bl_call ?_ (by assumption) (by first | (simp; done) | (simp; omega) | omega)) | (with_reducible refine bl_drewN ?_) | (with_reducible refine Below.drew ?_) | (with_reducible refine bl_grow ?_ (by first | (simp; done) | (simp; omega) | omega)))⟩
        case measure => simp [intOf]; omega
      · obtain rfl : k = m := by omega
        obtain ⟨h1, h2, rfl⟩ : k < n ∧ (ckI (X k) (Y k) (F k) == 0) = false ∧ v = errOf (ckI (X k) (Y k) (F k)) := by
          rcases HV.out with h | h
          · omega
          · exact h
        go_wp2_with (go_at_call 31; refine (check_no _ _ _ _ h2).mono ?_; rintro e w1 ⟨rfl, hb1⟩)
        go_ret
        exact ⟨rfl, by repeat (first | (with_reducible exact Below.refl _ _) | (with_reducible assumption) | (with_reducible refine Below.setCell ?_ (by first | (simp; done) | (simp; omega) | omega) _) | (with_reducible refine Below.alloc ?_ (by first | (simp; done) | (simp; omega) | omega) _) | (refine bl_call ?_ (by assumption) (by first | (simp; done) | (simp; omega) | omega)) | (with_reducible refine bl_drewN ?_) | (with_reducible refine Below.drew ?_) | (with_reducible refine bl_grow ?_ (by first | (simp; done) | (simp; omega) | omega)))⟩
    · have hlt' : ¬ (k : Int) < n := by omega
      obtain ⟨h1, rfl⟩ : m = n ∧ v = .nilIface := by
        rcases HV.out with h | h
        · exact h
        · omega
      go_wp2_with fail
      go_ret
      exact ⟨rfl, by repeat (first | (with_reducible exact Below.refl _ _) | (with_reducible assumption) | (with_reducible refine Below.setCell ?_ (by first | (simp; done) | (simp; omega) | omega) _) | (with_reducible refine Below.alloc ?_ (by first | (simp; done) | (simp; omega) | omega) _) | (refine bl_call ?_ (by assumption) (by first | (simp; done) | (simp; omega) | omega)) | (with_reducible refine bl_drewN ?_) | (with_reducible refine Below.drew ?_) | (with_reducible refine bl_grow ?_ (by first | (simp; done) | (simp; omega) | omega)))⟩
end Go.Proofs.Ytmijjjdedadklag
