/- What the small functions of package share answer: which numbers are ones, which places clash, the inverse, one weight, the places of shares. -/
import Derived.Test.YtkhpmnehjifdcafDoorShareIs
import Derived.Test.YtkhpmnehjifdcafDoorOwn
import Derived.Test.YtkhpmnehjifdcafDoorMem
import Derived.BigQuiet
namespace Go.Proofs.YtkhpmnehjifdcafDoor
open Go.RowKit Go.Sort
set_option linter.unusedVariables false
set_option linter.unusedSimpArgs false
theorem isnum (n : Int) (w : World) : Calls Tryd.prog 26 #[.int .i64 n] w fun e w' => e = .returned (.bool (resB n)) ∧ w' = w := by
  by_cases h : n ≥ 0
  · by_cases h2 : n < 1013
    · rw [show resB n = true from decide_eq_true ⟨h, h2⟩]
      go_enter Tryd.func26, Tryd.ntmps26
      go_wp2_with fail
      go_ret
      exact ⟨rfl, rfl⟩
    · rw [show resB n = false from decide_eq_false fun k => h2 k.2]
      go_enter Tryd.func26, Tryd.ntmps26
      go_wp2_with fail
      go_ret
      exact ⟨rfl, rfl⟩
  · rw [show resB n = false from decide_eq_false fun k => h k.1]
    go_enter Tryd.func26, Tryd.ntmps26
    go_wp2_with fail
    go_ret
    exact ⟨rfl, rfl⟩
theorem spl_fn (x : Int) (t : Bool) (w : World) (h : resB x = t) : Calls Tryd.prog 25 #[.int .i64 x] w fun e w' => e = .returned (.bool (!t)) ∧ Below w.heap.size w w' := by
  have h1 := isnum x
  rw [h] at h1
  have H : Hid (∀ w, Calls Tryd.prog 26 #[.int .i64 x] w fun e w' => e = .returned (.bool t) ∧ w' = w) := h1
  clear h h1
  go_enter Tryd.func25, Tryd.ntmps25
  go_wp2_with (go_at_call 26; refine (H.out _).mono ?_; rintro e v1 ⟨rfl, hv1⟩; subst v1)
  go_ret
  exact ⟨rfl, by repeat (first | (with_reducible exact Below.refl _ _) | (with_reducible assumption) | (with_reducible refine Below.setCell ?_ (by first | (simp; done) | (simp; omega) | omega) _) | (with_reducible refine Below.alloc ?_ (by first | (simp; done) | (simp; omega) | omega) _) | (refine bl_call ?_ (by assumption) (by first | (simp; done) | (simp; omega) | omega)) | (with_reducible refine bl_drewN ?_) | (with_reducible refine Below.drew ?_) | (with_reducible refine bl_grow ?_ (by first | (simp; done) | (simp; omega) | omega)))⟩
theorem cmb_fn (x y : Int) (t : Bool) (w : World) (h : resB y = t) : Calls Tryd.prog 37 #[.agg #[.int .i64 x, .int .i64 y]] w fun e w' => e = .returned (.bool (!t)) ∧ Below w.heap.size w w' := by
  have h1 := isnum y
  rw [h] at h1
  have H : Hid (∀ w, Calls Tryd.prog 26 #[.int .i64 y] w fun e w' => e = .returned (.bool t) ∧ w' = w) := h1
  clear h h1
  go_enter Tryd.func37, Tryd.ntmps37
  go_wp2_with (go_at_call 26; refine (H.out _).mono ?_; rintro e v1 ⟨rfl, hv1⟩; subst v1)
  go_ret
  exact ⟨rfl, by repeat (first | (with_reducible exact Below.refl _ _) | (with_reducible assumption) | (with_reducible refine Below.setCell ?_ (by first | (simp; done) | (simp; omega) | omega) _) | (with_reducible refine Below.alloc ?_ (by first | (simp; done) | (simp; omega) | omega) _) | (refine bl_call ?_ (by assumption) (by first | (simp; done) | (simp; omega) | omega)) | (with_reducible refine bl_drewN ?_) | (with_reducible refine Below.drew ?_) | (with_reducible refine bl_grow ?_ (by first | (simp; done) | (simp; omega) | omega)))⟩
set_option maxRecDepth 100000 in
set_option maxHeartbeats 4000000 in
theorem idxI (b o n d t : Nat) (X : Nat → Int) (r : Int) (w : World) (hn : n ≤ 12) (ht : t ≤ n) (hr : RowI w b o n X) (hok : ∀ i, i < t → resB (X i) = true) (he : (t = n ∧ r = -1) ∨ (t < n ∧ resB (X t) = false ∧ r = t)) :
    Calls Tryd.prog 48 #[.slice (some ⟨b, o, none⟩) n d, .func (.func 25) #[] #[]] w fun e w' => e = .returned (.int .i64 r) ∧ Below w.heap.size w w' := by
  have HR : Hid (RowI w b o n X) := hr
  have HOK : Hid (∀ i, i < t → resB (X i) = true) := hok
  have HE : Hid ((t = n ∧ r = -1) ∨ (t < n ∧ resB (X t) = false ∧ r = t)) := he
  have hb := hr.1
  clear hr hok he
  go_enter Tryd.func48, Tryd.ntmps48
  go_wp2_with fail
  go_loopw [8] (fun ti wl => ∃ k : Nat, k ≤ t ∧ ti = .int .i64 k ∧ Below w.heap.size w wl) (fun ti _ => n - (intOf ti).toNat)
  case atStart => exact ⟨0, by omega, rfl, by repeat (first | (with_reducible exact Below.refl _ _) | (with_reducible assumption) | (with_reducible refine Below.setCell ?_ (by first | (simp; done) | (simp; omega) | omega) _) | (with_reducible refine Below.alloc ?_ (by first | (simp; done) | (simp; omega) | omega) _) | (refine bl_call ?_ (by assumption) (by first | (simp; done) | (simp; omega) | omega)) | (with_reducible refine bl_drewN ?_) | (with_reducible refine Below.drew ?_) | (with_reducible refine bl_grow ?_ (by first | (simp; done) | (simp; omega) | omega)))⟩
  case round =>
    obtain ⟨k, hk, rfl, hqV⟩ := hrel
    have hzV := hqV.size
    by_cases hlt : k < n
    · have hlt' : (k : Int) < n := by omega
      have hbV := Nat.lt_of_lt_of_le hb hzV
      have c0 := row_int HR.out hqV hlt
      by_cases hkt : k < t
      · have HP : Hid (resB (X k) = true) := HOK.out k hkt
        go_wp2_with (go_at_call 25; refine (spl_fn _ _ _ HP.out).mono ?_; rintro e w1 ⟨rfl, hb1⟩)
        go_roundw
        case rel => exact ⟨k + 1, by omega, by simp, by repeat (first | (with_reducible exact Below.refl _ _) | (with_reducible assumption) | (with_reducible refine Below.setCell ?_ (by first | (simp; done) | (simp; omega) | omega) _) | (with_reducible refine Below.alloc ?_ (by first | (simp; done) | (simp; omega) | omega) _) | (refine bl_call ?_ (by assumption) (by first | (simp; done) | (simp; omega) | omega)) | (with_reducible refine bl_drewN ?_) | (with_reducible refine Below.drew ?_) | (with_reducible refine bl_grow ?_ (by first | (simp; done) | (simp; omega) | omega)))⟩
        case measure => simp [intOf]; omega
      · have HKT : Hid (k = t) := by unfold Hid; omega
        have HP : Hid (resB (X k) = false) := by
          unfold Hid
          rcases HE.out with h | h
          · exfalso; have := HKT.out; omega
          · rw [HKT.out]; exact h.2.1
        have HRK : Hid (r = (k : Int)) := by
          unfold Hid
          rcases HE.out with h | h
          · exfalso; have := HKT.out; omega
          · rw [HKT.out]; exact h.2.2
        go_wp2_with (go_at_call 25; refine (spl_fn _ _ _ HP.out).mono ?_; rintro e w1 ⟨rfl, hb1⟩)
        go_ret
        exact ⟨ret_int HRK.out.symm, by repeat (first | (with_reducible exact Below.refl _ _) | (with_reducible assumption) | (with_reducible refine Below.setCell ?_ (by first | (simp; done) | (simp; omega) | omega) _) | (with_reducible refine Below.alloc ?_ (by first | (simp; done) | (simp; omega) | omega) _) | (refine bl_call ?_ (by assumption) (by first | (simp; done) | (simp; omega) | omega)) | (with_reducible refine bl_drewN ?_) | (with_reducible refine Below.drew ?_) | (with_reducible refine bl_grow ?_ (by first | (simp; done) | (simp; omega) | omega)))⟩
    · have hlt' : ¬ (k : Int) < n := by omega
      have HRK : Hid (r = -1) := by
        unfold Hid
        rcases HE.out with h | h
        · exact h.2
        · omega
      go_wp2_with fail
      go_ret
      exact ⟨ret_int HRK.out.symm, by repeat (first | (with_reducible exact Below.refl _ _) | (with_reducible assumption) | (with_reducible refine Below.setCell ?_ (by first | (simp; done) | (simp; omega) | omega) _) | (with_reducible refine Below.alloc ?_ (by first | (simp; done) | (simp; omega) | omega) _) | (refine bl_call ?_ (by assumption) (by first | (simp; done) | (simp; omega) | omega)) | (with_reducible refine bl_drewN ?_) | (with_reducible refine Below.drew ?_) | (with_reducible refine bl_grow ?_ (by first | (simp; done) | (simp; omega) | omega)))⟩
set_option maxRecDepth 100000 in
set_option maxHeartbeats 4000000 in
theorem idxI_no (b o n d : Nat) (X : Nat → Int) (w : World) (hn : n ≤ 12) (hr : RowI w b o n X) (hok : ∀ i, i < n → resB (X i) = true) : Calls Tryd.prog 27 #[.slice (some ⟨b, o, none⟩) n d, .func (.func 25) #[] #[]] w fun e w' => e = .returned (.bool false) ∧ Below w.heap.size w w' := by
  have H : Hid (Calls Tryd.prog 48 #[.slice (some ⟨b, o, none⟩) n d, .func (.func 25) #[] #[]] w fun e w' => e = .returned (.int .i64 (-1)) ∧ Below w.heap.size w w') := idxI b o n d n X (-1) w hn (Nat.le_refl _) hr hok (Or.inl ⟨rfl, rfl⟩)
  clear hr hok
  go_enter Tryd.func27, Tryd.ntmps27
  go_wp2_with (go_at_call 48; refine (H.out).mono ?_; rintro e w1 ⟨rfl, hb1⟩)
  go_ret
  exact ⟨rfl, by repeat (first | (with_reducible exact Below.refl _ _) | (with_reducible assumption) | (with_reducible refine Below.setCell ?_ (by first | (simp; done) | (simp; omega) | omega) _) | (with_reducible refine Below.alloc ?_ (by first | (simp; done) | (simp; omega) | omega) _) | (refine bl_call ?_ (by assumption) (by first | (simp; done) | (simp; omega) | omega)) | (with_reducible refine bl_drewN ?_) | (with_reducible refine Below.drew ?_) | (with_reducible refine bl_grow ?_ (by first | (simp; done) | (simp; omega) | omega)))⟩
set_option maxRecDepth 100000 in
set_option maxHeartbeats 4000000 in
theorem idxI_yes (b o n d : Nat) (X : Nat → Int) (w : World) (hn : n ≤ 12) (hr : RowI w b o n X) (hno : ∃ j, j < n ∧ resB (X j) = false) : Calls Tryd.prog 27 #[.slice (some ⟨b, o, none⟩) n d, .func (.func 25) #[] #[]] w fun e w' => e = .returned (.bool true) ∧ Below w.heap.size w w' := by
  obtain ⟨t, t1, t2, t3⟩ := first_no (fun i => resB (X i)) n
  rcases t3 with rfl | ⟨t3, t4⟩
  · obtain ⟨j, j1, j2⟩ := hno
    rw [t2 j j1] at j2
    cases j2
  have H : Hid (Calls Tryd.prog 48 #[.slice (some ⟨b, o, none⟩) n d, .func (.func 25) #[] #[]] w fun e w' => e = .returned (.int .i64 (t : Int)) ∧ Below w.heap.size w w') := idxI b o n d t X (t : Int) w hn t1 hr t2 (Or.inr ⟨t3, t4, rfl⟩)
  have h0 : (t : Int) ≥ 0 := by omega
  clear hr hno t1 t2 t3 t4
  go_enter Tryd.func27, Tryd.ntmps27
  go_wp2_with (go_at_call 48; refine (H.out).mono ?_; rintro e w1 ⟨rfl, hb1⟩)
  go_ret
  exact ⟨rfl, by repeat (first | (with_reducible exact Below.refl _ _) | (with_reducible assumption) | (with_reducible refine Below.setCell ?_ (by first | (simp; done) | (simp; omega) | omega) _) | (with_reducible refine Below.alloc ?_ (by first | (simp; done) | (simp; omega) | omega) _) | (refine bl_call ?_ (by assumption) (by first | (simp; done) | (simp; omega) | omega)) | (with_reducible refine bl_drewN ?_) | (with_reducible refine Below.drew ?_) | (with_reducible refine bl_grow ?_ (by first | (simp; done) | (simp; omega) | omega)))⟩
set_option maxRecDepth 100000 in
set_option maxHeartbeats 4000000 in
theorem idxP (b o n d t : Nat) (X Y : Nat → Int) (r : Int) (w : World) (hn : n ≤ 12) (ht : t ≤ n) (hr : RowP w b o n X Y) (hok : ∀ i, i < t → resB (Y i) = true) (he : (t = n ∧ r = -1) ∨ (t < n ∧ resB (Y t) = false ∧ r = t)) :
    Calls Tryd.prog 53 #[.slice (some ⟨b, o, none⟩) n d, .func (.func 37) #[] #[]] w fun e w' => e = .returned (.int .i64 r) ∧ Below w.heap.size w w' := by
  have HR : Hid (RowP w b o n X Y) := hr
  have HOK : Hid (∀ i, i < t → resB (Y i) = true) := hok
  have HE : Hid ((t = n ∧ r = -1) ∨ (t < n ∧ resB (Y t) = false ∧ r = t)) := he
  have hb := hr.1
  clear hr hok he
  go_enter Tryd.func53, Tryd.ntmps53
  go_wp2_with fail
  go_loopw [8] (fun ti wl => ∃ k : Nat, k ≤ t ∧ ti = .int .i64 k ∧ Below w.heap.size w wl) (fun ti _ => n - (intOf ti).toNat)
  case atStart => exact ⟨0, by omega, rfl, by repeat (first | (with_reducible exact Below.refl _ _) | (with_reducible assumption) | (with_reducible refine Below.setCell ?_ (by first | (simp; done) | (simp; omega) | omega) _) | (with_reducible refine Below.alloc ?_ (by first | (simp; done) | (simp; omega) | omega) _) | (refine bl_call ?_ (by assumption) (by first | (simp; done) | (simp; omega) | omega)) | (with_reducible refine bl_drewN ?_) | (with_reducible refine Below.drew ?_) | (with_reducible refine bl_grow ?_ (by first | (simp; done) | (simp; omega) | omega)))⟩
  case round =>
    obtain ⟨k, hk, rfl, hqV⟩ := hrel
    have hzV := hqV.size
    by_cases hlt : k < n
    · have hlt' : (k : Int) < n := by omega
      have hbV := Nat.lt_of_lt_of_le hb hzV
      obtain ⟨c0, c1⟩ := (HR.out.below hb hqV).2 k hlt
      by_cases hkt : k < t
      · have HP : Hid (resB (Y k) = true) := HOK.out k hkt
        go_wp2_with (go_at_call 37; refine (cmb_fn _ _ _ _ HP.out).mono ?_; rintro e w1 ⟨rfl, hb1⟩)
        go_roundw
        case rel => exact ⟨k + 1, by omega, by simp, by repeat (first | (with_reducible exact Below.refl _ _) | (with_reducible assumption) | (with_reducible refine Below.setCell ?_ (by first | (simp; done) | (simp; omega) | omega) _) | (with_reducible refine Below.alloc ?_ (by first | (simp; done) | (simp; omega) | omega) _) | (refine bl_call ?_ (by assumption) (by first | (simp; done) | (simp; omega) | omega)) | (with_reducible refine bl_drewN ?_) | (with_reducible refine Below.drew ?_) | (with_reducible refine bl_grow ?_ (by first | (simp; done) | (simp; omega) | omega)))⟩
        case measure => simp [intOf]; omega
      · have HKT : Hid (k = t) := by unfold Hid; omega
        have HP : Hid (resB (Y k) = false) := by
          unfold Hid
          rcases HE.out with h | h
          · exfalso; have := HKT.out; omega
          · rw [HKT.out]; exact h.2.1
        have HRK : Hid (r = (k : Int)) := by
          unfold Hid
          rcases HE.out with h | h
          · exfalso; have := HKT.out; omega
          · rw [HKT.out]; exact h.2.2
        go_wp2_with (go_at_call 37; refine (cmb_fn _ _ _ _ HP.out).mono ?_; rintro e w1 ⟨rfl, hb1⟩)
        go_ret
        exact ⟨ret_int HRK.out.symm, by repeat (first | (with_reducible exact Below.refl _ _) | (with_reducible assumption) | (with_reducible refine Below.setCell ?_ (by first | (simp; done) | (simp; omega) | omega) _) | (with_reducible refine Below.alloc ?_ (by first | (simp; done) | (simp; omega) | omega) _) | (refine bl_call ?_ (by assumption) (by first | (simp; done) | (simp; omega) | omega)) | (with_reducible refine bl_drewN ?_) | (with_reducible refine Below.drew ?_) | (with_reducible refine bl_grow ?_ (by first | (simp; done) | (simp; omega) | omega)))⟩
    · have hlt' : ¬ (k : Int) < n := by omega
      have HRK : Hid (r = -1) := by
        unfold Hid
        rcases HE.out with h | h
        · exact h.2
        · omega
      go_wp2_with fail
      go_ret
      exact ⟨ret_int HRK.out.symm, by repeat (first | (with_reducible exact Below.refl _ _) | (with_reducible assumption) | (with_reducible refine Below.setCell ?_ (by first | (simp; done) | (simp; omega) | omega) _) | (with_reducible refine Below.alloc ?_ (by first | (simp; done) | (simp; omega) | omega) _) | (refine bl_call ?_ (by assumption) (by first | (simp; done) | (simp; omega) | omega)) | (with_reducible refine bl_drewN ?_) | (with_reducible refine Below.drew ?_) | (with_reducible refine bl_grow ?_ (by first | (simp; done) | (simp; omega) | omega)))⟩
set_option maxRecDepth 100000 in
set_option maxHeartbeats 4000000 in
theorem idxP_no (b o n d : Nat) (X Y : Nat → Int) (w : World) (hn : n ≤ 12) (hr : RowP w b o n X Y) (hok : ∀ i, i < n → resB (Y i) = true) : Calls Tryd.prog 36 #[.slice (some ⟨b, o, none⟩) n d, .func (.func 37) #[] #[]] w fun e w' => e = .returned (.bool false) ∧ Below w.heap.size w w' := by
  have H : Hid (Calls Tryd.prog 53 #[.slice (some ⟨b, o, none⟩) n d, .func (.func 37) #[] #[]] w fun e w' => e = .returned (.int .i64 (-1)) ∧ Below w.heap.size w w') := idxP b o n d n X Y (-1) w hn (Nat.le_refl _) hr hok (Or.inl ⟨rfl, rfl⟩)
  clear hr hok
  go_enter Tryd.func36, Tryd.ntmps36
  go_wp2_with (go_at_call 53; refine (H.out).mono ?_; rintro e w1 ⟨rfl, hb1⟩)
  go_ret
  exact ⟨rfl, by repeat (first | (with_reducible exact Below.refl _ _) | (with_reducible assumption) | (with_reducible refine Below.setCell ?_ (by first | (simp; done) | (simp; omega) | omega) _) | (with_reducible refine Below.alloc ?_ (by first | (simp; done) | (simp; omega) | omega) _) | (refine bl_call ?_ (by assumption) (by first | (simp; done) | (simp; omega) | omega)) | (with_reducible refine bl_drewN ?_) | (with_reducible refine Below.drew ?_) | (with_reducible refine bl_grow ?_ (by first | (simp; done) | (simp; omega) | omega)))⟩
set_option maxRecDepth 100000 in
set_option maxHeartbeats 4000000 in
theorem idxP_yes (b o n d : Nat) (X Y : Nat → Int) (w : World) (hn : n ≤ 12) (hr : RowP w b o n X Y) (hno : ∃ j, j < n ∧ resB (Y j) = false) : Calls Tryd.prog 36 #[.slice (some ⟨b, o, none⟩) n d, .func (.func 37) #[] #[]] w fun e w' => e = .returned (.bool true) ∧ Below w.heap.size w w' := by
  obtain ⟨t, t1, t2, t3⟩ := first_no (fun i => resB (Y i)) n
  rcases t3 with rfl | ⟨t3, t4⟩
  · obtain ⟨j, j1, j2⟩ := hno
    rw [t2 j j1] at j2
    cases j2
  have H : Hid (Calls Tryd.prog 53 #[.slice (some ⟨b, o, none⟩) n d, .func (.func 37) #[] #[]] w fun e w' => e = .returned (.int .i64 (t : Int)) ∧ Below w.heap.size w w') := idxP b o n d t X Y (t : Int) w hn t1 hr t2 (Or.inr ⟨t3, t4, rfl⟩)
  have h0 : (t : Int) ≥ 0 := by omega
  clear hr hno t1 t2 t3 t4
  go_enter Tryd.func36, Tryd.ntmps36
  go_wp2_with (go_at_call 53; refine (H.out).mono ?_; rintro e w1 ⟨rfl, hb1⟩)
  go_ret
  exact ⟨rfl, by repeat (first | (with_reducible exact Below.refl _ _) | (with_reducible assumption) | (with_reducible refine Below.setCell ?_ (by first | (simp; done) | (simp; omega) | omega) _) | (with_reducible refine Below.alloc ?_ (by first | (simp; done) | (simp; omega) | omega) _) | (refine bl_call ?_ (by assumption) (by first | (simp; done) | (simp; omega) | omega)) | (with_reducible refine bl_drewN ?_) | (with_reducible refine Below.drew ?_) | (with_reducible refine bl_grow ?_ (by first | (simp; done) | (simp; omega) | omega)))⟩
set_option maxRecDepth 100000 in
set_option maxHeartbeats 4000000 in
theorem ixI (b o n d t : Nat) (X : Nat → Int) (x r : Int) (w : World) (hn : n ≤ 12) (ht : t ≤ n) (hr : RowI w b o n X) (hok : ∀ i, i < t → X i ≠ x) (he : (t = n ∧ r = -1) ∨ (t < n ∧ X t = x ∧ r = t)) :
    Calls Tryd.prog 69 #[.slice (some ⟨b, o, none⟩) n d, .int .i64 x] w fun e w' => e = .returned (.int .i64 r) ∧ Below w.heap.size w w' := by
  have HR : Hid (RowI w b o n X) := hr
  have HOK : Hid (∀ i, i < t → X i ≠ x) := hok
  have HE : Hid ((t = n ∧ r = -1) ∨ (t < n ∧ X t = x ∧ r = t)) := he
  have hb := hr.1
  clear hr hok he
  go_enter Tryd.func69, Tryd.ntmps69
  go_wp2_with fail
  go_loopw [8] (fun ti wl => ∃ k : Nat, k ≤ t ∧ ti = .int .i64 k ∧ Below w.heap.size w wl) (fun ti _ => n - (intOf ti).toNat)
  case atStart => exact ⟨0, by omega, rfl, by repeat (first | (with_reducible exact Below.refl _ _) | (with_reducible assumption) | (with_reducible refine Below.setCell ?_ (by first | (simp; done) | (simp; omega) | omega) _) | (with_reducible refine Below.alloc ?_ (by first | (simp; done) | (simp; omega) | omega) _) | (refine bl_call ?_ (by assumption) (by first | (simp; done) | (simp; omega) | omega)) | (with_reducible refine bl_drewN ?_) | (with_reducible refine Below.drew ?_) | (with_reducible refine bl_grow ?_ (by first | (simp; done) | (simp; omega) | omega)))⟩
  case round =>
    obtain ⟨k, hk, rfl, hqV⟩ := hrel
    have hzV := hqV.size
    by_cases hlt : k < n
    · have hlt' : (k : Int) < n := by omega
      have hbV := Nat.lt_of_lt_of_le hb hzV
      have c0 := row_int HR.out hqV hlt
      by_cases hkt : k < t
      · have hne : (x == X k) = false := by rw [beq_eq_false_iff_ne]; exact fun h => HOK.out k hkt h.symm
        go_wp2_with fail
        go_roundw
        case rel => exact ⟨k + 1, by omega, by simp, by repeat (first | (with_reducible exact Below.refl _ _) | (with_reducible assumption) | (with_reducible refine Below.setCell ?_ (by first | (simp; done) | (simp; omega) | omega) _) | (with_reducible refine Below.alloc ?_ (by first | (simp; done) | (simp; omega) | omega) _) | (refine bl_call ?_ (by assumption) (by first | (simp; done) | (simp; omega) | omega)) | (with_reducible refine bl_drewN ?_) | (with_reducible refine Below.drew ?_) | (with_reducible refine bl_grow ?_ (by first | (simp; done) | (simp; omega) | omega)))⟩
        case measure => simp [intOf]; omega
      · have HKT : Hid (k = t) := by unfold Hid; omega
        have heq : (x == X k) = true := by
          rcases HE.out with h | h
          · exfalso; have := HKT.out; omega
          · rw [HKT.out, h.2.1]; simp
        have HRK : Hid (r = (k : Int)) := by
          unfold Hid
          rcases HE.out with h | h
          · exfalso; have := HKT.out; omega
          · rw [HKT.out]; exact h.2.2
        go_wp2_with fail
        go_ret
        exact ⟨ret_int HRK.out.symm, by repeat (first | (with_reducible exact Below.refl _ _) | (with_reducible assumption) | (with_reducible refine Below.setCell ?_ (by first | (simp; done) | (simp; omega) | omega) _) | (with_reducible refine Below.alloc ?_ (by first | (simp; done) | (simp; omega) | omega) _) | (refine bl_call ?_ (by assumption) (by first | (simp; done) | (simp; omega) | omega)) | (with_reducible refine bl_drewN ?_) | (with_reducible refine Below.drew ?_) | (with_reducible refine bl_grow ?_ (by first | (simp; done) | (simp; omega) | omega)))⟩
    · have hlt' : ¬ (k : Int) < n := by omega
      have HRK : Hid (r = -1) := by
        unfold Hid
        rcases HE.out with h | h
        · exact h.2
        · omega
      go_wp2_with fail
      go_ret
      exact ⟨ret_int HRK.out.symm, by repeat (first | (with_reducible exact Below.refl _ _) | (with_reducible assumption) | (with_reducible refine Below.setCell ?_ (by first | (simp; done) | (simp; omega) | omega) _) | (with_reducible refine Below.alloc ?_ (by first | (simp; done) | (simp; omega) | omega) _) | (refine bl_call ?_ (by assumption) (by first | (simp; done) | (simp; omega) | omega)) | (with_reducible refine bl_drewN ?_) | (with_reducible refine Below.drew ?_) | (with_reducible refine bl_grow ?_ (by first | (simp; done) | (simp; omega) | omega)))⟩
set_option maxRecDepth 100000 in
set_option maxHeartbeats 4000000 in
theorem hasI (b o n d : Nat) (X : Nat → Int) (x : Int) (t : Bool) (w : World) (hn : n ≤ 12) (hr : RowI w b o n X) (h : (t = false ∧ ∀ i, i < n → X i ≠ x) ∨ (t = true ∧ ∃ j, j < n ∧ X j = x)) : Calls Tryd.prog 51 #[.slice (some ⟨b, o, none⟩) n d, .int .i64 x] w fun e w' => e = .returned (.bool t) ∧ Below w.heap.size w w' := by
  rcases h with ⟨rfl, h⟩ | ⟨rfl, h⟩
  · have H : Hid (Calls Tryd.prog 69 #[.slice (some ⟨b, o, none⟩) n d, .int .i64 x] w fun e w' => e = .returned (.int .i64 (-1)) ∧ Below w.heap.size w w') := ixI b o n d n X x (-1) w hn (Nat.le_refl _) hr h (Or.inl ⟨rfl, rfl⟩)
    clear hr h
    go_enter Tryd.func51, Tryd.ntmps51
    go_wp2_with (go_at_call 69; refine (H.out).mono ?_; rintro e w1 ⟨rfl, hb1⟩)
    go_ret
    exact ⟨rfl, by repeat (first | (with_reducible exact Below.refl _ _) | (with_reducible assumption) | (with_reducible refine Below.setCell ?_ (by first | (simp; done) | (simp; omega) | omega) _) | (with_reducible refine Below.alloc ?_ (by first | (simp; done) | (simp; omega) | omega) _) | (refine bl_call ?_ (by assumption) (by first | (simp; done) | (simp; omega) | omega)) | (with_reducible refine bl_drewN ?_) | (with_reducible refine Below.drew ?_) | (with_reducible refine bl_grow ?_ (by first | (simp; done) | (simp; omega) | omega)))⟩
  · obtain ⟨t, t1, t2, t3⟩ := first_no (fun i => !(X i == x)) n
    have t2' : ∀ i, i < t → X i ≠ x := fun i hi k => by have := t2 i hi; simp [k] at this
    rcases t3 with rfl | ⟨t3, t4⟩
    · obtain ⟨j, j1, j2⟩ := h
      exact absurd j2 (t2' j j1)
    have H : Hid (Calls Tryd.prog 69 #[.slice (some ⟨b, o, none⟩) n d, .int .i64 x] w fun e w' => e = .returned (.int .i64 (t : Int)) ∧ Below w.heap.size w w') := ixI b o n d t X x (t : Int) w hn t1 hr t2' (Or.inr ⟨t3, by simpa using t4, rfl⟩)
    have h0 : (t : Int) ≥ 0 := by omega
    clear hr h t1 t2 t2' t3 t4
    go_enter Tryd.func51, Tryd.ntmps51
    go_wp2_with (go_at_call 69; refine (H.out).mono ?_; rintro e w1 ⟨rfl, hb1⟩)
    go_ret
    exact ⟨rfl, by repeat (first | (with_reducible exact Below.refl _ _) | (with_reducible assumption) | (with_reducible refine Below.setCell ?_ (by first | (simp; done) | (simp; omega) | omega) _) | (with_reducible refine Below.alloc ?_ (by first | (simp; done) | (simp; omega) | omega) _) | (refine bl_call ?_ (by assumption) (by first | (simp; done) | (simp; omega) | omega)) | (with_reducible refine bl_drewN ?_) | (with_reducible refine Below.drew ?_) | (with_reducible refine bl_grow ?_ (by first | (simp; done) | (simp; omega) | omega)))⟩
set_option maxRecDepth 100000 in
set_option maxHeartbeats 4000000 in
theorem cpl_many (sa : Option Addr) (n d : Nat) (w : World) (h : 12 < n) (hn : n ≤ 9223372036854775807) : Calls Tryd.prog 33 #[.slice sa n d] w fun e w' => e = .returned (errOf 4) ∧ Below w.heap.size w w' := by
  have h' : (n : Int) > 12 := by omega
  go_enter Tryd.func33, Tryd.ntmps33
  go_wp2_with fail
  go_ret
  exact ⟨rfl, by repeat (first | (with_reducible exact Below.refl _ _) | (with_reducible assumption) | (with_reducible refine Below.setCell ?_ (by first | (simp; done) | (simp; omega) | omega) _) | (with_reducible refine Below.alloc ?_ (by first | (simp; done) | (simp; omega) | omega) _) | (refine bl_call ?_ (by assumption) (by first | (simp; done) | (simp; omega) | omega)) | (with_reducible refine bl_drewN ?_) | (with_reducible refine Below.drew ?_) | (with_reducible refine bl_grow ?_ (by first | (simp; done) | (simp; omega) | omega)))⟩
set_option maxRecDepth 100000 in
set_option maxHeartbeats 4000000 in
theorem cpl_nil (sa : Option Addr) (d : Nat) (w : World) : Calls Tryd.prog 33 #[.slice sa 0 d] w fun e w' => e = .returned (errOf 5) ∧ Below w.heap.size w w' := by
  go_enter Tryd.func33, Tryd.ntmps33
  go_wp2_with fail
  go_ret
  exact ⟨rfl, by repeat (first | (with_reducible exact Below.refl _ _) | (with_reducible assumption) | (with_reducible refine Below.setCell ?_ (by first | (simp; done) | (simp; omega) | omega) _) | (with_reducible refine Below.alloc ?_ (by first | (simp; done) | (simp; omega) | omega) _) | (refine bl_call ?_ (by assumption) (by first | (simp; done) | (simp; omega) | omega)) | (with_reducible refine bl_drewN ?_) | (with_reducible refine Below.drew ?_) | (with_reducible refine bl_grow ?_ (by first | (simp; done) | (simp; omega) | omega)))⟩
theorem ret_val {a b : Value} (h : a = b) : Ending.returned a = .returned b := by rw [h]
set_option maxRecDepth 100000 in
set_option maxHeartbeats 4000000 in
theorem cpl_row (b o n d : Nat) (X : Nat → Int) (v : Value) (w : World) (hn : n ≤ 12) (h0 : 0 < n) (hd : n ≤ d) (hr : RowI w b o n X) (hv : (plE secB X n = 0 ∧ v = .nilIface) ∨ ((plE secB X n == 0) = false ∧ v = errOf (plE secB X n))) :
    Calls Tryd.prog 33 #[.slice (some ⟨b, o, none⟩) n d] w fun e w' => e = .returned (v) ∧ Below w.heap.size w w' := by
  have HR : Hid (RowI w b o n X) := hr
  have HV : Hid ((plE secB X n = 0 ∧ v = .nilIface) ∨ ((plE secB X n == 0) = false ∧ v = errOf (plE secB X n))) := hv
  have hb := hr.1
  have h1' : ¬ (n : Int) > 12 := by omega
  have h2' : ((n : Int) == 0) = false := by rw [beq_eq_false_iff_ne]; omega
  clear hr hv
  go_enter Tryd.func33, Tryd.ntmps33
  go_wp2_with fail
  go_loopw [15] (fun ti wl => ∃ k : Nat, k ≤ n ∧ ti = .int .i64 k ∧ Hid (plE secB X k = 0) ∧ Below w.heap.size w wl) (fun ti _ => n - (intOf ti).toNat)
  case atStart => exact ⟨0, by omega, rfl, rfl, by repeat (first | (with_reducible exact Below.refl _ _) | (with_reducible assumption) | (with_reducible refine Below.setCell ?_ (by first | (simp; done) | (simp; omega) | omega) _) | (with_reducible refine Below.alloc ?_ (by first | (simp; done) | (simp; omega) | omega) _) | (refine bl_call ?_ (by assumption) (by first | (simp; done) | (simp; omega) | omega)) | (with_reducible refine bl_drewN ?_) | (with_reducible refine Below.drew ?_) | (with_reducible refine bl_grow ?_ (by first | (simp; done) | (simp; omega) | omega)))⟩
  case round =>
    obtain ⟨k, hk, rfl, HP, hqV⟩ := hrel
    have hzV := hqV.size
    by_cases hlt : k < n
    · have hlt' : (k : Int) < n := by omega
      have hbV := Nat.lt_of_lt_of_le hb hzV
      have c0 := row_int HR.out hqV hlt
      have HEV : ∀ c : Int, (c == 0) = false → plE secB X (k + 1) = c → v = errOf c := fun c hc h => by
        have e : plE secB X n = c := by rw [pl_stay (k := k + 1) (by rw [h]; exact hc) n (by omega), h]
        rcases HV.out with h | h
        · rw [e] at h; rw [h.1] at hc; cases hc
        · rw [h.2, e]
      have HNO : secB (X k) = false → v = errOf 1 := fun h => HEV 1 rfl (by show (bif plE secB X k == 0 then (bif secB (X k) then _ else 1) else _) = 1; rw [HP.out, h]; rfl)
      by_cases s1 : X k < 1
      · have HQ : Hid (v = errOf 1) := HNO (decide_eq_false fun h => by omega)
        clear HEV HNO
        go_wp2_with fail
        go_ret
        exact ⟨ret_val HQ.out.symm, by repeat (first | (with_reducible exact Below.refl _ _) | (with_reducible assumption) | (with_reducible refine Below.setCell ?_ (by first | (simp; done) | (simp; omega) | omega) _) | (with_reducible refine Below.alloc ?_ (by first | (simp; done) | (simp; omega) | omega) _) | (refine bl_call ?_ (by assumption) (by first | (simp; done) | (simp; omega) | omega)) | (with_reducible refine bl_drewN ?_) | (with_reducible refine Below.drew ?_) | (with_reducible refine bl_grow ?_ (by first | (simp; done) | (simp; omega) | omega)))⟩
      by_cases s2 : X k ≥ 1013
      · have HQ : Hid (v = errOf 1) := HNO (decide_eq_false fun h => by omega)
        clear HEV HNO
        go_wp2_with fail
        go_ret
        exact ⟨ret_val HQ.out.symm, by repeat (first | (with_reducible exact Below.refl _ _) | (with_reducible assumption) | (with_reducible refine Below.setCell ?_ (by first | (simp; done) | (simp; omega) | omega) _) | (with_reducible refine Below.alloc ?_ (by first | (simp; done) | (simp; omega) | omega) _) | (refine bl_call ?_ (by assumption) (by first | (simp; done) | (simp; omega) | omega)) | (with_reducible refine bl_drewN ?_) | (with_reducible refine Below.drew ?_) | (with_reducible refine bl_grow ?_ (by first | (simp; done) | (simp; omega) | omega)))⟩
      have HS : secB (X k) = true := decide_eq_true ⟨by omega, by omega⟩
      have hkd : k ≤ d := by omega
      have hkd' : ¬ (d : Int) < (k : Int) := by omega
      by_cases hcl : ∃ j, j < k ∧ X j = X k
      · have HQ : Hid (v = errOf 7) := HEV 7 rfl (by
          obtain ⟨j, j1, j2⟩ := hcl
          show (bif plE secB X k == 0 then (bif secB (X k) then (bif clsB X k then _ else _) else 1) else _) = 7; rw [HP.out, HS, cls_yes j1 j2]; rfl)
        have HC : Hid (∀ W, Below w.heap.size w W → Calls Tryd.prog 51 #[.slice (some ⟨b, o, none⟩) k d, .int .i64 (X k)] W fun e w' => e = .returned (.bool true) ∧ Below W.heap.size W w') := fun W hW => hasI b o k d X (X k) true W (by omega) ⟨(HR.out.below hb hW).1, fun i hi => (HR.out.below hb hW).2 i (by omega)⟩ (Or.inr ⟨rfl, hcl⟩)
        clear HEV HNO HS hcl
        go_wp2_with (go_at_call 51; refine (HC.out _ (by repeat (first | (with_reducible exact Below.refl _ _) | (with_reducible assumption) | (with_reducible refine Below.setCell ?_ (by first | (simp; done) | (simp; omega) | omega) _) | (with_reducible refine Below.alloc ?_ (by first | (simp; done) | (simp; omega) | omega) _) | (refine bl_call ?_ (by assumption) (by first | (simp; done) | (simp; omega) | omega)) | (with_reducible refine bl_drewN ?_) | (with_reducible refine Below.drew ?_) | (with_reducible refine bl_grow ?_ (by first | (simp; done) | (simp; omega) | omega))))).mono ?_; rintro e w1 ⟨rfl, hb1⟩)
        go_ret
        exact ⟨ret_val HQ.out.symm, by repeat (first | (with_reducible exact Below.refl _ _) | (with_reducible assumption) | (with_reducible refine Below.setCell ?_ (by first | (simp; done) | (simp; omega) | omega) _) | (with_reducible refine Below.alloc ?_ (by first | (simp; done) | (simp; omega) | omega) _) | (refine bl_call ?_ (by assumption) (by first | (simp; done) | (simp; omega) | omega)) | (with_reducible refine bl_drewN ?_) | (with_reducible refine Below.drew ?_) | (with_reducible refine bl_grow ?_ (by first | (simp; done) | (simp; omega) | omega)))⟩
      · have hcl' : ∀ j, j < k → X j ≠ X k := fun j hj h => hcl ⟨j, hj, h⟩
        have HQ : Hid (plE secB X (k + 1) = 0) := by
          unfold Hid
          show (bif plE secB X k == 0 then (bif secB (X k) then (bif clsB X k then _ else _) else 1) else _) = 0
          rw [HP.out, HS, cls_no hcl']; rfl
        have HC : Hid (∀ W, Below w.heap.size w W → Calls Tryd.prog 51 #[.slice (some ⟨b, o, none⟩) k d, .int .i64 (X k)] W fun e w' => e = .returned (.bool false) ∧ Below W.heap.size W w') := fun W hW => hasI b o k d X (X k) false W (by omega) ⟨(HR.out.below hb hW).1, fun i hi => (HR.out.below hb hW).2 i (by omega)⟩ (Or.inl ⟨rfl, hcl'⟩)
        clear HEV HNO HS hcl hcl'
        go_wp2_with (go_at_call 51; refine (HC.out _ (by repeat (first | (with_reducible exact Below.refl _ _) | (with_reducible assumption) | (with_reducible refine Below.setCell ?_ (by first | (simp; done) | (simp; omega) | omega) _) | (with_reducible refine Below.alloc ?_ (by first | (simp; done) | (simp; omega) | omega) _) | (refine bl_call ?_ (by assumption) (by first | (simp; done) | (simp; omega) | omega)) | (with_reducible refine bl_drewN ?_) | (with_reducible refine Below.drew ?_) | (with_reducible refine bl_grow ?_ (by first | (simp; done) | (simp; omega) | omega))))).mono ?_; rintro e w1 ⟨rfl, hb1⟩)
        go_roundw
        case rel => exact ⟨k + 1, by omega, by simp, HQ, by repeat (first | (with_reducible exact Below.refl _ _) | (with_reducible assumption) | (with_reducible refine Below.setCell ?_ (by first | (simp; done) | (simp; omega) | omega) _) | (with_reducible refine Below.alloc ?_ (by first | (simp; done) | (simp; omega) | omega) _) | (refine bl_call ?_ (by assumption) (by first | (simp; done) | (simp; omega) | omega)) | (with_reducible refine bl_drewN ?_) | (with_reducible refine Below.drew ?_) | (with_reducible refine bl_grow ?_ (by first | (simp; done) | (simp; omega) | omega)))⟩
        case measure => simp [intOf]; omega
    · have hlt' : ¬ (k : Int) < n := by omega
      have HQ : Hid (v = .nilIface) := by
        unfold Hid
        have hkn : k = n := by omega
        have := HP.out
        rw [hkn] at this
        rcases HV.out with h | h
        · exact h.2
        · rw [this] at h; cases h.1
      go_wp2_with fail
      go_ret
      exact ⟨ret_val HQ.out.symm, by repeat (first | (with_reducible exact Below.refl _ _) | (with_reducible assumption) | (with_reducible refine Below.setCell ?_ (by first | (simp; done) | (simp; omega) | omega) _) | (with_reducible refine Below.alloc ?_ (by first | (simp; done) | (simp; omega) | omega) _) | (refine bl_call ?_ (by assumption) (by first | (simp; done) | (simp; omega) | omega)) | (with_reducible refine bl_drewN ?_) | (with_reducible refine Below.drew ?_) | (with_reducible refine bl_grow ?_ (by first | (simp; done) | (simp; omega) | omega)))⟩
theorem pwq_val (a : QF) : ∀ n, (pwq a n).val = qpw a.val n
  | 0 => rfl
  | n + 1 => by
    show (pwq a n * a).val = _
    rw [Fin.val_mul, pwq_val a n]
    unfold qpw
    rw [Nat.pow_succ, Nat.mod_mul_mod]
theorem pwq_iv (a : QF) : pwq a 1011 = ivq a := by
  apply Fin.ext
  rw [pwq_val]
  unfold ivq
  exact (Nat.mod_eq_of_lt (qpw_lt _ _)).symm
set_option maxRecDepth 100000 in
set_option maxHeartbeats 4000000 in
theorem inv_q (q : QF) (w : World) : Calls Tryd.prog 52 #[.int .i64 (vI q)] w fun e w' => e = .returned (.int .i64 (vI (ivq q))) ∧ Below w.heap.size w w' := by
  have HI : Hid (∀ k : Nat, k = 1011 → vI (pwq q k) = vI (ivq q)) := fun k h => by rw [h, pwq_iv]
  have q0 := vI_lo q
  have q1 := vI_hi q
  go_enter Tryd.func52, Tryd.ntmps52
  go_wp2_with fail
  go_loopw [3, 4] (fun tp ti wl => ∃ k : Nat, k ≤ 1011 ∧ ti = .int .i64 k ∧ tp = .int .i64 (vI (pwq q k)) ∧ Below w.heap.size w wl) (fun _ ti _ => 1011 - (intOf ti).toNat)
  case atStart => exact ⟨0, by omega, rfl, rfl, by repeat (first | (with_reducible exact Below.refl _ _) | (with_reducible assumption) | (with_reducible refine Below.setCell ?_ (by first | (simp; done) | (simp; omega) | omega) _) | (with_reducible refine Below.alloc ?_ (by first | (simp; done) | (simp; omega) | omega) _) | (refine bl_call ?_ (by assumption) (by first | (simp; done) | (simp; omega) | omega)) | (with_reducible refine bl_drewN ?_) | (with_reducible refine Below.drew ?_) | (with_reducible refine bl_grow ?_ (by first | (simp; done) | (simp; omega) | omega)))⟩
  case round =>
    obtain ⟨k, hk, rfl, rfl, hqV⟩ := hrel
    by_cases hlt : k < 1011
    · have hlt' : (k : Int) < 1011 := by omega
      obtain ⟨p, hp⟩ : ∃ p, pwq q k = p := ⟨_, rfl⟩
      have E : Hid ((vI p * vI q) % 1013 = vI (pwq q (k + 1))) := by
        unfold Hid
        show _ = vI (pwq q k * q)
        rw [vI_mulv, hp]
      rw [hp]
      clear hp
      obtain ⟨r0, r1⟩ := vI_bd p q0 q1
      go_wp2_with fail
      go_roundw
      case rel => exact ⟨k + 1, by omega, by simp, by rw [← E.out], by repeat (first | (with_reducible exact Below.refl _ _) | (with_reducible assumption) | (with_reducible refine Below.setCell ?_ (by first | (simp; done) | (simp; omega) | omega) _) | (with_reducible refine Below.alloc ?_ (by first | (simp; done) | (simp; omega) | omega) _) | (refine bl_call ?_ (by assumption) (by first | (simp; done) | (simp; omega) | omega)) | (with_reducible refine bl_drewN ?_) | (with_reducible refine Below.drew ?_) | (with_reducible refine bl_grow ?_ (by first | (simp; done) | (simp; omega) | omega)))⟩
      case measure => simp [intOf]; omega
    · have hlt' : ¬ (k : Int) < 1011 := by omega
      go_wp2_with fail
      go_ret
      exact ⟨ret_int (HI.out k (by omega)), by repeat (first | (with_reducible exact Below.refl _ _) | (with_reducible assumption) | (with_reducible refine Below.setCell ?_ (by first | (simp; done) | (simp; omega) | omega) _) | (with_reducible refine Below.alloc ?_ (by first | (simp; done) | (simp; omega) | omega) _) | (refine bl_call ?_ (by assumption) (by first | (simp; done) | (simp; omega) | omega)) | (with_reducible refine bl_drewN ?_) | (with_reducible refine Below.drew ?_) | (with_reducible refine bl_grow ?_ (by first | (simp; done) | (simp; omega) | omega)))⟩
theorem vI_bd2 (a : QF) {n : Int} (h0 : 0 ≤ n) (h1 : n < 2026) : 0 ≤ vI a * n ∧ vI a * n ≤ 2100000 := by
  have h2 := vI_lo a
  have h3 := vI_hi a
  have h4 : vI a * n ≤ 1013 * 2026 := Int.mul_le_mul (by omega) (by omega) h0 (by omega)
  exact ⟨Int.mul_nonneg h2 h0, by omega⟩
set_option maxRecDepth 100000 in
set_option maxHeartbeats 4000000 in
theorem weight_at (b o n d i : Nat) (X : Nat → Int) (w : World) (hn : n ≤ 12) (hi : i < n) (hr : RowI w b o n X) (hx : ∀ i, i < n → 1 ≤ X i ∧ X i < 1013) (hd : Dist (xq X) n) :
    Calls Tryd.prog 34 #[.slice (some ⟨b, o, none⟩) n d, .int .i64 (X i)] w fun e w' => e = .returned (.int .i64 (vI (wtq (xq X) n i))) ∧ Below w.heap.size w w' := by
  have HR : Hid (RowI w b o n X) := hr
  have HX : Hid (∀ i, i < n → 1 ≤ X i ∧ X i < 1013) := hx
  have HD : Hid (Dist (xq X) n) := hd
  have hb := hr.1
  obtain ⟨z0, z1⟩ := hx i hi
  clear hr hx hd
  go_enter Tryd.func34, Tryd.ntmps34
  go_wp2_with fail
  go_loopw [5, 6, 11] (fun tu td tk wl => ∃ k : Nat, k ≤ n ∧ tk = .int .i64 k ∧ tu = .int .i64 (vI (upq (xq X) k i)) ∧ td = .int .i64 (vI (pr (xq X) k i)) ∧ Below w.heap.size w wl) (fun _ _ tk _ => n - (intOf tk).toNat)
  case atStart => exact ⟨0, by omega, rfl, rfl, rfl, by repeat (first | (with_reducible exact Below.refl _ _) | (with_reducible assumption) | (with_reducible refine Below.setCell ?_ (by first | (simp; done) | (simp; omega) | omega) _) | (with_reducible refine Below.alloc ?_ (by first | (simp; done) | (simp; omega) | omega) _) | (refine bl_call ?_ (by assumption) (by first | (simp; done) | (simp; omega) | omega)) | (with_reducible refine bl_drewN ?_) | (with_reducible refine Below.drew ?_) | (with_reducible refine bl_grow ?_ (by first | (simp; done) | (simp; omega) | omega)))⟩
  case round =>
    obtain ⟨k, hk, rfl, rfl, rfl, hqV⟩ := hrel
    have hzV := hqV.size
    have hbV := Nat.lt_of_lt_of_le hb hzV
    obtain ⟨p, hp⟩ : ∃ p, upq (xq X) k i = p := ⟨_, rfl⟩
    obtain ⟨q, hq⟩ : ∃ q, pr (xq X) k i = q := ⟨_, rfl⟩
    have HP : Hid (upq (xq X) k i = p) := hp
    have HQ : Hid (pr (xq X) k i = q) := hq
    rw [hp, hq]
    clear hp hq
    have p0 := vI_lo p
    have p1 := vI_hi p
    have q0 := vI_lo q
    have q1 := vI_hi q
    by_cases hlk : k < n
    · have hlk' : (k : Int) < n := by omega
      have c0 := row_int HR.out hqV hlk
      obtain ⟨x0, x1⟩ := HX.out k hlk
      by_cases hki : k = i
      · have hne : (X k != X i) = false := by rw [hki]; simp
        have HKI : Hid (k = i) := hki
        clear hki
        go_wp2_with fail
        go_roundw
        case rel => exact ⟨k + 1, by omega, by simp, (by rw [← HP.out, HKI.out, up_skip]), (by rw [← HQ.out, HKI.out, pr_skip]), by repeat (first | (with_reducible exact Below.refl _ _) | (with_reducible assumption) | (with_reducible refine Below.setCell ?_ (by first | (simp; done) | (simp; omega) | omega) _) | (with_reducible refine Below.alloc ?_ (by first | (simp; done) | (simp; omega) | omega) _) | (refine bl_call ?_ (by assumption) (by first | (simp; done) | (simp; omega) | omega)) | (with_reducible refine bl_drewN ?_) | (with_reducible refine Below.drew ?_) | (with_reducible refine bl_grow ?_ (by first | (simp; done) | (simp; omega) | omega)))⟩
        case measure => simp [intOf]; omega
      · have hne : (X k != X i) = true := by
          rw [bne_iff_ne]
          intro h
          exact hki (HD.out k i hlk hi (by unfold xq; rw [h]))
        have HKI : Hid (k ≠ i) := hki
        clear hki
        have E1 : Hid ((vI p * X k) % 1013 = vI (upq (xq X) (k + 1) i)) := by unfold Hid; rw [up_more _ HKI.out, vI_mul, HP.out]; rfl
        have E2 : Hid ((vI q * (X k - X i + 1013)) % 1013 = vI (pr (xq X) (k + 1) i)) := by
          unfold Hid
          rw [pr_more _ HKI.out, vI_mul, HQ.out, show zq (X k - X i + 1013) = zq (X k - X i) from zq_eq (by omega), zq_sub]; rfl
        obtain ⟨b1, b2⟩ := vI_bd p (n := X k) (by omega) x1
        obtain ⟨b3, b4⟩ := vI_bd2 q (n := X k - X i + 1013) (by omega) (by omega)
        go_wp2_with fail
        go_roundw
        case rel => exact ⟨k + 1, by omega, by simp, (by rw [← E1.out]), (by rw [← E2.out]), by repeat (first | (with_reducible exact Below.refl _ _) | (with_reducible assumption) | (with_reducible refine Below.setCell ?_ (by first | (simp; done) | (simp; omega) | omega) _) | (with_reducible refine Below.alloc ?_ (by first | (simp; done) | (simp; omega) | omega) _) | (refine bl_call ?_ (by assumption) (by first | (simp; done) | (simp; omega) | omega)) | (with_reducible refine bl_drewN ?_) | (with_reducible refine Below.drew ?_) | (with_reducible refine bl_grow ?_ (by first | (simp; done) | (simp; omega) | omega)))⟩
        case measure => simp [intOf]; omega
    · have hlk' : ¬ (k : Int) < n := by omega
      have EW : Hid ((vI p * vI (ivq q)) % 1013 = vI (wtq (xq X) n i)) := by
        unfold Hid wtq
        have hkn : k = n := by omega
        rw [vI_mulv, ← hkn, HP.out, HQ.out]
      obtain ⟨b1, b2⟩ := vI_bd p (vI_lo (ivq q)) (vI_hi (ivq q))
      go_wp2_with (go_at_call 52; refine (inv_q _ _).mono ?_; rintro e w1 ⟨rfl, hb1⟩)
      go_ret
      exact ⟨ret_int EW.out, by repeat (first | (with_reducible exact Below.refl _ _) | (with_reducible assumption) | (with_reducible refine Below.setCell ?_ (by first | (simp; done) | (simp; omega) | omega) _) | (with_reducible refine Below.alloc ?_ (by first | (simp; done) | (simp; omega) | omega) _) | (refine bl_call ?_ (by assumption) (by first | (simp; done) | (simp; omega) | omega)) | (with_reducible refine bl_drewN ?_) | (with_reducible refine Below.drew ?_) | (with_reducible refine bl_grow ?_ (by first | (simp; done) | (simp; omega) | omega)))⟩
theorem int_at {w : World} {s : Nat} (x : Value) (t : TypeId) (h : w.heap.size = s) : ∀ j u, [x][j]? = some u → (w.alloc (.cells #[x] t)).cell? ((⟨s, 0, none⟩ : Addr).add j) = some u := by subst h; exact cell_one_new w x t
theorem two_at {w : World} {s : Nat} (x y : Value) (t : TypeId) (h : w.heap.size = s) : ∀ j u, [x, y][j]? = some u → (w.alloc (.cells #[x, y] t)).cell? ((⟨s, 0, none⟩ : Addr).add j) = some u := by
  subst h
  intro j u hj
  rw [addr_add]
  match j, hj with
  | 0, hj => simp at hj; subst hj; simp
  | 1, hj => simp at hj; subst hj; simp
set_option maxRecDepth 100000 in
set_option maxHeartbeats 4000000 in
theorem places_of (sa : Option Addr) (n d : Nat) (X Y : Nat → Int) (w : World) (hn : n ≤ 12) (hr : n = 0 ∨ ∃ b o : Nat, sa = some ⟨b, o, none⟩ ∧ RowP w b o n X Y) :
    Calls Tryd.prog 35 #[.slice sa n d] w fun e w' => ∃ v, e = .returned v ∧ w'.ownsRow w.heap.size 3 1 v n (cellsI X n) ∧ Below w.heap.size w w' := by
  have HR : Hid (n = 0 ∨ ∃ b o : Nat, sa = some ⟨b, o, none⟩ ∧ RowP w b o n X Y) := hr
  clear hr
  obtain ⟨i0, hi, hv0, hv1, hv2⟩ := info_parts iinfo
  go_enter Tryd.func35, Tryd.ntmps35
  go_wp2_with (at_make; refine wpList_make_own _ rfl _ _ 22 rfl w.heap.size 3 i0 (.int .i64 0) 1 Tryd.underlying22 hi hv0 hv1 _ _ _ n rfl rfl rfl ?b2 ?b3 ?b4 ?_)
  case b2 => rw [hv2]; omega
  case b3 => unfold maxLen; omega
  case b4 => exact Nat.le_refl _
  intro w1 hown0 hgrow
  have hq1 : Below w.heap.size w w1 := (Below.refl _ _).grown hgrow (Nat.le_refl _) (fun k hk => by cases hk)
  clear hgrow
  go_wp2_with fail
  go_loopw [3, 11] (fun tv ti wl => ∃ i : Nat, i ≤ n ∧ ti = .int .i64 i ∧ wl.ownsRow w.heap.size 3 1 tv i (cellsI X i) ∧ Below w.heap.size w wl) (fun _ ti _ => n - (intOf ti).toNat)
  case atStart => exact ⟨0, by omega, rfl, hown0, by repeat (first | (with_reducible exact Below.refl _ _) | (with_reducible assumption) | (with_reducible refine Below.setCell ?_ (by first | (simp; done) | (simp; omega) | omega) _) | (with_reducible refine Below.alloc ?_ (by first | (simp; done) | (simp; omega) | omega) _) | (refine bl_call ?_ (by assumption) (by first | (simp; done) | (simp; omega) | omega)) | (with_reducible refine bl_drewN ?_) | (with_reducible refine Below.drew ?_) | (with_reducible refine bl_grow ?_ (by first | (simp; done) | (simp; omega) | omega)))⟩
  case round =>
    clear hown0
    obtain ⟨i, hin, rfl, hown, hqV⟩ := hrel
    rename World => wV
    have hzV := hqV.size
    by_cases hlt : i < n
    · have hlt' : (i : Int) < n := by omega
      obtain ⟨b, o, rfl, hr⟩ := HR.out.resolve_left (by omega)
      have hbV := Nat.lt_of_lt_of_le hr.1 hzV
      obtain ⟨c0, c1⟩ := (hr.below hr.1 hqV).2 i hlt
      clear hr
      go_wp2_with (at_builtin; refine wpList_append_own_at _ rfl _ _ 22 rfl w.heap.size 3 i0 (.int .i64 0) 1 8 Tryd.underlying22 hi hv0 hv1 hv2 rfl (by decide) _ _ _ rfl (own_stay hown (by repeat (first | (with_reducible exact Below.refl _ _) | (with_reducible assumption) | (with_reducible refine Below.setCell ?_ (by first | (simp; done) | (simp; omega) | omega) _) | (with_reducible refine Below.alloc ?_ (by first | (simp; done) | (simp; omega) | omega) _) | (refine bl_call ?_ (by assumption) (by first | (simp; done) | (simp; omega) | omega)) | (with_reducible refine bl_drewN ?_) | (with_reducible refine Below.drew ?_) | (with_reducible refine bl_grow ?_ (by first | (simp; done) | (simp; omega) | omega))))) ⟨wV.heap.size + 1, 0, none⟩ 1 1 [.int .i64 (X i)] rfl rfl ?c1 ?c2 ?c3 ?c4 ?c5 ?_)
      case c1 => exact int_at _ _ (by simp)
      case c2 => intro u hu; simp at hu; subst hu; rfl
      case c3 => unfold maxLen; omega
      case c4 => omega
      case c5 => simp; omega
      · intro v' w13 hown' hgrow _ hat
        have hq13 : Below w.heap.size w w13 := grown_under (B := w.heap.size) (by repeat (first | (with_reducible exact Below.refl _ _) | (with_reducible assumption) | (with_reducible refine Below.setCell ?_ (by first | (simp; done) | (simp; omega) | omega) _) | (with_reducible refine Below.alloc ?_ (by first | (simp; done) | (simp; omega) | omega) _) | (refine bl_call ?_ (by assumption) (by first | (simp; done) | (simp; omega) | omega)) | (with_reducible refine bl_drewN ?_) | (with_reducible refine Below.drew ?_) | (with_reducible refine bl_grow ?_ (by first | (simp; done) | (simp; omega) | omega)))) (own_stay hown (by repeat (first | (with_reducible exact Below.refl _ _) | (with_reducible assumption) | (with_reducible refine Below.setCell ?_ (by first | (simp; done) | (simp; omega) | omega) _) | (with_reducible refine Below.alloc ?_ (by first | (simp; done) | (simp; omega) | omega) _) | (refine bl_call ?_ (by assumption) (by first | (simp; done) | (simp; omega) | omega)) | (with_reducible refine bl_drewN ?_) | (with_reducible refine Below.drew ?_) | (with_reducible refine bl_grow ?_ (by first | (simp; done) | (simp; omega) | omega))))) hgrow (by simp; omega) (Nat.le_refl _)
        rw [← cellsI_succ] at hown'
        clear hgrow hat hown
        go_wp2_with fail
        go_roundw
        case rel => exact ⟨i + 1, by omega, by simp, hown', hq13⟩
        case measure => simp [intOf]; omega
    · have hlt' : ¬ (i : Int) < n := by omega
      obtain rfl : i = n := by omega
      go_wp2_with fail
      go_ret
      exact ⟨_, rfl, hown, by repeat (first | (with_reducible exact Below.refl _ _) | (with_reducible assumption) | (with_reducible refine Below.setCell ?_ (by first | (simp; done) | (simp; omega) | omega) _) | (with_reducible refine Below.alloc ?_ (by first | (simp; done) | (simp; omega) | omega) _) | (refine bl_call ?_ (by assumption) (by first | (simp; done) | (simp; omega) | omega)) | (with_reducible refine bl_drewN ?_) | (with_reducible refine Below.drew ?_) | (with_reducible refine bl_grow ?_ (by first | (simp; done) | (simp; omega) | omega)))⟩
end Go.Proofs.YtkhpmnehjifdcafDoor
