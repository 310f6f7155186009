/- What package ring answers: Ask, and what Sign and Verify are made of. -/
import Derived.Test.YtiddfngopoednaiDoorRingIs
import Derived.Test.YtiddfngopoednaiDoorList
import Derived.Test.YtiddfngopoednaiDoorBytes
import Derived.Test.YtiddfngopoednaiDoorHashLong
import Derived.Test.YtiddfngopoednaiDoorTimesOrd
import Derived.Test.YtiddfngopoednaiDoorCurveEq
import Derived.Test.YtiddfngopoednaiDoorSealMath
import Derived.Test.YtiddfngopoednaiDoorOwn
import Derived.Test.YtiddfngopoednaiDoorRowE
import Derived.BigQuiet
import Derived.Lib.SliceRun
import Derived.Deep.RegionHeld3
import Derived.Deep.CutRange
namespace Go.Proofs.YtiddfngopoednaiDoor
open Go.RowKit Go.Sort
set_option linter.unusedVariables false
set_option linter.unusedSimpArgs false
theorem nrow_up {n : Nat} {sl : Option Addr} {X Y : Nat → Int} {F : Nat → Bool} {w W : World} (h : (n = 0 ∨ ∃ b o : Nat, sl = some ⟨b, o, none⟩ ∧ RowO w b o n X Y F)) (k : Below w.heap.size w W) : (n = 0 ∨ ∃ b o : Nat, sl = some ⟨b, o, none⟩ ∧ RowO W b o n X Y F) := h.imp_right fun ⟨b, o, e, r⟩ => ⟨b, o, e, r.below r.1 k⟩
theorem nrow_zero {X Y : Nat → Int} {F : Nat → Bool} {K : Nat → Nat} : ∀ {n : Nat}, (∀ i, i < n → X i = ((tM (K i)).1 : Int) ∧ Y i = ((tM (K i)).2.1 : Int) ∧ F i = (tM (K i)).2.2) → rowE X Y F n = 0
  | 0, _ => rfl
  | n + 1, h => by
    obtain ⟨a, b, c⟩ := h n (by omega)
    unfold rowE
    rw [nrow_zero (n := n) (fun i hi => h i (by omega)), a, b, c]
    exact ck_tM _
theorem nfirst (s : Nat → Bool) : ∀ n, ∃ t, t ≤ n ∧ (∀ k, k < t → s k = true) ∧ (t = n ∨ (t < n ∧ s t = false))
  | 0 => ⟨0, Nat.le_refl _, fun k h => absurd h (Nat.not_lt_zero _), Or.inl rfl⟩
  | n + 1 => by
    obtain ⟨t, h1, h2, h3⟩ := nfirst s n
    rcases h3 with rfl | ⟨h3, h4⟩
    · cases hs : s t with
      | true => exact ⟨t + 1, Nat.le_refl _, fun k hk => by
          rcases Nat.lt_succ_iff_lt_or_eq.1 hk with h | rfl
          · exact h2 k h
          · exact hs, Or.inl rfl⟩
      | false => exact ⟨t, by omega, h2, Or.inr ⟨by omega, hs⟩⟩
    · exact ⟨t, by omega, h2, Or.inr ⟨by omega, h4⟩⟩
theorem niinfo : (Tryd.prog.info? 3).map (fun i => (i.zero, i.size, i.bytes)) = some (some (.int .i64 0), 1, 8) := by kernel_rfl
theorem nret_int {a b : Int} (h : a = b) : Ending.returned (.int .i64 a) = .returned (.int .i64 b) := by rw [h]
theorem ncells_set (S : Nat → Int) (n a : Nat) (u : Int) : (cellsI S n).set a (.int .i64 u) = cellsI (extN S a u) n := by
  apply List.ext_getElem?
  intro i
  rw [List.getElem?_set]
  by_cases hi : i < n
  · rw [cellsI_at (extN S a u) hi]
    by_cases h : a = i
    · subst h
      rw [if_pos rfl, if_pos (by simpa [cellsI] using hi), extN_at]
    · rw [if_neg h, cellsI_at _ hi]
      unfold extN
      have : Nat.beq i a = false := by
        cases hb : Nat.beq i a with
        | false => rfl
        | true => exact absurd (Nat.eq_of_beq_eq_true hb).symm h
      rw [this]; rfl
  · have h1 : ∀ G : Nat → Int, (cellsI G n)[i]? = none := fun G => List.getElem?_eq_none (by simp [cellsI]; omega)
    rw [h1, h1]
    by_cases h : a = i
    · subst h
      rw [if_pos rfl, if_neg (by simp [cellsI]; omega)]
    · rw [if_neg h]
theorem nstored {w : World} {B g n e : Nat} {S : Nat → Int} (h : w.ownsRow B 3 1 (.slice (some ⟨g, 0, none⟩) n e) n (cellsI S n)) (a : Nat) (u : Int) : (w.setCell ⟨g, a, none⟩ (.int .i64 u)).ownsRow B 3 1 (.slice (some ⟨g, 0, none⟩) n e) n (cellsI (extN S a u) n) := by
  rw [← ncells_set]; exact (h.stored a _).1
theorem nrowI {w : World} {B g n e : Nat} {S : Nat → Int} (h : w.ownsRow B 3 1 (.slice (some ⟨g, 0, none⟩) n e) n (cellsI S n)) : RowI w g 0 n S :=
  ⟨(h.lt g rfl).2, fun i hi => by rw [Nat.zero_add, h.cellAt i (by omega), cellsI_at S hi]⟩
theorem ext_ne {S : Nat → Int} {a i : Nat} {u : Int} (h : i ≠ a) : extN S a u i = S i := by
  unfold extN
  have : Nat.beq i a = false := by
    cases hb : Nat.beq i a with
    | false => rfl
    | true => exact absurd (Nat.eq_of_beq_eq_true hb) h
  rw [this]; rfl
/-- What lies ahead of the keys after so many steps around. -/
def ahN (K S : Nat → Nat) (n : Nat) (t : ByteArray) (a k : Nat) : Nat → Nat → Int
  | 0 => fun _ => 0
  | j + 1 => extN (ahN K S n t a k j) ((a + 1 + j) % n) (rsN K S n t a k j : Int)
theorem np_ne {n a j m : Nat} (hj : j < m) (hm : m < n) : (a + 1 + j) % n ≠ (a + 1 + m) % n := by
  intro h
  have h1 := Nat.div_add_mod (a + 1 + j) n
  have h2 := Nat.div_add_mod (a + 1 + m) n
  rw [h] at h1
  have h3 : n * ((a + 1 + m) / n) = n * ((a + 1 + j) / n) + (m - j) := by omega
  have h4 : (n * ((a + 1 + j) / n) + (m - j)) % n = m - j := by rw [Nat.mul_add_mod, Nat.mod_eq_of_lt (by omega)]
  rw [← h3, Nat.mul_mod_right] at h4
  omega
theorem ah_at {K S : Nat → Nat} {n : Nat} {t : ByteArray} {a k : Nat} : ∀ m, m ≤ n → ∀ j, j < m → ahN K S n t a k m ((a + 1 + j) % n) = (rsN K S n t a k j : Int)
  | 0, _, j, h => absurd h (Nat.not_lt_zero _)
  | m + 1, hm, j, h => by
    show extN (ahN K S n t a k m) ((a + 1 + m) % n) _ _ = _
    rcases Nat.lt_succ_iff_lt_or_eq.1 h with h1 | h1
    · rw [ext_ne (np_ne h1 (by omega))]
      exact ah_at m (by omega) j h1
    · subst h1; exact extN_at _ _ _
/-- What lies ahead of all keys. -/
def alN (K S : Nat → Nat) (n : Nat) (t : ByteArray) (a k : Nat) : Nat → Int := extN (ahN K S n t a k (n - 1)) a (rsN K S n t a k (n - 1) : Int)
theorem al_at (K S : Nat → Nat) (n : Nat) (t : ByteArray) (a k : Nat) : alN K S n t a k a = (rsN K S n t a k (n - 1) : Int) := extN_at _ _ _
theorem al_zero (K S : Nat → Nat) {n : Nat} (t : ByteArray) {a : Nat} (k : Nat) (ha : a < n) : alN K S n t a k 0 = (r0N K S n t a k : Int) := by
  unfold r0N
  by_cases h : a = 0
  · subst h; exact al_at _ _ _ _ _ _
  · unfold alN
    rw [ext_ne (fun e => h e.symm)]
    have := ah_at (K := K) (S := S) (n := n) (t := t) (a := a) (k := k) (n - 1) (by omega) (n - 1 - a) (by omega)
    rw [show a + 1 + (n - 1 - a) = n by omega, Nat.mod_self] at this
    exact this
theorem nissec {n : Int} {t : Bool} (ht : secB n = t) (w : World) : Calls Tryd.prog 15 #[.int .i64 n] w fun e w' => e = .returned (.bool t) ∧ w' = w := by
  subst ht
  by_cases h : n ≥ 1
  · by_cases h2 : n < 1013
    · rw [show secB n = true from decide_eq_true ⟨h, h2⟩]
      go_enter Tryd.func15, Tryd.ntmps15
      go_wp2_with fail
      go_ret
      exact ⟨rfl, rfl⟩
    · rw [show secB n = false from decide_eq_false fun k => h2 k.2]
      go_enter Tryd.func15, Tryd.ntmps15
      go_wp2_with fail
      go_ret
      exact ⟨rfl, rfl⟩
  · rw [show secB n = false from decide_eq_false fun k => h k.1]
    go_enter Tryd.func15, Tryd.ntmps15
    go_wp2_with fail
    go_ret
    exact ⟨rfl, rfl⟩
theorem nisnum {n : Int} {t : Bool} (ht : resB n = t) (w : World) : Calls Tryd.prog 11 #[.int .i64 n] w fun e w' => e = .returned (.bool t) ∧ w' = w := by
  subst ht
  by_cases h : n ≥ 0
  · by_cases h2 : n < 1013
    · rw [show resB n = true from decide_eq_true ⟨h, h2⟩]
      go_enter Tryd.func11, Tryd.ntmps11
      go_wp2_with fail
      go_ret
      exact ⟨rfl, rfl⟩
    · rw [show resB n = false from decide_eq_false fun k => h2 k.2]
      go_enter Tryd.func11, Tryd.ntmps11
      go_wp2_with fail
      go_ret
      exact ⟨rfl, rfl⟩
  · rw [show resB n = false from decide_eq_false fun k => h k.1]
    go_enter Tryd.func11, Tryd.ntmps11
    go_wp2_with fail
    go_ret
    exact ⟨rfl, rfl⟩
theorem nfn (x : Int) (t : Bool) (w : World) (h : resB x = t) : Calls Tryd.prog 24 #[.int .i64 x] w fun e w' => e = .returned (.bool (!t)) ∧ Below w.heap.size w w' := by
  have H : Hid (∀ w, Calls Tryd.prog 11 #[.int .i64 x] w fun e w' => e = .returned (.bool t) ∧ w' = w) := fun w => nisnum h w
  clear h
  go_enter Tryd.func24, Tryd.ntmps24
  go_wp2_with (go_at_call 11; refine (H.out _).mono ?_; rintro e v1 ⟨rfl, hv1⟩; subst v1)
  go_ret
  exact ⟨rfl, by repeat (first | (with_reducible exact Below.refl _ _) | (with_reducible assumption) | (with_reducible refine Below.setCell ?_ (by first | (simp; done) | (simp; omega) | omega) _) | (with_reducible refine Below.alloc ?_ (by first | (simp; done) | (simp; omega) | omega) _) | (refine bl_call ?_ (by assumption) (by first | (simp; done) | (simp; omega) | omega)) | (with_reducible refine bl_drewN ?_) | (with_reducible refine Below.drew ?_) | (with_reducible refine bl_grow ?_ (by first | (simp; done) | (simp; omega) | omega)))⟩
set_option maxRecDepth 100000 in
set_option maxHeartbeats 4000000 in
theorem nidx (b o n d t : Nat) (X : Nat → Int) (r : Int) (w : World) (hn : n ≤ 12) (ht : t ≤ n) (hr : RowI w b o n X) (hok : ∀ i, i < t → resB (X i) = true) (he : (t = n ∧ r = -1) ∨ (t < n ∧ resB (X t) = false ∧ r = t)) :
    Calls Tryd.prog 35 #[.slice (some ⟨b, o, none⟩) n d, .func (.func 24) #[] #[]] w fun e w' => e = .returned (.int .i64 r) ∧ Below w.heap.size w w' := by
  have HR : Hid (RowI w b o n X) := hr
  have HOK : Hid (∀ i, i < t → resB (X i) = true) := hok
  have HE : Hid ((t = n ∧ r = -1) ∨ (t < n ∧ resB (X t) = false ∧ r = t)) := he
  have hb := hr.1
  clear hr hok he
  go_enter Tryd.func35, Tryd.ntmps35
  go_wp2_with fail
  go_loopw [8] (fun ti wl => ∃ k : Nat, k ≤ t ∧ ti = .int .i64 k ∧ Below w.heap.size w wl) (fun ti _ => n - (intOf ti).toNat)
  case atStart => exact ⟨0, by omega, rfl, by repeat (first | (with_reducible exact Below.refl _ _) | (with_reducible assumption) | (with_reducible refine Below.setCell ?_ (by first | (simp; done) | (simp; omega) | omega) _) | (with_reducible refine Below.alloc ?_ (by first | (simp; done) | (simp; omega) | omega) _) | (refine bl_call ?_ (by assumption) (by first | (simp; done) | (simp; omega) | omega)) | (with_reducible refine bl_drewN ?_) | (with_reducible refine Below.drew ?_) | (with_reducible refine bl_grow ?_ (by first | (simp; done) | (simp; omega) | omega)))⟩
  case round =>
    obtain ⟨k, hk, rfl, hqV⟩ := hrel
    have hzV := hqV.size
    by_cases hlt : k < n
    · have hlt' : (k : Int) < n := by omega
      have hbV := Nat.lt_of_lt_of_le hb hzV
      have c0 := (HR.out.below hb hqV).2 k hlt
      by_cases hkt : k < t
      · have HP : Hid (resB (X k) = true) := HOK.out k hkt
        go_wp2_with (go_at_call 24; refine (nfn _ _ _ HP.out).mono ?_; rintro e w1 ⟨rfl, hb1⟩)
        go_roundw
        case rel => exact ⟨k + 1, by omega, by simp, by repeat (first | (with_reducible exact Below.refl _ _) | (with_reducible assumption) | (with_reducible refine Below.setCell ?_ (by first | (simp; done) | (simp; omega) | omega) _) | (with_reducible refine Below.alloc ?_ (by first | (simp; done) | (simp; omega) | omega) _) | (refine bl_call ?_ (by assumption) (by first | (simp; done) | (simp; omega) | omega)) | (with_reducible refine bl_drewN ?_) | (with_reducible refine Below.drew ?_) | (with_reducible refine bl_grow ?_ (by first | (simp; done) | (simp; omega) | omega)))⟩
        case measure => simp [intOf]; omega
      · have HKT : Hid (k = t) := by unfold Hid; omega
        have HP : Hid (resB (X k) = false) := by
          unfold Hid
          rcases HE.out with h | h
          · exfalso; have := HKT.out; omega
          · rw [HKT.out]; exact h.2.1
        have HRK : Hid (r = (k : Int)) := by
          unfold Hid
          rcases HE.out with h | h
          · exfalso; have := HKT.out; omega
          · rw [HKT.out]; exact h.2.2
        go_wp2_with (go_at_call 24; refine (nfn _ _ _ HP.out).mono ?_; rintro e w1 ⟨rfl, hb1⟩)
        go_ret
        exact ⟨nret_int HRK.out.symm, by repeat (first | (with_reducible exact Below.refl _ _) | (with_reducible assumption) | (with_reducible refine Below.setCell ?_ (by first | (simp; done) | (simp; omega) | omega) _) | (with_reducible refine Below.alloc ?_ (by first | (simp; done) | (simp; omega) | omega) _) | (refine bl_call ?_ (by assumption) (by first | (simp; done) | (simp; omega) | omega)) | (with_reducible refine bl_drewN ?_) | (with_reducible refine Below.drew ?_) | (with_reducible refine bl_grow ?_ (by first | (simp; done) | (simp; omega) | omega)))⟩
    · have hlt' : ¬ (k : Int) < n := by omega
      have HRK : Hid (r = -1) := by
        unfold Hid
        rcases HE.out with h | h
        · exact h.2
        · omega
      go_wp2_with fail
      go_ret
      exact ⟨nret_int HRK.out.symm, by repeat (first | (with_reducible exact Below.refl _ _) | (with_reducible assumption) | (with_reducible refine Below.setCell ?_ (by first | (simp; done) | (simp; omega) | omega) _) | (with_reducible refine Below.alloc ?_ (by first | (simp; done) | (simp; omega) | omega) _) | (refine bl_call ?_ (by assumption) (by first | (simp; done) | (simp; omega) | omega)) | (with_reducible refine bl_drewN ?_) | (with_reducible refine Below.drew ?_) | (with_reducible refine bl_grow ?_ (by first | (simp; done) | (simp; omega) | omega)))⟩
set_option maxRecDepth 100000 in
set_option maxHeartbeats 4000000 in
theorem nhas_no (b o n d : Nat) (w : World) (h : Calls Tryd.prog 35 #[.slice (some ⟨b, o, none⟩) n d, .func (.func 24) #[] #[]] w fun e w' => e = .returned (.int .i64 (-1)) ∧ Below w.heap.size w w') : Calls Tryd.prog 23 #[.slice (some ⟨b, o, none⟩) n d, .func (.func 24) #[] #[]] w fun e w' => e = .returned (.bool false) ∧ Below w.heap.size w w' := by
  have H : Hid (Calls Tryd.prog 35 #[.slice (some ⟨b, o, none⟩) n d, .func (.func 24) #[] #[]] w fun e w' => e = .returned (.int .i64 (-1)) ∧ Below w.heap.size w w') := h
  clear h
  go_enter Tryd.func23, Tryd.ntmps23
  go_wp2_with (go_at_call 35; refine (H.out).mono ?_; rintro e w1 ⟨rfl, hb1⟩)
  go_ret
  exact ⟨rfl, by repeat (first | (with_reducible exact Below.refl _ _) | (with_reducible assumption) | (with_reducible refine Below.setCell ?_ (by first | (simp; done) | (simp; omega) | omega) _) | (with_reducible refine Below.alloc ?_ (by first | (simp; done) | (simp; omega) | omega) _) | (refine bl_call ?_ (by assumption) (by first | (simp; done) | (simp; omega) | omega)) | (with_reducible refine bl_drewN ?_) | (with_reducible refine Below.drew ?_) | (with_reducible refine bl_grow ?_ (by first | (simp; done) | (simp; omega) | omega)))⟩
set_option maxRecDepth 100000 in
set_option maxHeartbeats 4000000 in
theorem nhas_yes (b o n d t : Nat) (w : World) (h : Calls Tryd.prog 35 #[.slice (some ⟨b, o, none⟩) n d, .func (.func 24) #[] #[]] w fun e w' => e = .returned (.int .i64 (t : Int)) ∧ Below w.heap.size w w') : Calls Tryd.prog 23 #[.slice (some ⟨b, o, none⟩) n d, .func (.func 24) #[] #[]] w fun e w' => e = .returned (.bool true) ∧ Below w.heap.size w w' := by
  have H : Hid (Calls Tryd.prog 35 #[.slice (some ⟨b, o, none⟩) n d, .func (.func 24) #[] #[]] w fun e w' => e = .returned (.int .i64 (t : Int)) ∧ Below w.heap.size w w') := h
  have h0 : (t : Int) ≥ 0 := by omega
  clear h
  go_enter Tryd.func23, Tryd.ntmps23
  go_wp2_with (go_at_call 35; refine (H.out).mono ?_; rintro e w1 ⟨rfl, hb1⟩)
  go_ret
  exact ⟨rfl, by repeat (first | (with_reducible exact Below.refl _ _) | (with_reducible assumption) | (with_reducible refine Below.setCell ?_ (by first | (simp; done) | (simp; omega) | omega) _) | (with_reducible refine Below.alloc ?_ (by first | (simp; done) | (simp; omega) | omega) _) | (refine bl_call ?_ (by assumption) (by first | (simp; done) | (simp; omega) | omega)) | (with_reducible refine bl_drewN ?_) | (with_reducible refine Below.drew ?_) | (with_reducible refine bl_grow ?_ (by first | (simp; done) | (simp; omega) | omega)))⟩
set_option maxRecDepth 100000 in
set_option maxHeartbeats 4000000 in
theorem nare (b o n d : Nat) (t : Bool) (w : World) (h : Calls Tryd.prog 23 #[.slice (some ⟨b, o, none⟩) n d, .func (.func 24) #[] #[]] w fun e w' => e = .returned (.bool t) ∧ Below w.heap.size w w') : Calls Tryd.prog 12 #[.slice (some ⟨b, o, none⟩) n d] w fun e w' => e = .returned (.bool (!t)) ∧ Below w.heap.size w w' := by
  have H : Hid (Calls Tryd.prog 23 #[.slice (some ⟨b, o, none⟩) n d, .func (.func 24) #[] #[]] w fun e w' => e = .returned (.bool t) ∧ Below w.heap.size w w') := h
  clear h
  go_enter Tryd.func12, Tryd.ntmps12
  go_wp2_with (go_at_call 23; refine (H.out).mono ?_; rintro e w1 ⟨rfl, hb1⟩)
  go_ret
  exact ⟨rfl, by repeat (first | (with_reducible exact Below.refl _ _) | (with_reducible assumption) | (with_reducible refine Below.setCell ?_ (by first | (simp; done) | (simp; omega) | omega) _) | (with_reducible refine Below.alloc ?_ (by first | (simp; done) | (simp; omega) | omega) _) | (refine bl_call ?_ (by assumption) (by first | (simp; done) | (simp; omega) | omega)) | (with_reducible refine bl_drewN ?_) | (with_reducible refine Below.drew ?_) | (with_reducible refine bl_grow ?_ (by first | (simp; done) | (simp; omega) | omega)))⟩
theorem nare_yes (b o n d : Nat) (X : Nat → Int) (w : World) (hn : n ≤ 12) (hr : RowI w b o n X) (hok : ∀ i, i < n → resB (X i) = true) : Calls Tryd.prog 12 #[.slice (some ⟨b, o, none⟩) n d] w fun e w' => e = .returned (.bool true) ∧ Below w.heap.size w w' :=
  nare b o n d false w (nhas_no b o n d w (nidx b o n d n X (-1) w hn (Nat.le_refl _) hr hok (Or.inl ⟨rfl, rfl⟩)))
theorem nare_no (b o n d : Nat) (X : Nat → Int) (w : World) (hn : n ≤ 12) (hr : RowI w b o n X) (hno : ∃ j, j < n ∧ resB (X j) = false) : Calls Tryd.prog 12 #[.slice (some ⟨b, o, none⟩) n d] w fun e w' => e = .returned (.bool false) ∧ Below w.heap.size w w' := by
  obtain ⟨t, t1, t2, t3⟩ := nfirst (fun i => resB (X i)) n
  rcases t3 with rfl | ⟨t3, t4⟩
  · obtain ⟨j, j1, j2⟩ := hno
    rw [t2 j j1] at j2
    cases j2
  exact nare b o n d true w (nhas_yes b o n d t w (nidx b o n d t X (t : Int) w hn t1 hr t2 (Or.inr ⟨t3, t4, rfl⟩)))
theorem nlist (sl : Option Addr) (n d : Nat) (X Y : Nat → Int) (F : Nat → Bool) (K : Nat → Nat) (w : World) (hn : n ≤ 12) (hr : (n = 0 ∨ ∃ b o : Nat, sl = some ⟨b, o, none⟩ ∧ RowO w b o n X Y F)) (hK : (∀ i, i < n → X i = ((tM (K i)).1 : Int) ∧ Y i = ((tM (K i)).2.1 : Int) ∧ F i = (tM (K i)).2.2)) : Calls Tryd.prog 32 #[.slice sl n d] w fun e w' => e = .returned (.tuple #[.string (lsB K n), .nilIface]) ∧ Below w.heap.size w w' := by
  rcases hr with rfl | ⟨b, o, rfl, hr⟩
  · exact list_nil sl d w
  · exact list_row b o n d X Y F K w hn hr (nrow_zero hK) hK
set_option maxRecDepth 100000 in
set_option maxHeartbeats 4000000 in
theorem nask_l (sl : Option Addr) (n d : Nat) (x y : Int) (f : Bool) (t : ByteArray) (c : Int) (w : World) (h : ∀ W, Below w.heap.size w W → Calls Tryd.prog 32 #[.slice sl n d] W fun e w' => e = .returned (.tuple #[.string ⟨#[]⟩, errOf c]) ∧ Below W.heap.size W w') : Calls Tryd.prog 22 #[.slice sl n d, .agg #[.int .i64 x, .int .i64 y, .bool f], .string t] w fun e w' => e = .returned (.tuple #[.int .i64 0, errOf c]) ∧ Below w.heap.size w w' := by
  have H : Hid (∀ W, Below w.heap.size w W → Calls Tryd.prog 32 #[.slice sl n d] W fun e w' => e = .returned (.tuple #[.string ⟨#[]⟩, errOf c]) ∧ Below W.heap.size W w') := h
  clear h
  have m1 : True := trivial
  go_enter Tryd.func22, Tryd.ntmps22
  go_wp2_with (go_at_call 32; clear m1; refine (H.out _ (by repeat (first | (with_reducible exact Below.refl _ _) | (with_reducible assumption) | (with_reducible refine Below.setCell ?_ (by first | (simp; done) | (simp; omega) | omega) _) | (with_reducible refine Below.alloc ?_ (by first | (simp; done) | (simp; omega) | omega) _) | (refine bl_call ?_ (by assumption) (by first | (simp; done) | (simp; omega) | omega)) | (with_reducible refine bl_drewN ?_) | (with_reducible refine Below.drew ?_) | (with_reducible refine bl_grow ?_ (by first | (simp; done) | (simp; omega) | omega))))).mono ?_; rintro e w1 ⟨rfl, hbw1⟩; have kaw1 : At w1 (w.heap.size) [.int .i64 x, .int .i64 y, .bool f] := (by repeat (first | (with_reducible assumption) | ((with_reducible refine at_new' _ _ _ _ ?_); (first | rfl | (simp; done))) | (with_reducible refine At.alloc ?_ _) | (with_reducible refine At.drew ?_) | (with_reducible refine At.drewN ?_) | (with_reducible refine At.set ?_ (by omega)) | (with_reducible apply At.store4) | (with_reducible apply At.store3) | (with_reducible apply At.store2) | (with_reducible apply At.put43) | (refine At.below ?_ (by with_reducible assumption)))); have hqw1 : Below w.heap.size w w1 := (by repeat (first | (with_reducible exact Below.refl _ _) | (with_reducible assumption) | (with_reducible refine Below.setCell ?_ (by first | (simp; done) | (simp; omega) | omega) _) | (with_reducible refine Below.alloc ?_ (by first | (simp; done) | (simp; omega) | omega) _) | (refine bl_call ?_ (by assumption) (by first | (simp; done) | (simp; omega) | omega)) | (with_reducible refine bl_drewN ?_) | (with_reducible refine Below.drew ?_) | (with_reducible refine bl_grow ?_ (by first | (simp; done) | (simp; omega) | omega)))); have hzw1 := hqw1.size; obtain ⟨zaw1, ca0w1, ca1w1, ca2w1, fa0w1, fa1w1, fa2w1⟩ := kaw1.three; clear hbw1)
  exact bodyPost_ret (v := .tuple #[.int .i64 0, errOf c]) (by simp [results, Tryd.results22, go_sem, *]) rfl ⟨rfl, by repeat (first | (with_reducible exact Below.refl _ _) | (with_reducible assumption) | (with_reducible refine Below.setCell ?_ (by first | (simp; done) | (simp; omega) | omega) _) | (with_reducible refine Below.alloc ?_ (by first | (simp; done) | (simp; omega) | omega) _) | (refine bl_call ?_ (by assumption) (by first | (simp; done) | (simp; omega) | omega)) | (with_reducible refine bl_drewN ?_) | (with_reducible refine Below.drew ?_) | (with_reducible refine bl_grow ?_ (by first | (simp; done) | (simp; omega) | omega)))⟩
set_option maxRecDepth 100000 in
set_option maxHeartbeats 4000000 in
theorem nask_p (sl : Option Addr) (n d : Nat) (x y : Int) (f : Bool) (t B : ByteArray) (c : Int) (w : World) (h : ∀ W, Below w.heap.size w W → Calls Tryd.prog 32 #[.slice sl n d] W fun e w' => e = .returned (.tuple #[.string B, .nilIface]) ∧ Below W.heap.size W w') (hp : ∀ w, Calls Tryd.prog 33 #[.agg #[.int .i64 x, .int .i64 y, .bool f]] w fun e w' => e = .returned (.tuple #[.string ⟨#[]⟩, errOf c]) ∧ Below w.heap.size w w') : Calls Tryd.prog 22 #[.slice sl n d, .agg #[.int .i64 x, .int .i64 y, .bool f], .string t] w fun e w' => e = .returned (.tuple #[.int .i64 0, errOf c]) ∧ Below w.heap.size w w' := by
  have H : Hid (∀ W, Below w.heap.size w W → Calls Tryd.prog 32 #[.slice sl n d] W fun e w' => e = .returned (.tuple #[.string B, .nilIface]) ∧ Below W.heap.size W w') := h
  have HP : Hid (∀ w, Calls Tryd.prog 33 #[.agg #[.int .i64 x, .int .i64 y, .bool f]] w fun e w' => e = .returned (.tuple #[.string ⟨#[]⟩, errOf c]) ∧ Below w.heap.size w w') := hp
  clear h hp
  have m1 : True := trivial; have m2 : True := trivial
  go_enter Tryd.func22, Tryd.ntmps22
  go_wp2_with (first | (go_at_call 32; clear m1; refine (H.out _ (by repeat (first | (with_reducible exact Below.refl _ _) | (with_reducible assumption) | (with_reducible refine Below.setCell ?_ (by first | (simp; done) | (simp; omega) | omega) _) | (with_reducible refine Below.alloc ?_ (by first | (simp; done) | (simp; omega) | omega) _) | (refine bl_call ?_ (by assumption) (by first | (simp; done) | (simp; omega) | omega)) | (with_reducible refine bl_drewN ?_) | (with_reducible refine Below.drew ?_) | (with_reducible refine bl_grow ?_ (by first | (simp; done) | (simp; omega) | omega))))).mono ?_; rintro e w1 ⟨rfl, hbw1⟩; have kaw1 : At w1 (w.heap.size) [.int .i64 x, .int .i64 y, .bool f] := (by repeat (first | (with_reducible assumption) | ((with_reducible refine at_new' _ _ _ _ ?_); (first | rfl | (simp; done))) | (with_reducible refine At.alloc ?_ _) | (with_reducible refine At.drew ?_) | (with_reducible refine At.drewN ?_) | (with_reducible refine At.set ?_ (by omega)) | (with_reducible apply At.store4) | (with_reducible apply At.store3) | (with_reducible apply At.store2) | (with_reducible apply At.put43) | (refine At.below ?_ (by with_reducible assumption)))); have hqw1 : Below w.heap.size w w1 := (by repeat (first | (with_reducible exact Below.refl _ _) | (with_reducible assumption) | (with_reducible refine Below.setCell ?_ (by first | (simp; done) | (simp; omega) | omega) _) | (with_reducible refine Below.alloc ?_ (by first | (simp; done) | (simp; omega) | omega) _) | (refine bl_call ?_ (by assumption) (by first | (simp; done) | (simp; omega) | omega)) | (with_reducible refine bl_drewN ?_) | (with_reducible refine Below.drew ?_) | (with_reducible refine bl_grow ?_ (by first | (simp; done) | (simp; omega) | omega)))); have hzw1 := hqw1.size; obtain ⟨zaw1, ca0w1, ca1w1, ca2w1, fa0w1, fa1w1, fa2w1⟩ := kaw1.three; clear hbw1) | (go_at_call 33; clear m2; refine (HP.out _).mono ?_; rintro e w2 ⟨rfl, hbw2⟩; have hqw2 : Below w.heap.size w w2 := (by repeat (first | (with_reducible exact Below.refl _ _) | (with_reducible assumption) | (with_reducible refine Below.setCell ?_ (by first | (simp; done) | (simp; omega) | omega) _) | (with_reducible refine Below.alloc ?_ (by first | (simp; done) | (simp; omega) | omega) _) | (refine bl_call ?_ (by assumption) (by first | (simp; done) | (simp; omega) | omega)) | (with_reducible refine bl_drewN ?_) | (with_reducible refine Below.drew ?_) | (with_reducible refine bl_grow ?_ (by first | (simp; done) | (simp; omega) | omega)))); have hzw2 := hqw2.size; clear kaw1 ca0w1 fa0w1 ca1w1 fa1w1 ca2w1 fa2w1 hqw1; clear hbw2))
  exact bodyPost_ret (v := .tuple #[.int .i64 0, errOf c]) (by simp [results, Tryd.results22, go_sem, *]) rfl ⟨rfl, by repeat (first | (with_reducible exact Below.refl _ _) | (with_reducible assumption) | (with_reducible refine Below.setCell ?_ (by first | (simp; done) | (simp; omega) | omega) _) | (with_reducible refine Below.alloc ?_ (by first | (simp; done) | (simp; omega) | omega) _) | (refine bl_call ?_ (by assumption) (by first | (simp; done) | (simp; omega) | omega)) | (with_reducible refine bl_drewN ?_) | (with_reducible refine Below.drew ?_) | (with_reducible refine bl_grow ?_ (by first | (simp; done) | (simp; omega) | omega)))⟩
set_option maxRecDepth 100000 in
set_option maxHeartbeats 4000000 in
theorem nask_nil (sl : Option Addr) (d j : Nat) (t B : ByteArray) (w : World) (h : ∀ W, Below w.heap.size w W → Calls Tryd.prog 32 #[.slice sl 0 d] W fun e w' => e = .returned (.tuple #[.string B, .nilIface]) ∧ Below W.heap.size W w') : Calls Tryd.prog 22 #[.slice sl 0 d, .agg #[.int .i64 ((tM j).1 : Int), .int .i64 ((tM j).2.1 : Int), .bool (tM j).2.2], .string t] w fun e w' => e = .returned (.tuple #[.int .i64 0, errOf 5]) ∧ Below w.heap.size w w' := by
  have H : Hid (∀ W, Below w.heap.size w W → Calls Tryd.prog 32 #[.slice sl 0 d] W fun e w' => e = .returned (.tuple #[.string B, .nilIface]) ∧ Below W.heap.size W w') := h
  clear h
  have m1 : True := trivial; have m2 : True := trivial
  go_enter Tryd.func22, Tryd.ntmps22
  go_wp2_with (first | (go_at_call 32; clear m1; refine (H.out _ (by repeat (first | (with_reducible exact Below.refl _ _) | (with_reducible assumption) | (with_reducible refine Below.setCell ?_ (by first | (simp; done) | (simp; omega) | omega) _) | (with_reducible refine Below.alloc ?_ (by first | (simp; done) | (simp; omega) | omega) _) | (refine bl_call ?_ (by assumption) (by first | (simp; done) | (simp; omega) | omega)) | (with_reducible refine bl_drewN ?_) | (with_reducible refine Below.drew ?_) | (with_reducible refine bl_grow ?_ (by first | (simp; done) | (simp; omega) | omega))))).mono ?_; rintro e w1 ⟨rfl, hbw1⟩; have kaw1 : At w1 (w.heap.size) [.int .i64 ((tM j).1 : Int), .int .i64 ((tM j).2.1 : Int), .bool (tM j).2.2] := (by repeat (first | (with_reducible assumption) | ((with_reducible refine at_new' _ _ _ _ ?_); (first | rfl | (simp; done))) | (with_reducible refine At.alloc ?_ _) | (with_reducible refine At.drew ?_) | (with_reducible refine At.drewN ?_) | (with_reducible refine At.set ?_ (by omega)) | (with_reducible apply At.store4) | (with_reducible apply At.store3) | (with_reducible apply At.store2) | (with_reducible apply At.put43) | (refine At.below ?_ (by with_reducible assumption)))); have hqw1 : Below w.heap.size w w1 := (by repeat (first | (with_reducible exact Below.refl _ _) | (with_reducible assumption) | (with_reducible refine Below.setCell ?_ (by first | (simp; done) | (simp; omega) | omega) _) | (with_reducible refine Below.alloc ?_ (by first | (simp; done) | (simp; omega) | omega) _) | (refine bl_call ?_ (by assumption) (by first | (simp; done) | (simp; omega) | omega)) | (with_reducible refine bl_drewN ?_) | (with_reducible refine Below.drew ?_) | (with_reducible refine bl_grow ?_ (by first | (simp; done) | (simp; omega) | omega)))); have hzw1 := hqw1.size; obtain ⟨zaw1, ca0w1, ca1w1, ca2w1, fa0w1, fa1w1, fa2w1⟩ := kaw1.three; clear hbw1) | (go_at_call 33; clear m2; refine (pack_tM j _).mono ?_; rintro e w2 ⟨rfl, hbw2⟩; have hqw2 : Below w.heap.size w w2 := (by repeat (first | (with_reducible exact Below.refl _ _) | (with_reducible assumption) | (with_reducible refine Below.setCell ?_ (by first | (simp; done) | (simp; omega) | omega) _) | (with_reducible refine Below.alloc ?_ (by first | (simp; done) | (simp; omega) | omega) _) | (refine bl_call ?_ (by assumption) (by first | (simp; done) | (simp; omega) | omega)) | (with_reducible refine bl_drewN ?_) | (with_reducible refine Below.drew ?_) | (with_reducible refine bl_grow ?_ (by first | (simp; done) | (simp; omega) | omega)))); have hzw2 := hqw2.size; clear kaw1 ca0w1 fa0w1 ca1w1 fa1w1 ca2w1 fa2w1 hqw1; clear hbw2))
  exact bodyPost_ret (v := .tuple #[.int .i64 0, errOf 5]) (by simp [results, Tryd.results22, go_sem, *]) rfl ⟨rfl, by repeat (first | (with_reducible exact Below.refl _ _) | (with_reducible assumption) | (with_reducible refine Below.setCell ?_ (by first | (simp; done) | (simp; omega) | omega) _) | (with_reducible refine Below.alloc ?_ (by first | (simp; done) | (simp; omega) | omega) _) | (refine bl_call ?_ (by assumption) (by first | (simp; done) | (simp; omega) | omega)) | (with_reducible refine bl_drewN ?_) | (with_reducible refine Below.drew ?_) | (with_reducible refine bl_grow ?_ (by first | (simp; done) | (simp; omega) | omega)))⟩
set_option maxRecDepth 100000 in
set_option maxHeartbeats 4000000 in
theorem nask_full (sl : Option Addr) (n d j : Nat) (t B : ByteArray) (w : World) (h0 : 0 < n) (hn : n ≤ 12) (ht : 60 < t.size) (ht2 : t.size ≤ 9223372036854775807) (h : ∀ W, Below w.heap.size w W → Calls Tryd.prog 32 #[.slice sl n d] W fun e w' => e = .returned (.tuple #[.string B, .nilIface]) ∧ Below W.heap.size W w') : Calls Tryd.prog 22 #[.slice sl n d, .agg #[.int .i64 ((tM j).1 : Int), .int .i64 ((tM j).2.1 : Int), .bool (tM j).2.2], .string t] w fun e w' => e = .returned (.tuple #[.int .i64 0, errOf 4]) ∧ Below w.heap.size w w' := by
  have H : Hid (∀ W, Below w.heap.size w W → Calls Tryd.prog 32 #[.slice sl n d] W fun e w' => e = .returned (.tuple #[.string B, .nilIface]) ∧ Below W.heap.size W w') := h
  have h1 : ((n : Int) == 0) = false := by rw [beq_eq_false_iff_ne]; omega
  have h2 : (t.size : Int) > 60 := by omega
  clear h
  have m1 : True := trivial; have m2 : True := trivial
  go_enter Tryd.func22, Tryd.ntmps22
  go_wp2_with (first | (go_at_call 32; clear m1; refine (H.out _ (by repeat (first | (with_reducible exact Below.refl _ _) | (with_reducible assumption) | (with_reducible refine Below.setCell ?_ (by first | (simp; done) | (simp; omega) | omega) _) | (with_reducible refine Below.alloc ?_ (by first | (simp; done) | (simp; omega) | omega) _) | (refine bl_call ?_ (by assumption) (by first | (simp; done) | (simp; omega) | omega)) | (with_reducible refine bl_drewN ?_) | (with_reducible refine Below.drew ?_) | (with_reducible refine bl_grow ?_ (by first | (simp; done) | (simp; omega) | omega))))).mono ?_; rintro e w1 ⟨rfl, hbw1⟩; have kaw1 : At w1 (w.heap.size) [.int .i64 ((tM j).1 : Int), .int .i64 ((tM j).2.1 : Int), .bool (tM j).2.2] := (by repeat (first | (with_reducible assumption) | ((with_reducible refine at_new' _ _ _ _ ?_); (first | rfl | (simp; done))) | (with_reducible refine At.alloc ?_ _) | (with_reducible refine At.drew ?_) | (with_reducible refine At.drewN ?_) | (with_reducible refine At.set ?_ (by omega)) | (with_reducible apply At.store4) | (with_reducible apply At.store3) | (with_reducible apply At.store2) | (with_reducible apply At.put43) | (refine At.below ?_ (by with_reducible assumption)))); have hqw1 : Below w.heap.size w w1 := (by repeat (first | (with_reducible exact Below.refl _ _) | (with_reducible assumption) | (with_reducible refine Below.setCell ?_ (by first | (simp; done) | (simp; omega) | omega) _) | (with_reducible refine Below.alloc ?_ (by first | (simp; done) | (simp; omega) | omega) _) | (refine bl_call ?_ (by assumption) (by first | (simp; done) | (simp; omega) | omega)) | (with_reducible refine bl_drewN ?_) | (with_reducible refine Below.drew ?_) | (with_reducible refine bl_grow ?_ (by first | (simp; done) | (simp; omega) | omega)))); have hzw1 := hqw1.size; obtain ⟨zaw1, ca0w1, ca1w1, ca2w1, fa0w1, fa1w1, fa2w1⟩ := kaw1.three; clear hbw1) | (go_at_call 33; clear m2; refine (pack_tM j _).mono ?_; rintro e w2 ⟨rfl, hbw2⟩; have hqw2 : Below w.heap.size w w2 := (by repeat (first | (with_reducible exact Below.refl _ _) | (with_reducible assumption) | (with_reducible refine Below.setCell ?_ (by first | (simp; done) | (simp; omega) | omega) _) | (with_reducible refine Below.alloc ?_ (by first | (simp; done) | (simp; omega) | omega) _) | (refine bl_call ?_ (by assumption) (by first | (simp; done) | (simp; omega) | omega)) | (with_reducible refine bl_drewN ?_) | (with_reducible refine Below.drew ?_) | (with_reducible refine bl_grow ?_ (by first | (simp; done) | (simp; omega) | omega)))); have hzw2 := hqw2.size; clear kaw1 ca0w1 fa0w1 ca1w1 fa1w1 ca2w1 fa2w1 hqw1; clear hbw2))
  exact bodyPost_ret (v := .tuple #[.int .i64 0, errOf 4]) (by simp [results, Tryd.results22, go_sem, *]) rfl ⟨rfl, by repeat (first | (with_reducible exact Below.refl _ _) | (with_reducible assumption) | (with_reducible refine Below.setCell ?_ (by first | (simp; done) | (simp; omega) | omega) _) | (with_reducible refine Below.alloc ?_ (by first | (simp; done) | (simp; omega) | omega) _) | (refine bl_call ?_ (by assumption) (by first | (simp; done) | (simp; omega) | omega)) | (with_reducible refine bl_drewN ?_) | (with_reducible refine Below.drew ?_) | (with_reducible refine bl_grow ?_ (by first | (simp; done) | (simp; omega) | omega)))⟩
set_option maxRecDepth 100000 in
set_option maxHeartbeats 4000000 in
theorem nask_ok (sl : Option Addr) (n d : Nat) (X Y : Nat → Int) (F : Nat → Bool) (K : Nat → Nat) (j : Nat) (t : ByteArray) (w : World) (h0 : 0 < n) (hn : n ≤ 12) (hr : (n = 0 ∨ ∃ b o : Nat, sl = some ⟨b, o, none⟩ ∧ RowO w b o n X Y F)) (hK : (∀ i, i < n → X i = ((tM (K i)).1 : Int) ∧ Y i = ((tM (K i)).2.1 : Int) ∧ F i = (tM (K i)).2.2)) (ht : t.size ≤ 60) : Calls Tryd.prog 22 #[.slice sl n d, .agg #[.int .i64 ((tM j).1 : Int), .int .i64 ((tM j).2.1 : Int), .bool (tM j).2.2], .string t] w fun e w' => e = .returned (.tuple #[.int .i64 (raN K n j t : Int), .nilIface]) ∧ Below w.heap.size w w' := by
  have H : Hid (∀ W, Below w.heap.size w W → Calls Tryd.prog 32 #[.slice sl n d] W fun e w' => e = .returned (.tuple #[.string (lsB K n), .nilIface]) ∧ Below W.heap.size W w') := fun W k => nlist sl n d X Y F K W hn (nrow_up hr k) hK
  have HN : Hid (∀ w, Calls Tryd.prog 34 #[.string (lsB K n ++ pkB (tM j) ++ t)] w fun e w' => e = .returned (.int .i64 (raN K n j t : Int)) ∧ Below w.heap.size w w') := fun w => by
    have := below_of_same (number_any (lsB K n ++ pkB (tM j) ++ t) w (by have := ra_size K hn j ht; omega))
    rwa [raI] at this
  have p1 := ls_size K hn
  have p2 := pkB_size (tM j)
  have h1 : ((n : Int) == 0) = false := by rw [beq_eq_false_iff_ne]; omega
  have h2 : ¬ (t.size : Int) > 60 := by omega
  clear hr hK
  have m1 : True := trivial; have m2 : True := trivial; have m3 : True := trivial
  go_enter Tryd.func22, Tryd.ntmps22
  go_wp2_with (first | (go_at_call 32; clear m1; refine (H.out _ (by repeat (first | (with_reducible exact Below.refl _ _) | (with_reducible assumption) | (with_reducible refine Below.setCell ?_ (by first | (simp; done) | (simp; omega) | omega) _) | (with_reducible refine Below.alloc ?_ (by first | (simp; done) | (simp; omega) | omega) _) | (refine bl_call ?_ (by assumption) (by first | (simp; done) | (simp; omega) | omega)) | (with_reducible refine bl_drewN ?_) | (with_reducible refine Below.drew ?_) | (with_reducible refine bl_grow ?_ (by first | (simp; done) | (simp; omega) | omega))))).mono ?_; rintro e w1 ⟨rfl, hbw1⟩; have kaw1 : At w1 (w.heap.size) [.int .i64 ((tM j).1 : Int), .int .i64 ((tM j).2.1 : Int), .bool (tM j).2.2] := (by repeat (first | (with_reducible assumption) | ((with_reducible refine at_new' _ _ _ _ ?_); (first | rfl | (simp; done))) | (with_reducible refine At.alloc ?_ _) | (with_reducible refine At.drew ?_) | (with_reducible refine At.drewN ?_) | (with_reducible refine At.set ?_ (by omega)) | (with_reducible apply At.store4) | (with_reducible apply At.store3) | (with_reducible apply At.store2) | (with_reducible apply At.put43) | (refine At.below ?_ (by with_reducible assumption)))); have hqw1 : Below w.heap.size w w1 := (by repeat (first | (with_reducible exact Below.refl _ _) | (with_reducible assumption) | (with_reducible refine Below.setCell ?_ (by first | (simp; done) | (simp; omega) | omega) _) | (with_reducible refine Below.alloc ?_ (by first | (simp; done) | (simp; omega) | omega) _) | (refine bl_call ?_ (by assumption) (by first | (simp; done) | (simp; omega) | omega)) | (with_reducible refine bl_drewN ?_) | (with_reducible refine Below.drew ?_) | (with_reducible refine bl_grow ?_ (by first | (simp; done) | (simp; omega) | omega)))); have hzw1 := hqw1.size; obtain ⟨zaw1, ca0w1, ca1w1, ca2w1, fa0w1, fa1w1, fa2w1⟩ := kaw1.three; clear hbw1) | (go_at_call 33; clear m2; refine (pack_tM j _).mono ?_; rintro e w2 ⟨rfl, hbw2⟩; have hqw2 : Below w.heap.size w w2 := (by repeat (first | (with_reducible exact Below.refl _ _) | (with_reducible assumption) | (with_reducible refine Below.setCell ?_ (by first | (simp; done) | (simp; omega) | omega) _) | (with_reducible refine Below.alloc ?_ (by first | (simp; done) | (simp; omega) | omega) _) | (refine bl_call ?_ (by assumption) (by first | (simp; done) | (simp; omega) | omega)) | (with_reducible refine bl_drewN ?_) | (with_reducible refine Below.drew ?_) | (with_reducible refine bl_grow ?_ (by first | (simp; done) | (simp; omega) | omega)))); have hzw2 := hqw2.size; clear kaw1 ca0w1 fa0w1 ca1w1 fa1w1 ca2w1 fa2w1 hqw1; clear hbw2) | (go_at_call 34; clear m3; refine (HN.out _).mono ?_; rintro e w3 ⟨rfl, hbw3⟩; have hqw3 : Below w.heap.size w w3 := (by repeat (first | (with_reducible exact Below.refl _ _) | (with_reducible assumption) | (with_reducible refine Below.setCell ?_ (by first | (simp; done) | (simp; omega) | omega) _) | (with_reducible refine Below.alloc ?_ (by first | (simp; done) | (simp; omega) | omega) _) | (refine bl_call ?_ (by assumption) (by first | (simp; done) | (simp; omega) | omega)) | (with_reducible refine bl_drewN ?_) | (with_reducible refine Below.drew ?_) | (with_reducible refine bl_grow ?_ (by first | (simp; done) | (simp; omega) | omega)))); have hzw3 := hqw3.size; clear  hqw2; clear hbw3))
  exact bodyPost_ret (v := .tuple #[.int .i64 (raN K n j t : Int), .nilIface]) (by simp [results, Tryd.results22, go_sem, *]) rfl ⟨rfl, by repeat (first | (with_reducible exact Below.refl _ _) | (with_reducible assumption) | (with_reducible refine Below.setCell ?_ (by first | (simp; done) | (simp; omega) | omega) _) | (with_reducible refine Below.alloc ?_ (by first | (simp; done) | (simp; omega) | omega) _) | (refine bl_call ?_ (by assumption) (by first | (simp; done) | (simp; omega) | omega)) | (with_reducible refine bl_drewN ?_) | (with_reducible refine Below.drew ?_) | (with_reducible refine bl_grow ?_ (by first | (simp; done) | (simp; omega) | omega)))⟩
theorem rask_is : RAskIs := by
  refine ⟨fun sl n d x y f t w h _ _ => nask_l sl n d x y f t 4 w (fun W _ => list_many sl n d W h), fun sl n d X Y F x y f t w h12 _ _ hr _ he => nask_l sl n d x y f t _ w (fun W k => ?_), fun sl n d X Y F x y f t w h12 _ _ hr _ he hc => ?_, fun sl n d X Y F j t w h12 _ _ hr ht he hg => ?_, fun sl n d X Y F K j t w _ _ hr _ he hK => ?_⟩
  · rcases nrow_up hr k with rfl | ⟨b, o, rfl, r⟩
    · cases he
    · exact list_no b o n d X Y F W h12 r he
  · obtain ⟨K, hK⟩ := row_tM he
    exact nask_p sl n d x y f t _ _ w (fun W k => nlist sl n d X Y F K W h12 (nrow_up hr k) hK) (fun w => pack_no x y f w hc)
  · obtain ⟨K, hK⟩ := row_tM he
    by_cases h0 : n = 0
    · subst h0
      rw [rgE_nil]
      exact nask_nil sl d j t _ w (fun W k => nlist sl 0 d X Y F K W h12 (nrow_up hr k) hK)
    by_cases h60 : 60 < t.size
    · rw [rgE_full h12 (by omega) he h60]
      exact nask_full sl n d j t _ w (by omega) h12 h60 ht (fun W k => nlist sl n d X Y F K W h12 (nrow_up hr k) hK)
    · rw [rgE_ok h12 (by omega) he (by omega)] at hg
      cases hg
  · obtain ⟨a1, a2, a3, a4⟩ := rgE_zero he
    exact nask_ok sl n d X Y F K j t w a1 a2 hr hK a4
set_option maxRecDepth 100000 in
set_option maxHeartbeats 4000000 in
theorem ncheck_no (sl ss : Option Addr) (n d m c : Nat) (t : ByteArray) (cc : Int) (w : World) (h : ∀ W, Below w.heap.size w W → Calls Tryd.prog 22 #[.slice sl n d, .agg #[.int .i64 0, .int .i64 0, .bool true], .string t] W fun e w' => e = .returned (.tuple #[.int .i64 0, errOf cc]) ∧ Below W.heap.size W w') : Calls Tryd.prog 10 #[.slice sl n d, .string t, .slice ss m c] w fun e w' => e = .returned (errOf cc) ∧ Below w.heap.size w w' := by
  have H : Hid (∀ W, Below w.heap.size w W → Calls Tryd.prog 22 #[.slice sl n d, .agg #[.int .i64 0, .int .i64 0, .bool true], .string t] W fun e w' => e = .returned (.tuple #[.int .i64 0, errOf cc]) ∧ Below W.heap.size W w') := h
  clear h
  have m1 : True := trivial
  go_enter Tryd.func10, Tryd.ntmps10
  go_wp2_with (go_at_call 22; clear m1; refine (H.out _ (by repeat (first | (with_reducible exact Below.refl _ _) | (with_reducible assumption) | (with_reducible refine Below.setCell ?_ (by first | (simp; done) | (simp; omega) | omega) _) | (with_reducible refine Below.alloc ?_ (by first | (simp; done) | (simp; omega) | omega) _) | (refine bl_call ?_ (by assumption) (by first | (simp; done) | (simp; omega) | omega)) | (with_reducible refine bl_drewN ?_) | (with_reducible refine Below.drew ?_) | (with_reducible refine bl_grow ?_ (by first | (simp; done) | (simp; omega) | omega))))).mono ?_; rintro e w1 ⟨rfl, hbw1⟩; have hqw1 : Below w.heap.size w w1 := (by repeat (first | (with_reducible exact Below.refl _ _) | (with_reducible assumption) | (with_reducible refine Below.setCell ?_ (by first | (simp; done) | (simp; omega) | omega) _) | (with_reducible refine Below.alloc ?_ (by first | (simp; done) | (simp; omega) | omega) _) | (refine bl_call ?_ (by assumption) (by first | (simp; done) | (simp; omega) | omega)) | (with_reducible refine bl_drewN ?_) | (with_reducible refine Below.drew ?_) | (with_reducible refine bl_grow ?_ (by first | (simp; done) | (simp; omega) | omega)))); have hzw1 := hqw1.size; clear hbw1)
  go_ret
  exact ⟨rfl, by repeat (first | (with_reducible exact Below.refl _ _) | (with_reducible assumption) | (with_reducible refine Below.setCell ?_ (by first | (simp; done) | (simp; omega) | omega) _) | (with_reducible refine Below.alloc ?_ (by first | (simp; done) | (simp; omega) | omega) _) | (refine bl_call ?_ (by assumption) (by first | (simp; done) | (simp; omega) | omega)) | (with_reducible refine bl_drewN ?_) | (with_reducible refine Below.drew ?_) | (with_reducible refine bl_grow ?_ (by first | (simp; done) | (simp; omega) | omega)))⟩
set_option maxRecDepth 100000 in
set_option maxHeartbeats 4000000 in
theorem ncheck_sh (sl ss : Option Addr) (n d m c : Nat) (t : ByteArray) (v : Int) (w : World) (hn : n ≤ 12) (hm : m ≤ 9223372036854775807) (hne : m ≠ n) (h : ∀ W, Below w.heap.size w W → Calls Tryd.prog 22 #[.slice sl n d, .agg #[.int .i64 0, .int .i64 0, .bool true], .string t] W fun e w' => e = .returned (.tuple #[.int .i64 v, .nilIface]) ∧ Below W.heap.size W w') : Calls Tryd.prog 10 #[.slice sl n d, .string t, .slice ss m c] w fun e w' => e = .returned (errOf 3) ∧ Below w.heap.size w w' := by
  have H : Hid (∀ W, Below w.heap.size w W → Calls Tryd.prog 22 #[.slice sl n d, .agg #[.int .i64 0, .int .i64 0, .bool true], .string t] W fun e w' => e = .returned (.tuple #[.int .i64 v, .nilIface]) ∧ Below W.heap.size W w') := h
  have T : ((m : Int) != (n : Int)) = true := by rw [bne_iff_ne]; omega
  clear h hne
  have m1 : True := trivial
  go_enter Tryd.func10, Tryd.ntmps10
  go_wp2_with (go_at_call 22; clear m1; refine (H.out _ (by repeat (first | (with_reducible exact Below.refl _ _) | (with_reducible assumption) | (with_reducible refine Below.setCell ?_ (by first | (simp; done) | (simp; omega) | omega) _) | (with_reducible refine Below.alloc ?_ (by first | (simp; done) | (simp; omega) | omega) _) | (refine bl_call ?_ (by assumption) (by first | (simp; done) | (simp; omega) | omega)) | (with_reducible refine bl_drewN ?_) | (with_reducible refine Below.drew ?_) | (with_reducible refine bl_grow ?_ (by first | (simp; done) | (simp; omega) | omega))))).mono ?_; rintro e w1 ⟨rfl, hbw1⟩; have hqw1 : Below w.heap.size w w1 := (by repeat (first | (with_reducible exact Below.refl _ _) | (with_reducible assumption) | (with_reducible refine Below.setCell ?_ (by first | (simp; done) | (simp; omega) | omega) _) | (with_reducible refine Below.alloc ?_ (by first | (simp; done) | (simp; omega) | omega) _) | (refine bl_call ?_ (by assumption) (by first | (simp; done) | (simp; omega) | omega)) | (with_reducible refine bl_drewN ?_) | (with_reducible refine Below.drew ?_) | (with_reducible refine bl_grow ?_ (by first | (simp; done) | (simp; omega) | omega)))); have hzw1 := hqw1.size; clear hbw1)
  go_ret
  exact ⟨rfl, by repeat (first | (with_reducible exact Below.refl _ _) | (with_reducible assumption) | (with_reducible refine Below.setCell ?_ (by first | (simp; done) | (simp; omega) | omega) _) | (with_reducible refine Below.alloc ?_ (by first | (simp; done) | (simp; omega) | omega) _) | (refine bl_call ?_ (by assumption) (by first | (simp; done) | (simp; omega) | omega)) | (with_reducible refine bl_drewN ?_) | (with_reducible refine Below.drew ?_) | (with_reducible refine bl_grow ?_ (by first | (simp; done) | (simp; omega) | omega)))⟩
set_option maxRecDepth 100000 in
set_option maxHeartbeats 4000000 in
theorem ncheck_ok (sl ss : Option Addr) (n d c : Nat) (t : ByteArray) (v : Int) (w : World) (hn : n ≤ 12) (h : ∀ W, Below w.heap.size w W → Calls Tryd.prog 22 #[.slice sl n d, .agg #[.int .i64 0, .int .i64 0, .bool true], .string t] W fun e w' => e = .returned (.tuple #[.int .i64 v, .nilIface]) ∧ Below W.heap.size W w') : Calls Tryd.prog 10 #[.slice sl n d, .string t, .slice ss n c] w fun e w' => e = .returned (.nilIface) ∧ Below w.heap.size w w' := by
  have H : Hid (∀ W, Below w.heap.size w W → Calls Tryd.prog 22 #[.slice sl n d, .agg #[.int .i64 0, .int .i64 0, .bool true], .string t] W fun e w' => e = .returned (.tuple #[.int .i64 v, .nilIface]) ∧ Below W.heap.size W w') := h
  have T : ((n : Int) != (n : Int)) = false := by simp
  clear h
  have m1 : True := trivial
  go_enter Tryd.func10, Tryd.ntmps10
  go_wp2_with (go_at_call 22; clear m1; refine (H.out _ (by repeat (first | (with_reducible exact Below.refl _ _) | (with_reducible assumption) | (with_reducible refine Below.setCell ?_ (by first | (simp; done) | (simp; omega) | omega) _) | (with_reducible refine Below.alloc ?_ (by first | (simp; done) | (simp; omega) | omega) _) | (refine bl_call ?_ (by assumption) (by first | (simp; done) | (simp; omega) | omega)) | (with_reducible refine bl_drewN ?_) | (with_reducible refine Below.drew ?_) | (with_reducible refine bl_grow ?_ (by first | (simp; done) | (simp; omega) | omega))))).mono ?_; rintro e w1 ⟨rfl, hbw1⟩; have hqw1 : Below w.heap.size w w1 := (by repeat (first | (with_reducible exact Below.refl _ _) | (with_reducible assumption) | (with_reducible refine Below.setCell ?_ (by first | (simp; done) | (simp; omega) | omega) _) | (with_reducible refine Below.alloc ?_ (by first | (simp; done) | (simp; omega) | omega) _) | (refine bl_call ?_ (by assumption) (by first | (simp; done) | (simp; omega) | omega)) | (with_reducible refine bl_drewN ?_) | (with_reducible refine Below.drew ?_) | (with_reducible refine bl_grow ?_ (by first | (simp; done) | (simp; omega) | omega)))); have hzw1 := hqw1.size; clear hbw1)
  go_ret
  exact ⟨rfl, by repeat (first | (with_reducible exact Below.refl _ _) | (with_reducible assumption) | (with_reducible refine Below.setCell ?_ (by first | (simp; done) | (simp; omega) | omega) _) | (with_reducible refine Below.alloc ?_ (by first | (simp; done) | (simp; omega) | omega) _) | (refine bl_call ?_ (by assumption) (by first | (simp; done) | (simp; omega) | omega)) | (with_reducible refine bl_drewN ?_) | (with_reducible refine Below.drew ?_) | (with_reducible refine bl_grow ?_ (by first | (simp; done) | (simp; omega) | omega)))⟩
theorem nfar_no (sl : Option Addr) (n d : Nat) (X Y : Nat → Int) (F : Nat → Bool) (t : ByteArray) (w : World) (hn : n ≤ 9223372036854775807) (hd : n ≤ d) (hr : (n = 0 ∨ ∃ b o : Nat, sl = some ⟨b, o, none⟩ ∧ RowO w b o n X Y F)) (ht : t.size ≤ 9223372036854775807) (he : (rgE X Y F n t == 0) = false) : ∀ W, Below w.heap.size w W → Calls Tryd.prog 22 #[.slice sl n d, .agg #[.int .i64 0, .int .i64 0, .bool true], .string t] W fun e w' => e = .returned (.tuple #[.int .i64 0, errOf (rgE X Y F n t)]) ∧ Below W.heap.size W w' := fun W k => by
  by_cases h12 : 12 < n
  · rw [rgE_many t h12]
    exact rask_is.1 sl n d 0 0 true t W h12 hn ht
  cases hc : rowE X Y F n == 0 with
  | false =>
    rw [rgE_row t (by omega) hc]
    exact rask_is.2.1 sl n d X Y F 0 0 true t W (by omega) hn hd (nrow_up hr k) ht hc
  | true => exact rask_is.2.2.2.1 sl n d X Y F 0 t W (by omega) hn hd (nrow_up hr k) ht (by simpa using hc) he
theorem nfar_ok (sl : Option Addr) (n d : Nat) (X Y : Nat → Int) (F : Nat → Bool) (t : ByteArray) (w : World) (hn : n ≤ 9223372036854775807) (hd : n ≤ d) (hr : (n = 0 ∨ ∃ b o : Nat, sl = some ⟨b, o, none⟩ ∧ RowO w b o n X Y F)) (ht : t.size ≤ 9223372036854775807) (he : rgE X Y F n t = 0) : ∃ v : Int, ∀ W, Below w.heap.size w W → Calls Tryd.prog 22 #[.slice sl n d, .agg #[.int .i64 0, .int .i64 0, .bool true], .string t] W fun e w' => e = .returned (.tuple #[.int .i64 v, .nilIface]) ∧ Below W.heap.size W w' := by
  obtain ⟨K, hK⟩ := row_tM (rgE_zero he).2.2.1
  exact ⟨(raN K n 0 t : Int), fun W k => rask_is.2.2.2.2 sl n d X Y F K 0 t W hn hd (nrow_up hr k) ht he hK⟩
set_option maxRecDepth 100000 in
set_option maxHeartbeats 4000000 in
theorem nnext (sl : Option Addr) (n d : Nat) (X Y : Nat → Int) (F : Nat → Bool) (K : Nat → Nat) (i c s : Nat) (t : ByteArray) (w : World) (hn : n ≤ 12) (hr : (n = 0 ∨ ∃ b o : Nat, sl = some ⟨b, o, none⟩ ∧ RowO w b o n X Y F)) (hK : (∀ i, i < n → X i = ((tM (K i)).1 : Int) ∧ Y i = ((tM (K i)).2.1 : Int) ∧ F i = (tM (K i)).2.2)) (ht : t.size ≤ 60) (hi : i < n) : Calls Tryd.prog 13 #[.slice sl n d, .int .i64 (i : Int), .int .i64 (c : Int), .int .i64 (s : Int), .string t] w fun e w' => e = .returned (.tuple #[.int .i64 (rnN K n i c s t : Int), .nilIface]) ∧ Below w.heap.size w w' := by
  obtain ⟨b, o, rfl, r⟩ := hr.resolve_left (by omega)
  obtain ⟨e0, e1, e2⟩ := hK i hi
  have hb := r.1
  have HR : Hid (RowO w b o n X Y F) := r
  have HA : Hid (∀ W, Below w.heap.size w W → Calls Tryd.prog 22 #[.slice (some ⟨b, o, none⟩) n d, .agg #[.int .i64 ((tM (4 * s + K i * c)).1 : Int), .int .i64 ((tM (4 * s + K i * c)).2.1 : Int), .bool (tM (4 * s + K i * c)).2.2], .string t] W fun e w' => e = .returned (.tuple #[.int .i64 (rnN K n i c s t : Int), .nilIface]) ∧ Below W.heap.size W w') := fun W k => nask_ok _ n d X Y F K _ t W (by omega) hn (Or.inr ⟨b, o, rfl, r.below r.1 k⟩) hK ht
  have E : Hid (tM (4 * em (s : Int) + K i * em (c : Int)) = tM (4 * s + K i * c)) := by
    unfold Hid
    rw [← tM_add, ← tM_add, tM_em, tM_em]
  have hi' : (i : Int) < n := by omega
  clear hr hK r
  have m1 : True := trivial; have m2 : True := trivial; have m3 : True := trivial; have m4 : True := trivial; have m5 : True := trivial
  go_enter Tryd.func13, Tryd.ntmps13
  go_wp2_with (first | (go_at_call 9; clear m1; refine (base_is _).mono ?_; rintro e w1 ⟨rfl, hbw1⟩; have hqw1 : Below w.heap.size w w1 := (by repeat (first | (with_reducible exact Below.refl _ _) | (with_reducible assumption) | (with_reducible refine Below.setCell ?_ (by first | (simp; done) | (simp; omega) | omega) _) | (with_reducible refine Below.alloc ?_ (by first | (simp; done) | (simp; omega) | omega) _) | (refine bl_call ?_ (by assumption) (by first | (simp; done) | (simp; omega) | omega)) | (with_reducible refine bl_drewN ?_) | (with_reducible refine Below.drew ?_) | (with_reducible refine bl_grow ?_ (by first | (simp; done) | (simp; omega) | omega)))); have hzw1 := hqw1.size; clear hbw1) | (go_at_call 8; clear m2; refine (times_tM 4 (s : Int) _).mono ?_; rintro e w2 ⟨rfl, hbw2⟩; have hqw2 : Below w.heap.size w w2 := (by repeat (first | (with_reducible exact Below.refl _ _) | (with_reducible assumption) | (with_reducible refine Below.setCell ?_ (by first | (simp; done) | (simp; omega) | omega) _) | (with_reducible refine Below.alloc ?_ (by first | (simp; done) | (simp; omega) | omega) _) | (refine bl_call ?_ (by assumption) (by first | (simp; done) | (simp; omega) | omega)) | (with_reducible refine bl_drewN ?_) | (with_reducible refine Below.drew ?_) | (with_reducible refine bl_grow ?_ (by first | (simp; done) | (simp; omega) | omega)))); have hzw2 := hqw2.size; obtain ⟨c0, c1, c2⟩ := (HR.out.below hb hqw2).2 i hi; rw [e0] at c0; rw [e1] at c1; rw [e2] at c2; have hxw2 := Nat.lt_of_lt_of_le hb hzw2; clear  hqw1; clear hbw2) | (go_at_call 8; clear m3; refine (times_tM (K i) (c : Int) _).mono ?_; rintro e w3 ⟨rfl, hbw3⟩; have kaw3 : At w3 (w2.heap.size) [.int .i64 ((tM (4 * em (s : Int))).1 : Int), .int .i64 ((tM (4 * em (s : Int))).2.1 : Int), .bool (tM (4 * em (s : Int))).2.2] := (by repeat (first | (with_reducible assumption) | ((with_reducible refine at_new' _ _ _ _ ?_); (first | rfl | (simp; done))) | (with_reducible refine At.alloc ?_ _) | (with_reducible refine At.drew ?_) | (with_reducible refine At.drewN ?_) | (with_reducible refine At.set ?_ (by omega)) | (with_reducible apply At.store4) | (with_reducible apply At.store3) | (with_reducible apply At.store2) | (with_reducible apply At.put43) | (refine At.below ?_ (by with_reducible assumption)))); have hqw3 : Below w.heap.size w w3 := (by repeat (first | (with_reducible exact Below.refl _ _) | (with_reducible assumption) | (with_reducible refine Below.setCell ?_ (by first | (simp; done) | (simp; omega) | omega) _) | (with_reducible refine Below.alloc ?_ (by first | (simp; done) | (simp; omega) | omega) _) | (refine bl_call ?_ (by assumption) (by first | (simp; done) | (simp; omega) | omega)) | (with_reducible refine bl_drewN ?_) | (with_reducible refine Below.drew ?_) | (with_reducible refine bl_grow ?_ (by first | (simp; done) | (simp; omega) | omega)))); have hzw3 := hqw3.size; obtain ⟨zaw3, ca0w3, ca1w3, ca2w3, fa0w3, fa1w3, fa2w3⟩ := kaw3.three; clear  hqw2; clear hbw3) | (go_at_call 25; clear m4; refine (cadd_eq E.out _).mono ?_; rintro e w4 ⟨rfl, hbw4⟩; have hqw4 : Below w.heap.size w w4 := (by repeat (first | (with_reducible exact Below.refl _ _) | (with_reducible assumption) | (with_reducible refine Below.setCell ?_ (by first | (simp; done) | (simp; omega) | omega) _) | (with_reducible refine Below.alloc ?_ (by first | (simp; done) | (simp; omega) | omega) _) | (refine bl_call ?_ (by assumption) (by first | (simp; done) | (simp; omega) | omega)) | (with_reducible refine bl_drewN ?_) | (with_reducible refine Below.drew ?_) | (with_reducible refine bl_grow ?_ (by first | (simp; done) | (simp; omega) | omega)))); have hzw4 := hqw4.size; clear kaw3 ca0w3 fa0w3 ca1w3 fa1w3 ca2w3 fa2w3 hqw3; clear hbw4) | (go_at_call 22; clear m5; refine (HA.out _ (by repeat (first | (with_reducible exact Below.refl _ _) | (with_reducible assumption) | (with_reducible refine Below.setCell ?_ (by first | (simp; done) | (simp; omega) | omega) _) | (with_reducible refine Below.alloc ?_ (by first | (simp; done) | (simp; omega) | omega) _) | (refine bl_call ?_ (by assumption) (by first | (simp; done) | (simp; omega) | omega)) | (with_reducible refine bl_drewN ?_) | (with_reducible refine Below.drew ?_) | (with_reducible refine bl_grow ?_ (by first | (simp; done) | (simp; omega) | omega))))).mono ?_; rintro e w5 ⟨rfl, hbw5⟩; have hqw5 : Below w.heap.size w w5 := (by repeat (first | (with_reducible exact Below.refl _ _) | (with_reducible assumption) | (with_reducible refine Below.setCell ?_ (by first | (simp; done) | (simp; omega) | omega) _) | (with_reducible refine Below.alloc ?_ (by first | (simp; done) | (simp; omega) | omega) _) | (refine bl_call ?_ (by assumption) (by first | (simp; done) | (simp; omega) | omega)) | (with_reducible refine bl_drewN ?_) | (with_reducible refine Below.drew ?_) | (with_reducible refine bl_grow ?_ (by first | (simp; done) | (simp; omega) | omega)))); have hzw5 := hqw5.size; clear  hqw4; clear hbw5))
  exact bodyPost_ret (v := .tuple #[.int .i64 (rnN K n i c s t : Int), .nilIface]) (by simp [results, Tryd.results13, go_sem, *]) rfl ⟨rfl, by repeat (first | (with_reducible exact Below.refl _ _) | (with_reducible assumption) | (with_reducible refine Below.setCell ?_ (by first | (simp; done) | (simp; omega) | omega) _) | (with_reducible refine Below.alloc ?_ (by first | (simp; done) | (simp; omega) | omega) _) | (refine bl_call ?_ (by assumption) (by first | (simp; done) | (simp; omega) | omega)) | (with_reducible refine bl_drewN ?_) | (with_reducible refine Below.drew ?_) | (with_reducible refine bl_grow ?_ (by first | (simp; done) | (simp; omega) | omega)))⟩
theorem nmade {W : World} {B g n : Nat} (h : W.ownsRow B 3 1 (.slice (some ⟨g, 0, none⟩) n n) n (madeCells #[Value.int .i64 0] n).toList) : W.ownsRow B 3 1 (.slice (some ⟨g, 0, none⟩) n n) n (cellsI (fun _ => 0) n) := by
  have e : (madeCells #[Value.int .i64 0] n).toList = cellsI (fun _ => 0) n := by
    rw [toList_madeCells_one]
    unfold cellsI
    apply List.ext_getElem
    · simp
    · intro i h1 h2; simp
  rwa [e] at h
set_option maxRecDepth 100000 in
set_option maxHeartbeats 4000000 in
theorem naround (sl : Option Addr) (n d : Nat) (X Y : Nat → Int) (F : Nat → Bool) (K s : Nat → Nat) (S : Nat → Int) (a k b o c : Nat) (t : ByteArray) (w : World) (hn : n ≤ 12) (hr : (n = 0 ∨ ∃ b o : Nat, sl = some ⟨b, o, none⟩ ∧ RowO w b o n X Y F)) (hK : (∀ i, i < n → X i = ((tM (K i)).1 : Int) ∧ Y i = ((tM (K i)).2.1 : Int) ∧ F i = (tM (K i)).2.2)) (hs : RowI w b o n S) (hS : ∀ i, i < n → i ≠ a → S i = (s i : Int)) (ha : a < n) (hk : k < 1013) (ht : t.size ≤ 60) :
    Calls Tryd.prog 17 #[.slice sl n d, .int .i64 (a : Int), .int .i64 (k : Int), .slice (some ⟨b, o, none⟩) n c, .string t] w fun ex w' => ∃ g : Nat, w.heap.size ≤ g ∧ ex = .returned (.tuple #[.slice (some ⟨g, 0, none⟩) n n, .nilIface]) ∧ RowI w' g 0 n (alN K s n t a k) ∧ Below w.heap.size w w' := by
  have HN : Hid (∀ (i c s : Nat) W, Below w.heap.size w W → i < n → Calls Tryd.prog 13 #[.slice sl n d, .int .i64 (i : Int), .int .i64 (c : Int), .int .i64 (s : Int), .string t] W fun e w' => e = .returned (.tuple #[.int .i64 (rnN K n i c s t : Int), .nilIface]) ∧ Below W.heap.size W w') := fun i c s W q hi => nnext sl n d X Y F K i c s t W hn (nrow_up hr q) hK ht hi
  have HA : Hid (∀ W, Below w.heap.size w W → Calls Tryd.prog 22 #[.slice sl n d, .agg #[.int .i64 ((tM (4 * k)).1 : Int), .int .i64 ((tM (4 * k)).2.1 : Int), .bool (tM (4 * k)).2.2], .string t] W fun e w' => e = .returned (.tuple #[.int .i64 (rsN K s n t a k 0 : Int), .nilIface]) ∧ Below W.heap.size W w') := fun W q => nask_ok sl n d X Y F K (4 * k) t W (by omega) hn (nrow_up hr q) hK ht
  have HS : Hid (RowI w b o n S) := hs
  have HSN : Hid (∀ i, i < n → i ≠ a → S i = (s i : Int)) := hS
  have EK : Hid (tM (4 * em (k : Int)) = tM (4 * k)) := tM_em _ _
  have hb := hs.1
  clear hr hK hs hS
  obtain ⟨i0, hi, hv0, hv1, hv2⟩ := info_parts niinfo
  have m1 : True := trivial; have m2 : True := trivial; have m3 : True := trivial
  go_enter Tryd.func17, Tryd.ntmps17
  go_wp2_with (at_make; refine wpList_make_full _ rfl _ _ 30 rfl w.heap.size 3 i0 (.int .i64 0) 1 Tryd.underlying30 hi hv0 hv1 _ _ _ _ n rfl rfl rfl rfl ?b2 ?b3 ?b4 ?_)
  case b2 => rw [hv2]; omega
  case b3 => unfold maxLen; omega
  case b4 => exact Nat.le_refl _
  intro w2 hown0 hgrow
  have hqw2 : Below w.heap.size w w2 := (Below.refl _ _ : Below w.heap.size w _).grown hgrow (Nat.le_refl _) (fun k hk => by cases hk)
  have hown := nmade hown0
  have hzw2 := hqw2.size
  clear hgrow hown0
  go_wp2_with (first | (go_at_call 9; clear m1; refine (base_is _).mono ?_; rintro e w3 ⟨rfl, hbw3⟩; have hqw3 : Below w.heap.size w w3 := (by repeat (first | (with_reducible exact Below.refl _ _) | (with_reducible assumption) | (with_reducible refine Below.setCell ?_ (by first | (simp; done) | (simp; omega) | omega) _) | (with_reducible refine Below.alloc ?_ (by first | (simp; done) | (simp; omega) | omega) _) | (refine bl_call ?_ (by assumption) (by first | (simp; done) | (simp; omega) | omega)) | (with_reducible refine bl_drewN ?_) | (with_reducible refine Below.drew ?_) | (with_reducible refine bl_grow ?_ (by first | (simp; done) | (simp; omega) | omega)))); have hzw3 := hqw3.size; clear  hqw2; have ho3 := own_stay hown hbw3; clear hbw3 hown) | (go_at_call 8; clear m2; refine (times_eq EK.out _).mono ?_; rintro e w4 ⟨rfl, hbw4⟩; have hqw4 : Below w.heap.size w w4 := (by repeat (first | (with_reducible exact Below.refl _ _) | (with_reducible assumption) | (with_reducible refine Below.setCell ?_ (by first | (simp; done) | (simp; omega) | omega) _) | (with_reducible refine Below.alloc ?_ (by first | (simp; done) | (simp; omega) | omega) _) | (refine bl_call ?_ (by assumption) (by first | (simp; done) | (simp; omega) | omega)) | (with_reducible refine bl_drewN ?_) | (with_reducible refine Below.drew ?_) | (with_reducible refine bl_grow ?_ (by first | (simp; done) | (simp; omega) | omega)))); have hzw4 := hqw4.size; clear  hqw3; have ho4 := own_stay ho3 hbw4; clear hbw4 ho3) | (go_at_call 22; clear m3; refine (HA.out _ (by repeat (first | (with_reducible exact Below.refl _ _) | (with_reducible assumption) | (with_reducible refine Below.setCell ?_ (by first | (simp; done) | (simp; omega) | omega) _) | (with_reducible refine Below.alloc ?_ (by first | (simp; done) | (simp; omega) | omega) _) | (refine bl_call ?_ (by assumption) (by first | (simp; done) | (simp; omega) | omega)) | (with_reducible refine bl_drewN ?_) | (with_reducible refine Below.drew ?_) | (with_reducible refine bl_grow ?_ (by first | (simp; done) | (simp; omega) | omega))))).mono ?_; rintro e w5 ⟨rfl, hbw5⟩; have hqw5 : Below w.heap.size w w5 := (by repeat (first | (with_reducible exact Below.refl _ _) | (with_reducible assumption) | (with_reducible refine Below.setCell ?_ (by first | (simp; done) | (simp; omega) | omega) _) | (with_reducible refine Below.alloc ?_ (by first | (simp; done) | (simp; omega) | omega) _) | (refine bl_call ?_ (by assumption) (by first | (simp; done) | (simp; omega) | omega)) | (with_reducible refine bl_drewN ?_) | (with_reducible refine Below.drew ?_) | (with_reducible refine bl_grow ?_ (by first | (simp; done) | (simp; omega) | omega)))); have hzw5 := hqw5.size; clear  hqw4; have ho5 := own_stay (ho4.alloc _) hbw5; clear hbw5 ho4))
  
  go_loopw [16, 44] (fun tn ti wl => ∃ j : Nat, j ≤ n - 1 ∧ ti = .int .i64 (j : Int) ∧ tn = .int .i64 (rsN K s n t a k j : Int) ∧ wl.ownsRow (w.heap.size) 3 1 (.slice (some ⟨w.heap.size, 0, none⟩) n n) n (cellsI (ahN K s n t a k j) n) ∧ Below w.heap.size w wl) (fun _ ti _ => n - (intOf ti).toNat)
  case atStart => exact ⟨0, by omega, rfl, rfl, ho5, by repeat (first | (with_reducible exact Below.refl _ _) | (with_reducible assumption) | (with_reducible refine Below.setCell ?_ (by first | (simp; done) | (simp; omega) | omega) _) | (with_reducible refine Below.alloc ?_ (by first | (simp; done) | (simp; omega) | omega) _) | (refine bl_call ?_ (by assumption) (by first | (simp; done) | (simp; omega) | omega)) | (with_reducible refine bl_drewN ?_) | (with_reducible refine Below.drew ?_) | (with_reducible refine bl_grow ?_ (by first | (simp; done) | (simp; omega) | omega)))⟩
  case round =>
    clear ho5 hqw5
    obtain ⟨j, hj, rfl, rfl, hoV, hqV⟩ := hrel
    rename World => V
    have hzV := hqV.size
    by_cases hlt : j < n - 1
    · have hlt' : (j : Int) < (n : Int) - 1 := by omega
      have hn0 : ((n : Int) == 0) = false := by rw [beq_eq_false_iff_ne]; omega
      obtain ⟨I, hI⟩ : ∃ I, (a + 1 + j) % n = I := ⟨_, rfl⟩
      have hIn : I < n := by rw [← hI]; exact Nat.mod_lt _ (by omega)
      have hIn' : (I : Int) < n := by omega
      have hIa : I ≠ a := by
        intro h
        have := np_ne (n := n) (a := a) (j := j) (m := n - 1) hlt (by omega)
        rw [hI, show a + 1 + (n - 1) = a + n by omega, Nat.add_mod_right, Nat.mod_eq_of_lt ha] at this
        exact this h
      have E2 : Hid (((a : Int) + 1 + (j : Int)) % (n : Int) = (I : Int)) := by
        unfold Hid
        rw [← hI, Int.natCast_emod]; rfl
      have HA1 : Hid (ahN K s n t a k (j + 1) = extN (ahN K s n t a k j) I (rsN K s n t a k j : Int)) := by unfold Hid; rw [← hI]; rfl
      have c0 := (HS.out.below hb hqV).2 I hIn
      rw [HSN.out I hIn hIa] at c0
      have hbV := Nat.lt_of_lt_of_le hb hzV
      have hgV := (hoV.lt _ rfl).2
      have fzV := hoV.frozenAt I
      have czV := (hoV.cellAt I (by omega)).trans (cellsI_at _ hIn)
      have hoS := nstored hoV I (rsN K s n t a k j : Int)
      have HNi' : Hid (∀ W, Below w.heap.size w W → Calls Tryd.prog 13 #[.slice sl n d, .int .i64 (I : Int), .int .i64 (rsN K s n t a k j : Int), .int .i64 (s I : Int), .string t] W fun e w' => e = .returned (.tuple #[.int .i64 (rsN K s n t a k (j + 1) : Int), .nilIface]) ∧ Below W.heap.size W w') := fun W q => by
        have := HN.out I (rsN K s n t a k j) (s I) W q hIn
        rw [show rnN K n I (rsN K s n t a k j) (s I) t = rsN K s n t a k (j + 1) by rw [← hI]; rfl] at this
        exact this
      have hbne : b ≠ w.heap.size := by omega
      clear hI
      go_upto_region 13 with fail
      
      rw [E2.out]
      go_wp2_with (go_at_call 13; refine (HNi'.out _ (by repeat (first | (with_reducible exact Below.refl _ _) | (with_reducible assumption) | (with_reducible refine Below.setCell ?_ (by first | (simp; done) | (simp; omega) | omega) _) | (with_reducible refine Below.alloc ?_ (by first | (simp; done) | (simp; omega) | omega) _) | (refine bl_call ?_ (by assumption) (by first | (simp; done) | (simp; omega) | omega)) | (with_reducible refine bl_drewN ?_) | (with_reducible refine Below.drew ?_) | (with_reducible refine bl_grow ?_ (by first | (simp; done) | (simp; omega) | omega))))).mono ?_; rintro e w6 ⟨rfl, hb6⟩; have ho6 := own_stay hoS hb6; have hq6 : Below w.heap.size w w6 := (by repeat (first | (with_reducible exact Below.refl _ _) | (with_reducible assumption) | (with_reducible refine Below.setCell ?_ (by first | (simp; done) | (simp; omega) | omega) _) | (with_reducible refine Below.alloc ?_ (by first | (simp; done) | (simp; omega) | omega) _) | (refine bl_call ?_ (by assumption) (by first | (simp; done) | (simp; omega) | omega)) | (with_reducible refine bl_drewN ?_) | (with_reducible refine Below.drew ?_) | (with_reducible refine bl_grow ?_ (by first | (simp; done) | (simp; omega) | omega)))); have hz6 := hq6.size; clear hb6)
      
      go_roundw
      case rel => exact ⟨j + 1, by omega, by simp, rfl, by rw [HA1.out]; exact ho6, by repeat (first | (with_reducible exact Below.refl _ _) | (with_reducible assumption) | (with_reducible refine Below.setCell ?_ (by first | (simp; done) | (simp; omega) | omega) _) | (with_reducible refine Below.alloc ?_ (by first | (simp; done) | (simp; omega) | omega) _) | (refine bl_call ?_ (by assumption) (by first | (simp; done) | (simp; omega) | omega)) | (with_reducible refine bl_drewN ?_) | (with_reducible refine Below.drew ?_) | (with_reducible refine bl_grow ?_ (by first | (simp; done) | (simp; omega) | omega)))⟩
      case measure => simp [intOf]; omega
    · have hlt' : ¬ (j : Int) < (n : Int) - 1 := by omega
      have HJ : Hid (j = n - 1) := by unfold Hid; omega
      have ha' : (a : Int) < n := by omega
      have hgV := (hoV.lt _ rfl).2
      have fzV := hoV.frozenAt a
      have czV := (hoV.cellAt a (by omega)).trans (cellsI_at _ ha)
      have HO : Hid ((V.setCell ⟨w.heap.size, a, none⟩ (.int .i64 (rsN K s n t a k j : Int))).ownsRow (w.heap.size) 3 1 (.slice (some ⟨w.heap.size, 0, none⟩) n n) n (cellsI (alN K s n t a k) n)) := by
        unfold Hid
        have := nstored hoV a (rsN K s n t a k j : Int)
        rw [HJ.out] at this ⊢
        exact this
      go_wp2_with fail
      
      refine bodyPost_ret (v := .tuple #[.slice (some ⟨w.heap.size, 0, none⟩) n n, .nilIface]) (by simp [results, Tryd.results17, go_sem, *]) rfl ?_
      exact ⟨w.heap.size, Nat.le_refl _, rfl, nrowI HO.out, by repeat (first | (with_reducible exact Below.refl _ _) | (with_reducible assumption) | (with_reducible refine Below.setCell ?_ (by first | (simp; done) | (simp; omega) | omega) _) | (with_reducible refine Below.alloc ?_ (by first | (simp; done) | (simp; omega) | omega) _) | (refine bl_call ?_ (by assumption) (by first | (simp; done) | (simp; omega) | omega)) | (with_reducible refine bl_drewN ?_) | (with_reducible refine Below.drew ?_) | (with_reducible refine bl_grow ?_ (by first | (simp; done) | (simp; omega) | omega)))⟩
set_option maxRecDepth 100000 in
set_option maxHeartbeats 4000000 in
theorem nclone (b o n c : Nat) (S : Nat → Int) (w : World) (hn : n ≤ 12) (hs : RowI w b o n S) : Calls Tryd.prog 16 #[.slice (some ⟨b, o, none⟩) n c] w fun ex w' => ∃ g e : Nat, n ≤ e ∧ w.heap.size ≤ g ∧ ex = .returned (.slice (some ⟨g, 0, none⟩) n e) ∧ w'.ownsRow w.heap.size 3 1 (.slice (some ⟨g, 0, none⟩) n e) n (cellsI S n) ∧ Below w.heap.size w w' := by
  have HS : Hid (RowI w b o n S) := hs
  have hb := hs.1
  have q22 : ∀ (w : World) (a : Option Addr) (n c n' c' : Nat), (binOp .eql 30 (.slice a n c) (.slice none n' c')).run Tryd.prog w = .ok (.bool a.isNone) w := fun w a n c n' c' => Lib.run_eql_slice_nil w _ _ a n c n' c' Tryd.underlying30
  clear hs
  obtain ⟨i0, hi, hv0, hv1, hv2⟩ := info_parts niinfo
  go_enter Tryd.func16, Tryd.ntmps16
  go_wp2_with (at_builtin; refine wpList_append_own _ rfl _ _ 30 rfl w.heap.size 3 i0 (.int .i64 0) 1 8 Tryd.underlying30 hi hv0 hv1 hv2 rfl (by decide) _ _ _ rfl (World.ownsRow_made w #[] 0 (Nat.le_refl _) (Nat.zero_le _) rfl) ⟨b, o, none⟩ n c (cellsI S n) rfl ?c0 ?c1 ?c2 ?c3 ?c4 ?c5 ?_)
  
  case c0 => simp [cellsI]
  case c1 =>
    intro j u hj
    have hl : j < n := by
      have := (List.getElem?_eq_some_iff.1 hj).1
      simpa [cellsI] using this
    rw [cellsI_at S hl] at hj
    rw [Addr.add_lit, ← hj]
    exact (Below.cell (p := ⟨b, o + j, none⟩) (show Below w.heap.size w _ from by repeat (first | (with_reducible exact Below.refl _ _) | (with_reducible assumption) | (with_reducible refine Below.setCell ?_ (by first | (simp; done) | (simp; omega) | omega) _) | (with_reducible refine Below.alloc ?_ (by first | (simp; done) | (simp; omega) | omega) _) | (refine bl_call ?_ (by assumption) (by first | (simp; done) | (simp; omega) | omega)) | (with_reducible refine bl_drewN ?_) | (with_reducible refine Below.drew ?_) | (with_reducible refine bl_grow ?_ (by first | (simp; done) | (simp; omega) | omega)))) hb).trans (HS.out.2 j hl)
  case c2 => intro u hu; simp [cellsI] at hu; obtain ⟨_, _, rfl⟩ := hu; rfl
  case c3 => unfold maxLen; omega
  case c4 => omega
  case c5 => simp
  intro v' w1 hown hgrow hnil
  have hq : Below w.heap.size w w1 := ((Below.refl _ w).alloc (Nat.le_refl _) _).grown hgrow (by simp) (by intro k hk; simp [Value.ownBlock] at hk; omega)
  have hv : v' ≠ .slice none 0 0 := hnil
  obtain ⟨g, e, he, rfl, hg⟩ : ∃ g e : Nat, n ≤ e ∧ v' = .slice (some ⟨g, 0, none⟩) n e ∧ w.heap.size ≤ g := by
    rcases hown.2 with ⟨h1, _⟩ | ⟨g, cap, cur, h1, h2, h3, h4, _⟩
    · exact absurd h1 hv
    · exact ⟨g, cap, h4, h1, h2⟩
  clear hgrow hnil hv
  go_wp2_with fail
  go_ret
  exact ⟨g, e, he, hg, rfl, hown, hq⟩
end Go.Proofs.YtiddfngopoednaiDoor
