/- stonelaw3.LogStops answers true, by what packages book and log are to answer. -/
import Derived.Test.YtpkkclcjiobgoajGreatDoorLogStopsL
import Derived.Test.YtpkkclcjiobgoajGreatDoorLogIs
import Derived.Test.YtpkkclcjiobgoajGreatDoorLogOnIs
namespace Go.Proofs.YtpkkclcjiobgoajGreatDoor
open Go.RowKit Go.Sort
set_option linter.unusedVariables false
set_option linter.unusedSimpArgs false
set_option maxRecDepth 100000 in
set_option maxHeartbeats 4000000 in
theorem lstops_o1 (a m keep : Int) (R0 : Sn) (z0 : Int) (w : World) (h0 : ∀ w, Calls Tryz.prog 14 #[.int .i64 0, .int .i64 1, .agg #[.int .i64 0, .int .i64 0, .bool true]] w fun ex w' => ex = .returned (.tuple #[.agg #[.int .i64 ((R0).1 : Int), .int .i64 ((R0).2.1 : Int), .bool (R0).2.2, .int .i64 z0], .nilIface]) ∧ Below w.heap.size w w') (h1 : ∀ W, Calls Tryz.prog 29 #[.slice none 0 0] W fun ex w' => ∃ vj, ex = .returned (.tuple #[vj, .nilIface]) ∧ Below W.heap.size W w') (k1 : a < 0) : Calls Tryz.prog 4 #[.int .i64 a, .int .i64 m, .int .i64 keep] w fun e w' => e = .returned (.bool true) ∧ Below w.heap.size w w' := by
  have HC0 : Hid (∀ w, Calls Tryz.prog 14 #[.int .i64 0, .int .i64 1, .agg #[.int .i64 0, .int .i64 0, .bool true]] w fun ex w' => ex = .returned (.tuple #[.agg #[.int .i64 ((R0).1 : Int), .int .i64 ((R0).2.1 : Int), .bool (R0).2.2, .int .i64 z0], .nilIface]) ∧ Below w.heap.size w w') := h0
  have HNW : Hid (∀ W, Calls Tryz.prog 29 #[.slice none 0 0] W fun ex w' => ∃ vj, ex = .returned (.tuple #[vj, .nilIface]) ∧ Below W.heap.size W w') := h1
  clear h0 h1
  have m1 : True := trivial; have m2 : True := trivial
  go_enter Tryz.func4, Tryz.ntmps4
  go_wp2_with (first | (go_at_call 14; clear m1; refine (HC0.out _).mono ?_; rintro e w1 ⟨rfl, hbw1⟩; have hqw1 : Below w.heap.size w w1 := (by repeat (first | (with_reducible exact Below.refl _ _) | (with_reducible assumption) | (with_reducible refine Below.setCell ?_ (by first | (simp; done) | (simp; omega) | omega) _) | (with_reducible refine Below.alloc ?_ (by first | (simp; done) | (simp; omega) | omega) _) | (refine bl_call ?_ (by assumption) (by first | (simp; done) | (simp; omega) | omega)) | (with_reducible refine bl_drewN ?_) | (with_reducible refine Below.drew ?_) | (with_reducible refine bl_grow ?_ (by first | (simp; done) | (simp; omega) | omega)))); have hzw1 := hqw1.size; clear hbw1) | (go_at_call 29; clear m2; refine (HNW.out _).mono ?_; rintro e w2 ⟨vj, rfl, hb2⟩; have hqw2 : Below w.heap.size w w2 := (by repeat (first | (with_reducible exact Below.refl _ _) | (with_reducible assumption) | (with_reducible refine Below.setCell ?_ (by first | (simp; done) | (simp; omega) | omega) _) | (with_reducible refine Below.alloc ?_ (by first | (simp; done) | (simp; omega) | omega) _) | (refine bl_call ?_ (by assumption) (by first | (simp; done) | (simp; omega) | omega)) | (with_reducible refine bl_drewN ?_) | (with_reducible refine Below.drew ?_) | (with_reducible refine bl_grow ?_ (by first | (simp; done) | (simp; omega) | omega)))); clear hb2))
  go_ret
  exact ⟨rfl, by repeat (first | (with_reducible exact Below.refl _ _) | (with_reducible assumption) | (with_reducible refine Below.setCell ?_ (by first | (simp; done) | (simp; omega) | omega) _) | (with_reducible refine Below.alloc ?_ (by first | (simp; done) | (simp; omega) | omega) _) | (refine bl_call ?_ (by assumption) (by first | (simp; done) | (simp; omega) | omega)) | (with_reducible refine bl_drewN ?_) | (with_reducible refine Below.drew ?_) | (with_reducible refine bl_grow ?_ (by first | (simp; done) | (simp; omega) | omega)))⟩
set_option maxRecDepth 100000 in
set_option maxHeartbeats 4000000 in
theorem lstops_o2 (a m keep : Int) (R0 : Sn) (z0 : Int) (w : World) (h0 : ∀ w, Calls Tryz.prog 14 #[.int .i64 0, .int .i64 1, .agg #[.int .i64 0, .int .i64 0, .bool true]] w fun ex w' => ex = .returned (.tuple #[.agg #[.int .i64 ((R0).1 : Int), .int .i64 ((R0).2.1 : Int), .bool (R0).2.2, .int .i64 z0], .nilIface]) ∧ Below w.heap.size w w') (h1 : ∀ W, Calls Tryz.prog 29 #[.slice none 0 0] W fun ex w' => ∃ vj, ex = .returned (.tuple #[vj, .nilIface]) ∧ Below W.heap.size W w') (k1 : ¬ a < 0) (k2 : a > 12) : Calls Tryz.prog 4 #[.int .i64 a, .int .i64 m, .int .i64 keep] w fun e w' => e = .returned (.bool true) ∧ Below w.heap.size w w' := by
  have HC0 : Hid (∀ w, Calls Tryz.prog 14 #[.int .i64 0, .int .i64 1, .agg #[.int .i64 0, .int .i64 0, .bool true]] w fun ex w' => ex = .returned (.tuple #[.agg #[.int .i64 ((R0).1 : Int), .int .i64 ((R0).2.1 : Int), .bool (R0).2.2, .int .i64 z0], .nilIface]) ∧ Below w.heap.size w w') := h0
  have HNW : Hid (∀ W, Calls Tryz.prog 29 #[.slice none 0 0] W fun ex w' => ∃ vj, ex = .returned (.tuple #[vj, .nilIface]) ∧ Below W.heap.size W w') := h1
  clear h0 h1
  have m1 : True := trivial; have m2 : True := trivial
  go_enter Tryz.func4, Tryz.ntmps4
  go_wp2_with (first | (go_at_call 14; clear m1; refine (HC0.out _).mono ?_; rintro e w1 ⟨rfl, hbw1⟩; have hqw1 : Below w.heap.size w w1 := (by repeat (first | (with_reducible exact Below.refl _ _) | (with_reducible assumption) | (with_reducible refine Below.setCell ?_ (by first | (simp; done) | (simp; omega) | omega) _) | (with_reducible refine Below.alloc ?_ (by first | (simp; done) | (simp; omega) | omega) _) | (refine bl_call ?_ (by assumption) (by first | (simp; done) | (simp; omega) | omega)) | (with_reducible refine bl_drewN ?_) | (with_reducible refine Below.drew ?_) | (with_reducible refine bl_grow ?_ (by first | (simp; done) | (simp; omega) | omega)))); have hzw1 := hqw1.size; clear hbw1) | (go_at_call 29; clear m2; refine (HNW.out _).mono ?_; rintro e w2 ⟨vj, rfl, hb2⟩; have hqw2 : Below w.heap.size w w2 := (by repeat (first | (with_reducible exact Below.refl _ _) | (with_reducible assumption) | (with_reducible refine Below.setCell ?_ (by first | (simp; done) | (simp; omega) | omega) _) | (with_reducible refine Below.alloc ?_ (by first | (simp; done) | (simp; omega) | omega) _) | (refine bl_call ?_ (by assumption) (by first | (simp; done) | (simp; omega) | omega)) | (with_reducible refine bl_drewN ?_) | (with_reducible refine Below.drew ?_) | (with_reducible refine bl_grow ?_ (by first | (simp; done) | (simp; omega) | omega)))); clear hb2))
  go_ret
  exact ⟨rfl, by repeat (first | (with_reducible exact Below.refl _ _) | (with_reducible assumption) | (with_reducible refine Below.setCell ?_ (by first | (simp; done) | (simp; omega) | omega) _) | (with_reducible refine Below.alloc ?_ (by first | (simp; done) | (simp; omega) | omega) _) | (refine bl_call ?_ (by assumption) (by first | (simp; done) | (simp; omega) | omega)) | (with_reducible refine bl_drewN ?_) | (with_reducible refine Below.drew ?_) | (with_reducible refine bl_grow ?_ (by first | (simp; done) | (simp; omega) | omega)))⟩
set_option maxRecDepth 100000 in
set_option maxHeartbeats 4000000 in
theorem lstops_o3 (a m keep : Int) (R0 : Sn) (z0 : Int) (w : World) (h0 : ∀ w, Calls Tryz.prog 14 #[.int .i64 0, .int .i64 1, .agg #[.int .i64 0, .int .i64 0, .bool true]] w fun ex w' => ex = .returned (.tuple #[.agg #[.int .i64 ((R0).1 : Int), .int .i64 ((R0).2.1 : Int), .bool (R0).2.2, .int .i64 z0], .nilIface]) ∧ Below w.heap.size w w') (h1 : ∀ W, Calls Tryz.prog 29 #[.slice none 0 0] W fun ex w' => ∃ vj, ex = .returned (.tuple #[vj, .nilIface]) ∧ Below W.heap.size W w') (k1 : ¬ a < 0) (k2 : ¬ a > 12) (k3 : m < 0) : Calls Tryz.prog 4 #[.int .i64 a, .int .i64 m, .int .i64 keep] w fun e w' => e = .returned (.bool true) ∧ Below w.heap.size w w' := by
  have HC0 : Hid (∀ w, Calls Tryz.prog 14 #[.int .i64 0, .int .i64 1, .agg #[.int .i64 0, .int .i64 0, .bool true]] w fun ex w' => ex = .returned (.tuple #[.agg #[.int .i64 ((R0).1 : Int), .int .i64 ((R0).2.1 : Int), .bool (R0).2.2, .int .i64 z0], .nilIface]) ∧ Below w.heap.size w w') := h0
  have HNW : Hid (∀ W, Calls Tryz.prog 29 #[.slice none 0 0] W fun ex w' => ∃ vj, ex = .returned (.tuple #[vj, .nilIface]) ∧ Below W.heap.size W w') := h1
  clear h0 h1
  have m1 : True := trivial; have m2 : True := trivial
  go_enter Tryz.func4, Tryz.ntmps4
  go_wp2_with (first | (go_at_call 14; clear m1; refine (HC0.out _).mono ?_; rintro e w1 ⟨rfl, hbw1⟩; have hqw1 : Below w.heap.size w w1 := (by repeat (first | (with_reducible exact Below.refl _ _) | (with_reducible assumption) | (with_reducible refine Below.setCell ?_ (by first | (simp; done) | (simp; omega) | omega) _) | (with_reducible refine Below.alloc ?_ (by first | (simp; done) | (simp; omega) | omega) _) | (refine bl_call ?_ (by assumption) (by first | (simp; done) | (simp; omega) | omega)) | (with_reducible refine bl_drewN ?_) | (with_reducible refine Below.drew ?_) | (with_reducible refine bl_grow ?_ (by first | (simp; done) | (simp; omega) | omega)))); have hzw1 := hqw1.size; clear hbw1) | (go_at_call 29; clear m2; refine (HNW.out _).mono ?_; rintro e w2 ⟨vj, rfl, hb2⟩; have hqw2 : Below w.heap.size w w2 := (by repeat (first | (with_reducible exact Below.refl _ _) | (with_reducible assumption) | (with_reducible refine Below.setCell ?_ (by first | (simp; done) | (simp; omega) | omega) _) | (with_reducible refine Below.alloc ?_ (by first | (simp; done) | (simp; omega) | omega) _) | (refine bl_call ?_ (by assumption) (by first | (simp; done) | (simp; omega) | omega)) | (with_reducible refine bl_drewN ?_) | (with_reducible refine Below.drew ?_) | (with_reducible refine bl_grow ?_ (by first | (simp; done) | (simp; omega) | omega)))); clear hb2))
  go_ret
  exact ⟨rfl, by repeat (first | (with_reducible exact Below.refl _ _) | (with_reducible assumption) | (with_reducible refine Below.setCell ?_ (by first | (simp; done) | (simp; omega) | omega) _) | (with_reducible refine Below.alloc ?_ (by first | (simp; done) | (simp; omega) | omega) _) | (refine bl_call ?_ (by assumption) (by first | (simp; done) | (simp; omega) | omega)) | (with_reducible refine bl_drewN ?_) | (with_reducible refine Below.drew ?_) | (with_reducible refine bl_grow ?_ (by first | (simp; done) | (simp; omega) | omega)))⟩
set_option maxRecDepth 100000 in
set_option maxHeartbeats 4000000 in
theorem lstops_o4 (a m keep : Int) (R0 : Sn) (z0 : Int) (w : World) (h0 : ∀ w, Calls Tryz.prog 14 #[.int .i64 0, .int .i64 1, .agg #[.int .i64 0, .int .i64 0, .bool true]] w fun ex w' => ex = .returned (.tuple #[.agg #[.int .i64 ((R0).1 : Int), .int .i64 ((R0).2.1 : Int), .bool (R0).2.2, .int .i64 z0], .nilIface]) ∧ Below w.heap.size w w') (h1 : ∀ W, Calls Tryz.prog 29 #[.slice none 0 0] W fun ex w' => ∃ vj, ex = .returned (.tuple #[vj, .nilIface]) ∧ Below W.heap.size W w') (k1 : ¬ a < 0) (k2 : ¬ a > 12) (k3 : ¬ m < 0) (k4 : m > 12) : Calls Tryz.prog 4 #[.int .i64 a, .int .i64 m, .int .i64 keep] w fun e w' => e = .returned (.bool true) ∧ Below w.heap.size w w' := by
  have HC0 : Hid (∀ w, Calls Tryz.prog 14 #[.int .i64 0, .int .i64 1, .agg #[.int .i64 0, .int .i64 0, .bool true]] w fun ex w' => ex = .returned (.tuple #[.agg #[.int .i64 ((R0).1 : Int), .int .i64 ((R0).2.1 : Int), .bool (R0).2.2, .int .i64 z0], .nilIface]) ∧ Below w.heap.size w w') := h0
  have HNW : Hid (∀ W, Calls Tryz.prog 29 #[.slice none 0 0] W fun ex w' => ∃ vj, ex = .returned (.tuple #[vj, .nilIface]) ∧ Below W.heap.size W w') := h1
  clear h0 h1
  have m1 : True := trivial; have m2 : True := trivial
  go_enter Tryz.func4, Tryz.ntmps4
  go_wp2_with (first | (go_at_call 14; clear m1; refine (HC0.out _).mono ?_; rintro e w1 ⟨rfl, hbw1⟩; have hqw1 : Below w.heap.size w w1 := (by repeat (first | (with_reducible exact Below.refl _ _) | (with_reducible assumption) | (with_reducible refine Below.setCell ?_ (by first | (simp; done) | (simp; omega) | omega) _) | (with_reducible refine Below.alloc ?_ (by first | (simp; done) | (simp; omega) | omega) _) | (refine bl_call ?_ (by assumption) (by first | (simp; done) | (simp; omega) | omega)) | (with_reducible refine bl_drewN ?_) | (with_reducible refine Below.drew ?_) | (with_reducible refine bl_grow ?_ (by first | (simp; done) | (simp; omega) | omega)))); have hzw1 := hqw1.size; clear hbw1) | (go_at_call 29; clear m2; refine (HNW.out _).mono ?_; rintro e w2 ⟨vj, rfl, hb2⟩; have hqw2 : Below w.heap.size w w2 := (by repeat (first | (with_reducible exact Below.refl _ _) | (with_reducible assumption) | (with_reducible refine Below.setCell ?_ (by first | (simp; done) | (simp; omega) | omega) _) | (with_reducible refine Below.alloc ?_ (by first | (simp; done) | (simp; omega) | omega) _) | (refine bl_call ?_ (by assumption) (by first | (simp; done) | (simp; omega) | omega)) | (with_reducible refine bl_drewN ?_) | (with_reducible refine Below.drew ?_) | (with_reducible refine bl_grow ?_ (by first | (simp; done) | (simp; omega) | omega)))); clear hb2))
  go_ret
  exact ⟨rfl, by repeat (first | (with_reducible exact Below.refl _ _) | (with_reducible assumption) | (with_reducible refine Below.setCell ?_ (by first | (simp; done) | (simp; omega) | omega) _) | (with_reducible refine Below.alloc ?_ (by first | (simp; done) | (simp; omega) | omega) _) | (refine bl_call ?_ (by assumption) (by first | (simp; done) | (simp; omega) | omega)) | (with_reducible refine bl_drewN ?_) | (with_reducible refine Below.drew ?_) | (with_reducible refine bl_grow ?_ (by first | (simp; done) | (simp; omega) | omega)))⟩
/-- A log of no coins at all, behind however many records. -/
def Bare (s : LogS) : Prop := (∀ i, i ≤ s.r → s.n i = 0)
theorem Bare.add {s : LogS} (h : Bare s) (a : Nat) (K : Nat → Nat) (G : Nat → Bool) : Bare (s.add a 0 K G) := fun i hi => by
  by_cases e : i = s.r + 1
  · subst e; exact extN_at _ _ _
  · have : i < s.r + 1 := by have : i ≤ s.r + 1 := hi; omega
    exact (extN_lt s.n 0 this).trans (h i (by omega))
section
variable (PL : World → Value → (Nat → Prop) → LogS → Prop)
/-- States of the law's log: new; behind so many steps; behind the crash; behind a deal; behind the last Sync. -/
def lsN (W : World) (v : Value) (Q : Nat → Prop) : Prop := ∃ s, PL W v Q s ∧ Bare s ∧ s.r = 0 ∧ s.stop = false
def lsT (a k : Nat) (W : World) (v : Value) (Q : Nat → Prop) : Prop := ∃ s, PL W v Q s ∧ Bare s ∧ s.r ≤ k ∧ s.r ≤ a ∧ (k ≤ a → s.stop = false ∧ s.left = some (a - k)) ∧ (a < k → s.stop = true)
def lsC (n : Nat) (W : World) (v : Value) (Q : Nat → Prop) : Prop := ∃ s, PL W v Q s ∧ Bare s ∧ s.r ≤ 12 ∧ s.stop = false ∧ s.left = none ∧ s.all = n
def lsD (n : Nat) (W : World) (v : Value) (Q : Nat → Prop) : Prop := ∃ s, PL W v Q s ∧ s.stop = false ∧ s.left = none ∧ s.all = n
def lsF (n : Nat) (W : World) (v : Value) (Q : Nat → Prop) : Prop := ∃ s, PL W v Q s ∧ s.all = n ∧ s.safe = n
end
section
variable (PL : World → Value → (Nat → Prop) → LogS → Prop)
/-- A deal of nothing: done. -/
theorem ls_do1 (hO : PLok PL) (hD : LDoIs PL) (T : Sn) (z : Nat) (hT : T = tM (4 * clR 1)) (hz : z = clS 0 1 0) (a k : Nat) (ha : a ≤ 12) (W : World) (vj : Value) (A bz bd : Nat) (hk : k < a) (h : OnJ (lsT PL a k) W vj A bz bd) : Calls Tryz.prog 31 #[vj, .agg #[.slice none 0 0, .slice none 0 0, .int .i64 (T.1 : Int), .int .i64 (T.2.1 : Int), .bool T.2.2, .int .i64 (z : Int)]] W fun ex w' => ex = .returned (.nilIface) ∧ OnJ (lsT PL a (k + 1)) w' vj A bz bd ∧ Keep A bz bd W w' := by
  obtain ⟨Q, ⟨s, hp, hb, hr, hr2, h1, h2⟩, hA, n1, n2, hw, l1, l2⟩ := h
  obtain ⟨st, le⟩ := h1 (by omega)
  obtain ⟨w1, w2, w3⟩ := tz_wf hT hz
  refine (hD.2.2.2 vj Q s (nilD T z 0) none none 0 0 0 (s.n s.r) (s.K s.r) (s.G s.r) W (by omega) (Nat.zero_le _) (Nat.zero_le _) (Nat.zero_le _) (fun _ => rfl) (fun i hi => absurd hi (Nat.not_lt_zero _)) w1 w2 w3 (Or.inl rfl) (Or.inl rfl) hp (nilD_is T z hT hz _ _ _ (by rw [hb _ (Nat.le_refl _)]; omega)) st rfl (by rw [le]; intro e; injection e with e; omega)).mono ?_
  rintro ex w' ⟨rfl, n, hn, hd⟩
  rw [hb _ (Nat.le_refl _)] at hd
  obtain ⟨j1, j2⟩ := onj_done PL (S' := lsT PL a (k + 1)) hO hA n1 n2 hw l1 l2 hd (fun Q' hq => ⟨_, hq, hb.add _ _ _, by show s.r + 1 ≤ k + 1; omega, by show s.r + 1 ≤ a; omega, fun hk => ⟨rfl, by show lessO s.left = _; rw [le]; show some (a - k - 1) = _; congr 1⟩, fun hk => by omega⟩)
  exact ⟨rfl, j1, j2⟩
theorem ls_do2 (hO : PLok PL) (hD : LDoIs PL) (T : Sn) (z : Nat) (hT : T = tM (4 * clR 1)) (hz : z = clS 0 1 0) (a k : Nat) (ha : a ≤ 12) (W : World) (vj : Value) (A bz bd : Nat) (hk : a ≤ k) (h : OnJ (lsT PL a k) W vj A bz bd) : Calls Tryz.prog 31 #[vj, .agg #[.slice none 0 0, .slice none 0 0, .int .i64 (T.1 : Int), .int .i64 (T.2.1 : Int), .bool T.2.2, .int .i64 (z : Int)]] W fun ex w' => ex = .returned (errOf 6) ∧ OnJ (lsT PL a (k + 1)) w' vj A bz bd ∧ Keep A bz bd W w' := by
  obtain ⟨Q, ⟨s, hp, hb, hr, hr2, h1, h2⟩, hA, n1, n2, hw, l1, l2⟩ := h
  obtain ⟨w1, w2, w3⟩ := tz_wf hT hz
  by_cases e : k = a
  · obtain ⟨st, le⟩ := h1 (by omega)
    refine (hD.2.2.1 vj Q s (nilD T z 0) none none 0 0 0 (s.n s.r) (s.K s.r) (s.G s.r) W (by omega) (Nat.zero_le _) (Nat.zero_le _) (Nat.zero_le _) (fun _ => rfl) (fun i hi => absurd hi (Nat.not_lt_zero _)) w1 w2 w3 (Or.inl rfl) (Or.inl rfl) hp (nilD_is T z hT hz _ _ _ (by rw [hb _ (Nat.le_refl _)]; omega)) st rfl (by rw [le, e, Nat.sub_self])).mono ?_
    rintro ex w' ⟨rfl, n, hn, hd⟩
    obtain ⟨j1, j2⟩ := onj_done PL (S' := lsT PL a (k + 1)) hO hA n1 n2 hw l1 l2 hd (fun Q' hq => ⟨_, hq, hb, by show s.r ≤ k + 1; omega, hr2, fun hk => by omega, fun hk => rfl⟩)
    exact ⟨rfl, j1, j2⟩
  · refine (hD.1 vj Q s (nilD T z 0) none none 0 0 0 (s.n s.r) (s.K s.r) (s.G s.r) W (by omega) (Nat.zero_le _) (Nat.zero_le _) (Nat.zero_le _) (fun _ => rfl) (fun i hi => absurd hi (Nat.not_lt_zero _)) w1 w2 w3 (Or.inl rfl) (Or.inl rfl) hp (nilD_is T z hT hz _ _ _ (by rw [hb _ (Nat.le_refl _)]; omega)) (h2 (by omega))).mono ?_
    rintro ex w' ⟨rfl, hd⟩
    obtain ⟨j1, j2⟩ := onj_done PL (S' := lsT PL a (k + 1)) hO hA n1 n2 hw l1 l2 hd (fun Q' hq => ⟨_, hq, hb, by omega, hr2, fun hk => by omega, fun hk => h2 (by omega)⟩)
    exact ⟨rfl, j1, j2⟩
theorem keep_up {A bz bd : Nat} {W0 W w' : World} (hb : Below W0.heap.size W0 W) (l1 : bz < W0.heap.size) (l2 : bd < W0.heap.size) (hw : A ≤ W0.heap.size) (k : Keep A bz bd W w') : Keep A bz bd W0 w' :=
  ⟨k.os.trans hb.os, k.tape.trans hb.tape, k.output.trans hb.output, Nat.le_trans hb.size k.size, fun i hi => (k.low i hi).trans (hb.block i (by omega)), k.z.trans (hb.block bz l1), k.d.trans (hb.block bd l2)⟩
/-- A deal by which a coin goes that is not there. -/
theorem ls_go (hO : PLok PL) (hD : LDoIs PL) (T : Sn) (z : Nat) (hT : T = tM (4 * clR 1)) (hz : z = clS 0 1 0) (a k : Nat) (ha : a ≤ 12) (W W0 : World) (b : Nat) (vj : Value) (A bz bd : Nat) (h : OnJ (lsT PL a k) W0 vj A bz bd) (hW : Below W0.heap.size W0 W) (hlb : W0.heap.size ≤ b) (hr : RowI W b 0 1 (fun _ => 0)) (e : Int) (he : (k ≤ a ∧ e = 1) ∨ (a < k ∧ e = 6)) : Calls Tryz.prog 31 #[vj, .agg #[.slice (some ⟨b, 0, none⟩) 1 1, .slice none 0 0, .int .i64 (T.1 : Int), .int .i64 (T.2.1 : Int), .bool T.2.2, .int .i64 (z : Int)]] W fun ex w' => ex = .returned (errOf e) ∧ OnJ (lsT PL a k) w' vj A bz bd ∧ Keep A bz bd W0 w' := by
  obtain ⟨Q, ⟨s, hp0, hb, hr1, hr2, h1, h2⟩, hA, n1, n2, hw, l1, l2⟩ := h
  have hp := pl_up PL hO hp0 hW
  have hs := hW.size
  obtain ⟨w1, w2, w3⟩ := tz_wf hT hz
  have hA' : ∀ j, Q j → A ≤ j ∧ j < W.heap.size := fun j hj => ⟨(hA j hj).1, by have := (hA j hj).2; omega⟩
  have hn0 := hb _ (Nat.le_refl _)
  have hdl : DealIs (s.n s.r) (s.K s.r) (s.G s.r) (nilD T z 1) 1 0 (s.K s.r) (s.G s.r) := by rw [hn0]; exact oneD_is T z _ _
  have hnb : ¬ Q b := fun hh => by have := (hA b hh).2; omega
  have hzr : (nilD T z 1).m = 0 ∨ ∃ b' o : Nat, (some ⟨b, 0, none⟩ : Option Addr) = some ⟨b', o, none⟩ ∧ ¬ Q b' ∧ RowI W b' o (nilD T z 1).m (nilD T z 1).Z := Or.inr ⟨b, 0, rfl, hnb, hr⟩
  have fin : ∀ w', PLdone PL W w' vj Q s → OnJ (lsT PL a k) w' vj A bz bd ∧ Keep A bz bd W0 w' := fun w' hd => by
    obtain ⟨j1, j2⟩ := onj_done PL (S' := lsT PL a k) hO hA' n1 n2 (by omega) (by omega) (by omega) hd (fun Q' hq => ⟨_, hq, hb, hr1, hr2, h1, h2⟩)
    exact ⟨j1, keep_up hW l1 l2 hw j2⟩
  rcases he with ⟨hk, rfl⟩ | ⟨hk, rfl⟩
  · refine (hD.2.1 vj Q s (nilD T z 1) (some ⟨b, 0, none⟩) none 1 0 1 0 (s.K s.r) (s.G s.r) W (by omega) (by show 1 ≤ 9223372036854775807; omega) (Nat.le_refl _) (Nat.zero_le _) (fun _ => rfl) (fun i hi => lwf (by show (0 : Int) ≤ 0; omega) (by show (0 : Int) < 10000; omega)) w1 w2 w3 hzr (Or.inl rfl) hp hdl (h1 hk).1 rfl).mono ?_
    rintro ex w' ⟨rfl, hd⟩
    obtain ⟨j1, j2⟩ := fin w' hd
    exact ⟨rfl, j1, j2⟩
  · refine (hD.1 vj Q s (nilD T z 1) (some ⟨b, 0, none⟩) none 1 0 1 0 (s.K s.r) (s.G s.r) W (by omega) (by show 1 ≤ 9223372036854775807; omega) (Nat.le_refl _) (Nat.zero_le _) (fun _ => rfl) (fun i hi => lwf (by show (0 : Int) ≤ 0; omega) (by show (0 : Int) < 10000; omega)) w1 w2 w3 hzr (Or.inl rfl) hp hdl (h2 hk)).mono ?_
    rintro ex w' ⟨rfl, hd⟩
    obtain ⟨j1, j2⟩ := fin w' hd
    exact ⟨rfl, j1, j2⟩
theorem ls_sy1 (hO : PLok PL) (hS : LSyncIs PL) (a k : Nat) (W : World) (vj : Value) (A bz bd : Nat) (hk : k < a) (h : OnJ (lsT PL a k) W vj A bz bd) : Calls Tryz.prog 32 #[vj] W fun ex w' => ex = .returned (.nilIface) ∧ OnJ (lsT PL a (k + 1)) w' vj A bz bd ∧ Keep A bz bd W w' := by
  obtain ⟨Q, ⟨s, hp, hb, hr, hr2, h1, h2⟩, hA, n1, n2, hw, l1, l2⟩ := h
  obtain ⟨st, le⟩ := h1 (by omega)
  refine (hS.2.2 vj Q s W hp st (by rw [le]; intro e; injection e with e; omega)).mono ?_
  rintro ex w' ⟨rfl, hd⟩
  obtain ⟨j1, j2⟩ := onj_done PL (S' := lsT PL a (k + 1)) hO hA n1 n2 hw l1 l2 hd (fun Q' hq => ⟨_, hq, hb, by show s.r ≤ k + 1; omega, hr2, fun hk => ⟨st, by show lessO s.left = _; rw [le]; show some (a - k - 1) = _; congr 1⟩, fun hk => by omega⟩)
  exact ⟨rfl, j1, j2⟩
theorem ls_sy2 (hO : PLok PL) (hS : LSyncIs PL) (a k : Nat) (W : World) (vj : Value) (A bz bd : Nat) (hk : a ≤ k) (h : OnJ (lsT PL a k) W vj A bz bd) : Calls Tryz.prog 32 #[vj] W fun ex w' => ex = .returned (errOf 6) ∧ OnJ (lsT PL a (k + 1)) w' vj A bz bd ∧ Keep A bz bd W w' := by
  obtain ⟨Q, ⟨s, hp, hb, hr, hr2, h1, h2⟩, hA, n1, n2, hw, l1, l2⟩ := h
  by_cases e : k = a
  · obtain ⟨st, le⟩ := h1 (by omega)
    refine (hS.2.1 vj Q s W hp st (by rw [le, e, Nat.sub_self])).mono ?_
    rintro ex w' ⟨rfl, hd⟩
    obtain ⟨j1, j2⟩ := onj_done PL (S' := lsT PL a (k + 1)) hO hA n1 n2 hw l1 l2 hd (fun Q' hq => ⟨_, hq, hb, by show s.r ≤ k + 1; omega, hr2, fun hk => by omega, fun hk => rfl⟩)
    exact ⟨rfl, j1, j2⟩
  · refine (hS.1 vj Q s W hp (h2 (by omega))).mono ?_
    rintro ex w' ⟨rfl, hd⟩
    obtain ⟨j1, j2⟩ := onj_done PL (S' := lsT PL a (k + 1)) hO hA n1 n2 hw l1 l2 hd (fun Q' hq => ⟨_, hq, hb, by omega, hr2, fun hk => by omega, fun hk => h2 (by omega)⟩)
    exact ⟨rfl, j1, j2⟩
end
theorem far_t0 : tM (4 * 0) = (0, 0, true) := rfl
theorem logStops_by (PL : World → Value → (Nat → Prop) → LogS → Prop) (hO : PLok PL) (hC : BCloseIs) (hN : LNewIs PL) (hD : LDoIs PL) (hS : LSyncIs PL) (hF : LFailIs PL) (hCr : LCrashIs PL) (hB : LBytesIs PL) (hSa : LSafeIs PL) (w : World) (after many keep : Int) (wa : (Lit.int .i64 after).wf = true) (wk : (Lit.int .i64 keep).wf = true) (hd : Door w) :
    Calls Tryz.prog 4 #[.int .i64 after, .int .i64 many, .int .i64 keep] w fun e w' => e = .returned (.bool true) ∧ Below w.heap.size w w' := by
  have h0 : ∀ w, Calls Tryz.prog 14 #[.int .i64 0, .int .i64 1, .agg #[.int .i64 0, .int .i64 0, .bool true]] w fun ex w' => ex = .returned (.tuple #[.agg #[.int .i64 ((tM (4 * clR 1)).1 : Int), .int .i64 ((tM (4 * clR 1)).2.1 : Int), .bool (tM (4 * clR 1)).2.2, .int .i64 (clS 0 1 0 : Int)], .nilIface]) ∧ Below w.heap.size w w' := fun w => hC.2.2 0 1 (4 * 0) w (by omega) (by omega) (by omega)
  obtain ⟨T, hT⟩ : ∃ T, T = tM (4 * clR 1) := ⟨_, rfl⟩
  obtain ⟨z, hz⟩ : ∃ z, z = clS 0 1 0 := ⟨_, rfl⟩
  rw [← hT, ← hz] at h0
  have h1 : ∀ W, Calls Tryz.prog 29 #[.slice none 0 0] W fun ex w' => ∃ vj Q, ex = .returned (.tuple #[vj, .nilIface]) ∧ lsN PL w' vj Q ∧ (∀ i, Q i → W.heap.size ≤ i ∧ i < w'.heap.size) ∧ Below W.heap.size W w' := fun W => by
    refine (hN.2 none 0 0 (fun _ => 0) (fun _ => 0) (fun _ => false) (fun _ => 0) W (by omega) (Nat.le_refl _) (fun _ => rfl) (Or.inl rfl) (fun i hi => absurd hi (Nat.not_lt_zero _))).mono ?_
    rintro ex w' ⟨v, Q, e1, e2, e3, e4⟩
    exact ⟨v, Q, e1, ⟨_, e2, fun i _ => rfl, rfl, rfl⟩, fun i hi => ⟨e3 i hi, hO.lt e2 i hi⟩, e4⟩
  have h1' : ∀ W, Calls Tryz.prog 29 #[.slice none 0 0] W fun ex w' => ∃ vj, ex = .returned (.tuple #[vj, .nilIface]) ∧ Below W.heap.size W w' := fun W => (h1 W).mono fun ex w' ⟨vj, Q, e1, _, _, e4⟩ => ⟨vj, e1, e4⟩
  by_cases k1 : after < 0
  · exact lstops_o1 after many keep T z w h0 h1' k1
  by_cases k2 : after > 12
  · exact lstops_o2 after many keep T z w h0 h1' k1 k2
  by_cases k3 : many < 0
  · exact lstops_o3 after many keep T z w h0 h1' k1 k2 k3
  by_cases k4 : many > 12
  · exact lstops_o4 after many keep T z w h0 h1' k1 k2 k3 k4
  obtain ⟨a, rfl⟩ := Int.eq_ofNat_of_zero_le (show 0 ≤ after by omega)
  obtain ⟨m, rfl⟩ := Int.eq_ofNat_of_zero_le (show 0 ≤ many by omega)
  have ha : a ≤ 12 := by omega
  refine lstops_main a m keep T z (lsN PL) (lsT PL a) (lsC PL) (lsD PL) (lsF PL) w hd ha (by omega) h0 h1 ?_ ?_
    (fun k W vj bz bd hk h => ls_do1 PL hO hD T z hT hz a k ha W vj _ bz bd hk h) (fun k W vj bz bd hk h => ls_do2 PL hO hD T z hT hz a k ha W vj _ bz bd hk h)
    (fun k W W0 b vj bz bd hk h hW hb hr => ls_go PL hO hD T z hT hz a k ha W W0 b vj _ bz bd h hW hb hr 1 (Or.inl ⟨hk, rfl⟩)) (fun k W W0 b vj bz bd hk h hW hb hr => ls_go PL hO hD T z hT hz a k ha W W0 b vj _ bz bd h hW hb hr 6 (Or.inr ⟨hk, rfl⟩))
    (fun k W vj bz bd hk h => ls_sy1 PL hO hS a k W vj _ bz bd hk h) (fun k W vj bz bd hk h => ls_sy2 PL hO hS a k W vj _ bz bd hk h)
    (fun k W W' vj bz bd h hb => (onj_read (fun Q ⟨s, hp, hx⟩ => ⟨s, pl_up PL hO hp hb, hx⟩) h hb).1) ?_ ?_ ?_ ?_ ?_ ?_
  · exact fun W W' v Q ⟨s, hp, hx⟩ hb => ⟨s, pl_up PL hO hp hb, hx⟩
  · rintro W vj bz bd ⟨Q, ⟨s, hp, hb, hr, hst⟩, hA, n1, n2, hw, l1, l2⟩
    refine (hF vj Q s (a : Int) W hp wa hst).mono ?_
    rintro ex w' ⟨rfl, hd⟩
    obtain ⟨j1, j2⟩ := onj_done PL (S' := lsT PL a 0) hO hA n1 n2 hw l1 l2 hd (fun Q' hq => ⟨_, hq, hb, by show s.r ≤ 0; omega, by show s.r ≤ a; omega, fun _ => ⟨hst, by show (bif decide ((a : Int) < 0) then none else some (a : Int).toNat) = _; rw [decide_eq_false (by omega)]; rfl⟩, fun hk => by omega⟩)
    exact ⟨rfl, j1, j2⟩
  · rintro k W vj bz bd hk ⟨Q, ⟨s, hp, hb, hr, hr2, h1, h2⟩, hA, n1, n2, hw, l1, l2⟩
    refine (hCr vj Q s keep W hp (by omega) wk).mono ?_
    rintro ex w' ⟨rfl, hd⟩
    have hq0 : ∃ Q', PL w' vj Q' (s.crash keep) := ⟨hd.2.choose, hd.2.choose_spec.1⟩
    obtain ⟨Q0, hq0⟩ := hq0
    have hle : (s.crash keep).r ≤ s.r := lastM_le _ _ _
    have hm4 := (hO.ok hq0).m4
    obtain ⟨j1, j2⟩ := onj_done PL (S' := lsC PL (s.crash keep).all) hO hA n1 n2 hw l1 l2 hd (fun Q' hq => ⟨_, hq, fun i hi => hb i (Nat.le_trans hi hle), by omega, rfl, rfl, rfl⟩)
    refine ⟨rfl, ⟨_, ?_, j1⟩, j2⟩
    have : ((s.crash keep).r + 1) * 1099511627776 ≤ 13 * 1099511627776 := Nat.mul_le_mul_right _ (by omega)
    omega
  · rintro n W vj bz bd h
    have hh := h
    obtain ⟨Q, ⟨s, hp, hb, hr, hst, hle, rfl⟩, hA, n1, n2, hw, l1, l2⟩ := h
    refine (hB vj Q s W hp).mono ?_
    rintro ex w' ⟨rfl, hbw⟩
    obtain ⟨j1, j2⟩ := onj_read (fun Q ⟨s, hp, hx⟩ => ⟨s, pl_up PL hO hp hbw, hx⟩) hh hbw
    exact ⟨rfl, j1, j2⟩
  · rintro n W vj bz bd ⟨Q, ⟨s, hp, hb, hr, hst, hle, rfl⟩, hA, n1, n2, hw, l1, l2⟩
    obtain ⟨w1, w2, w3⟩ := tz_wf hT hz
    refine (hD.2.2.2 vj Q s (nilD T z 0) none none 0 0 0 (s.n s.r) (s.K s.r) (s.G s.r) W (by omega) (Nat.zero_le _) (Nat.zero_le _) (Nat.zero_le _) (fun _ => rfl) (fun i hi => absurd hi (Nat.not_lt_zero _)) w1 w2 w3 (Or.inl rfl) (Or.inl rfl) hp (nilD_is T z hT hz _ _ _ (by rw [hb _ (Nat.le_refl _)]; omega)) hst rfl (by rw [hle]; intro e; cases e)).mono ?_
    rintro ex w' ⟨rfl, n, hn, hd⟩
    have hq0 : ∃ Q', PL w' vj Q' (s.add n (s.n s.r) (s.K s.r) (s.G s.r)) := ⟨hd.2.choose, hd.2.choose_spec.1⟩
    obtain ⟨Q0, hq0⟩ := hq0
    have hm4 : n ≤ (s.r + 1 + 1) * 1099511627776 := (hO.ok hq0).m4
    obtain ⟨j1, j2⟩ := onj_done PL (S' := lsD PL n) hO hA n1 n2 hw l1 l2 hd (fun Q' hq => ⟨_, hq, rfl, by show lessO s.left = none; rw [hle]; rfl, rfl⟩)
    refine ⟨rfl, ⟨n, hn, ?_, j1⟩, j2⟩
    have : (s.r + 1 + 1) * 1099511627776 ≤ 14 * 1099511627776 := Nat.mul_le_mul_right _ (by omega)
    omega
  · rintro n W vj bz bd ⟨Q, ⟨s, hp, hst, hle, rfl⟩, hA, n1, n2, hw, l1, l2⟩
    refine (hS.2.2 vj Q s W hp hst (by rw [hle]; intro e; cases e)).mono ?_
    rintro ex w' ⟨rfl, hd⟩
    obtain ⟨j1, j2⟩ := onj_done PL (S' := lsF PL s.all) hO hA n1 n2 hw l1 l2 hd (fun Q' hq => ⟨_, hq, rfl, rfl⟩)
    exact ⟨rfl, j1, j2⟩
  · rintro n W vj bz bd h
    have hh := h
    obtain ⟨Q, ⟨s, hp, rfl, he⟩, hA, n1, n2, hw, l1, l2⟩ := h
    refine (hB vj Q s W hp).mono ?_
    rintro ex w' ⟨rfl, hbw⟩
    obtain ⟨j1, j2⟩ := onj_read (fun Q ⟨s, hp, hx⟩ => ⟨s, pl_up PL hO hp hbw, hx⟩) hh hbw
    exact ⟨rfl, j1, j2⟩
  · rintro n W vj bz bd h
    have hh := h
    obtain ⟨Q, ⟨s, hp, he, rfl⟩, hA, n1, n2, hw, l1, l2⟩ := h
    refine (hSa vj Q s W hp).mono ?_
    rintro ex w' ⟨rfl, hbw⟩
    obtain ⟨j1, j2⟩ := onj_read (fun Q ⟨s, hp, hx⟩ => ⟨s, pl_up PL hO hp hbw, hx⟩) hh hbw
    exact ⟨rfl, j1, j2⟩
end Go.Proofs.YtpkkclcjiobgoajGreatDoor
