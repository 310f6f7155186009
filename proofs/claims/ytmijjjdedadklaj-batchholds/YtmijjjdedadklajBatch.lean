/- What package batch answers: Verify, Wrong. -/
import Derived.Test.YtmijjjdedadklajBatchB
namespace Go.Proofs.Ytmijjjdedadklaj
open Go.RowKit Go.Sort
set_option linter.unusedVariables false
set_option linter.unusedSimpArgs false
theorem sea_of_ok {x : BatI} {k r s : Nat} (h : SealOk x k r s) : seaE x = 0 := by
  obtain ⟨h1, h2, h3, h4, h5, h6, h7, h8, h9⟩ := h
  unfold seaE
  rw [decide_eq_false (by omega), cond_false, h2, h3, h4, ck_tM, h5, h6, h7, ck_tM, show resB x.s = true from decide_eq_true ⟨by omega, by omega⟩]
  rfl
theorem itm_of_ok {x : BatI} {k r s w : Nat} (h : BatOk x k r s w) : itmE x = 0 := by
  unfold itmE
  rw [sea_of_ok h.toSealOk, show secB x.w = true from decide_eq_true (by have := h.hw; have := h.hw1; have := h.hw2; omega)]
  rfl
theorem batE_of_ok {I : Nat → BatI} {K R S W : Nat → Nat} : ∀ {n : Nat}, (∀ i, i < n → BatOk (I i) (K i) (R i) (S i) (W i)) → batE I n = 0
  | 0, _ => rfl
  | n + 1, h => batE_go (batE_of_ok fun i hi => h i (by omega)) (itm_of_ok (h n (by omega)))
theorem batF_of_ok {I : Nat → BatI} {K R S : Nat → Nat} : ∀ {n : Nat}, (∀ i, i < n → SealOk (I i) (K i) (R i) (S i)) → batF I n = 0
  | 0, _ => rfl
  | n + 1, h => batF_go (batF_of_ok fun i hi => h i (by omega)) (sea_of_ok (h n (by omega)))
/-- Of each that is no fault: its key, its spot, its number. -/
theorem bat_pick (I : Nat → BatI) : ∃ K R S : Nat → Nat, ∀ i, seaE (I i) = 0 → SealOk (I i) (K i) (R i) (S i) := by
  have h : ∀ i, ∃ z : Nat × Nat × Nat, seaE (I i) = 0 → SealOk (I i) z.1 z.2.1 z.2.2 := fun i => by
    by_cases h : seaE (I i) = 0
    · obtain ⟨k, r, s, h2⟩ := seaE_ok h
      exact ⟨(k, r, s), fun _ => h2⟩
    · exact ⟨(0, 0, 0), fun h2 => absurd h2 h⟩
  exact ⟨fun i => (Classical.choose (h i)).1, fun i => (Classical.choose (h i)).2.1, fun i => (Classical.choose (h i)).2.2, fun i => Classical.choose_spec (h i)⟩
set_option maxRecDepth 100000 in
set_option maxHeartbeats 4000000 in
theorem bver_err (sk st sl sw : Option Addr) (n dk m dt q dl p dw : Nat) (c : Int) (w : World) (h : ∀ W, Below w.heap.size w W → Calls Try.prog 45 #[.slice sk n dk, .slice st m dt, .slice sl q dl, .slice sw p dw] W fun e w' => e = .returned (errOf c) ∧ Below W.heap.size W w') : Calls Try.prog 20 #[.slice sk n dk, .slice st m dt, .slice sl q dl, .slice sw p dw] w fun e w' => e = .returned (.tuple #[.bool false, errOf c]) ∧ Below w.heap.size w w' := by
  have H : Hid (∀ W, Below w.heap.size w W → Calls Try.prog 45 #[.slice sk n dk, .slice st m dt, .slice sl q dl, .slice sw p dw] W fun e w' => e = .returned (errOf c) ∧ Below W.heap.size W w') := h
  clear h
  have m1 : True := trivial
  go_enter Try.func20, Try.ntmps20
  go_wp2_with (go_at_call 45; clear m1; refine (H.out _ (by repeat (first | (with_reducible exact Below.refl _ _) | (with_reducible assumption) | (with_reducible refine Below.setCell ?_ (by first | (simp; done) | (simp; omega) | omega) _) | (with_reducible refine Below.alloc ?_ (by first | (simp; done) | (simp; omega) | omega) _) | (refine bl_call ?_ (by assumption) (by first | (simp; done) | (simp; omega) | omega)) | (with_reducible refine bl_drewN ?_) | (with_reducible refine Below.drew ?_) | (with_reducible refine bl_grow ?_ (by first | (simp; done) | (simp; omega) | omega))))).mono ?_; rintro e w1 ⟨rfl, hbw1⟩; have hqw1 : Below w.heap.size w w1 := (by repeat (first | (with_reducible exact Below.refl _ _) | (with_reducible assumption) | (with_reducible refine Below.setCell ?_ (by first | (simp; done) | (simp; omega) | omega) _) | (with_reducible refine Below.alloc ?_ (by first | (simp; done) | (simp; omega) | omega) _) | (refine bl_call ?_ (by assumption) (by first | (simp; done) | (simp; omega) | omega)) | (with_reducible refine bl_drewN ?_) | (with_reducible refine Below.drew ?_) | (with_reducible refine bl_grow ?_ (by first | (simp; done) | (simp; omega) | omega)))); have hzw1 := hqw1.size; clear hbw1)
  go_ret2
  exact ⟨rfl, by repeat (first | (with_reducible exact Below.refl _ _) | (with_reducible assumption) | (with_reducible refine Below.setCell ?_ (by first | (simp; done) | (simp; omega) | omega) _) | (with_reducible refine Below.alloc ?_ (by first | (simp; done) | (simp; omega) | omega) _) | (refine bl_call ?_ (by assumption) (by first | (simp; done) | (simp; omega) | omega)) | (with_reducible refine bl_drewN ?_) | (with_reducible refine Below.drew ?_) | (with_reducible refine bl_grow ?_ (by first | (simp; done) | (simp; omega) | omega)))⟩
set_option maxRecDepth 100000 in
set_option maxHeartbeats 4000000 in
theorem bver_two (sk st sl sw : Option Addr) (n dk dt dl dw A : Nat) (P Q : Sn) (t1 t2 t3 : Bool) (w : World) (h : ∀ W, Below w.heap.size w W → Calls Try.prog 45 #[.slice sk n dk, .slice st n dt, .slice sl n dl, .slice sw n dw] W fun e w' => e = .returned (.nilIface) ∧ Below W.heap.size W w') (hw : ∀ W, Below w.heap.size w W → Calls Try.prog 46 #[.slice sl n dl, .slice sw n dw] W fun e w' => e = .returned (.int .i64 (A : Int)) ∧ Below W.heap.size W w') (ha : ∀ W, Below w.heap.size w W → Calls Try.prog 47 #[.slice sk n dk, .slice st n dt, .slice sl n dl, .slice sw n dw] W fun e w' => e = .returned (.tuple #[.agg #[.int .i64 ((Q).1 : Int), .int .i64 ((Q).2.1 : Int), .bool (Q).2.2], .nilIface]) ∧ Below W.heap.size W w') (h1 : tM (4 * em (A : Int)) = P)
    (e1 : ((P.1 : Int) == (Q.1 : Int)) = t1) (e2 : ((P.2.1 : Int) == (Q.2.1 : Int)) = t2) (e3 : (P.2.2 == Q.2.2) = t3) : Calls Try.prog 20 #[.slice sk n dk, .slice st n dt, .slice sl n dl, .slice sw n dw] w fun e w' => e = .returned (.tuple #[.bool (t1 && t2 && t3), .nilIface]) ∧ Below w.heap.size w w' := by
  have HC : Hid (∀ W, Below w.heap.size w W → Calls Try.prog 45 #[.slice sk n dk, .slice st n dt, .slice sl n dl, .slice sw n dw] W fun e w' => e = .returned (.nilIface) ∧ Below W.heap.size W w') := h
  have HW : Hid (∀ W, Below w.heap.size w W → Calls Try.prog 46 #[.slice sl n dl, .slice sw n dw] W fun e w' => e = .returned (.int .i64 (A : Int)) ∧ Below W.heap.size W w') := hw
  have HA : Hid (∀ W, Below w.heap.size w W → Calls Try.prog 47 #[.slice sk n dk, .slice st n dt, .slice sl n dl, .slice sw n dw] W fun e w' => e = .returned (.tuple #[.agg #[.int .i64 ((Q).1 : Int), .int .i64 ((Q).2.1 : Int), .bool (Q).2.2], .nilIface]) ∧ Below W.heap.size W w') := ha
  have E : Hid (tM (4 * em (A : Int)) = P) := h1
  clear h hw ha h1
  have m1 : True := trivial; have m2 : True := trivial; have m3 : True := trivial; have m4 : True := trivial; have m5 : True := trivial
  cases t1 <;> cases t2 <;> cases t3
  all_goals (
  go_enter Try.func20, Try.ntmps20
  go_wp2_with (first | (go_at_call 45; clear m1; refine (HC.out _ (by repeat (first | (with_reducible exact Below.refl _ _) | (with_reducible assumption) | (with_reducible refine Below.setCell ?_ (by first | (simp; done) | (simp; omega) | omega) _) | (with_reducible refine Below.alloc ?_ (by first | (simp; done) | (simp; omega) | omega) _) | (refine bl_call ?_ (by assumption) (by first | (simp; done) | (simp; omega) | omega)) | (with_reducible refine bl_drewN ?_) | (with_reducible refine Below.drew ?_) | (with_reducible refine bl_grow ?_ (by first | (simp; done) | (simp; omega) | omega))))).mono ?_; rintro e w1 ⟨rfl, hbw1⟩; have hqw1 : Below w.heap.size w w1 := (by repeat (first | (with_reducible exact Below.refl _ _) | (with_reducible assumption) | (with_reducible refine Below.setCell ?_ (by first | (simp; done) | (simp; omega) | omega) _) | (with_reducible refine Below.alloc ?_ (by first | (simp; done) | (simp; omega) | omega) _) | (refine bl_call ?_ (by assumption) (by first | (simp; done) | (simp; omega) | omega)) | (with_reducible refine bl_drewN ?_) | (with_reducible refine Below.drew ?_) | (with_reducible refine bl_grow ?_ (by first | (simp; done) | (simp; omega) | omega)))); have hzw1 := hqw1.size; clear hbw1) | (go_at_call 27; clear m2; refine (base_is _).mono ?_; rintro e w2 ⟨rfl, hbw2⟩; have hqw2 : Below w.heap.size w w2 := (by repeat (first | (with_reducible exact Below.refl _ _) | (with_reducible assumption) | (with_reducible refine Below.setCell ?_ (by first | (simp; done) | (simp; omega) | omega) _) | (with_reducible refine Below.alloc ?_ (by first | (simp; done) | (simp; omega) | omega) _) | (refine bl_call ?_ (by assumption) (by first | (simp; done) | (simp; omega) | omega)) | (with_reducible refine bl_drewN ?_) | (with_reducible refine Below.drew ?_) | (with_reducible refine bl_grow ?_ (by first | (simp; done) | (simp; omega) | omega)))); have hzw2 := hqw2.size; clear  hqw1; clear hbw2) | (go_at_call 46; clear m3; refine (HW.out _ (by repeat (first | (with_reducible exact Below.refl _ _) | (with_reducible assumption) | (with_reducible refine Below.setCell ?_ (by first | (simp; done) | (simp; omega) | omega) _) | (with_reducible refine Below.alloc ?_ (by first | (simp; done) | (simp; omega) | omega) _) | (refine bl_call ?_ (by assumption) (by first | (simp; done) | (simp; omega) | omega)) | (with_reducible refine bl_drewN ?_) | (with_reducible refine Below.drew ?_) | (with_reducible refine bl_grow ?_ (by first | (simp; done) | (simp; omega) | omega))))).mono ?_; rintro e w3 ⟨rfl, hbw3⟩; have hqw3 : Below w.heap.size w w3 := (by repeat (first | (with_reducible exact Below.refl _ _) | (with_reducible assumption) | (with_reducible refine Below.setCell ?_ (by first | (simp; done) | (simp; omega) | omega) _) | (with_reducible refine Below.alloc ?_ (by first | (simp; done) | (simp; omega) | omega) _) | (refine bl_call ?_ (by assumption) (by first | (simp; done) | (simp; omega) | omega)) | (with_reducible refine bl_drewN ?_) | (with_reducible refine Below.drew ?_) | (with_reducible refine bl_grow ?_ (by first | (simp; done) | (simp; omega) | omega)))); have hzw3 := hqw3.size; clear  hqw2; clear hbw3) | (go_at_call 26; clear m4; refine (times_eq E.out _).mono ?_; rintro e w4 ⟨rfl, hbw4⟩; have hqw4 : Below w.heap.size w w4 := (by repeat (first | (with_reducible exact Below.refl _ _) | (with_reducible assumption) | (with_reducible refine Below.setCell ?_ (by first | (simp; done) | (simp; omega) | omega) _) | (with_reducible refine Below.alloc ?_ (by first | (simp; done) | (simp; omega) | omega) _) | (refine bl_call ?_ (by assumption) (by first | (simp; done) | (simp; omega) | omega)) | (with_reducible refine bl_drewN ?_) | (with_reducible refine Below.drew ?_) | (with_reducible refine bl_grow ?_ (by first | (simp; done) | (simp; omega) | omega)))); have hzw4 := hqw4.size; clear  hqw3; clear hbw4) | (go_at_call 47; clear m5; refine (HA.out _ (by repeat (first | (with_reducible exact Below.refl _ _) | (with_reducible assumption) | (with_reducible refine Below.setCell ?_ (by first | (simp; done) | (simp; omega) | omega) _) | (with_reducible refine Below.alloc ?_ (by first | (simp; done) | (simp; omega) | omega) _) | (refine bl_call ?_ (by assumption) (by first | (simp; done) | (simp; omega) | omega)) | (with_reducible refine bl_drewN ?_) | (with_reducible refine Below.drew ?_) | (with_reducible refine bl_grow ?_ (by first | (simp; done) | (simp; omega) | omega))))).mono ?_; rintro e w5 ⟨rfl, hbw5⟩; have kpw5 : At w5 (w4.heap.size) [.int .i64 ((P).1 : Int), .int .i64 ((P).2.1 : Int), .bool (P).2.2] := (by repeat (first | (with_reducible assumption) | ((with_reducible refine at_new' _ _ _ _ ?_); (first | rfl | (simp; done))) | (with_reducible refine At.alloc ?_ _) | (with_reducible refine At.drew ?_) | (with_reducible refine At.drewN ?_) | (with_reducible refine At.set ?_ (by omega)) | (with_reducible apply At.store4) | (with_reducible apply At.store3) | (with_reducible apply At.store2) | (with_reducible apply At.put43) | (refine At.below ?_ (by with_reducible assumption)))); have hqw5 : Below w.heap.size w w5 := (by repeat (first | (with_reducible exact Below.refl _ _) | (with_reducible assumption) | (with_reducible refine Below.setCell ?_ (by first | (simp; done) | (simp; omega) | omega) _) | (with_reducible refine Below.alloc ?_ (by first | (simp; done) | (simp; omega) | omega) _) | (refine bl_call ?_ (by assumption) (by first | (simp; done) | (simp; omega) | omega)) | (with_reducible refine bl_drewN ?_) | (with_reducible refine Below.drew ?_) | (with_reducible refine bl_grow ?_ (by first | (simp; done) | (simp; omega) | omega)))); have hzw5 := hqw5.size; obtain ⟨zpw5, cp0w5, cp1w5, cp2w5, fp0w5, fp1w5, fp2w5⟩ := kpw5.three; clear  hqw4; clear hbw5))
  go_ret2
  exact ⟨rfl, by repeat (first | (with_reducible exact Below.refl _ _) | (with_reducible assumption) | (with_reducible refine Below.setCell ?_ (by first | (simp; done) | (simp; omega) | omega) _) | (with_reducible refine Below.alloc ?_ (by first | (simp; done) | (simp; omega) | omega) _) | (refine bl_call ?_ (by assumption) (by first | (simp; done) | (simp; omega) | omega)) | (with_reducible refine bl_drewN ?_) | (with_reducible refine Below.drew ?_) | (with_reducible refine bl_grow ?_ (by first | (simp; done) | (simp; omega) | omega)))⟩)
theorem bverify_is : BVerifyIs := by
  refine ⟨fun sk st sl sw n dk m dt q dl p dw I w h => bver_err sk st sl sw n dk m dt q dl p dw 4 w (fun W _ => bchk_full sk st sl sw n dk m dt q dl p dw W h),
    fun sk st sl sw n dk m dt q dl p dw I w h12 h => bver_err sk st sl sw n dk m dt q dl p dw 3 w (fun W _ => bchk_odd sk st sl sw n dk m dt q dl p dw W h12 h),
    fun sk st sl sw n dk m dt q dl p dw I w h12 hm hq hp hf hk ht hl hw he => ?_,
    fun sk st sl sw n dk m dt q dl p dw I w K R S W_ h12 hm hq hp hf hk ht hl hw ho => ?_⟩
  · subst hm hq hp
    refine bver_err sk st sl sw _ dk _ dt _ dl _ dw _ w (fun W hW => ?_)
    have := bchk_row sk st sl sw _ dk dt dl dw I W h12 hf (hk.imp_right fun ⟨b, o, e, r⟩ => ⟨b, o, e, r.below r.1 hW⟩) (ht.imp_right fun ⟨b, o, e, r⟩ => ⟨b, o, e, r.below r.1 hW⟩) (hl.imp_right fun ⟨b, o, e, r⟩ => ⟨b, o, e, r.below r.1 hW⟩) (hw.imp_right fun ⟨b, o, e, r⟩ => ⟨b, o, e, r.below r.1 hW⟩)
    rwa [bE_no he] at this
  · subst hm hq hp
    have h0 := batE_of_ok ho
    have H := bver_two sk st sl sw _ dk dt dl dw _ _ _ _ _ _ w
      (fun W hW => by
        have := bchk_row sk st sl sw _ dk dt dl dw I W h12 hf (hk.imp_right fun ⟨b, o, e, r⟩ => ⟨b, o, e, r.below r.1 hW⟩) (ht.imp_right fun ⟨b, o, e, r⟩ => ⟨b, o, e, r.below r.1 hW⟩) (hl.imp_right fun ⟨b, o, e, r⟩ => ⟨b, o, e, r.below r.1 hW⟩) (hw.imp_right fun ⟨b, o, e, r⟩ => ⟨b, o, e, r.below r.1 hW⟩)
        rwa [h0] at this)
      (fun W hW => bweigh_row sl sw _ dl dw I K R S W_ W h12 (hl.imp_right fun ⟨b, o, e, r⟩ => ⟨b, o, e, r.below r.1 hW⟩) (hw.imp_right fun ⟨b, o, e, r⟩ => ⟨b, o, e, r.below r.1 hW⟩) ho)
      (fun W hW => bans_row sk st sl sw _ dk dt dl dw I W K R S W_ h12 (hk.imp_right fun ⟨b, o, e, r⟩ => ⟨b, o, e, r.below r.1 hW⟩) (ht.imp_right fun ⟨b, o, e, r⟩ => ⟨b, o, e, r.below r.1 hW⟩) (hl.imp_right fun ⟨b, o, e, r⟩ => ⟨b, o, e, r.below r.1 hW⟩) (hw.imp_right fun ⟨b, o, e, r⟩ => ⟨b, o, e, r.below r.1 hW⟩) ho)
      (tM_em 4 _) rfl rfl rfl
    have e := bat_far I K R S W_ p
    unfold sameS at e
    rw [e] at H
    exact H
theorem batL_len (I : Nat → BatI) (K R S : Nat → Nat) : ∀ n, (batL I K R S n).length ≤ n
  | 0 => Nat.le_refl _
  | n + 1 => by
    have := batL_len I K R S n
    unfold batL
    cases sameS (tM (4 * S n)) (tM (R n + K n * askN (R n) (K n) (I n).t)) with
    | true => rw [cond_true]; omega
    | false => rw [cond_false, List.length_append]; simp; omega
def bL (l : List Nat) : List Value := l.map fun (i : Nat) => .int .i64 (i : Int)
theorem bL_more (l : List Nat) (k : Nat) : bL l ++ [.int .i64 (k : Int)] = bL (l ++ [k]) := by unfold bL; rw [List.map_append]; rfl
/-- The end of Wrong. -/
def BWEnd (I : Nat → BatI) (K R S : Nat → Nat) (n : Nat) (w : World) (ex : Ending) (w' : World) : Prop :=
  ((batF I n == 0) = true ∧ ∃ v, ex = .returned (.tuple #[v, .nilIface]) ∧ w'.ownsRow w.heap.size 3 1 v (batL I K R S n).length (bL (batL I K R S n)) ∧ Below w.heap.size w w') ∨
  ((batF I n == 0) = false ∧ ex = .returned (.tuple #[.slice none 0 0, errOf (batF I n)]) ∧ Below w.heap.size w w')
theorem biinfo : (Try.prog.info? 3).map (fun i => (i.zero, i.size, i.bytes)) = some (some (.int .i64 0), 1, 8) := by kernel_rfl
set_option maxRecDepth 100000 in
set_option maxHeartbeats 4000000 in
theorem bwr_full (sk st sl : Option Addr) (n dk m dt q dl : Nat) (w : World) (h : 12 < n) : Calls Try.prog 23 #[.slice sk n dk, .slice st m dt, .slice sl q dl] w fun e w' => e = .returned (.tuple #[.slice none 0 0, errOf 4]) ∧ Below w.heap.size w w' := by
  have m1 : True := trivial
  go_enter Try.func23, Try.ntmps23
  go_wp2_with (go_at_call 49; clear m1; refine (bmany_full _ _ _ _ _ h).mono ?_; rintro e w1 ⟨rfl, hbw1⟩; have hqw1 : Below w.heap.size w w1 := (by repeat (first | (with_reducible exact Below.refl _ _) | (with_reducible assumption) | (with_reducible refine Below.setCell ?_ (by first | (simp; done) | (simp; omega) | omega) _) | (with_reducible refine Below.alloc ?_ (by first | (simp; done) | (simp; omega) | omega) _) | (refine bl_call ?_ (by assumption) (by first | (simp; done) | (simp; omega) | omega)) | (with_reducible refine bl_drewN ?_) | (with_reducible refine Below.drew ?_) | (with_reducible refine bl_grow ?_ (by first | (simp; done) | (simp; omega) | omega)))); have hzw1 := hqw1.size; clear hbw1)
  go_ret2
  exact ⟨rfl, by repeat (first | (with_reducible exact Below.refl _ _) | (with_reducible assumption) | (with_reducible refine Below.setCell ?_ (by first | (simp; done) | (simp; omega) | omega) _) | (with_reducible refine Below.alloc ?_ (by first | (simp; done) | (simp; omega) | omega) _) | (refine bl_call ?_ (by assumption) (by first | (simp; done) | (simp; omega) | omega)) | (with_reducible refine bl_drewN ?_) | (with_reducible refine Below.drew ?_) | (with_reducible refine bl_grow ?_ (by first | (simp; done) | (simp; omega) | omega)))⟩
set_option maxRecDepth 100000 in
set_option maxHeartbeats 4000000 in
theorem bwr_odd (sk st sl : Option Addr) (n dk m dt q dl : Nat) (w : World) (hn : n ≤ 12) (h : m ≠ n ∨ q ≠ n) : Calls Try.prog 23 #[.slice sk n dk, .slice st m dt, .slice sl q dl] w fun e w' => e = .returned (.tuple #[.slice none 0 0, errOf 3]) ∧ Below w.heap.size w w' := by
  have H : Hid (m ≠ n ∨ q ≠ n) := h
  clear h
  have m1 : True := trivial
  go_enter Try.func23, Try.ntmps23
  go_wp2_with (go_at_call 49; clear m1; refine (bmany2_no (by repeat (first | (with_reducible assumption) | ((with_reducible refine at_new' _ _ _ _ ?_); (first | rfl | (simp; done))) | (with_reducible refine At.alloc ?_ _) | (with_reducible refine At.drew ?_) | (with_reducible refine At.drewN ?_) | (with_reducible refine At.set ?_ (by omega)) | (with_reducible apply At.store4) | (with_reducible apply At.store3) | (with_reducible apply At.store2) | (with_reducible apply At.put43) | (refine At.below ?_ (by with_reducible assumption)))) hn H.out).mono ?_; rintro e w1 ⟨rfl, hbw1⟩; have hqw1 : Below w.heap.size w w1 := (by repeat (first | (with_reducible exact Below.refl _ _) | (with_reducible assumption) | (with_reducible refine Below.setCell ?_ (by first | (simp; done) | (simp; omega) | omega) _) | (with_reducible refine Below.alloc ?_ (by first | (simp; done) | (simp; omega) | omega) _) | (refine bl_call ?_ (by assumption) (by first | (simp; done) | (simp; omega) | omega)) | (with_reducible refine bl_drewN ?_) | (with_reducible refine Below.drew ?_) | (with_reducible refine bl_grow ?_ (by first | (simp; done) | (simp; omega) | omega)))); have hzw1 := hqw1.size; clear hbw1)
  go_ret2
  exact ⟨rfl, by repeat (first | (with_reducible exact Below.refl _ _) | (with_reducible assumption) | (with_reducible refine Below.setCell ?_ (by first | (simp; done) | (simp; omega) | omega) _) | (with_reducible refine Below.alloc ?_ (by first | (simp; done) | (simp; omega) | omega) _) | (refine bl_call ?_ (by assumption) (by first | (simp; done) | (simp; omega) | omega)) | (with_reducible refine bl_drewN ?_) | (with_reducible refine Below.drew ?_) | (with_reducible refine bl_grow ?_ (by first | (simp; done) | (simp; omega) | omega)))⟩
set_option maxRecDepth 100000 in
set_option maxHeartbeats 4000000 in
theorem bwr_row (sk st sl : Option Addr) (n dk dt dl : Nat) (I : Nat → BatI) (K R S : Nat → Nat) (w : World) (hn : n ≤ 12) (hf : (∀ i, i < n → (I i).t.size ≤ 9223372036854775807 ∧ (Lit.int .i64 (I i).s).wf = true)) (hk : (n = 0 ∨ ∃ b o : Nat, sk = some ⟨b, o, none⟩ ∧ RowO w b o n (fun i => (I i).kx) (fun i => (I i).ky) (fun i => (I i).kf))) (ht : (n = 0 ∨ ∃ b o : Nat, st = some ⟨b, o, none⟩ ∧ RowZ w b o n (fun i => (I i).t))) (hl : (n = 0 ∨ ∃ b o : Nat, sl = some ⟨b, o, none⟩ ∧ RowL w b o n I)) (ho : ∀ i, i < n → (seaE (I i) == 0) = true → SealOk (I i) (K i) (R i) (S i)) :
    Calls Try.prog 23 #[.slice sk n dk, .slice st n dt, .slice sl n dl] w (BWEnd I K R S n w) := by
  have HF : Hid (∀ i, i < n → (I i).t.size ≤ 9223372036854775807 ∧ (Lit.int .i64 (I i).s).wf = true) := hf
  have HRK : Hid ((n = 0 ∨ ∃ b o : Nat, sk = some ⟨b, o, none⟩ ∧ RowO w b o n (fun i => (I i).kx) (fun i => (I i).ky) (fun i => (I i).kf))) := hk
  have HRT : Hid ((n = 0 ∨ ∃ b o : Nat, st = some ⟨b, o, none⟩ ∧ RowZ w b o n (fun i => (I i).t))) := ht
  have HRL : Hid ((n = 0 ∨ ∃ b o : Nat, sl = some ⟨b, o, none⟩ ∧ RowL w b o n I)) := hl
  have HO : Hid (∀ i, i < n → (seaE (I i) == 0) = true → SealOk (I i) (K i) (R i) (S i)) := ho
  have HLEN : Hid (∀ k, (batL I K R S k).length ≤ k) := batL_len I K R S
  clear hf hk ht hl ho
  obtain ⟨i0, hi, hv0, hv1, hv2⟩ := info_parts biinfo
  have m1 : True := trivial
  go_enter Try.func23, Try.ntmps23
  go_wp2_with (go_at_call 49; clear m1; refine (bmany2_yes (by repeat (first | (with_reducible assumption) | ((with_reducible refine at_new' _ _ _ _ ?_); (first | rfl | (simp; done))) | (with_reducible refine At.alloc ?_ _) | (with_reducible refine At.drew ?_) | (with_reducible refine At.drewN ?_) | (with_reducible refine At.set ?_ (by omega)) | (with_reducible apply At.store4) | (with_reducible apply At.store3) | (with_reducible apply At.store2) | (with_reducible apply At.put43) | (refine At.below ?_ (by with_reducible assumption)))) hn).mono ?_; rintro e w1 ⟨rfl, hbw1⟩; have hqw1 : Below w.heap.size w w1 := (by repeat (first | (with_reducible exact Below.refl _ _) | (with_reducible assumption) | (with_reducible refine Below.setCell ?_ (by first | (simp; done) | (simp; omega) | omega) _) | (with_reducible refine Below.alloc ?_ (by first | (simp; done) | (simp; omega) | omega) _) | (refine bl_call ?_ (by assumption) (by first | (simp; done) | (simp; omega) | omega)) | (with_reducible refine bl_drewN ?_) | (with_reducible refine Below.drew ?_) | (with_reducible refine bl_grow ?_ (by first | (simp; done) | (simp; omega) | omega)))); have hzw1 := hqw1.size; clear hbw1)
  go_loopw [9, 27] (fun tv ti wl => ∃ k : Nat, k ≤ n ∧ ti = .int .i64 k ∧ batF I k = 0 ∧ wl.ownsRow w.heap.size 3 1 tv (batL I K R S k).length (bL (batL I K R S k)) ∧ Below w.heap.size w wl) (fun _ ti _ => n - (intOf ti).toNat)
  case atStart => exact ⟨0, by omega, rfl, rfl, World.ownsRow_nil _ _ _ _, by repeat (first | (with_reducible exact Below.refl _ _) | (with_reducible assumption) | (with_reducible refine Below.setCell ?_ (by first | (simp; done) | (simp; omega) | omega) _) | (with_reducible refine Below.alloc ?_ (by first | (simp; done) | (simp; omega) | omega) _) | (refine bl_call ?_ (by assumption) (by first | (simp; done) | (simp; omega) | omega)) | (with_reducible refine bl_drewN ?_) | (with_reducible refine Below.drew ?_) | (with_reducible refine bl_grow ?_ (by first | (simp; done) | (simp; omega) | omega)))⟩
  case round =>
    clear hqw1 hzw1
    obtain ⟨k, hk, rfl, he, hown, hqV⟩ := hrel
    rename World => V
    have HE : Hid (batF I k = 0) := he
    have HOWN : Hid (V.ownsRow w.heap.size 3 1 u9 (batL I K R S k).length (bL (batL I K R S k))) := hown
    clear he hown
    have hzV := hqV.size
    by_cases hlt : k < n
    · have hlt' : (k : Int) < n := by omega
      obtain ⟨bk, ok, rfl, rk⟩ := HRK.out.resolve_left (by omega)
      have Rk : Hid (RowO w bk ok n (fun i => (I i).kx) (fun i => (I i).ky) (fun i => (I i).kf)) := rk
      obtain ⟨bt, ot, rfl, rt⟩ := HRT.out.resolve_left (by omega)
      have Rt : Hid (RowZ w bt ot n (fun i => (I i).t)) := rt
      obtain ⟨bl, ol, rfl, rl⟩ := HRL.out.resolve_left (by omega)
      have Rl : Hid (RowL w bl ol n I) := rl
      have hbk := Nat.lt_of_lt_of_le rk.1 hzV
      obtain ⟨a0, a1, a2⟩ := (rk.below rk.1 hqV).2 k hlt
      dsimp only at a0 a1 a2
      clear rk rt rl
      obtain ⟨hf1, hf2⟩ := HF.out k hlt
      cases hs : seaE (I k) == 0 with
      | false =>
        have HS : Hid (∀ w, Calls Try.prog 24 #[.agg #[.int .i64 (I k).kx, .int .i64 (I k).ky, .bool (I k).kf], .string (I k).t, .agg #[.int .i64 (I k).rx, .int .i64 (I k).ry, .bool (I k).rf, .int .i64 (I k).s]] w fun e w' => e = .returned (.tuple #[.bool false, errOf (seaE (I k))]) ∧ Below w.heap.size w w') := fun w => bsv_no (I k) w hf1 hf2 hs
        have HX : Hid (batF I n = seaE (I k)) := batF_stop HE.out hs hlt
        have HN : Hid ((seaE (I k) == 0) = false) := hs
        clear hs
        go_wp2_with fail
        refine wp_gen (fun Y => At Y (V.heap.size) [.int .i64 (I k).kx, .int .i64 (I k).ky, .bool (I k).kf] ∧ Below w.heap.size w Y ∧ Y.ownsRow w.heap.size 3 1 u9 (batL I K R S k).length (bL (batL I K R S k))) ⟨by repeat (first | (with_reducible assumption) | ((with_reducible refine at_new' _ _ _ _ ?_); (first | rfl | (simp; done))) | (with_reducible refine At.alloc ?_ _) | (with_reducible refine At.drew ?_) | (with_reducible refine At.drewN ?_) | (with_reducible refine At.set ?_ (by omega)) | (with_reducible apply At.store4) | (with_reducible apply At.store3) | (with_reducible apply At.store2) | (with_reducible apply At.put43) | (refine At.below ?_ (by with_reducible assumption))), by repeat (first | (with_reducible exact Below.refl _ _) | (with_reducible assumption) | (with_reducible refine Below.setCell ?_ (by first | (simp; done) | (simp; omega) | omega) _) | (with_reducible refine Below.alloc ?_ (by first | (simp; done) | (simp; omega) | omega) _) | (refine bl_call ?_ (by assumption) (by first | (simp; done) | (simp; omega) | omega)) | (with_reducible refine bl_drewN ?_) | (with_reducible refine Below.drew ?_) | (with_reducible refine bl_grow ?_ (by first | (simp; done) | (simp; omega) | omega))), HOWN.out.alloc _⟩ ?_
        rintro Y ⟨ksY, hqY, hownY⟩
        have hzY := hqY.size
        obtain ⟨zsY, cs0Y, cs1Y, cs2Y, fs0Y, fs1Y, fs2Y⟩ := ksY.three
        have ct := (Rt.out.below Rt.out.1 hqY).2 k hlt
        obtain ⟨l0, l1, l2, l3⟩ := (Rl.out.below Rl.out.1 hqY).2 k hlt
        have hbt := Nat.lt_of_lt_of_le Rt.out.1 hzY
        have hbl := Nat.lt_of_lt_of_le Rl.out.1 hzY
        refine wp_region_quiet_below (by kernel_rfl) (by kernel_rfl) ?_
        repeat (go_big_quiet_step (first | (go_at_call 24; with_reducible exact Calls.regrown_of (HS.out _))))
        refine wpQuiet_nil ?_
        intro Z hw1
        have hrZ := regrown_below hw1
        clear hw1
        have ksZ := ksY.below hrZ
        have hqZ := bl_call hqY hrZ (by omega)
        have hzZ := hqZ.size
        have hownZ := own_stay hownY hrZ
        have HOZ : Hid (Z.ownsRow w.heap.size 3 1 u9 (batL I K R S k).length (bL (batL I K R S k))) := hownZ
        clear hownY hownZ hrZ ksY cs0Y fs0Y cs1Y fs1Y cs2Y fs2Y hqY
        obtain ⟨zsZ, cs0Z, cs1Z, cs2Z, fs0Z, fs1Z, fs2Z⟩ := ksZ.three
        clear ct l0 l1 l2 l3
        go_wp2_with fail
        go_ret2
        exact Or.inr ⟨by rw [HX.out]; exact HN.out, by rw [HX.out]; rfl, by repeat (first | (with_reducible exact Below.refl _ _) | (with_reducible assumption) | (with_reducible refine Below.setCell ?_ (by first | (simp; done) | (simp; omega) | omega) _) | (with_reducible refine Below.alloc ?_ (by first | (simp; done) | (simp; omega) | omega) _) | (refine bl_call ?_ (by assumption) (by first | (simp; done) | (simp; omega) | omega)) | (with_reducible refine bl_drewN ?_) | (with_reducible refine Below.drew ?_) | (with_reducible refine bl_grow ?_ (by first | (simp; done) | (simp; omega) | omega)))⟩
      | true =>
        have HQ := HO.out k hlt hs
        have HX : Hid (batF I (k + 1) = 0) := batF_go HE.out (by simpa using hs)
        clear hs
        cases hb : sameS (tM (4 * S k)) (tM (R k + K k * askN (R k) (K k) (I k).t)) with
        | true =>
          have HS : Hid (∀ w, Calls Try.prog 24 #[.agg #[.int .i64 (I k).kx, .int .i64 (I k).ky, .bool (I k).kf], .string (I k).t, .agg #[.int .i64 (I k).rx, .int .i64 (I k).ry, .bool (I k).rf, .int .i64 (I k).s]] w fun e w' => e = .returned (.tuple #[.bool true, .nilIface]) ∧ Below w.heap.size w w') := fun w => by
            have := bsv_ok HQ w
            rwa [hb] at this
          have HL : Hid (batL I K R S (k + 1) = batL I K R S k) := by unfold Hid; rw [batL]; rw [hb]; rfl
          clear hb HQ
          go_wp2_with fail
          refine wp_gen (fun Y => At Y (V.heap.size) [.int .i64 (I k).kx, .int .i64 (I k).ky, .bool (I k).kf] ∧ Below w.heap.size w Y ∧ Y.ownsRow w.heap.size 3 1 u9 (batL I K R S k).length (bL (batL I K R S k))) ⟨by repeat (first | (with_reducible assumption) | ((with_reducible refine at_new' _ _ _ _ ?_); (first | rfl | (simp; done))) | (with_reducible refine At.alloc ?_ _) | (with_reducible refine At.drew ?_) | (with_reducible refine At.drewN ?_) | (with_reducible refine At.set ?_ (by omega)) | (with_reducible apply At.store4) | (with_reducible apply At.store3) | (with_reducible apply At.store2) | (with_reducible apply At.put43) | (refine At.below ?_ (by with_reducible assumption))), by repeat (first | (with_reducible exact Below.refl _ _) | (with_reducible assumption) | (with_reducible refine Below.setCell ?_ (by first | (simp; done) | (simp; omega) | omega) _) | (with_reducible refine Below.alloc ?_ (by first | (simp; done) | (simp; omega) | omega) _) | (refine bl_call ?_ (by assumption) (by first | (simp; done) | (simp; omega) | omega)) | (with_reducible refine bl_drewN ?_) | (with_reducible refine Below.drew ?_) | (with_reducible refine bl_grow ?_ (by first | (simp; done) | (simp; omega) | omega))), HOWN.out.alloc _⟩ ?_
          rintro Y ⟨ksY, hqY, hownY⟩
          have hzY := hqY.size
          obtain ⟨zsY, cs0Y, cs1Y, cs2Y, fs0Y, fs1Y, fs2Y⟩ := ksY.three
          have ct := (Rt.out.below Rt.out.1 hqY).2 k hlt
          obtain ⟨l0, l1, l2, l3⟩ := (Rl.out.below Rl.out.1 hqY).2 k hlt
          have hbt := Nat.lt_of_lt_of_le Rt.out.1 hzY
          have hbl := Nat.lt_of_lt_of_le Rl.out.1 hzY
          refine wp_region_quiet_below (by kernel_rfl) (by kernel_rfl) ?_
          repeat (go_big_quiet_step (first | (go_at_call 24; with_reducible exact Calls.regrown_of (HS.out _))))
          refine wpQuiet_nil ?_
          intro Z hw1
          have hrZ := regrown_below hw1
          clear hw1
          have ksZ := ksY.below hrZ
          have hqZ := bl_call hqY hrZ (by omega)
          have hzZ := hqZ.size
          have hownZ := own_stay hownY hrZ
          have HOZ : Hid (Z.ownsRow w.heap.size 3 1 u9 (batL I K R S k).length (bL (batL I K R S k))) := hownZ
          clear hownY hownZ hrZ ksY cs0Y fs0Y cs1Y fs1Y cs2Y fs2Y hqY
          obtain ⟨zsZ, cs0Z, cs1Z, cs2Z, fs0Z, fs1Z, fs2Z⟩ := ksZ.three
          clear ct l0 l1 l2 l3
          go_wp2_with fail
          go_roundw
          case rel => exact ⟨k + 1, by omega, by simp, HX.out, by rw [HL.out]; exact HOZ.out, by repeat (first | (with_reducible exact Below.refl _ _) | (with_reducible assumption) | (with_reducible refine Below.setCell ?_ (by first | (simp; done) | (simp; omega) | omega) _) | (with_reducible refine Below.alloc ?_ (by first | (simp; done) | (simp; omega) | omega) _) | (refine bl_call ?_ (by assumption) (by first | (simp; done) | (simp; omega) | omega)) | (with_reducible refine bl_drewN ?_) | (with_reducible refine Below.drew ?_) | (with_reducible refine bl_grow ?_ (by first | (simp; done) | (simp; omega) | omega)))⟩
          case measure => simp [intOf]; omega
        | false =>
          have HS : Hid (∀ w, Calls Try.prog 24 #[.agg #[.int .i64 (I k).kx, .int .i64 (I k).ky, .bool (I k).kf], .string (I k).t, .agg #[.int .i64 (I k).rx, .int .i64 (I k).ry, .bool (I k).rf, .int .i64 (I k).s]] w fun e w' => e = .returned (.tuple #[.bool false, .nilIface]) ∧ Below w.heap.size w w') := fun w => by
            have := bsv_ok HQ w
            rwa [hb] at this
          have HL : Hid (batL I K R S (k + 1) = batL I K R S k ++ [k]) := by unfold Hid; rw [batL]; rw [hb]; rfl
          have hlen := HLEN.out k
          clear hb HQ
          go_wp2_with fail
          refine wp_gen (fun Y => At Y (V.heap.size) [.int .i64 (I k).kx, .int .i64 (I k).ky, .bool (I k).kf] ∧ Below w.heap.size w Y ∧ Y.ownsRow w.heap.size 3 1 u9 (batL I K R S k).length (bL (batL I K R S k))) ⟨by repeat (first | (with_reducible assumption) | ((with_reducible refine at_new' _ _ _ _ ?_); (first | rfl | (simp; done))) | (with_reducible refine At.alloc ?_ _) | (with_reducible refine At.drew ?_) | (with_reducible refine At.drewN ?_) | (with_reducible refine At.set ?_ (by omega)) | (with_reducible apply At.store4) | (with_reducible apply At.store3) | (with_reducible apply At.store2) | (with_reducible apply At.put43) | (refine At.below ?_ (by with_reducible assumption))), by repeat (first | (with_reducible exact Below.refl _ _) | (with_reducible assumption) | (with_reducible refine Below.setCell ?_ (by first | (simp; done) | (simp; omega) | omega) _) | (with_reducible refine Below.alloc ?_ (by first | (simp; done) | (simp; omega) | omega) _) | (refine bl_call ?_ (by assumption) (by first | (simp; done) | (simp; omega) | omega)) | (with_reducible refine bl_drewN ?_) | (with_reducible refine Below.drew ?_) | (with_reducible refine bl_grow ?_ (by first | (simp; done) | (simp; omega) | omega))), HOWN.out.alloc _⟩ ?_
          rintro Y ⟨ksY, hqY, hownY⟩
          have hzY := hqY.size
          obtain ⟨zsY, cs0Y, cs1Y, cs2Y, fs0Y, fs1Y, fs2Y⟩ := ksY.three
          have ct := (Rt.out.below Rt.out.1 hqY).2 k hlt
          obtain ⟨l0, l1, l2, l3⟩ := (Rl.out.below Rl.out.1 hqY).2 k hlt
          have hbt := Nat.lt_of_lt_of_le Rt.out.1 hzY
          have hbl := Nat.lt_of_lt_of_le Rl.out.1 hzY
          refine wp_region_quiet_below (by kernel_rfl) (by kernel_rfl) ?_
          repeat (go_big_quiet_step (first | (go_at_call 24; with_reducible exact Calls.regrown_of (HS.out _))))
          refine wpQuiet_nil ?_
          intro Z hw1
          have hrZ := regrown_below hw1
          clear hw1
          have ksZ := ksY.below hrZ
          have hqZ := bl_call hqY hrZ (by omega)
          have hzZ := hqZ.size
          have hownZ := own_stay hownY hrZ
          have HOZ : Hid (Z.ownsRow w.heap.size 3 1 u9 (batL I K R S k).length (bL (batL I K R S k))) := hownZ
          clear hownY hownZ hrZ ksY cs0Y fs0Y cs1Y fs1Y cs2Y fs2Y hqY
          obtain ⟨zsZ, cs0Z, cs1Z, cs2Z, fs0Z, fs1Z, fs2Z⟩ := ksZ.three
          clear ct l0 l1 l2 l3
          go_wp2_with (at_builtin; refine wpList_append_own_at _ rfl _ _ 22 rfl w.heap.size 3 i0 (.int .i64 0) 1 8 Try.underlying22 hi hv0 hv1 hv2 rfl (by decide) _ _ _ rfl (HOZ.out.alloc _) ⟨Z.heap.size, 0, none⟩ 1 1 [.int .i64 (k : Int)] rfl rfl ?c1 ?c2 ?c3 ?c4 ?c5 ?_)
          case c1 => exact cell_one_new _ _ _
          case c2 => intro u hu; simp at hu; subst hu; rfl
          case c3 => unfold maxLen; omega
          case c4 => omega
          case c5 => simp; omega
          · intro v' w13 hown' hgrow _ hat
            have hq13 : Below w.heap.size w w13 := grown_under (B := w.heap.size) (by repeat (first | (with_reducible exact Below.refl _ _) | (with_reducible assumption) | (with_reducible refine Below.setCell ?_ (by first | (simp; done) | (simp; omega) | omega) _) | (with_reducible refine Below.alloc ?_ (by first | (simp; done) | (simp; omega) | omega) _) | (refine bl_call ?_ (by assumption) (by first | (simp; done) | (simp; omega) | omega)) | (with_reducible refine bl_drewN ?_) | (with_reducible refine Below.drew ?_) | (with_reducible refine bl_grow ?_ (by first | (simp; done) | (simp; omega) | omega)))) (HOZ.out.alloc _) hgrow (by simp; omega) (Nat.le_refl _)
            rw [bL_more, ← HL.out] at hown'
            have hlen2 : (batL I K R S k).length + 1 = (batL I K R S (k + 1)).length := by rw [HL.out, List.length_append]; rfl
            rw [hlen2] at hown'
            clear hgrow hat hlen2
            go_wp2_with fail
            go_roundw
            case rel => exact ⟨k + 1, by omega, by simp, HX.out, hown', hq13⟩
            case measure => simp [intOf]; omega
    · have hlt' : ¬ (k : Int) < n := by omega
      obtain rfl : k = n := by omega
      have HN : Hid ((batF I k == 0) = true) := by unfold Hid; rw [HE.out]; rfl
      go_wp2_with fail
      go_ret2
      exact Or.inl ⟨HN.out, _, rfl, HOWN.out, by repeat (first | (with_reducible exact Below.refl _ _) | (with_reducible assumption) | (with_reducible refine Below.setCell ?_ (by first | (simp; done) | (simp; omega) | omega) _) | (with_reducible refine Below.alloc ?_ (by first | (simp; done) | (simp; omega) | omega) _) | (refine bl_call ?_ (by assumption) (by first | (simp; done) | (simp; omega) | omega)) | (with_reducible refine bl_drewN ?_) | (with_reducible refine Below.drew ?_) | (with_reducible refine bl_grow ?_ (by first | (simp; done) | (simp; omega) | omega)))⟩
theorem bwrong_is : BWrongIs := by
  refine ⟨fun sk st sl n dk m dt q dl I w h => bwr_full sk st sl n dk m dt q dl w h,
    fun sk st sl n dk m dt q dl I w h12 h => bwr_odd sk st sl n dk m dt q dl w h12 h,
    fun sk st sl n dk m dt q dl I w h12 hm hq hf hk ht hl he => ?_,
    fun sk st sl n dk m dt q dl I w K R S h12 hm hq hf hk ht hl ho => ?_⟩
  · subst hm hq
    obtain ⟨K, R, S, hp⟩ := bat_pick I
    refine (bwr_row sk st sl _ dk dt dl I K R S w h12 (fun i hi => ⟨(hf i hi).1, (hf i hi).2.1⟩) hk ht hl (fun i hi h => hp i (by simpa using h))).mono ?_
    rintro ex w' (⟨h, _⟩ | ⟨_, h1, h2⟩)
    · rw [he] at h; cases h
    · exact ⟨h1, h2⟩
  · subst hm hq
    refine (bwr_row sk st sl _ dk dt dl I K R S w h12 (fun i hi => ⟨(hf i hi).1, (hf i hi).2.1⟩) hk ht hl (fun i hi h => ho i hi)).mono ?_
    rintro ex w' (⟨_, h⟩ | ⟨h, _⟩)
    · exact h
    · rw [batF_of_ok ho] at h; cases h
end Go.Proofs.Ytmijjjdedadklaj
