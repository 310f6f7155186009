/- stonelaw3.BatchTells answers true, by what its callees answer. -/
import Derived.Test.YtmijjjdedadklajDoorBatch
import Derived.Test.YtmijjjdedadklajDoorTold
import Derived.Test.YtmijjjdedadklajDoorStay
import Derived.Test.YtmijjjdedadklajDoorLast
import Derived.Test.YtmijjjdedadklajDoorBX
import Derived.Lib.QuietBelow
import Derived.Deep.RegionHeld3
import Derived.Deep.CutRange
import Derived.Deep.CutBlock
namespace Go.Proofs.YtmijjjdedadklajDoor
open Go.RowKit Go.Sort
set_option linter.unusedVariables false
set_option linter.unusedSimpArgs false
theorem bneg_em (y c : Nat) : tM (y * em (-(c : Int))) = tM (4051 * (y * c)) := by
  refine tM_congr ?_
  have h : em (-(c : Int)) % 4052 = (4051 * c) % 4052 := by unfold em; omega
  rw [Nat.mul_mod, h, ← Nat.mul_mod, ← Nat.mul_assoc, Nat.mul_comm y, Nat.mul_assoc]
theorem brl_at {w W : World} {b o n : Nat} {I : Nat → BatI} {k y r s : Nat} (so : SealOk (I k) y r s) (h : RowL w b o n I) (hb : Below w.heap.size w W) (hi : k < n) : b < W.heap.size ∧ W.cell? ⟨b, o + k * 4, none⟩ = some (.int .i64 ((tM r).1 : Int)) ∧ W.cell? ⟨b, o + k * 4 + 1, none⟩ = some (.int .i64 ((tM r).2.1 : Int)) ∧ W.cell? ⟨b, o + k * 4 + 2, none⟩ = some (.bool (tM r).2.2) ∧ W.cell? ⟨b, o + k * 4 + 3, none⟩ = some (.int .i64 (s : Int)) := by
  obtain ⟨h0, h1, h2, h3⟩ := (h.below h.1 hb).2 k hi
  rw [so.hrx] at h0
  rw [so.hry] at h1
  rw [so.hrf] at h2
  rw [so.hs] at h3
  exact ⟨Nat.lt_of_lt_of_le h.1 hb.size, h0, h1, h2, h3⟩
theorem brk_at {w W : World} {b o n : Nat} {I : Nat → BatI} {k y r s : Nat} (so : SealOk (I k) y r s) (h : RowO w b o n (fun i => (I i).kx) (fun i => (I i).ky) (fun i => (I i).kf)) (hb : Below w.heap.size w W) (hi : k < n) : b < W.heap.size ∧ W.cell? ⟨b, o + k * 3, none⟩ = some (.int .i64 ((tM y).1 : Int)) ∧ W.cell? ⟨b, o + k * 3 + 1, none⟩ = some (.int .i64 ((tM y).2.1 : Int)) ∧ W.cell? ⟨b, o + k * 3 + 2, none⟩ = some (.bool (tM y).2.2) := by
  obtain ⟨h0, h1, h2⟩ := (h.below h.1 hb).2 k hi
  dsimp only at h0 h1 h2
  rw [so.hkx] at h0
  rw [so.hky] at h1
  rw [so.hkf] at h2
  exact ⟨Nat.lt_of_lt_of_le h.1 hb.size, h0, h1, h2⟩
theorem brs_any (x : BatI) (w : World) (ht : x.t.size ≤ 9223372036854775807) : Calls Tryd.prog 5 #[.agg #[.int .i64 x.kx, .int .i64 x.ky, .bool x.kf], .string x.t, .agg #[.int .i64 x.rx, .int .i64 x.ry, .bool x.rf, .int .i64 x.s]] w fun ex w' => ex = .returned (.int .i64 (seaE x)) ∧ Below w.heap.size w w' := by
  unfold seaE
  by_cases h60 : 60 < x.t.size
  · rw [decide_eq_true h60]
    exact rseal_full _ _ _ _ _ _ _ _ w h60 ht
  · rw [decide_eq_false h60, cond_false]
    have h6 : x.t.size ≤ 60 := by omega
    cases hk : ckI x.kx x.ky x.kf == 0 with
    | false =>
      rw [cond_false]
      exact rseal_key _ _ _ _ _ _ _ _ w h6 hk
    | true =>
      have k0 : ckI x.kx x.ky x.kf = 0 := by simpa using hk
      rw [cond_true]
      cases hr : ckI x.rx x.ry x.rf == 0 with
      | false =>
        rw [cond_false]
        exact rseal_r _ _ _ _ _ _ _ _ w h6 k0 hr
      | true =>
        have r0 : ckI x.rx x.ry x.rf = 0 := by simpa using hr
        rw [cond_true]
        cases hs : resB x.s with
        | false => exact rseal_s _ _ _ _ _ _ _ _ w h6 k0 r0 hs
        | true => exact rseal_ok _ _ _ _ _ _ _ _ w h6 k0 r0 hs
theorem brr_ok {x : BatI} {k r s : Nat} (h : SealOk x k r s) (w : World) : Calls Tryd.prog 13 #[.agg #[.int .i64 x.kx, .int .i64 x.ky, .bool x.kf], .string x.t, .agg #[.int .i64 x.rx, .int .i64 x.ry, .bool x.rf, .int .i64 x.s], .agg #[.int .i64 0, .int .i64 0, .bool true]] w fun ex w' => ex = .returned (.bool (sameS (tM (4 * s)) (tM (r + k * askN r k x.t)))) ∧ Below w.heap.size w w' := by
  obtain ⟨h1, h2, h3, h4, h5, h6, h7, h8, h9⟩ := h
  rw [h2, h3, h4, h5, h6, h7, h8]
  exact rright_same h1 (by rw [em_nat h9]) w
set_option maxRecDepth 100000 in
set_option maxHeartbeats 16000000 in
theorem btells (sk st sl sw : Option Addr) (n dk m dt q dl p dw : Nat) (I : Nat → BatI) (K R S W : Nat → Nat) (f0 e0 e1 f1 : Int) (vb : Bool) (v1 v2 : Value) (LL : List Nat) (w : World) (hd : Door w)
    (T1 : (toldI v1 == e1) = true) (T2 : (toldI v2 == f1) = true)
    (hHM : ∀ w, Calls Tryd.prog 4 #[.slice sk n dk, .slice st m dt, .slice sl q dl] w fun ex w' => ex = .returned (.int .i64 f0) ∧ Below w.heap.size w w')
    (hHE0 : e0 = bif (f0 == 0 && !(decide (p = n))) then 3 else f0)
    (hHC0 : (f0 == 0) = true → m = n ∧ q = n ∧ n ≤ 12 ∧ (∀ i, i < n → (I i).t.size ≤ 9223372036854775807 ∧ (Lit.int .i64 (I i).s).wf = true ∧ (Lit.int .i64 (I i).w).wf = true) ∧ (n = 0 ∨ ∃ b o : Nat, sk = some ⟨b, o, none⟩ ∧ RowO w b o n (fun i => (I i).kx) (fun i => (I i).ky) (fun i => (I i).kf)) ∧ (n = 0 ∨ ∃ b o : Nat, st = some ⟨b, o, none⟩ ∧ RowZ w b o n (fun i => (I i).t)) ∧ (n = 0 ∨ ∃ b o : Nat, sl = some ⟨b, o, none⟩ ∧ RowL w b o n I))
    (hHCW : (e0 == 0) = true → (f0 == 0) = true ∧ p = n ∧ (n = 0 ∨ ∃ b o : Nat, sw = some ⟨b, o, none⟩ ∧ RowI w b o n (fun i => (I i).w)))
    (hE1t : (e0 == 0) = true → e1 = batE I n)
    (hE1f : (e0 == 0) = false → e1 = e0)
    (hHO : ∀ i, (seaE (I i) == 0) = true → SealOk (I i) (K i) (R i) (S i))
    (hHWW : ∀ i, secB (I i).w = true → (I i).w = (W i : Int))
    (hHV : ∀ W, Below w.heap.size w W → Calls Tryd.prog 11 #[.slice sk n dk, .slice st m dt, .slice sl q dl, .slice sw p dw] W fun ex w' => ex = .returned (.tuple #[.bool vb, v1]) ∧ Below W.heap.size W w')
    (hI1 : IsErr v1)
    (hVBt : (e1 == 0) = true → vb = farI (batS I K R S W n))
    (hVBf : (e1 == 0) = false → vb = false)
    (hF1t : (f0 == 0) = true → f1 = batF I n)
    (hF1f : (f0 == 0) = false → f1 = f0)
    (hLLt : (f1 == 0) = true → LL = batL I K R S n)
    (hLLf : (f1 == 0) = false → LL = [])
    (hHW : ∀ W, Below w.heap.size w W → Calls Tryd.prog 14 #[.slice sk n dk, .slice st m dt, .slice sl q dl] W fun ex w' => ∃ x, ex = .returned (.tuple #[x, v2]) ∧ w'.ownsRow W.heap.size 3 1 x LL.length (bL LL) ∧ Below W.heap.size W w')
    (hI2 : IsErr v2)
    (hHI : ∀ W x u B B', W.ownsRow B 3 1 x LL.length (bL LL) → W.ownsRow B' 3 1 u LL.length (bL LL) → Calls Tryd.prog 15 #[x, u] W fun ex w' => ex = .returned (.bool true) ∧ Below W.heap.size W w')
    : Calls Tryd.prog 3 #[.slice sk n dk, .slice st m dt, .slice sl q dl, .slice sw p dw] w fun e w' => e = .returned (.bool true) ∧ Below w.heap.size w w' := by
  have HD : Hid (Door w) := hd
  have HM : Hid (∀ w, Calls Tryd.prog 4 #[.slice sk n dk, .slice st m dt, .slice sl q dl] w fun ex w' => ex = .returned (.int .i64 f0) ∧ Below w.heap.size w w') := hHM
  have HE0 : Hid (e0 = bif (f0 == 0 && !(decide (p = n))) then 3 else f0) := hHE0
  have HC0 : Hid ((f0 == 0) = true → m = n ∧ q = n ∧ n ≤ 12 ∧ (∀ i, i < n → (I i).t.size ≤ 9223372036854775807 ∧ (Lit.int .i64 (I i).s).wf = true ∧ (Lit.int .i64 (I i).w).wf = true) ∧ (n = 0 ∨ ∃ b o : Nat, sk = some ⟨b, o, none⟩ ∧ RowO w b o n (fun i => (I i).kx) (fun i => (I i).ky) (fun i => (I i).kf)) ∧ (n = 0 ∨ ∃ b o : Nat, st = some ⟨b, o, none⟩ ∧ RowZ w b o n (fun i => (I i).t)) ∧ (n = 0 ∨ ∃ b o : Nat, sl = some ⟨b, o, none⟩ ∧ RowL w b o n I)) := hHC0
  have HCW : Hid ((e0 == 0) = true → (f0 == 0) = true ∧ p = n ∧ (n = 0 ∨ ∃ b o : Nat, sw = some ⟨b, o, none⟩ ∧ RowI w b o n (fun i => (I i).w))) := hHCW
  have E1t : Hid ((e0 == 0) = true → e1 = batE I n) := hE1t
  have E1f : Hid ((e0 == 0) = false → e1 = e0) := hE1f
  have HO : Hid (∀ i, (seaE (I i) == 0) = true → SealOk (I i) (K i) (R i) (S i)) := hHO
  have HWW : Hid (∀ i, secB (I i).w = true → (I i).w = (W i : Int)) := hHWW
  have HV : Hid (∀ W, Below w.heap.size w W → Calls Tryd.prog 11 #[.slice sk n dk, .slice st m dt, .slice sl q dl, .slice sw p dw] W fun ex w' => ex = .returned (.tuple #[.bool vb, v1]) ∧ Below W.heap.size W w') := hHV
  have I1 : Hid (IsErr v1) := hI1
  have VBt : Hid ((e1 == 0) = true → vb = farI (batS I K R S W n)) := hVBt
  have VBf : Hid ((e1 == 0) = false → vb = false) := hVBf
  have F1t : Hid ((f0 == 0) = true → f1 = batF I n) := hF1t
  have F1f : Hid ((f0 == 0) = false → f1 = f0) := hF1f
  have LLt : Hid ((f1 == 0) = true → LL = batL I K R S n) := hLLt
  have LLf : Hid ((f1 == 0) = false → LL = []) := hLLf
  have HW : Hid (∀ W, Below w.heap.size w W → Calls Tryd.prog 14 #[.slice sk n dk, .slice st m dt, .slice sl q dl] W fun ex w' => ∃ x, ex = .returned (.tuple #[x, v2]) ∧ w'.ownsRow W.heap.size 3 1 x LL.length (bL LL) ∧ Below W.heap.size W w') := hHW
  have I2 : Hid (IsErr v2) := hI2
  have HI : Hid (∀ W x u B B', W.ownsRow B 3 1 x LL.length (bL LL) → W.ownsRow B' 3 1 u LL.length (bL LL) → Calls Tryd.prog 15 #[x, u] W fun ex w' => ex = .returned (.bool true) ∧ Below W.heap.size W w') := hHI
  clear hd hHM hHE0 hHC0 hHCW hE1t hE1f hHO hHWW hHV hI1 hVBt hVBf hF1t hF1f hLLt hLLf hHW hI2 hHI
  have m1 : True := trivial; have m2 : True := trivial; have m3 : True := trivial; have m4 : True := trivial; have m5 : True := trivial; have m6 : True := trivial; have m7 : True := trivial; have m8 : True := trivial; have m9 : True := trivial; have m10 : True := trivial; have m11 : True := trivial; have m12 : True := trivial
  go_enter Tryd.func3, Tryd.ntmps3
  go_upto_region 3 with (go_at_call 4; clear m1; refine (HM.out _).mono ?_; rintro e x1 ⟨rfl, hbx1⟩; have hqx1 : Below w.heap.size w x1 := (by repeat (first | (with_reducible exact Below.refl _ _) | (with_reducible assumption) | (with_reducible refine Below.setCell ?_ (by first | (simp; done) | (simp; omega) | omega) _) | (with_reducible refine Below.alloc ?_ (by first | (simp; done) | (simp; omega) | omega) _) | (refine bl_call ?_ (by assumption) (by first | (simp; done) | (simp; omega) | omega)) | (with_reducible refine bl_drewN ?_) | (with_reducible refine Below.drew ?_) | (with_reducible refine bl_grow ?_ (by first | (simp; done) | (simp; omega) | omega)))); have hzx1 := hqx1.size; clear hbx1)
  obtain ⟨g1, hg1⟩ : ∃ g1 : Bool, (f0 == 0 && !(decide (p = n))) = g1 := ⟨_, rfl⟩
  have Hg1 : Hid ((f0 == 0 && !(decide (p = n))) = g1) := hg1
  have Ng1 : Hid (e0 = bif g1 then 3 else f0) := by unfold Hid; rw [← hg1]; exact HE0.out
  clear hg1
  go_cut [38] from 25 to 37 (fun t_ wx_ => t_ = .bool g1 ∧ Below w.heap.size w wx_)
  case first => as_aux_lemma =>
    cases he : f0 == 0 with
    | false =>
      have hy : Hid (g1 = false) := by unfold Hid; rw [← Hg1.out, he]; rfl
      go_wp2_with fail
      go_meet
      case rel => exact ⟨by rw [hy.out], by repeat (first | (with_reducible exact Below.refl _ _) | (with_reducible assumption) | (with_reducible refine Below.setCell ?_ (by first | (simp; done) | (simp; omega) | omega) _) | (with_reducible refine Below.alloc ?_ (by first | (simp; done) | (simp; omega) | omega) _) | (refine bl_call ?_ (by assumption) (by first | (simp; done) | (simp; omega) | omega)) | (with_reducible refine bl_drewN ?_) | (with_reducible refine Below.drew ?_) | (with_reducible refine bl_grow ?_ (by first | (simp; done) | (simp; omega) | omega)))⟩
    | true =>
      by_cases hp : p = n
      · have hy : Hid (g1 = false) := by unfold Hid; rw [← Hg1.out, he, decide_eq_true hp]; rfl
        have h2 : ((p : Int) != (n : Int)) = false := by rw [hp]; simp
        clear hp
        go_wp2_with fail
        go_meet
        case rel => exact ⟨by rw [hy.out], by repeat (first | (with_reducible exact Below.refl _ _) | (with_reducible assumption) | (with_reducible refine Below.setCell ?_ (by first | (simp; done) | (simp; omega) | omega) _) | (with_reducible refine Below.alloc ?_ (by first | (simp; done) | (simp; omega) | omega) _) | (refine bl_call ?_ (by assumption) (by first | (simp; done) | (simp; omega) | omega)) | (with_reducible refine bl_drewN ?_) | (with_reducible refine Below.drew ?_) | (with_reducible refine bl_grow ?_ (by first | (simp; done) | (simp; omega) | omega)))⟩
      · have hy : Hid (g1 = true) := by unfold Hid; rw [← Hg1.out, he, decide_eq_false hp]; rfl
        have h2 : ((p : Int) != (n : Int)) = true := by rw [bne_iff_ne]; omega
        clear hp
        go_wp2_with fail
        go_meet
        case rel => exact ⟨by rw [hy.out], by repeat (first | (with_reducible exact Below.refl _ _) | (with_reducible assumption) | (with_reducible refine Below.setCell ?_ (by first | (simp; done) | (simp; omega) | omega) _) | (with_reducible refine Below.alloc ?_ (by first | (simp; done) | (simp; omega) | omega) _) | (refine bl_call ?_ (by assumption) (by first | (simp; done) | (simp; omega) | omega)) | (with_reducible refine bl_drewN ?_) | (with_reducible refine Below.drew ?_) | (with_reducible refine bl_grow ?_ (by first | (simp; done) | (simp; omega) | omega)))⟩
  case rest =>
  clear hqx1
  rename World => y1
  obtain ⟨rfl, hqy1⟩ := hcut
  have hzy1 := hqy1.size
  clear Hg1
  go_upto_if 38 with fail
  go_cut [10] from 25 to 38 (fun t_ wx_ => t_ = .int .i64 e0 ∧ Below w.heap.size w wx_)
  case first => as_aux_lemma =>
    cases g1 with
    | false =>
      have hx : Hid (e0 = f0) := Ng1.out
      go_wp2_with fail
      go_meet
      case rel => exact ⟨by rw [hx.out], by repeat (first | (with_reducible exact Below.refl _ _) | (with_reducible assumption) | (with_reducible refine Below.setCell ?_ (by first | (simp; done) | (simp; omega) | omega) _) | (with_reducible refine Below.alloc ?_ (by first | (simp; done) | (simp; omega) | omega) _) | (refine bl_call ?_ (by assumption) (by first | (simp; done) | (simp; omega) | omega)) | (with_reducible refine bl_drewN ?_) | (with_reducible refine Below.drew ?_) | (with_reducible refine bl_grow ?_ (by first | (simp; done) | (simp; omega) | omega)))⟩
    | true =>
      have hx : Hid (e0 = 3) := Ng1.out
      go_wp2_with fail
      go_meet
      case rel => exact ⟨by rw [hx.out], by repeat (first | (with_reducible exact Below.refl _ _) | (with_reducible assumption) | (with_reducible refine Below.setCell ?_ (by first | (simp; done) | (simp; omega) | omega) _) | (with_reducible refine Below.alloc ?_ (by first | (simp; done) | (simp; omega) | omega) _) | (refine bl_call ?_ (by assumption) (by first | (simp; done) | (simp; omega) | omega)) | (with_reducible refine bl_drewN ?_) | (with_reducible refine Below.drew ?_) | (with_reducible refine bl_grow ?_ (by first | (simp; done) | (simp; omega) | omega)))⟩
  case rest =>
  clear hqy1
  rename World => y2
  obtain ⟨rfl, hqy2⟩ := hcut
  have hzy2 := hqy2.size
  clear Ng1
  go_upto_block 0 with fail
  refine wp_gen (fun Y => At Y (y2.heap.size) [.int .i64 0, .int .i64 0, .bool true] ∧ Below w.heap.size w Y) ⟨by repeat (first | (with_reducible assumption) | ((with_reducible refine at_new' _ _ _ _ ?_); (first | rfl | (simp; done))) | (with_reducible refine At.alloc ?_ _) | (with_reducible refine At.drew ?_) | (with_reducible refine At.drewN ?_) | (with_reducible refine At.set ?_ (by omega)) | (with_reducible apply At.store4) | (with_reducible apply At.store3) | (with_reducible apply At.store2) | (with_reducible apply At.put43) | (refine At.below ?_ (by with_reducible assumption))), by repeat (first | (with_reducible exact Below.refl _ _) | (with_reducible assumption) | (with_reducible refine Below.setCell ?_ (by first | (simp; done) | (simp; omega) | omega) _) | (with_reducible refine Below.alloc ?_ (by first | (simp; done) | (simp; omega) | omega) _) | (refine bl_call ?_ (by assumption) (by first | (simp; done) | (simp; omega) | omega)) | (with_reducible refine bl_drewN ?_) | (with_reducible refine Below.drew ?_) | (with_reducible refine bl_grow ?_ (by first | (simp; done) | (simp; omega) | omega)))⟩ ?_
  rintro Y ⟨ksY, hqY⟩
  have hzY := hqY.size
  clear  hqy2
  obtain ⟨zsY, cs0Y, cs1Y, cs2Y, fs0Y, fs1Y, fs2Y⟩ := ksY.three

  go_cut [10] from 40 to 117 (fun t10 wx_ => t10 = .int .i64 e1 ∧ ∃ (sx sy : Int) (sf : Bool), At wx_ (y2.heap.size) [.int .i64 sx, .int .i64 sy, .bool sf] ∧ ((e1 == 0) = true → sf = farI (batS I K R S W n)) ∧ Below w.heap.size w wx_)
  case first => as_aux_lemma =>
    cases he0 : e0 == 0 with
    | false =>
      have hx : Hid (e1 = e0) := E1f.out he0
      have HNE : Hid (∀ (Q : Prop), (e1 == 0) = true → Q) := fun Q h => by rw [hx.out, he0] at h; cases h
      go_wp2_with fail
      go_loopw [10, 12] (fun te ti wl => te = .int .i64 e0 ∧ ti = .int .i64 0 ∧ At wl (y2.heap.size) [.int .i64 0, .int .i64 0, .bool true] ∧ Below w.heap.size w wl) (fun _ _ _ => 0)
      case atStart => exact ⟨rfl, rfl, by repeat (first | (with_reducible assumption) | ((with_reducible refine at_new' _ _ _ _ ?_); (first | rfl | (simp; done))) | (with_reducible refine At.alloc ?_ _) | (with_reducible refine At.drew ?_) | (with_reducible refine At.drewN ?_) | (with_reducible refine At.set ?_ (by omega)) | (with_reducible apply At.store4) | (with_reducible apply At.store3) | (with_reducible apply At.store2) | (with_reducible apply At.put43) | (refine At.below ?_ (by with_reducible assumption))), by repeat (first | (with_reducible exact Below.refl _ _) | (with_reducible assumption) | (with_reducible refine Below.setCell ?_ (by first | (simp; done) | (simp; omega) | omega) _) | (with_reducible refine Below.alloc ?_ (by first | (simp; done) | (simp; omega) | omega) _) | (refine bl_call ?_ (by assumption) (by first | (simp; done) | (simp; omega) | omega)) | (with_reducible refine bl_drewN ?_) | (with_reducible refine Below.drew ?_) | (with_reducible refine bl_grow ?_ (by first | (simp; done) | (simp; omega) | omega)))⟩
      case round =>
        obtain ⟨rfl, rfl, ksV, hqV⟩ := hrel
        rename World => V
        have hzV := hqV.size
        by_cases hlt : 0 < n
        · have hlt' : (0 : Int) < (n : Int) := by omega
          go_wp2_with fail
          go_meet
          case rel => exact ⟨by rw [hx.out], _, _, _, ksV, fun h => HNE.out _ h, by repeat (first | (with_reducible exact Below.refl _ _) | (with_reducible assumption) | (with_reducible refine Below.setCell ?_ (by first | (simp; done) | (simp; omega) | omega) _) | (with_reducible refine Below.alloc ?_ (by first | (simp; done) | (simp; omega) | omega) _) | (refine bl_call ?_ (by assumption) (by first | (simp; done) | (simp; omega) | omega)) | (with_reducible refine bl_drewN ?_) | (with_reducible refine Below.drew ?_) | (with_reducible refine bl_grow ?_ (by first | (simp; done) | (simp; omega) | omega)))⟩
        · have hlt' : ¬ (0 : Int) < (n : Int) := by omega
          go_wp2_with fail
          go_meet
          case rel => exact ⟨by rw [hx.out], _, _, _, ksV, fun h => HNE.out _ h, by repeat (first | (with_reducible exact Below.refl _ _) | (with_reducible assumption) | (with_reducible refine Below.setCell ?_ (by first | (simp; done) | (simp; omega) | omega) _) | (with_reducible refine Below.alloc ?_ (by first | (simp; done) | (simp; omega) | omega) _) | (refine bl_call ?_ (by assumption) (by first | (simp; done) | (simp; omega) | omega)) | (with_reducible refine bl_drewN ?_) | (with_reducible refine Below.drew ?_) | (with_reducible refine bl_grow ?_ (by first | (simp; done) | (simp; omega) | omega)))⟩
    | true =>
      obtain ⟨hf0, hpn, hrw⟩ := HCW.out he0
      obtain ⟨hm, hq, hn12, hwf, hrk, hrt, hrl⟩ := HC0.out hf0
      have HF : Hid ((∀ i, i < n → (I i).t.size ≤ 9223372036854775807 ∧ (Lit.int .i64 (I i).s).wf = true ∧ (Lit.int .i64 (I i).w).wf = true)) := hwf
      have HRk : Hid ((n = 0 ∨ ∃ b o : Nat, sk = some ⟨b, o, none⟩ ∧ RowO w b o n (fun i => (I i).kx) (fun i => (I i).ky) (fun i => (I i).kf))) := hrk
      have HRt : Hid ((n = 0 ∨ ∃ b o : Nat, st = some ⟨b, o, none⟩ ∧ RowZ w b o n (fun i => (I i).t))) := hrt
      have HRl : Hid ((n = 0 ∨ ∃ b o : Nat, sl = some ⟨b, o, none⟩ ∧ RowL w b o n I)) := hrl
      have HRw : Hid ((n = 0 ∨ ∃ b o : Nat, sw = some ⟨b, o, none⟩ ∧ RowI w b o n (fun i => (I i).w))) := hrw
      clear hwf hrk hrt hrl hrw hf0
      subst m q p
      have hee : e0 = 0 := by simpa using he0
      subst hee
      go_wp2_with fail
      go_loopw [10, 12] (fun te ti wl => ∃ k : Nat, ti = .int .i64 k ∧ k ≤ n ∧ ((batE I k = 0 ∧ te = .int .i64 0 ∧ At wl (y2.heap.size) [.int .i64 ((tM (batS I K R S W k)).1 : Int), .int .i64 ((tM (batS I K R S W k)).2.1 : Int), .bool (tM (batS I K R S W k)).2.2]) ∨ ((batE I n == 0) = false ∧ te = .int .i64 (batE I n) ∧ ∃ (sx sy : Int) (sf : Bool), At wl (y2.heap.size) [.int .i64 sx, .int .i64 sy, .bool sf])) ∧ Below w.heap.size w wl) (fun _ ti _ => n + 1 - (intOf ti).toNat)
      case atStart => exact ⟨0, rfl, by omega, Or.inl ⟨rfl, rfl, ksY⟩, by repeat (first | (with_reducible exact Below.refl _ _) | (with_reducible assumption) | (with_reducible refine Below.setCell ?_ (by first | (simp; done) | (simp; omega) | omega) _) | (with_reducible refine Below.alloc ?_ (by first | (simp; done) | (simp; omega) | omega) _) | (refine bl_call ?_ (by assumption) (by first | (simp; done) | (simp; omega) | omega)) | (with_reducible refine bl_drewN ?_) | (with_reducible refine Below.drew ?_) | (with_reducible refine bl_grow ?_ (by first | (simp; done) | (simp; omega) | omega)))⟩
      case round =>
        clear ksY cs0Y fs0Y cs1Y fs1Y cs2Y fs2Y hqY
        obtain ⟨k, rfl, hk, hst, hqV⟩ := hrel
        rename World => V
        have hzV := hqV.size
        rcases hst with ⟨he, rfl, ksV⟩ | ⟨he, rfl, sx, sy, sf, ksV⟩
        · have HE : Hid (batE I k = 0) := he
          clear he
          obtain ⟨a, ha⟩ : ∃ a, batS I K R S W k = a := ⟨_, rfl⟩
          rw [ha] at ksV
          have HAA : Hid (batS I K R S W k = a) := ha
          clear ha
          obtain ⟨zsV, cs0V, cs1V, cs2V, fs0V, fs1V, fs2V⟩ := ksV.three
          by_cases hlt : k < n
          · have hlt' : (k : Int) < (n : Int) := by omega
            obtain ⟨bk, ok, rfl, rk⟩ := HRk.out.resolve_left (by omega)
            have Rk : Hid (RowO w bk ok n (fun i => (I i).kx) (fun i => (I i).ky) (fun i => (I i).kf)) := rk
            clear rk
            obtain ⟨bt, ot, rfl, rt⟩ := HRt.out.resolve_left (by omega)
            have Rt : Hid (RowZ w bt ot n (fun i => (I i).t)) := rt
            clear rt
            obtain ⟨bl, ol, rfl, rl⟩ := HRl.out.resolve_left (by omega)
            have Rl : Hid (RowL w bl ol n I) := rl
            clear rl
            obtain ⟨bw, ow, rfl, rw⟩ := HRw.out.resolve_left (by omega)
            have Rw : Hid (RowI w bw ow n (fun i => (I i).w)) := rw
            clear rw
            obtain ⟨hf1, hf2, hf3⟩ := HF.out k hlt
            have HSE : Hid (∀ w, Calls Tryd.prog 6 #[.int .i64 (I k).w] w fun ex w' => ex = .returned (.bool (secB (I k).w)) ∧ Below w.heap.size w w') := fun w => rsecret (I k).w w
            cases hs : seaE (I k) == 0 with
            | false =>
              have HS : Hid (∀ w, Calls Tryd.prog 5 #[.agg #[.int .i64 (I k).kx, .int .i64 (I k).ky, .bool (I k).kf], .string (I k).t, .agg #[.int .i64 (I k).rx, .int .i64 (I k).ry, .bool (I k).rf, .int .i64 (I k).s]] w fun ex w' => ex = .returned (.int .i64 (seaE (I k))) ∧ Below w.heap.size w w') := fun w => brs_any (I k) w hf1
              have HX : Hid (batE I n = seaE (I k)) := by unfold Hid; rw [batE_stop HE.out (by rw [itmE_sea hs]; exact hs) hlt, itmE_sea hs]
              have HN : Hid ((batE I n == 0) = false) := by unfold Hid; rw [HX.out]; exact hs
              obtain ⟨a0, a1, a2⟩ := (Rk.out.below Rk.out.1 hqV).2 k hlt
              dsimp only at a0 a1 a2
              have hbk := Nat.lt_of_lt_of_le Rk.out.1 hzV
              have ct := (Rt.out.below Rt.out.1 hqV).2 k hlt
              dsimp only at ct
              have hbt := Nat.lt_of_lt_of_le Rt.out.1 hzV
              obtain ⟨l0, l1, l2, l3⟩ := (Rl.out.below Rl.out.1 hqV).2 k hlt
              have hbl := Nat.lt_of_lt_of_le Rl.out.1 hzV
              go_wp2_with fail
              refine wp_gen (fun Q => At Q (y2.heap.size) [.int .i64 ((tM a).1 : Int), .int .i64 ((tM a).2.1 : Int), .bool (tM a).2.2] ∧ Below w.heap.size w Q) ⟨by repeat (first | (with_reducible assumption) | ((with_reducible refine at_new' _ _ _ _ ?_); (first | rfl | (simp; done))) | (with_reducible refine At.alloc ?_ _) | (with_reducible refine At.drew ?_) | (with_reducible refine At.drewN ?_) | (with_reducible refine At.set ?_ (by omega)) | (with_reducible apply At.store4) | (with_reducible apply At.store3) | (with_reducible apply At.store2) | (with_reducible apply At.put43) | (refine At.below ?_ (by with_reducible assumption))), by repeat (first | (with_reducible exact Below.refl _ _) | (with_reducible assumption) | (with_reducible refine Below.setCell ?_ (by first | (simp; done) | (simp; omega) | omega) _) | (with_reducible refine Below.alloc ?_ (by first | (simp; done) | (simp; omega) | omega) _) | (refine bl_call ?_ (by assumption) (by first | (simp; done) | (simp; omega) | omega)) | (with_reducible refine bl_drewN ?_) | (with_reducible refine Below.drew ?_) | (with_reducible refine bl_grow ?_ (by first | (simp; done) | (simp; omega) | omega)))⟩ ?_
              rintro Q ⟨ksQ, hqQ⟩
              have hzQ := hqQ.size
              clear ksV cs0V fs0V cs1V fs1V cs2V fs2V hqV
              obtain ⟨zsQ, cs0Q, cs1Q, cs2Q, fs0Q, fs1Q, fs2Q⟩ := ksQ.three

              clear a0 a1 a2 hbk ct hbt l0 l1 l2 l3 hbl
              obtain ⟨a0, a1, a2⟩ := (Rk.out.below Rk.out.1 hqQ).2 k hlt
              dsimp only at a0 a1 a2
              have hbk := Nat.lt_of_lt_of_le Rk.out.1 hzQ
              have ct := (Rt.out.below Rt.out.1 hqQ).2 k hlt
              dsimp only at ct
              have hbt := Nat.lt_of_lt_of_le Rt.out.1 hzQ
              obtain ⟨l0, l1, l2, l3⟩ := (Rl.out.below Rl.out.1 hqQ).2 k hlt
              have hbl := Nat.lt_of_lt_of_le Rl.out.1 hzQ
              refine wp_region_quiet_below (by kernel_rfl) (by kernel_rfl) ?_
              repeat (go_big_quiet_step (first | (go_at_call 5; with_reducible exact Calls.regrown_of (HS.out _))))
              refine wpQuiet_nil ?_
              intro Z0 hw1
              have hrZ0 := regrown_below hw1
              clear hw1
              have ksZ0 := ksQ.below hrZ0
              have hqZ0 := bl_call hqQ hrZ0 (by omega)
              have hzZ0 := hqZ0.size
              clear hrZ0 ksQ cs0Q fs0Q cs1Q fs1Q cs2Q fs2Q hqQ
              obtain ⟨zsZ0, cs0Z0, cs1Z0, cs2Z0, fs0Z0, fs1Z0, fs2Z0⟩ := ksZ0.three
              clear a0 a1 a2 hbk ct hbt l0 l1 l2 l3 hbl
              have cw := (Rw.out.below Rw.out.1 hqZ0).2 k hlt
              dsimp only at cw
              have hbw := Nat.lt_of_lt_of_le Rw.out.1 hzZ0
              go_upto_region 11 with (go_at_call 6; clear m2; refine (HSE.out _).mono ?_; rintro e Z ⟨rfl, hbZ⟩; have ksZ : At Z (y2.heap.size) [.int .i64 ((tM a).1 : Int), .int .i64 ((tM a).2.1 : Int), .bool (tM a).2.2] := (by repeat (first | (with_reducible assumption) | ((with_reducible refine at_new' _ _ _ _ ?_); (first | rfl | (simp; done))) | (with_reducible refine At.alloc ?_ _) | (with_reducible refine At.drew ?_) | (with_reducible refine At.drewN ?_) | (with_reducible refine At.set ?_ (by omega)) | (with_reducible apply At.store4) | (with_reducible apply At.store3) | (with_reducible apply At.store2) | (with_reducible apply At.put43) | (refine At.below ?_ (by with_reducible assumption)))); have hqZ : Below w.heap.size w Z := (by repeat (first | (with_reducible exact Below.refl _ _) | (with_reducible assumption) | (with_reducible refine Below.setCell ?_ (by first | (simp; done) | (simp; omega) | omega) _) | (with_reducible refine Below.alloc ?_ (by first | (simp; done) | (simp; omega) | omega) _) | (refine bl_call ?_ (by assumption) (by first | (simp; done) | (simp; omega) | omega)) | (with_reducible refine bl_drewN ?_) | (with_reducible refine Below.drew ?_) | (with_reducible refine bl_grow ?_ (by first | (simp; done) | (simp; omega) | omega)))); have hzZ := hqZ.size; obtain ⟨zsZ, cs0Z, cs1Z, cs2Z, fs0Z, fs1Z, fs2Z⟩ := ksZ.three; clear ksZ0 cs0Z0 fs0Z0 cs1Z0 fs1Z0 cs2Z0 fs2Z0 hqZ0; clear hbZ)
              clear cw hbw
              go_wp2_with fail
              go_roundw
              case rel => exact ⟨k + 1, by simp, by omega, Or.inr ⟨HN.out, by rw [HX.out], _, _, _, ksZ⟩, by repeat (first | (with_reducible exact Below.refl _ _) | (with_reducible assumption) | (with_reducible refine Below.setCell ?_ (by first | (simp; done) | (simp; omega) | omega) _) | (with_reducible refine Below.alloc ?_ (by first | (simp; done) | (simp; omega) | omega) _) | (refine bl_call ?_ (by assumption) (by first | (simp; done) | (simp; omega) | omega)) | (with_reducible refine bl_drewN ?_) | (with_reducible refine Below.drew ?_) | (with_reducible refine bl_grow ?_ (by first | (simp; done) | (simp; omega) | omega)))⟩
              case measure => simp [intOf]; omega
            | true =>
              have HS : Hid (∀ w, Calls Tryd.prog 5 #[.agg #[.int .i64 (I k).kx, .int .i64 (I k).ky, .bool (I k).kf], .string (I k).t, .agg #[.int .i64 (I k).rx, .int .i64 (I k).ry, .bool (I k).rf, .int .i64 (I k).s]] w fun ex w' => ex = .returned (.int .i64 0) ∧ Below w.heap.size w w') := fun w => by
                have := brs_any (I k) w hf1
                rwa [show seaE (I k) = 0 by simpa using hs] at this
              cases hw : secB (I k).w with
              | false =>
                rw [hw] at HSE
                have HX : Hid (batE I n = 1) := by unfold Hid; rw [batE_stop HE.out (by rw [itmE_w hs hw]; rfl) hlt, itmE_w hs hw]
                have HN : Hid ((batE I n == 0) = false) := by unfold Hid; rw [HX.out]; rfl
                clear hs hw
                obtain ⟨a0, a1, a2⟩ := (Rk.out.below Rk.out.1 hqV).2 k hlt
                dsimp only at a0 a1 a2
                have hbk := Nat.lt_of_lt_of_le Rk.out.1 hzV
                have ct := (Rt.out.below Rt.out.1 hqV).2 k hlt
                dsimp only at ct
                have hbt := Nat.lt_of_lt_of_le Rt.out.1 hzV
                obtain ⟨l0, l1, l2, l3⟩ := (Rl.out.below Rl.out.1 hqV).2 k hlt
                have hbl := Nat.lt_of_lt_of_le Rl.out.1 hzV
                go_wp2_with fail
                refine wp_gen (fun Q => At Q (y2.heap.size) [.int .i64 ((tM a).1 : Int), .int .i64 ((tM a).2.1 : Int), .bool (tM a).2.2] ∧ Below w.heap.size w Q) ⟨by repeat (first | (with_reducible assumption) | ((with_reducible refine at_new' _ _ _ _ ?_); (first | rfl | (simp; done))) | (with_reducible refine At.alloc ?_ _) | (with_reducible refine At.drew ?_) | (with_reducible refine At.drewN ?_) | (with_reducible refine At.set ?_ (by omega)) | (with_reducible apply At.store4) | (with_reducible apply At.store3) | (with_reducible apply At.store2) | (with_reducible apply At.put43) | (refine At.below ?_ (by with_reducible assumption))), by repeat (first | (with_reducible exact Below.refl _ _) | (with_reducible assumption) | (with_reducible refine Below.setCell ?_ (by first | (simp; done) | (simp; omega) | omega) _) | (with_reducible refine Below.alloc ?_ (by first | (simp; done) | (simp; omega) | omega) _) | (refine bl_call ?_ (by assumption) (by first | (simp; done) | (simp; omega) | omega)) | (with_reducible refine bl_drewN ?_) | (with_reducible refine Below.drew ?_) | (with_reducible refine bl_grow ?_ (by first | (simp; done) | (simp; omega) | omega)))⟩ ?_
                rintro Q ⟨ksQ, hqQ⟩
                have hzQ := hqQ.size
                clear ksV cs0V fs0V cs1V fs1V cs2V fs2V hqV
                obtain ⟨zsQ, cs0Q, cs1Q, cs2Q, fs0Q, fs1Q, fs2Q⟩ := ksQ.three

                clear a0 a1 a2 hbk ct hbt l0 l1 l2 l3 hbl
                obtain ⟨a0, a1, a2⟩ := (Rk.out.below Rk.out.1 hqQ).2 k hlt
                dsimp only at a0 a1 a2
                have hbk := Nat.lt_of_lt_of_le Rk.out.1 hzQ
                have ct := (Rt.out.below Rt.out.1 hqQ).2 k hlt
                dsimp only at ct
                have hbt := Nat.lt_of_lt_of_le Rt.out.1 hzQ
                obtain ⟨l0, l1, l2, l3⟩ := (Rl.out.below Rl.out.1 hqQ).2 k hlt
                have hbl := Nat.lt_of_lt_of_le Rl.out.1 hzQ
                refine wp_region_quiet_below (by kernel_rfl) (by kernel_rfl) ?_
                repeat (go_big_quiet_step (first | (go_at_call 5; with_reducible exact Calls.regrown_of (HS.out _))))
                refine wpQuiet_nil ?_
                intro Z0 hw1
                have hrZ0 := regrown_below hw1
                clear hw1
                have ksZ0 := ksQ.below hrZ0
                have hqZ0 := bl_call hqQ hrZ0 (by omega)
                have hzZ0 := hqZ0.size
                clear hrZ0 ksQ cs0Q fs0Q cs1Q fs1Q cs2Q fs2Q hqQ
                obtain ⟨zsZ0, cs0Z0, cs1Z0, cs2Z0, fs0Z0, fs1Z0, fs2Z0⟩ := ksZ0.three
                clear a0 a1 a2 hbk ct hbt l0 l1 l2 l3 hbl
                have cw := (Rw.out.below Rw.out.1 hqZ0).2 k hlt
                dsimp only at cw
                have hbw := Nat.lt_of_lt_of_le Rw.out.1 hzZ0
                go_upto_region 11 with (go_at_call 6; clear m2; refine (HSE.out _).mono ?_; rintro e Z ⟨rfl, hbZ⟩; have ksZ : At Z (y2.heap.size) [.int .i64 ((tM a).1 : Int), .int .i64 ((tM a).2.1 : Int), .bool (tM a).2.2] := (by repeat (first | (with_reducible assumption) | ((with_reducible refine at_new' _ _ _ _ ?_); (first | rfl | (simp; done))) | (with_reducible refine At.alloc ?_ _) | (with_reducible refine At.drew ?_) | (with_reducible refine At.drewN ?_) | (with_reducible refine At.set ?_ (by omega)) | (with_reducible apply At.store4) | (with_reducible apply At.store3) | (with_reducible apply At.store2) | (with_reducible apply At.put43) | (refine At.below ?_ (by with_reducible assumption)))); have hqZ : Below w.heap.size w Z := (by repeat (first | (with_reducible exact Below.refl _ _) | (with_reducible assumption) | (with_reducible refine Below.setCell ?_ (by first | (simp; done) | (simp; omega) | omega) _) | (with_reducible refine Below.alloc ?_ (by first | (simp; done) | (simp; omega) | omega) _) | (refine bl_call ?_ (by assumption) (by first | (simp; done) | (simp; omega) | omega)) | (with_reducible refine bl_drewN ?_) | (with_reducible refine Below.drew ?_) | (with_reducible refine bl_grow ?_ (by first | (simp; done) | (simp; omega) | omega)))); have hzZ := hqZ.size; obtain ⟨zsZ, cs0Z, cs1Z, cs2Z, fs0Z, fs1Z, fs2Z⟩ := ksZ.three; clear ksZ0 cs0Z0 fs0Z0 cs1Z0 fs1Z0 cs2Z0 fs2Z0 hqZ0; clear hbZ)
                clear cw hbw
                go_wp2_with fail
                go_roundw
                case rel => exact ⟨k + 1, by simp, by omega, Or.inr ⟨HN.out, by rw [HX.out], _, _, _, ksZ⟩, by repeat (first | (with_reducible exact Below.refl _ _) | (with_reducible assumption) | (with_reducible refine Below.setCell ?_ (by first | (simp; done) | (simp; omega) | omega) _) | (with_reducible refine Below.alloc ?_ (by first | (simp; done) | (simp; omega) | omega) _) | (refine bl_call ?_ (by assumption) (by first | (simp; done) | (simp; omega) | omega)) | (with_reducible refine bl_drewN ?_) | (with_reducible refine Below.drew ?_) | (with_reducible refine bl_grow ?_ (by first | (simp; done) | (simp; omega) | omega)))⟩
                case measure => simp [intOf]; omega
              | true =>
                rw [hw] at HSE
                have HX : Hid (batE I (k + 1) = 0) := batE_go HE.out (itmE_yes hs hw)
                obtain ⟨y, hy⟩ : ∃ y, K k = y := ⟨_, rfl⟩
                obtain ⟨r, hr⟩ : ∃ r, R k = r := ⟨_, rfl⟩
                obtain ⟨s, hs'⟩ : ∃ s, S k = s := ⟨_, rfl⟩
                obtain ⟨v, hv⟩ : ∃ v, W k = v := ⟨_, rfl⟩
                have SO : Hid (SealOk (I k) y r s) := by unfold Hid; rw [← hy, ← hr, ← hs']; exact HO.out k hs
                have HWV : Hid ((I k).w = (v : Int)) := by unfold Hid; rw [← hv]; exact HWW.out k hw
                obtain ⟨c, hc⟩ : ∃ c, askN r y (I k).t = c := ⟨_, rfl⟩
                have hcl : c < 1013 := by rw [← hc]; exact askN_lt _ _ _
                have HA : Hid (∀ w, Calls Tryd.prog 7 #[.agg #[.int .i64 (I k).rx, .int .i64 (I k).ry, .bool (I k).rf], .agg #[.int .i64 (I k).kx, .int .i64 (I k).ky, .bool (I k).kf], .string (I k).t] w fun ex w' => ex = .returned (.int .i64 (c : Int)) ∧ Below w.heap.size w w') := fun w => by
                  have := rask_tM r y (I k).t w SO.out.ht
                  rw [hc] at this
                  rwa [SO.out.hrx, SO.out.hry, SO.out.hrf, SO.out.hkx, SO.out.hky, SO.out.hkf]
                obtain ⟨a5, h5⟩ : ∃ a5, 4 * s + 4051 * r = a5 := ⟨_, rfl⟩
                obtain ⟨a6, h6⟩ : ∃ a6, a5 + 4051 * (y * c) = a6 := ⟨_, rfl⟩
                obtain ⟨a7, h7⟩ : ∃ a7, a + a6 * v = a7 := ⟨_, rfl⟩
                have HA7 : Hid (batS I K R S W (k + 1) = a7) := by
                  unfold Hid
                  rw [← h7, ← h6, ← h5, ← hc, ← HAA.out, ← hy, ← hr, ← hs', ← hv]
                  rfl
                have E5 : Hid (tM (4 * em (s : Int) + r * em (-1)) = tM a5) := by unfold Hid; rw [← h5, em_nat SO.out.hlt, show em (-1) = 4051 by decide, Nat.mul_comm r]
                have HT6 : Hid (∀ w, Calls Tryd.prog 10 #[.agg #[.int .i64 ((tM y).1 : Int), .int .i64 ((tM y).2.1 : Int), .bool (tM y).2.2], .int .i64 (IntKind.i64.wrap (-(c : Int)))] w fun ex w' => ex = .returned (.agg #[.int .i64 ((tM (4051 * (y * c))).1 : Int), .int .i64 ((tM (4051 * (y * c))).2.1 : Int), .bool (tM (4051 * (y * c))).2.2]) ∧ Below w.heap.size w w') := fun w => by
                  rw [show IntKind.i64.wrap (-(c : Int)) = -(c : Int) by rw [IntKind.wrap_i64]; omega]
                  exact rtimes_eq (bneg_em y c) w
                have EA6 : Hid (∀ w, Calls Tryd.prog 9 #[.agg #[.int .i64 ((tM a5).1 : Int), .int .i64 ((tM a5).2.1 : Int), .bool (tM a5).2.2], .agg #[.int .i64 ((tM (4051 * (y * c))).1 : Int), .int .i64 ((tM (4051 * (y * c))).2.1 : Int), .bool (tM (4051 * (y * c))).2.2]] w fun ex w' => ex = .returned (.agg #[.int .i64 ((tM a6).1 : Int), .int .i64 ((tM a6).2.1 : Int), .bool (tM a6).2.2]) ∧ Below w.heap.size w w') := fun w => by
                  have := radd_tM a5 (4051 * (y * c)) w
                  rwa [h6] at this
                have E7 : Hid (tM (a6 * em (v : Int)) = tM (a6 * v)) := tM_em _ _
                have EA7 : Hid (∀ w, Calls Tryd.prog 9 #[.agg #[.int .i64 ((tM a).1 : Int), .int .i64 ((tM a).2.1 : Int), .bool (tM a).2.2], .agg #[.int .i64 ((tM (a6 * v)).1 : Int), .int .i64 ((tM (a6 * v)).2.1 : Int), .bool (tM (a6 * v)).2.2]] w fun ex w' => ex = .returned (.agg #[.int .i64 ((tM a7).1 : Int), .int .i64 ((tM a7).2.1 : Int), .bool (tM a7).2.2]) ∧ Below w.heap.size w w') := fun w => by
                  have := radd_tM a (a6 * v) w
                  rwa [h7] at this
                clear hs hw hy hr hs' hv hc h5 h6 h7 HAA
                obtain ⟨a0, a1, a2⟩ := (Rk.out.below Rk.out.1 hqV).2 k hlt
                dsimp only at a0 a1 a2
                have hbk := Nat.lt_of_lt_of_le Rk.out.1 hzV
                have ct := (Rt.out.below Rt.out.1 hqV).2 k hlt
                dsimp only at ct
                have hbt := Nat.lt_of_lt_of_le Rt.out.1 hzV
                obtain ⟨l0, l1, l2, l3⟩ := (Rl.out.below Rl.out.1 hqV).2 k hlt
                have hbl := Nat.lt_of_lt_of_le Rl.out.1 hzV
                go_wp2_with fail
                refine wp_gen (fun Q => At Q (y2.heap.size) [.int .i64 ((tM a).1 : Int), .int .i64 ((tM a).2.1 : Int), .bool (tM a).2.2] ∧ Below w.heap.size w Q) ⟨by repeat (first | (with_reducible assumption) | ((with_reducible refine at_new' _ _ _ _ ?_); (first | rfl | (simp; done))) | (with_reducible refine At.alloc ?_ _) | (with_reducible refine At.drew ?_) | (with_reducible refine At.drewN ?_) | (with_reducible refine At.set ?_ (by omega)) | (with_reducible apply At.store4) | (with_reducible apply At.store3) | (with_reducible apply At.store2) | (with_reducible apply At.put43) | (refine At.below ?_ (by with_reducible assumption))), by repeat (first | (with_reducible exact Below.refl _ _) | (with_reducible assumption) | (with_reducible refine Below.setCell ?_ (by first | (simp; done) | (simp; omega) | omega) _) | (with_reducible refine Below.alloc ?_ (by first | (simp; done) | (simp; omega) | omega) _) | (refine bl_call ?_ (by assumption) (by first | (simp; done) | (simp; omega) | omega)) | (with_reducible refine bl_drewN ?_) | (with_reducible refine Below.drew ?_) | (with_reducible refine bl_grow ?_ (by first | (simp; done) | (simp; omega) | omega)))⟩ ?_
                rintro Q ⟨ksQ, hqQ⟩
                have hzQ := hqQ.size
                clear ksV cs0V fs0V cs1V fs1V cs2V fs2V hqV
                obtain ⟨zsQ, cs0Q, cs1Q, cs2Q, fs0Q, fs1Q, fs2Q⟩ := ksQ.three

                clear a0 a1 a2 hbk ct hbt l0 l1 l2 l3 hbl
                obtain ⟨a0, a1, a2⟩ := (Rk.out.below Rk.out.1 hqQ).2 k hlt
                dsimp only at a0 a1 a2
                have hbk := Nat.lt_of_lt_of_le Rk.out.1 hzQ
                have ct := (Rt.out.below Rt.out.1 hqQ).2 k hlt
                dsimp only at ct
                have hbt := Nat.lt_of_lt_of_le Rt.out.1 hzQ
                obtain ⟨l0, l1, l2, l3⟩ := (Rl.out.below Rl.out.1 hqQ).2 k hlt
                have hbl := Nat.lt_of_lt_of_le Rl.out.1 hzQ
                refine wp_region_quiet_below (by kernel_rfl) (by kernel_rfl) ?_
                repeat (go_big_quiet_step (first | (go_at_call 5; with_reducible exact Calls.regrown_of (HS.out _))))
                refine wpQuiet_nil ?_
                intro Z0 hw1
                have hrZ0 := regrown_below hw1
                clear hw1
                have ksZ0 := ksQ.below hrZ0
                have hqZ0 := bl_call hqQ hrZ0 (by omega)
                have hzZ0 := hqZ0.size
                clear hrZ0 ksQ cs0Q fs0Q cs1Q fs1Q cs2Q fs2Q hqQ
                obtain ⟨zsZ0, cs0Z0, cs1Z0, cs2Z0, fs0Z0, fs1Z0, fs2Z0⟩ := ksZ0.three
                clear a0 a1 a2 hbk ct hbt l0 l1 l2 l3 hbl
                have cw := (Rw.out.below Rw.out.1 hqZ0).2 k hlt
                dsimp only at cw
                have hbw := Nat.lt_of_lt_of_le Rw.out.1 hzZ0
                go_upto_region 11 with (go_at_call 6; clear m2; refine (HSE.out _).mono ?_; rintro e Z ⟨rfl, hbZ⟩; have ksZ : At Z (y2.heap.size) [.int .i64 ((tM a).1 : Int), .int .i64 ((tM a).2.1 : Int), .bool (tM a).2.2] := (by repeat (first | (with_reducible assumption) | ((with_reducible refine at_new' _ _ _ _ ?_); (first | rfl | (simp; done))) | (with_reducible refine At.alloc ?_ _) | (with_reducible refine At.drew ?_) | (with_reducible refine At.drewN ?_) | (with_reducible refine At.set ?_ (by omega)) | (with_reducible apply At.store4) | (with_reducible apply At.store3) | (with_reducible apply At.store2) | (with_reducible apply At.put43) | (refine At.below ?_ (by with_reducible assumption)))); have hqZ : Below w.heap.size w Z := (by repeat (first | (with_reducible exact Below.refl _ _) | (with_reducible assumption) | (with_reducible refine Below.setCell ?_ (by first | (simp; done) | (simp; omega) | omega) _) | (with_reducible refine Below.alloc ?_ (by first | (simp; done) | (simp; omega) | omega) _) | (refine bl_call ?_ (by assumption) (by first | (simp; done) | (simp; omega) | omega)) | (with_reducible refine bl_drewN ?_) | (with_reducible refine Below.drew ?_) | (with_reducible refine bl_grow ?_ (by first | (simp; done) | (simp; omega) | omega)))); have hzZ := hqZ.size; obtain ⟨zsZ, cs0Z, cs1Z, cs2Z, fs0Z, fs1Z, fs2Z⟩ := ksZ.three; clear ksZ0 cs0Z0 fs0Z0 cs1Z0 fs1Z0 cs2Z0 fs2Z0 hqZ0; clear hbZ)
                clear cw hbw
                go_upto_region 14 with fail
                obtain ⟨a0, a1, a2⟩ := (Rk.out.below Rk.out.1 hqZ).2 k hlt
                dsimp only at a0 a1 a2
                have hbk := Nat.lt_of_lt_of_le Rk.out.1 hzZ
                have ct := (Rt.out.below Rt.out.1 hqZ).2 k hlt
                dsimp only at ct
                have hbt := Nat.lt_of_lt_of_le Rt.out.1 hzZ
                obtain ⟨l0, l1, l2, l3⟩ := (Rl.out.below Rl.out.1 hqZ).2 k hlt
                have hbl := Nat.lt_of_lt_of_le Rl.out.1 hzZ
                refine wp_region_quiet_below (by kernel_rfl) (by kernel_rfl) ?_
                repeat (go_big_quiet_step (first | (go_at_call 7; with_reducible exact Calls.regrown_of (HA.out _))))
                refine wpQuiet_nil ?_
                intro Z2 hw1
                have hrZ2 := regrown_below hw1
                clear hw1
                have ksZ2 := ksZ.below hrZ2
                have hqZ2 := bl_call hqZ hrZ2 (by omega)
                have hzZ2 := hqZ2.size
                clear hrZ2 ksZ cs0Z fs0Z cs1Z fs1Z cs2Z fs2Z hqZ
                obtain ⟨zsZ2, cs0Z2, cs1Z2, cs2Z2, fs0Z2, fs1Z2, fs2Z2⟩ := ksZ2.three
                clear a0 a1 a2 hbk ct hbt l0 l1 l2 l3 hbl
                obtain ⟨l0, l1, l2, l3⟩ := (Rl.out.below Rl.out.1 hqZ2).2 k hlt
                have hbl := Nat.lt_of_lt_of_le Rl.out.1 hzZ2
                rw [SO.out.hrx] at l0
                rw [SO.out.hry] at l1
                rw [SO.out.hrf] at l2
                rw [SO.out.hs] at l3
                go_upto_region 15 with fail
                go_cut [15] from 40 to 117 (fun t15 wx_ => ∃ b5 : Nat, t15 = .pointer (some ⟨b5, 0, none⟩) ∧ y2.heap.size < b5 ∧ At wx_ (y2.heap.size) [.int .i64 ((tM a).1 : Int), .int .i64 ((tM a).2.1 : Int), .bool (tM a).2.2] ∧ At wx_ b5 [.int .i64 ((tM a5).1 : Int), .int .i64 ((tM a5).2.1 : Int), .bool (tM a5).2.2] ∧ Below w.heap.size w wx_)
                case first =>
                  go_region_held3 (fun W => ((y2.heap.size) < W.heap.size ∧ W.cell? ⟨y2.heap.size, 0, none⟩ = some (.int .i64 ((tM a).1 : Int)) ∧ W.cell? ⟨y2.heap.size, 1, none⟩ = some (.int .i64 ((tM a).2.1 : Int)) ∧ W.cell? ⟨y2.heap.size, 2, none⟩ = some (.bool (tM a).2.2) ∧ W.frozen? ⟨y2.heap.size, 0, none⟩ = false ∧ W.frozen? ⟨y2.heap.size, 1, none⟩ = false ∧ W.frozen? ⟨y2.heap.size, 2, none⟩ = false) ∧ (bl < W.heap.size ∧ W.cell? ⟨bl, ol + k * 4, none⟩ = some (.int .i64 ((tM r).1 : Int)) ∧ W.cell? ⟨bl, ol + k * 4 + 1, none⟩ = some (.int .i64 ((tM r).2.1 : Int)) ∧ W.cell? ⟨bl, ol + k * 4 + 2, none⟩ = some (.bool (tM r).2.2) ∧ W.cell? ⟨bl, ol + k * 4 + 3, none⟩ = some (.int .i64 (s : Int)))) (exact ⟨At.three (by repeat (first | (with_reducible assumption) | ((with_reducible refine at_new' _ _ _ _ ?_); (first | rfl | (simp; done))) | (with_reducible refine At.alloc ?_ _) | (with_reducible refine At.drew ?_) | (with_reducible refine At.drewN ?_) | (with_reducible refine At.set ?_ (by omega)) | (with_reducible apply At.store4) | (with_reducible apply At.store3) | (with_reducible apply At.store2) | (with_reducible apply At.put43) | (refine At.below ?_ (by with_reducible assumption)))), brl_at SO.out Rl.out (by repeat (first | (with_reducible exact Below.refl _ _) | (with_reducible assumption) | (with_reducible refine Below.setCell ?_ (by first | (simp; done) | (simp; omega) | omega) _) | (with_reducible refine Below.alloc ?_ (by first | (simp; done) | (simp; omega) | omega) _) | (refine bl_call ?_ (by assumption) (by first | (simp; done) | (simp; omega) | omega)) | (with_reducible refine bl_drewN ?_) | (with_reducible refine Below.drew ?_) | (with_reducible refine bl_grow ?_ (by first | (simp; done) | (simp; omega) | omega)))) hlt⟩) (first | (go_at_call 8; refine (rsum_eq E5.out _).mono ?_; rintro e w5 ⟨rfl, hb5⟩; obtain ⟨hc5, hf5⟩ := bcell hb5; have hq5 : Below w.heap.size w w5 := (by repeat (first | (with_reducible exact Below.refl _ _) | (with_reducible assumption) | (with_reducible refine Below.setCell ?_ (by first | (simp; done) | (simp; omega) | omega) _) | (with_reducible refine Below.alloc ?_ (by first | (simp; done) | (simp; omega) | omega) _) | (refine bl_call ?_ (by assumption) (by first | (simp; done) | (simp; omega) | omega)) | (with_reducible refine bl_drewN ?_) | (with_reducible refine Below.drew ?_) | (with_reducible refine bl_grow ?_ (by first | (simp; done) | (simp; omega) | omega)))); have hz5 := hq5.size; clear hq5; have hl5 := vb_lt hb5; have hn5 := vb_ne hb5; have hm5 := vb_ne2 hb5; have hs5 := hb5.size; (try simp at hs5)))
                  all_goals (go_wp2_with fail)
                  all_goals go_meet
                  all_goals (case rel => exact ⟨_, rfl, by omega, by repeat (first | (with_reducible assumption) | ((with_reducible refine at_new' _ _ _ _ ?_); (first | rfl | (simp; done))) | (with_reducible refine At.alloc ?_ _) | (with_reducible refine At.drew ?_) | (with_reducible refine At.drewN ?_) | (with_reducible refine At.set ?_ (by omega)) | (with_reducible apply At.store4) | (with_reducible apply At.store3) | (with_reducible apply At.store2) | (with_reducible apply At.put43) | (refine At.below ?_ (by with_reducible assumption))), by repeat (first | (with_reducible assumption) | ((with_reducible refine at_new' _ _ _ _ ?_); (first | rfl | (simp; done))) | (with_reducible refine At.alloc ?_ _) | (with_reducible refine At.drew ?_) | (with_reducible refine At.drewN ?_) | (with_reducible refine At.set ?_ (by omega)) | (with_reducible apply At.store4) | (with_reducible apply At.store3) | (with_reducible apply At.store2) | (with_reducible apply At.put43) | (refine At.below ?_ (by with_reducible assumption))), by repeat (first | (with_reducible exact Below.refl _ _) | (with_reducible assumption) | (with_reducible refine Below.setCell ?_ (by first | (simp; done) | (simp; omega) | omega) _) | (with_reducible refine Below.alloc ?_ (by first | (simp; done) | (simp; omega) | omega) _) | (refine bl_call ?_ (by assumption) (by first | (simp; done) | (simp; omega) | omega)) | (with_reducible refine bl_drewN ?_) | (with_reducible refine Below.drew ?_) | (with_reducible refine bl_grow ?_ (by first | (simp; done) | (simp; omega) | omega)))⟩)
                case rest =>
                clear ksZ2 cs0Z2 fs0Z2 cs1Z2 fs1Z2 cs2Z2 fs2Z2 hqZ2 hzZ2
                clear l0 l1 l2 l3 hbl
                obtain ⟨b5, rfl, hb5, ksU, k5U, hqU⟩ := hcut
                rename World => U
                have hzU := hqU.size
                obtain ⟨zsU, cs0U, cs1U, cs2U, fs0U, fs1U, fs2U⟩ := ksU.three
                obtain ⟨z5U, c50U, c51U, c52U, f50U, f51U, f52U⟩ := k5U.three
                obtain ⟨a0, a1, a2⟩ := (Rk.out.below Rk.out.1 hqU).2 k hlt
                dsimp only at a0 a1 a2
                have hbk := Nat.lt_of_lt_of_le Rk.out.1 hzU
                rw [SO.out.hkx] at a0
                rw [SO.out.hky] at a1
                rw [SO.out.hkf] at a2
                go_upto_region 16 with fail
                go_cut [16] from 40 to 117 (fun t16 wx_ => ∃ b6 : Nat, t16 = .pointer (some ⟨b6, 0, none⟩) ∧ y2.heap.size < b6 ∧ At wx_ (y2.heap.size) [.int .i64 ((tM a).1 : Int), .int .i64 ((tM a).2.1 : Int), .bool (tM a).2.2] ∧ At wx_ b6 [.int .i64 ((tM a6).1 : Int), .int .i64 ((tM a6).2.1 : Int), .bool (tM a6).2.2] ∧ Below w.heap.size w wx_)
                case first =>
                  go_region_held3 (fun W => ((y2.heap.size) < W.heap.size ∧ W.cell? ⟨y2.heap.size, 0, none⟩ = some (.int .i64 ((tM a).1 : Int)) ∧ W.cell? ⟨y2.heap.size, 1, none⟩ = some (.int .i64 ((tM a).2.1 : Int)) ∧ W.cell? ⟨y2.heap.size, 2, none⟩ = some (.bool (tM a).2.2) ∧ W.frozen? ⟨y2.heap.size, 0, none⟩ = false ∧ W.frozen? ⟨y2.heap.size, 1, none⟩ = false ∧ W.frozen? ⟨y2.heap.size, 2, none⟩ = false) ∧ ((b5) < W.heap.size ∧ W.cell? ⟨b5, 0, none⟩ = some (.int .i64 ((tM a5).1 : Int)) ∧ W.cell? ⟨b5, 1, none⟩ = some (.int .i64 ((tM a5).2.1 : Int)) ∧ W.cell? ⟨b5, 2, none⟩ = some (.bool (tM a5).2.2) ∧ W.frozen? ⟨b5, 0, none⟩ = false ∧ W.frozen? ⟨b5, 1, none⟩ = false ∧ W.frozen? ⟨b5, 2, none⟩ = false) ∧ (bk < W.heap.size ∧ W.cell? ⟨bk, ok + k * 3, none⟩ = some (.int .i64 ((tM y).1 : Int)) ∧ W.cell? ⟨bk, ok + k * 3 + 1, none⟩ = some (.int .i64 ((tM y).2.1 : Int)) ∧ W.cell? ⟨bk, ok + k * 3 + 2, none⟩ = some (.bool (tM y).2.2))) (exact ⟨At.three (by repeat (first | (with_reducible assumption) | ((with_reducible refine at_new' _ _ _ _ ?_); (first | rfl | (simp; done))) | (with_reducible refine At.alloc ?_ _) | (with_reducible refine At.drew ?_) | (with_reducible refine At.drewN ?_) | (with_reducible refine At.set ?_ (by omega)) | (with_reducible apply At.store4) | (with_reducible apply At.store3) | (with_reducible apply At.store2) | (with_reducible apply At.put43) | (refine At.below ?_ (by with_reducible assumption)))), At.three (by repeat (first | (with_reducible assumption) | ((with_reducible refine at_new' _ _ _ _ ?_); (first | rfl | (simp; done))) | (with_reducible refine At.alloc ?_ _) | (with_reducible refine At.drew ?_) | (with_reducible refine At.drewN ?_) | (with_reducible refine At.set ?_ (by omega)) | (with_reducible apply At.store4) | (with_reducible apply At.store3) | (with_reducible apply At.store2) | (with_reducible apply At.put43) | (refine At.below ?_ (by with_reducible assumption)))), brk_at SO.out Rk.out (by repeat (first | (with_reducible exact Below.refl _ _) | (with_reducible assumption) | (with_reducible refine Below.setCell ?_ (by first | (simp; done) | (simp; omega) | omega) _) | (with_reducible refine Below.alloc ?_ (by first | (simp; done) | (simp; omega) | omega) _) | (refine bl_call ?_ (by assumption) (by first | (simp; done) | (simp; omega) | omega)) | (with_reducible refine bl_drewN ?_) | (with_reducible refine Below.drew ?_) | (with_reducible refine bl_grow ?_ (by first | (simp; done) | (simp; omega) | omega)))) hlt⟩) (first | (go_at_call 10; refine (HT6.out _).mono ?_; rintro e w6 ⟨rfl, hb6⟩; obtain ⟨hc6, hf6⟩ := bcell hb6; have hq6 : Below w.heap.size w w6 := (by repeat (first | (with_reducible exact Below.refl _ _) | (with_reducible assumption) | (with_reducible refine Below.setCell ?_ (by first | (simp; done) | (simp; omega) | omega) _) | (with_reducible refine Below.alloc ?_ (by first | (simp; done) | (simp; omega) | omega) _) | (refine bl_call ?_ (by assumption) (by first | (simp; done) | (simp; omega) | omega)) | (with_reducible refine bl_drewN ?_) | (with_reducible refine Below.drew ?_) | (with_reducible refine bl_grow ?_ (by first | (simp; done) | (simp; omega) | omega)))); have hz6 := hq6.size; clear hq6; have hl6 := vb_lt hb6; have hn6 := vb_ne hb6; have hm6 := vb_ne2 hb6; have hs6 := hb6.size; (try simp at hs6)) | (go_at_call 9; refine (EA6.out _).mono ?_; rintro e w7 ⟨rfl, hb7⟩; obtain ⟨hc7, hf7⟩ := bcell hb7; have hq7 : Below w.heap.size w w7 := (by repeat (first | (with_reducible exact Below.refl _ _) | (with_reducible assumption) | (with_reducible refine Below.setCell ?_ (by first | (simp; done) | (simp; omega) | omega) _) | (with_reducible refine Below.alloc ?_ (by first | (simp; done) | (simp; omega) | omega) _) | (refine bl_call ?_ (by assumption) (by first | (simp; done) | (simp; omega) | omega)) | (with_reducible refine bl_drewN ?_) | (with_reducible refine Below.drew ?_) | (with_reducible refine bl_grow ?_ (by first | (simp; done) | (simp; omega) | omega)))); have hz7 := hq7.size; clear hq7; have hl7 := vb_lt hb7; have hn7 := vb_ne hb7; have hm7 := vb_ne2 hb7; have hs7 := hb7.size; (try simp at hs7)))
                  all_goals (go_wp2_with fail)
                  all_goals go_meet
                  all_goals (case rel => exact ⟨_, rfl, by omega, by repeat (first | (with_reducible assumption) | ((with_reducible refine at_new' _ _ _ _ ?_); (first | rfl | (simp; done))) | (with_reducible refine At.alloc ?_ _) | (with_reducible refine At.drew ?_) | (with_reducible refine At.drewN ?_) | (with_reducible refine At.set ?_ (by omega)) | (with_reducible apply At.store4) | (with_reducible apply At.store3) | (with_reducible apply At.store2) | (with_reducible apply At.put43) | (refine At.below ?_ (by with_reducible assumption))), by repeat (first | (with_reducible assumption) | ((with_reducible refine at_new' _ _ _ _ ?_); (first | rfl | (simp; done))) | (with_reducible refine At.alloc ?_ _) | (with_reducible refine At.drew ?_) | (with_reducible refine At.drewN ?_) | (with_reducible refine At.set ?_ (by omega)) | (with_reducible apply At.store4) | (with_reducible apply At.store3) | (with_reducible apply At.store2) | (with_reducible apply At.put43) | (refine At.below ?_ (by with_reducible assumption))), by repeat (first | (with_reducible exact Below.refl _ _) | (with_reducible assumption) | (with_reducible refine Below.setCell ?_ (by first | (simp; done) | (simp; omega) | omega) _) | (with_reducible refine Below.alloc ?_ (by first | (simp; done) | (simp; omega) | omega) _) | (refine bl_call ?_ (by assumption) (by first | (simp; done) | (simp; omega) | omega)) | (with_reducible refine bl_drewN ?_) | (with_reducible refine Below.drew ?_) | (with_reducible refine bl_grow ?_ (by first | (simp; done) | (simp; omega) | omega)))⟩)
                case rest =>
                clear ksU cs0U fs0U cs1U fs1U cs2U fs2U k5U c50U f50U c51U f51U c52U f52U hqU hzU
                clear a0 a1 a2 hbk
                obtain ⟨b6, rfl, hb6, ksX, k6X, hqX⟩ := hcut
                rename World => X
                have hzX := hqX.size
                obtain ⟨zsX, cs0X, cs1X, cs2X, fs0X, fs1X, fs2X⟩ := ksX.three
                obtain ⟨z6X, c60X, c61X, c62X, f60X, f61X, f62X⟩ := k6X.three
                have cw := (Rw.out.below Rw.out.1 hqX).2 k hlt
                dsimp only at cw
                have hbw := Nat.lt_of_lt_of_le Rw.out.1 hzX
                rw [HWV.out] at cw
                go_upto_region 17 with fail
                refine below_gate 8 1 #[true, true, true, true, true, true, true, true, false] (by kernel_rfl) (by kernel_rfl) rfl rfl ?_
                dsimp only [List.take]
                repeat (go_big_quiet_step (first | (go_at_call 10; with_reducible exact Calls.regrown_of (rtimes_eq E7.out _)) | (go_at_call 9; with_reducible exact Calls.regrown_of (EA7.out _))))
                refine wpQuiet_nil ?_
                intro G hw1
                have hrG := regrown_below hw1
                clear hw1
                have ksG := ksX.below hrG
                have k6G := k6X.below hrG
                have hqG := bl_call hqX hrG (by omega)
                have hzG := hqG.size
                clear hrG ksX cs0X fs0X cs1X fs1X cs2X fs2X k6X c60X f60X c61X f61X c62X f62X hqX
                obtain ⟨zsG, cs0G, cs1G, cs2G, fs0G, fs1G, fs2G⟩ := ksG.three
                obtain ⟨z6G, c60G, c61G, c62G, f60G, f61G, f62G⟩ := k6G.three
                refine wpAny_ready (rs := [8]) (by kernel_rfl) (by simp) (AllReady.cons rfl (fun K hK => ?_) AllReady.nil)
                go_simp
                refine hK _ _ ?_
                clear hK K
                refine wpAny_done (by kernel_rfl) ?_ _
                go_wp2_with fail
                go_roundw
                case rel => exact ⟨k + 1, by simp, by omega, Or.inl ⟨HX.out, rfl, by rw [HA7.out]; exact (by repeat (first | (with_reducible assumption) | ((with_reducible refine at_new' _ _ _ _ ?_); (first | rfl | (simp; done))) | (with_reducible refine At.alloc ?_ _) | (with_reducible refine At.drew ?_) | (with_reducible refine At.drewN ?_) | (with_reducible refine At.set ?_ (by omega)) | (with_reducible apply At.store4) | (with_reducible apply At.store3) | (with_reducible apply At.store2) | (with_reducible apply At.put43) | (refine At.below ?_ (by with_reducible assumption))))⟩, by repeat (first | (with_reducible exact Below.refl _ _) | (with_reducible assumption) | (with_reducible refine Below.setCell ?_ (by first | (simp; done) | (simp; omega) | omega) _) | (with_reducible refine Below.alloc ?_ (by first | (simp; done) | (simp; omega) | omega) _) | (refine bl_call ?_ (by assumption) (by first | (simp; done) | (simp; omega) | omega)) | (with_reducible refine bl_drewN ?_) | (with_reducible refine Below.drew ?_) | (with_reducible refine bl_grow ?_ (by first | (simp; done) | (simp; omega) | omega)))⟩
                case measure => simp [intOf]; omega
          · have hlt' : ¬ (k : Int) < (n : Int) := by omega
            obtain rfl : k = n := by omega
            have HX : Hid (e1 = 0) := by unfold Hid; rw [E1t.out he0, HE.out]
            have HF0 : Hid (farI a = farI (batS I K R S W k)) := by unfold Hid; rw [HAA.out]
            go_wp2_with fail
            go_meet
            case rel => exact ⟨by rw [HX.out], _, _, _, ksV, fun _ => by rw [← HF0.out]; exact tM_f _, by repeat (first | (with_reducible exact Below.refl _ _) | (with_reducible assumption) | (with_reducible refine Below.setCell ?_ (by first | (simp; done) | (simp; omega) | omega) _) | (with_reducible refine Below.alloc ?_ (by first | (simp; done) | (simp; omega) | omega) _) | (refine bl_call ?_ (by assumption) (by first | (simp; done) | (simp; omega) | omega)) | (with_reducible refine bl_drewN ?_) | (with_reducible refine Below.drew ?_) | (with_reducible refine bl_grow ?_ (by first | (simp; done) | (simp; omega) | omega)))⟩
        · have HX : Hid (e1 = batE I n) := E1t.out he0
          have HN : Hid (∀ (Q : Prop), (e1 == 0) = true → Q) := fun Q h => by rw [HX.out, he] at h; cases h
          by_cases hlt : k < n
          · have hlt' : (k : Int) < (n : Int) := by omega
            go_wp2_with fail
            go_meet
            case rel => exact ⟨by rw [HX.out], _, _, _, ksV, fun h => HN.out _ h, by repeat (first | (with_reducible exact Below.refl _ _) | (with_reducible assumption) | (with_reducible refine Below.setCell ?_ (by first | (simp; done) | (simp; omega) | omega) _) | (with_reducible refine Below.alloc ?_ (by first | (simp; done) | (simp; omega) | omega) _) | (refine bl_call ?_ (by assumption) (by first | (simp; done) | (simp; omega) | omega)) | (with_reducible refine bl_drewN ?_) | (with_reducible refine Below.drew ?_) | (with_reducible refine bl_grow ?_ (by first | (simp; done) | (simp; omega) | omega)))⟩
          · have hlt' : ¬ (k : Int) < (n : Int) := by omega
            go_wp2_with fail
            go_meet
            case rel => exact ⟨by rw [HX.out], _, _, _, ksV, fun h => HN.out _ h, by repeat (first | (with_reducible exact Below.refl _ _) | (with_reducible assumption) | (with_reducible refine Below.setCell ?_ (by first | (simp; done) | (simp; omega) | omega) _) | (with_reducible refine Below.alloc ?_ (by first | (simp; done) | (simp; omega) | omega) _) | (refine bl_call ?_ (by assumption) (by first | (simp; done) | (simp; omega) | omega)) | (with_reducible refine bl_drewN ?_) | (with_reducible refine Below.drew ?_) | (with_reducible refine bl_grow ?_ (by first | (simp; done) | (simp; omega) | omega)))⟩
  case rest =>
  clear ksY cs0Y fs0Y cs1Y fs1Y cs2Y fs2Y hqY
  rename World => y3
  obtain ⟨rfl, sx, sy, sf, ksy3, hft, hqy3⟩ := hcut
  have FT : Hid ((e1 == 0) = true → sf = farI (batS I K R S W n)) := hft
  clear hft
  have hzy3 := hqy3.size
  obtain ⟨zsy3, cs0y3, cs1y3, cs2y3, fs0y3, fs1y3, fs2y3⟩ := ksy3.three
  go_upto_region 19 with (go_at_call 11; clear m3; refine (HV.out _ (by repeat (first | (with_reducible exact Below.refl _ _) | (with_reducible assumption) | (with_reducible refine Below.setCell ?_ (by first | (simp; done) | (simp; omega) | omega) _) | (with_reducible refine Below.alloc ?_ (by first | (simp; done) | (simp; omega) | omega) _) | (refine bl_call ?_ (by assumption) (by first | (simp; done) | (simp; omega) | omega)) | (with_reducible refine bl_drewN ?_) | (with_reducible refine Below.drew ?_) | (with_reducible refine bl_grow ?_ (by first | (simp; done) | (simp; omega) | omega))))).mono ?_; rintro e x2 ⟨rfl, hbx2⟩; have ksx2 : At x2 (y2.heap.size) [.int .i64 sx, .int .i64 sy, .bool sf] := (by repeat (first | (with_reducible assumption) | ((with_reducible refine at_new' _ _ _ _ ?_); (first | rfl | (simp; done))) | (with_reducible refine At.alloc ?_ _) | (with_reducible refine At.drew ?_) | (with_reducible refine At.drewN ?_) | (with_reducible refine At.set ?_ (by omega)) | (with_reducible apply At.store4) | (with_reducible apply At.store3) | (with_reducible apply At.store2) | (with_reducible apply At.put43) | (refine At.below ?_ (by with_reducible assumption)))); have hqx2 : Below w.heap.size w x2 := (by repeat (first | (with_reducible exact Below.refl _ _) | (with_reducible assumption) | (with_reducible refine Below.setCell ?_ (by first | (simp; done) | (simp; omega) | omega) _) | (with_reducible refine Below.alloc ?_ (by first | (simp; done) | (simp; omega) | omega) _) | (refine bl_call ?_ (by assumption) (by first | (simp; done) | (simp; omega) | omega)) | (with_reducible refine bl_drewN ?_) | (with_reducible refine Below.drew ?_) | (with_reducible refine bl_grow ?_ (by first | (simp; done) | (simp; omega) | omega)))); have hzx2 := hqx2.size; obtain ⟨zsx2, cs0x2, cs1x2, cs2x2, fs0x2, fs1x2, fs2x2⟩ := ksx2.three; clear ksy3 cs0y3 fs0y3 cs1y3 fs1y3 cs2y3 fs2y3 hqy3; clear hbx2)
  go_cut [19] from 40 to 138 (fun t19 wx_ => t19 = .bool true ∧ Below w.heap.size w wx_)
  case first => as_aux_lemma =>
    cases he : e1 == 0 with
    | false =>
      have hv := VBf.out he
      subst hv
      go_wp2_with (go_at_call 12; clear m4; refine (same_below _ _ _ (I1.out) (HD.out.under (by repeat (first | (with_reducible exact Below.refl _ _) | (with_reducible assumption) | (with_reducible refine Below.setCell ?_ (by first | (simp; done) | (simp; omega) | omega) _) | (with_reducible refine Below.alloc ?_ (by first | (simp; done) | (simp; omega) | omega) _) | (refine bl_call ?_ (by assumption) (by first | (simp; done) | (simp; omega) | omega)) | (with_reducible refine bl_drewN ?_) | (with_reducible refine Below.drew ?_) | (with_reducible refine bl_grow ?_ (by first | (simp; done) | (simp; omega) | omega)))))).mono ?_; rintro e x3 ⟨rfl, hbx3⟩; have ksx3 : At x3 (y2.heap.size) [.int .i64 sx, .int .i64 sy, .bool sf] := (by repeat (first | (with_reducible assumption) | ((with_reducible refine at_new' _ _ _ _ ?_); (first | rfl | (simp; done))) | (with_reducible refine At.alloc ?_ _) | (with_reducible refine At.drew ?_) | (with_reducible refine At.drewN ?_) | (with_reducible refine At.set ?_ (by omega)) | (with_reducible apply At.store4) | (with_reducible apply At.store3) | (with_reducible apply At.store2) | (with_reducible apply At.put43) | (refine At.below ?_ (by with_reducible assumption)))); have hqx3 : Below w.heap.size w x3 := (by repeat (first | (with_reducible exact Below.refl _ _) | (with_reducible assumption) | (with_reducible refine Below.setCell ?_ (by first | (simp; done) | (simp; omega) | omega) _) | (with_reducible refine Below.alloc ?_ (by first | (simp; done) | (simp; omega) | omega) _) | (refine bl_call ?_ (by assumption) (by first | (simp; done) | (simp; omega) | omega)) | (with_reducible refine bl_drewN ?_) | (with_reducible refine Below.drew ?_) | (with_reducible refine bl_grow ?_ (by first | (simp; done) | (simp; omega) | omega)))); have hzx3 := hqx3.size; obtain ⟨zsx3, cs0x3, cs1x3, cs2x3, fs0x3, fs1x3, fs2x3⟩ := ksx3.three; clear ksx2 cs0x2 fs0x2 cs1x2 fs1x2 cs2x2 fs2x2 hqx2; clear hbx3)
      go_meet
      case rel => exact ⟨rfl, by repeat (first | (with_reducible exact Below.refl _ _) | (with_reducible assumption) | (with_reducible refine Below.setCell ?_ (by first | (simp; done) | (simp; omega) | omega) _) | (with_reducible refine Below.alloc ?_ (by first | (simp; done) | (simp; omega) | omega) _) | (refine bl_call ?_ (by assumption) (by first | (simp; done) | (simp; omega) | omega)) | (with_reducible refine bl_drewN ?_) | (with_reducible refine Below.drew ?_) | (with_reducible refine bl_grow ?_ (by first | (simp; done) | (simp; omega) | omega)))⟩
    | true =>
      have hv := VBt.out he
      have hf := FT.out he
      rw [← hf] at hv
      subst hv
      clear hf
      cases vb
      all_goals (
      go_wp2_with (go_at_call 12; clear m4; refine (same_below _ _ _ (I1.out) (HD.out.under (by repeat (first | (with_reducible exact Below.refl _ _) | (with_reducible assumption) | (with_reducible refine Below.setCell ?_ (by first | (simp; done) | (simp; omega) | omega) _) | (with_reducible refine Below.alloc ?_ (by first | (simp; done) | (simp; omega) | omega) _) | (refine bl_call ?_ (by assumption) (by first | (simp; done) | (simp; omega) | omega)) | (with_reducible refine bl_drewN ?_) | (with_reducible refine Below.drew ?_) | (with_reducible refine bl_grow ?_ (by first | (simp; done) | (simp; omega) | omega)))))).mono ?_; rintro e x3 ⟨rfl, hbx3⟩; have ksx3 := ksx2.below hbx3; have hqx3 : Below w.heap.size w x3 := (by repeat (first | (with_reducible exact Below.refl _ _) | (with_reducible assumption) | (with_reducible refine Below.setCell ?_ (by first | (simp; done) | (simp; omega) | omega) _) | (with_reducible refine Below.alloc ?_ (by first | (simp; done) | (simp; omega) | omega) _) | (refine bl_call ?_ (by assumption) (by first | (simp; done) | (simp; omega) | omega)) | (with_reducible refine bl_drewN ?_) | (with_reducible refine Below.drew ?_) | (with_reducible refine bl_grow ?_ (by first | (simp; done) | (simp; omega) | omega)))); have hzx3 := hqx3.size; obtain ⟨zsx3, cs0x3, cs1x3, cs2x3, fs0x3, fs1x3, fs2x3⟩ := ksx3.three; clear ksx2 cs0x2 fs0x2 cs1x2 fs1x2 cs2x2 fs2x2 hqx2 hbx3)
      go_meet
      case rel => exact ⟨rfl, by repeat (first | (with_reducible exact Below.refl _ _) | (with_reducible assumption) | (with_reducible refine Below.setCell ?_ (by first | (simp; done) | (simp; omega) | omega) _) | (with_reducible refine Below.alloc ?_ (by first | (simp; done) | (simp; omega) | omega) _) | (refine bl_call ?_ (by assumption) (by first | (simp; done) | (simp; omega) | omega)) | (with_reducible refine bl_drewN ?_) | (with_reducible refine Below.drew ?_) | (with_reducible refine bl_grow ?_ (by first | (simp; done) | (simp; omega) | omega)))⟩)
  case rest =>
  clear ksx2 cs0x2 fs0x2 cs1x2 fs1x2 cs2x2 fs2x2 hqx2
  rename World => y4
  obtain ⟨rfl, hqy4⟩ := hcut
  have hzy4 := hqy4.size
  clear FT VBt VBf E1t E1f HCW HV I1 HE0
  go_upto_block 2 with fail
  go_cut [9, 20] from 139 to 185 (fun t9 t20 wx_ => t9 = .int .i64 f1 ∧ ((f1 == 0) = true → wx_.ownsRow w.heap.size 3 1 t20 (batL I K R S n).length (bL (batL I K R S n))) ∧ Below w.heap.size w wx_)
  case first => as_aux_lemma =>
    cases hf0 : f0 == 0 with
    | false =>
      have hx : Hid (f1 = f0) := F1f.out hf0
      have HNE : Hid (∀ (Q : Prop), (f1 == 0) = true → Q) := fun Q h => by rw [hx.out, hf0] at h; cases h
      go_wp2_with fail
      go_loopw [9, 20, 21] (fun tf tv ti wl => tf = .int .i64 f0 ∧ ti = .int .i64 0 ∧ Below w.heap.size w wl) (fun _ _ _ _ => 0)
      case atStart => exact ⟨rfl, rfl, by repeat (first | (with_reducible exact Below.refl _ _) | (with_reducible assumption) | (with_reducible refine Below.setCell ?_ (by first | (simp; done) | (simp; omega) | omega) _) | (with_reducible refine Below.alloc ?_ (by first | (simp; done) | (simp; omega) | omega) _) | (refine bl_call ?_ (by assumption) (by first | (simp; done) | (simp; omega) | omega)) | (with_reducible refine bl_drewN ?_) | (with_reducible refine Below.drew ?_) | (with_reducible refine bl_grow ?_ (by first | (simp; done) | (simp; omega) | omega)))⟩
      case round =>
        obtain ⟨rfl, rfl, hqV⟩ := hrel
        rename World => V
        have hzV := hqV.size
        by_cases hlt : 0 < n
        · have hlt' : (0 : Int) < (n : Int) := by omega
          go_wp2_with fail
          go_meet
          case rel => exact ⟨by rw [hx.out], fun h => HNE.out _ h, by repeat (first | (with_reducible exact Below.refl _ _) | (with_reducible assumption) | (with_reducible refine Below.setCell ?_ (by first | (simp; done) | (simp; omega) | omega) _) | (with_reducible refine Below.alloc ?_ (by first | (simp; done) | (simp; omega) | omega) _) | (refine bl_call ?_ (by assumption) (by first | (simp; done) | (simp; omega) | omega)) | (with_reducible refine bl_drewN ?_) | (with_reducible refine Below.drew ?_) | (with_reducible refine bl_grow ?_ (by first | (simp; done) | (simp; omega) | omega)))⟩
        · have hlt' : ¬ (0 : Int) < (n : Int) := by omega
          go_wp2_with fail
          go_meet
          case rel => exact ⟨by rw [hx.out], fun h => HNE.out _ h, by repeat (first | (with_reducible exact Below.refl _ _) | (with_reducible assumption) | (with_reducible refine Below.setCell ?_ (by first | (simp; done) | (simp; omega) | omega) _) | (with_reducible refine Below.alloc ?_ (by first | (simp; done) | (simp; omega) | omega) _) | (refine bl_call ?_ (by assumption) (by first | (simp; done) | (simp; omega) | omega)) | (with_reducible refine bl_drewN ?_) | (with_reducible refine Below.drew ?_) | (with_reducible refine bl_grow ?_ (by first | (simp; done) | (simp; omega) | omega)))⟩
    | true =>
      obtain ⟨hm, hq, hn12, hwf, hrk, hrt, hrl⟩ := HC0.out hf0
      have HF : Hid ((∀ i, i < n → (I i).t.size ≤ 9223372036854775807 ∧ (Lit.int .i64 (I i).s).wf = true ∧ (Lit.int .i64 (I i).w).wf = true)) := hwf
      have HRk : Hid ((n = 0 ∨ ∃ b o : Nat, sk = some ⟨b, o, none⟩ ∧ RowO w b o n (fun i => (I i).kx) (fun i => (I i).ky) (fun i => (I i).kf))) := hrk
      have HRt : Hid ((n = 0 ∨ ∃ b o : Nat, st = some ⟨b, o, none⟩ ∧ RowZ w b o n (fun i => (I i).t))) := hrt
      have HRl : Hid ((n = 0 ∨ ∃ b o : Nat, sl = some ⟨b, o, none⟩ ∧ RowL w b o n I)) := hrl
      have HLEN : Hid (∀ k, (batL I K R S k).length ≤ k) := batL_len I K R S
      clear hwf hrk hrt hrl
      subst m q
      have hee : f0 = 0 := by simpa using hf0
      subst hee
      obtain ⟨i0, hi, hv0, hv1, hv2⟩ := info_parts biinfo
      go_wp2_with fail
      go_loopw [9, 20, 21] (fun tf tv ti wl => ∃ k : Nat, ti = .int .i64 k ∧ k ≤ n ∧ ((batF I k = 0 ∧ tf = .int .i64 0 ∧ wl.ownsRow w.heap.size 3 1 tv (batL I K R S k).length (bL (batL I K R S k))) ∨ ((batF I n == 0) = false ∧ tf = .int .i64 (batF I n))) ∧ Below w.heap.size w wl) (fun _ _ ti _ => n + 1 - (intOf ti).toNat)
      case atStart => exact ⟨0, rfl, by omega, Or.inl ⟨rfl, rfl, World.ownsRow_nil _ _ _ _⟩, by repeat (first | (with_reducible exact Below.refl _ _) | (with_reducible assumption) | (with_reducible refine Below.setCell ?_ (by first | (simp; done) | (simp; omega) | omega) _) | (with_reducible refine Below.alloc ?_ (by first | (simp; done) | (simp; omega) | omega) _) | (refine bl_call ?_ (by assumption) (by first | (simp; done) | (simp; omega) | omega)) | (with_reducible refine bl_drewN ?_) | (with_reducible refine Below.drew ?_) | (with_reducible refine bl_grow ?_ (by first | (simp; done) | (simp; omega) | omega)))⟩
      case round =>
        clear hqy4
        obtain ⟨k, rfl, hk, hst, hqV⟩ := hrel
        rename World => V
        have hzV := hqV.size
        rcases hst with ⟨he, rfl, hown⟩ | ⟨he, rfl⟩
        · have HE : Hid (batF I k = 0) := he
          have HOWN : Hid (V.ownsRow w.heap.size 3 1 u20 (batL I K R S k).length (bL (batL I K R S k))) := hown
          have hlen := HLEN.out k
          clear he hown
          by_cases hlt : k < n
          · have hlt' : (k : Int) < (n : Int) := by omega
            obtain ⟨bk, ok, rfl, rk⟩ := HRk.out.resolve_left (by omega)
            have Rk : Hid (RowO w bk ok n (fun i => (I i).kx) (fun i => (I i).ky) (fun i => (I i).kf)) := rk
            clear rk
            obtain ⟨bt, ot, rfl, rt⟩ := HRt.out.resolve_left (by omega)
            have Rt : Hid (RowZ w bt ot n (fun i => (I i).t)) := rt
            clear rt
            obtain ⟨bl, ol, rfl, rl⟩ := HRl.out.resolve_left (by omega)
            have Rl : Hid (RowL w bl ol n I) := rl
            clear rl
            obtain ⟨hf1, hf2, hf3⟩ := HF.out k hlt
            cases hs : seaE (I k) == 0 with
            | false =>
              have HS : Hid (∀ w, Calls Tryd.prog 5 #[.agg #[.int .i64 (I k).kx, .int .i64 (I k).ky, .bool (I k).kf], .string (I k).t, .agg #[.int .i64 (I k).rx, .int .i64 (I k).ry, .bool (I k).rf, .int .i64 (I k).s]] w fun ex w' => ex = .returned (.int .i64 (seaE (I k))) ∧ Below w.heap.size w w') := fun w => brs_any (I k) w hf1
              have HX : Hid (batF I n = seaE (I k)) := batF_stop HE.out hs hlt
              have HN : Hid ((batF I n == 0) = false) := by unfold Hid; rw [HX.out]; exact hs
              obtain ⟨a0, a1, a2⟩ := (Rk.out.below Rk.out.1 hqV).2 k hlt
              dsimp only at a0 a1 a2
              have hbk := Nat.lt_of_lt_of_le Rk.out.1 hzV
              have ct := (Rt.out.below Rt.out.1 hqV).2 k hlt
              dsimp only at ct
              have hbt := Nat.lt_of_lt_of_le Rt.out.1 hzV
              obtain ⟨l0, l1, l2, l3⟩ := (Rl.out.below Rl.out.1 hqV).2 k hlt
              have hbl := Nat.lt_of_lt_of_le Rl.out.1 hzV
              go_wp2_with fail
              refine wp_region_quiet_below (by kernel_rfl) (by kernel_rfl) ?_
              repeat (go_big_quiet_step (first | (go_at_call 5; with_reducible exact Calls.regrown_of (HS.out _))))
              refine wpQuiet_nil ?_
              intro Z hw1
              have hrZ := regrown_below hw1
              clear hw1
              have hqZ := bl_call hqV hrZ (by omega)
              have hzZ := hqZ.size
              have HOZ1 : Hid (Z.ownsRow w.heap.size 3 1 u20 (batL I K R S k).length (bL (batL I K R S k))) := own_stay HOWN.out hrZ
              clear hrZ  hqV

              clear a0 a1 a2 hbk ct hbt l0 l1 l2 l3 hbl
              obtain ⟨a0, a1, a2⟩ := (Rk.out.below Rk.out.1 hqZ).2 k hlt
              dsimp only at a0 a1 a2
              have hbk := Nat.lt_of_lt_of_le Rk.out.1 hzZ
              have ct := (Rt.out.below Rt.out.1 hqZ).2 k hlt
              dsimp only at ct
              have hbt := Nat.lt_of_lt_of_le Rt.out.1 hzZ
              obtain ⟨l0, l1, l2, l3⟩ := (Rl.out.below Rl.out.1 hqZ).2 k hlt
              have hbl := Nat.lt_of_lt_of_le Rl.out.1 hzZ
              go_upto_region 25 with fail
              refine wp_region_quiet_below (by kernel_rfl) (by kernel_rfl) ?_
              repeat (go_big_quiet_step (first | fail))
              refine wpQuiet_nil ?_
              intro Z2 hw1
              have hrZ2 := regrown_below hw1
              clear hw1
              have hqZ2 := bl_call hqZ hrZ2 (by omega)
              have hzZ2 := hqZ2.size
              have HOZ : Hid (Z2.ownsRow w.heap.size 3 1 u20 (batL I K R S k).length (bL (batL I K R S k))) := own_stay HOZ1.out hrZ2
              clear hrZ2  hqZ

              clear a0 a1 a2 hbk ct hbt l0 l1 l2 l3 hbl
              go_wp2_with (at_builtin; refine wpList_append_own_at _ rfl _ _ 25 rfl w.heap.size 3 i0 (.int .i64 0) 1 8 Tryd.underlying25 hi hv0 hv1 hv2 rfl (by decide) _ _ _ rfl (HOZ.out.alloc _) ⟨Z2.heap.size, 0, none⟩ 1 1 [.int .i64 (k : Int)] rfl rfl ?c1 ?c2 ?c3 ?c4 ?c5 ?_)
              case c1 => exact cell_one_new _ _ _
              case c2 => intro u hu; simp at hu; subst hu; rfl
              case c3 => unfold maxLen; omega
              case c4 => omega
              case c5 => simp; omega
              intro v' w13 hown' hgrow _ hat
              have hq13 : Below w.heap.size w w13 := grown_under (B := w.heap.size) (by repeat (first | (with_reducible exact Below.refl _ _) | (with_reducible assumption) | (with_reducible refine Below.setCell ?_ (by first | (simp; done) | (simp; omega) | omega) _) | (with_reducible refine Below.alloc ?_ (by first | (simp; done) | (simp; omega) | omega) _) | (refine bl_call ?_ (by assumption) (by first | (simp; done) | (simp; omega) | omega)) | (with_reducible refine bl_drewN ?_) | (with_reducible refine Below.drew ?_) | (with_reducible refine bl_grow ?_ (by first | (simp; done) | (simp; omega) | omega)))) (HOZ.out.alloc _) hgrow (by simp; omega) (Nat.le_refl _)
              clear hown'
              clear hgrow hat
              go_wp2_with fail
              go_roundw
              case rel => exact ⟨k + 1, by simp, by omega, Or.inr ⟨HN.out, by rw [HX.out]⟩, hq13⟩
              case measure => simp [intOf]; omega
            | true =>
              have HS : Hid (∀ w, Calls Tryd.prog 5 #[.agg #[.int .i64 (I k).kx, .int .i64 (I k).ky, .bool (I k).kf], .string (I k).t, .agg #[.int .i64 (I k).rx, .int .i64 (I k).ry, .bool (I k).rf, .int .i64 (I k).s]] w fun ex w' => ex = .returned (.int .i64 0) ∧ Below w.heap.size w w') := fun w => by
                have := brs_any (I k) w hf1
                rwa [show seaE (I k) = 0 by simpa using hs] at this
              have HX : Hid (batF I (k + 1) = 0) := batF_go HE.out (by simpa using hs)
              have HQ := HO.out k hs
              clear hs
              cases hb : sameS (tM (4 * S k)) (tM (R k + K k * askN (R k) (K k) (I k).t)) with
              | true =>
                have HR : Hid (∀ w, Calls Tryd.prog 13 #[.agg #[.int .i64 (I k).kx, .int .i64 (I k).ky, .bool (I k).kf], .string (I k).t, .agg #[.int .i64 (I k).rx, .int .i64 (I k).ry, .bool (I k).rf, .int .i64 (I k).s], .agg #[.int .i64 0, .int .i64 0, .bool true]] w fun ex w' => ex = .returned (.bool true) ∧ Below w.heap.size w w') := fun w => by
                  have := brr_ok HQ w
                  rwa [hb] at this
                have HL : Hid (batL I K R S (k + 1) = batL I K R S k) := by unfold Hid; rw [batL]; rw [hb]; rfl
                clear hb HQ
                obtain ⟨a0, a1, a2⟩ := (Rk.out.below Rk.out.1 hqV).2 k hlt
                dsimp only at a0 a1 a2
                have hbk := Nat.lt_of_lt_of_le Rk.out.1 hzV
                have ct := (Rt.out.below Rt.out.1 hqV).2 k hlt
                dsimp only at ct
                have hbt := Nat.lt_of_lt_of_le Rt.out.1 hzV
                obtain ⟨l0, l1, l2, l3⟩ := (Rl.out.below Rl.out.1 hqV).2 k hlt
                have hbl := Nat.lt_of_lt_of_le Rl.out.1 hzV
                go_wp2_with fail
                refine wp_region_quiet_below (by kernel_rfl) (by kernel_rfl) ?_
                repeat (go_big_quiet_step (first | (go_at_call 5; with_reducible exact Calls.regrown_of (HS.out _))))
                refine wpQuiet_nil ?_
                intro Z hw1
                have hrZ := regrown_below hw1
                clear hw1
                have hqZ := bl_call hqV hrZ (by omega)
                have hzZ := hqZ.size
                have HOZ1 : Hid (Z.ownsRow w.heap.size 3 1 u20 (batL I K R S k).length (bL (batL I K R S k))) := own_stay HOWN.out hrZ
                clear hrZ  hqV

                clear a0 a1 a2 hbk ct hbt l0 l1 l2 l3 hbl
                obtain ⟨a0, a1, a2⟩ := (Rk.out.below Rk.out.1 hqZ).2 k hlt
                dsimp only at a0 a1 a2
                have hbk := Nat.lt_of_lt_of_le Rk.out.1 hzZ
                have ct := (Rt.out.below Rt.out.1 hqZ).2 k hlt
                dsimp only at ct
                have hbt := Nat.lt_of_lt_of_le Rt.out.1 hzZ
                obtain ⟨l0, l1, l2, l3⟩ := (Rl.out.below Rl.out.1 hqZ).2 k hlt
                have hbl := Nat.lt_of_lt_of_le Rl.out.1 hzZ
                go_upto_region 25 with fail
                refine wp_region_quiet_below (by kernel_rfl) (by kernel_rfl) ?_
                repeat (go_big_quiet_step (first | (go_at_call 13; with_reducible exact Calls.regrown_of (HR.out _))))
                refine wpQuiet_nil ?_
                intro Z2 hw1
                have hrZ2 := regrown_below hw1
                clear hw1
                have hqZ2 := bl_call hqZ hrZ2 (by omega)
                have hzZ2 := hqZ2.size
                have HOZ : Hid (Z2.ownsRow w.heap.size 3 1 u20 (batL I K R S k).length (bL (batL I K R S k))) := own_stay HOZ1.out hrZ2
                clear hrZ2  hqZ

                clear a0 a1 a2 hbk ct hbt l0 l1 l2 l3 hbl
                go_wp2_with fail
                go_roundw
                case rel => exact ⟨k + 1, by simp, by omega, Or.inl ⟨HX.out, rfl, by rw [HL.out]; exact HOZ.out⟩, by repeat (first | (with_reducible exact Below.refl _ _) | (with_reducible assumption) | (with_reducible refine Below.setCell ?_ (by first | (simp; done) | (simp; omega) | omega) _) | (with_reducible refine Below.alloc ?_ (by first | (simp; done) | (simp; omega) | omega) _) | (refine bl_call ?_ (by assumption) (by first | (simp; done) | (simp; omega) | omega)) | (with_reducible refine bl_drewN ?_) | (with_reducible refine Below.drew ?_) | (with_reducible refine bl_grow ?_ (by first | (simp; done) | (simp; omega) | omega)))⟩
                case measure => simp [intOf]; omega
              | false =>
                have HR : Hid (∀ w, Calls Tryd.prog 13 #[.agg #[.int .i64 (I k).kx, .int .i64 (I k).ky, .bool (I k).kf], .string (I k).t, .agg #[.int .i64 (I k).rx, .int .i64 (I k).ry, .bool (I k).rf, .int .i64 (I k).s], .agg #[.int .i64 0, .int .i64 0, .bool true]] w fun ex w' => ex = .returned (.bool false) ∧ Below w.heap.size w w') := fun w => by
                  have := brr_ok HQ w
                  rwa [hb] at this
                have HL : Hid (batL I K R S (k + 1) = batL I K R S k ++ [k]) := by unfold Hid; rw [batL]; rw [hb]; rfl
                clear hb HQ
                obtain ⟨a0, a1, a2⟩ := (Rk.out.below Rk.out.1 hqV).2 k hlt
                dsimp only at a0 a1 a2
                have hbk := Nat.lt_of_lt_of_le Rk.out.1 hzV
                have ct := (Rt.out.below Rt.out.1 hqV).2 k hlt
                dsimp only at ct
                have hbt := Nat.lt_of_lt_of_le Rt.out.1 hzV
                obtain ⟨l0, l1, l2, l3⟩ := (Rl.out.below Rl.out.1 hqV).2 k hlt
                have hbl := Nat.lt_of_lt_of_le Rl.out.1 hzV
                go_wp2_with fail
                refine wp_region_quiet_below (by kernel_rfl) (by kernel_rfl) ?_
                repeat (go_big_quiet_step (first | (go_at_call 5; with_reducible exact Calls.regrown_of (HS.out _))))
                refine wpQuiet_nil ?_
                intro Z hw1
                have hrZ := regrown_below hw1
                clear hw1
                have hqZ := bl_call hqV hrZ (by omega)
                have hzZ := hqZ.size
                have HOZ1 : Hid (Z.ownsRow w.heap.size 3 1 u20 (batL I K R S k).length (bL (batL I K R S k))) := own_stay HOWN.out hrZ
                clear hrZ  hqV

                clear a0 a1 a2 hbk ct hbt l0 l1 l2 l3 hbl
                obtain ⟨a0, a1, a2⟩ := (Rk.out.below Rk.out.1 hqZ).2 k hlt
                dsimp only at a0 a1 a2
                have hbk := Nat.lt_of_lt_of_le Rk.out.1 hzZ
                have ct := (Rt.out.below Rt.out.1 hqZ).2 k hlt
                dsimp only at ct
                have hbt := Nat.lt_of_lt_of_le Rt.out.1 hzZ
                obtain ⟨l0, l1, l2, l3⟩ := (Rl.out.below Rl.out.1 hqZ).2 k hlt
                have hbl := Nat.lt_of_lt_of_le Rl.out.1 hzZ
                go_upto_region 25 with fail
                refine wp_region_quiet_below (by kernel_rfl) (by kernel_rfl) ?_
                repeat (go_big_quiet_step (first | (go_at_call 13; with_reducible exact Calls.regrown_of (HR.out _))))
                refine wpQuiet_nil ?_
                intro Z2 hw1
                have hrZ2 := regrown_below hw1
                clear hw1
                have hqZ2 := bl_call hqZ hrZ2 (by omega)
                have hzZ2 := hqZ2.size
                have HOZ : Hid (Z2.ownsRow w.heap.size 3 1 u20 (batL I K R S k).length (bL (batL I K R S k))) := own_stay HOZ1.out hrZ2
                clear hrZ2  hqZ

                clear a0 a1 a2 hbk ct hbt l0 l1 l2 l3 hbl
                go_wp2_with (at_builtin; refine wpList_append_own_at _ rfl _ _ 25 rfl w.heap.size 3 i0 (.int .i64 0) 1 8 Tryd.underlying25 hi hv0 hv1 hv2 rfl (by decide) _ _ _ rfl (HOZ.out.alloc _) ⟨Z2.heap.size, 0, none⟩ 1 1 [.int .i64 (k : Int)] rfl rfl ?c1 ?c2 ?c3 ?c4 ?c5 ?_)
                case c1 => exact cell_one_new _ _ _
                case c2 => intro u hu; simp at hu; subst hu; rfl
                case c3 => unfold maxLen; omega
                case c4 => omega
                case c5 => simp; omega
                intro v' w13 hown' hgrow _ hat
                have hq13 : Below w.heap.size w w13 := grown_under (B := w.heap.size) (by repeat (first | (with_reducible exact Below.refl _ _) | (with_reducible assumption) | (with_reducible refine Below.setCell ?_ (by first | (simp; done) | (simp; omega) | omega) _) | (with_reducible refine Below.alloc ?_ (by first | (simp; done) | (simp; omega) | omega) _) | (refine bl_call ?_ (by assumption) (by first | (simp; done) | (simp; omega) | omega)) | (with_reducible refine bl_drewN ?_) | (with_reducible refine Below.drew ?_) | (with_reducible refine bl_grow ?_ (by first | (simp; done) | (simp; omega) | omega)))) (HOZ.out.alloc _) hgrow (by simp; omega) (Nat.le_refl _)
                rw [bL_more, ← HL.out] at hown'
                have hlen2 : (batL I K R S k).length + 1 = (batL I K R S (k + 1)).length := by rw [HL.out, List.length_append]; rfl
                rw [hlen2] at hown'
                clear hlen2
                clear hgrow hat
                go_wp2_with fail
                go_roundw
                case rel => exact ⟨k + 1, by simp, by omega, Or.inl ⟨HX.out, rfl, hown'⟩, hq13⟩
                case measure => simp [intOf]; omega
          · have hlt' : ¬ (k : Int) < (n : Int) := by omega
            obtain rfl : k = n := by omega
            have HX : Hid (f1 = 0) := by unfold Hid; rw [F1t.out hf0, HE.out]
            go_wp2_with fail
            go_meet
            case rel => exact ⟨by rw [HX.out], fun _ => HOWN.out, by repeat (first | (with_reducible exact Below.refl _ _) | (with_reducible assumption) | (with_reducible refine Below.setCell ?_ (by first | (simp; done) | (simp; omega) | omega) _) | (with_reducible refine Below.alloc ?_ (by first | (simp; done) | (simp; omega) | omega) _) | (refine bl_call ?_ (by assumption) (by first | (simp; done) | (simp; omega) | omega)) | (with_reducible refine bl_drewN ?_) | (with_reducible refine Below.drew ?_) | (with_reducible refine bl_grow ?_ (by first | (simp; done) | (simp; omega) | omega)))⟩
        · have HX : Hid (f1 = batF I n) := F1t.out hf0
          have HN : Hid (∀ (Q : Prop), (f1 == 0) = true → Q) := fun Q h => by rw [HX.out, he] at h; cases h
          by_cases hlt : k < n
          · have hlt' : (k : Int) < (n : Int) := by omega
            go_wp2_with fail
            go_meet
            case rel => exact ⟨by rw [HX.out], fun h => HN.out _ h, by repeat (first | (with_reducible exact Below.refl _ _) | (with_reducible assumption) | (with_reducible refine Below.setCell ?_ (by first | (simp; done) | (simp; omega) | omega) _) | (with_reducible refine Below.alloc ?_ (by first | (simp; done) | (simp; omega) | omega) _) | (refine bl_call ?_ (by assumption) (by first | (simp; done) | (simp; omega) | omega)) | (with_reducible refine bl_drewN ?_) | (with_reducible refine Below.drew ?_) | (with_reducible refine bl_grow ?_ (by first | (simp; done) | (simp; omega) | omega)))⟩
          · have hlt' : ¬ (k : Int) < (n : Int) := by omega
            go_wp2_with fail
            go_meet
            case rel => exact ⟨by rw [HX.out], fun h => HN.out _ h, by repeat (first | (with_reducible exact Below.refl _ _) | (with_reducible assumption) | (with_reducible refine Below.setCell ?_ (by first | (simp; done) | (simp; omega) | omega) _) | (with_reducible refine Below.alloc ?_ (by first | (simp; done) | (simp; omega) | omega) _) | (refine bl_call ?_ (by assumption) (by first | (simp; done) | (simp; omega) | omega)) | (with_reducible refine bl_drewN ?_) | (with_reducible refine Below.drew ?_) | (with_reducible refine bl_grow ?_ (by first | (simp; done) | (simp; omega) | omega)))⟩
  case rest =>
  clear hqy4
  rename World => y5
  obtain ⟨rfl, hown5, hqy5⟩ := hcut
  have HO5 : Hid ((f1 == 0) = true → y5.ownsRow w.heap.size 3 1 u20 (batL I K R S n).length (bL (batL I K R S n))) := hown5
  clear hown5
  have hzy5 := hqy5.size
  go_upto_if 187 with fail
  go_cut [20] from 139 to 187 (fun t20 wx_ => wx_.ownsRow w.heap.size 3 1 t20 (LL).length (bL (LL)) ∧ Below w.heap.size w wx_)
  case first => as_aux_lemma =>
    cases he : f1 == 0 with
    | false =>
      have hne : (f1 != 0) = true := by rw [bne, he]; rfl
      have hl : Hid (LL = []) := LLf.out he
      go_wp2_with fail
      go_meet
      case rel => exact ⟨by rw [hl.out]; exact World.ownsRow_nil _ _ _ _, by repeat (first | (with_reducible exact Below.refl _ _) | (with_reducible assumption) | (with_reducible refine Below.setCell ?_ (by first | (simp; done) | (simp; omega) | omega) _) | (with_reducible refine Below.alloc ?_ (by first | (simp; done) | (simp; omega) | omega) _) | (refine bl_call ?_ (by assumption) (by first | (simp; done) | (simp; omega) | omega)) | (with_reducible refine bl_drewN ?_) | (with_reducible refine Below.drew ?_) | (with_reducible refine bl_grow ?_ (by first | (simp; done) | (simp; omega) | omega)))⟩
    | true =>
      have hne : (f1 != 0) = false := by rw [bne, he]; rfl
      have hl : Hid (LL = batL I K R S n) := LLt.out he
      have ho := HO5.out he
      go_wp2_with fail
      go_meet
      case rel => exact ⟨by rw [hl.out]; exact ho, by repeat (first | (with_reducible exact Below.refl _ _) | (with_reducible assumption) | (with_reducible refine Below.setCell ?_ (by first | (simp; done) | (simp; omega) | omega) _) | (with_reducible refine Below.alloc ?_ (by first | (simp; done) | (simp; omega) | omega) _) | (refine bl_call ?_ (by assumption) (by first | (simp; done) | (simp; omega) | omega)) | (with_reducible refine bl_drewN ?_) | (with_reducible refine Below.drew ?_) | (with_reducible refine bl_grow ?_ (by first | (simp; done) | (simp; omega) | omega)))⟩
  case rest =>
  clear hqy5 HO5
  rename World => y6
  obtain ⟨hown6, hqy6⟩ := hcut
  have HO6 : Hid (y6.ownsRow w.heap.size 3 1 u20 (LL).length (bL (LL))) := hown6
  clear hown6
  have hzy6 := hqy6.size
  go_wp2_with (first | (go_at_call 14; clear m5; refine (HW.out _ (by repeat (first | (with_reducible exact Below.refl _ _) | (with_reducible assumption) | (with_reducible refine Below.setCell ?_ (by first | (simp; done) | (simp; omega) | omega) _) | (with_reducible refine Below.alloc ?_ (by first | (simp; done) | (simp; omega) | omega) _) | (refine bl_call ?_ (by assumption) (by first | (simp; done) | (simp; omega) | omega)) | (with_reducible refine bl_drewN ?_) | (with_reducible refine Below.drew ?_) | (with_reducible refine bl_grow ?_ (by first | (simp; done) | (simp; omega) | omega))))).mono ?_; rintro e z1 ⟨x, rfl, hox, hbz1⟩; have ho7 := own_stay HO6.out hbz1; have hqz1 : Below w.heap.size w z1 := (by repeat (first | (with_reducible exact Below.refl _ _) | (with_reducible assumption) | (with_reducible refine Below.setCell ?_ (by first | (simp; done) | (simp; omega) | omega) _) | (with_reducible refine Below.alloc ?_ (by first | (simp; done) | (simp; omega) | omega) _) | (refine bl_call ?_ (by assumption) (by first | (simp; done) | (simp; omega) | omega)) | (with_reducible refine bl_drewN ?_) | (with_reducible refine Below.drew ?_) | (with_reducible refine bl_grow ?_ (by first | (simp; done) | (simp; omega) | omega)))); have hzz1 := hqz1.size; clear hbz1) | (go_at_call 12; clear m6; refine (same_below _ _ _ (I2.out) (HD.out.under (by repeat (first | (with_reducible exact Below.refl _ _) | (with_reducible assumption) | (with_reducible refine Below.setCell ?_ (by first | (simp; done) | (simp; omega) | omega) _) | (with_reducible refine Below.alloc ?_ (by first | (simp; done) | (simp; omega) | omega) _) | (refine bl_call ?_ (by assumption) (by first | (simp; done) | (simp; omega) | omega)) | (with_reducible refine bl_drewN ?_) | (with_reducible refine Below.drew ?_) | (with_reducible refine bl_grow ?_ (by first | (simp; done) | (simp; omega) | omega)))))).mono ?_; rintro e z2 ⟨rfl, hbz2⟩; have ho8 := own_stay ho7 hbz2; have hox8 := own_stay hox hbz2; have hqz2 : Below w.heap.size w z2 := (by repeat (first | (with_reducible exact Below.refl _ _) | (with_reducible assumption) | (with_reducible refine Below.setCell ?_ (by first | (simp; done) | (simp; omega) | omega) _) | (with_reducible refine Below.alloc ?_ (by first | (simp; done) | (simp; omega) | omega) _) | (refine bl_call ?_ (by assumption) (by first | (simp; done) | (simp; omega) | omega)) | (with_reducible refine bl_drewN ?_) | (with_reducible refine Below.drew ?_) | (with_reducible refine bl_grow ?_ (by first | (simp; done) | (simp; omega) | omega)))); have hzz2 := hqz2.size; clear hbz2) | (go_at_call 15; clear m7; refine (HI.out _ _ _ _ _ hox8 ho8).mono ?_; rintro e z3 ⟨rfl, hbz3⟩; have hqz3 : Below w.heap.size w z3 := (by repeat (first | (with_reducible exact Below.refl _ _) | (with_reducible assumption) | (with_reducible refine Below.setCell ?_ (by first | (simp; done) | (simp; omega) | omega) _) | (with_reducible refine Below.alloc ?_ (by first | (simp; done) | (simp; omega) | omega) _) | (refine bl_call ?_ (by assumption) (by first | (simp; done) | (simp; omega) | omega)) | (with_reducible refine bl_drewN ?_) | (with_reducible refine Below.drew ?_) | (with_reducible refine bl_grow ?_ (by first | (simp; done) | (simp; omega) | omega)))); have hzz3 := hqz3.size; clear hbz3))
  go_ret
  exact ⟨rfl, by repeat (first | (with_reducible exact Below.refl _ _) | (with_reducible assumption) | (with_reducible refine Below.setCell ?_ (by first | (simp; done) | (simp; omega) | omega) _) | (with_reducible refine Below.alloc ?_ (by first | (simp; done) | (simp; omega) | omega) _) | (refine bl_call ?_ (by assumption) (by first | (simp; done) | (simp; omega) | omega)) | (with_reducible refine bl_drewN ?_) | (with_reducible refine Below.drew ?_) | (with_reducible refine bl_grow ?_ (by first | (simp; done) | (simp; omega) | omega)))⟩
end Go.Proofs.YtmijjjdedadklajDoor
