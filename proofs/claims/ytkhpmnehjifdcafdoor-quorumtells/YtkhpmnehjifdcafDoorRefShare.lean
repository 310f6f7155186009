/- What the plain reckoning of shares (stoneref2: Value, Places, Weights) answers. -/
import Derived.Test.YtkhpmnehjifdcafDoorShareMore
import Derived.Test.YtkhpmnehjifdcafDoorRef
import Derived.Test.YtkhpmnehjifdcafDoorOwn
import Derived.Test.YtkhpmnehjifdcafDoorMem
import Derived.BigQuiet
namespace Go.Proofs.YtkhpmnehjifdcafDoor
open Go.RowKit Go.Sort
set_option linter.unusedVariables false
set_option linter.unusedSimpArgs false
theorem row_int {w W : World} {b o n : Nat} {X : Nat → Int} (h : RowI w b o n X) (k : Below w.heap.size w W) {i : Nat} (hi : i < n) : W.cell? ⟨b, o + i, none⟩ = some (.int .i64 (X i)) := (h.below h.1 k).2 i hi
theorem iinfo : (Tryd.prog.info? 3).map (fun i => (i.zero, i.size, i.bytes)) = some (some (.int .i64 0), 1, 8) := by kernel_rfl
theorem rturn_q {a : QF} (h : a ≠ 0) (w : World) : Calls Tryd.prog 32 #[.int .i64 (vI a), .int .i64 1013] w fun e w' => e = .returned (.int .i64 (vI (ivq a))) ∧ w' = w :=
  turn_any 1013 (vI a) (vI (ivq a)) w (by omega) (by omega) (vI_lo a) (by have := vI_hi a; omega) 40 (qturn_start h) (vI_lo _)
set_option maxRecDepth 100000 in
set_option maxHeartbeats 4000000 in
theorem rvalue_nil (sa : Option Addr) (c : Nat) (x : Int) (w : World) : Calls Tryd.prog 6 #[.slice sa 0 c, .int .i64 x] w fun e w' => e = .returned (.int .i64 0) ∧ Below w.heap.size w w' := by
  go_enter Tryd.func6, Tryd.ntmps6
  go_wp2_with fail
  go_loopw [5, 6, 7] (fun ty tp ti wl => ty = .int .i64 0 ∧ tp = .int .i64 1 ∧ ti = .int .i64 0 ∧ Below w.heap.size w wl) (fun _ _ _ _ => 0)
  case atStart => exact ⟨rfl, rfl, rfl, by repeat (first | (with_reducible exact Below.refl _ _) | (with_reducible assumption) | (with_reducible refine Below.setCell ?_ (by first | (simp; done) | (simp; omega) | omega) _) | (with_reducible refine Below.alloc ?_ (by first | (simp; done) | (simp; omega) | omega) _) | (refine bl_call ?_ (by assumption) (by first | (simp; done) | (simp; omega) | omega)) | (with_reducible refine bl_drewN ?_) | (with_reducible refine Below.drew ?_) | (with_reducible refine bl_grow ?_ (by first | (simp; done) | (simp; omega) | omega)))⟩
  case round =>
    obtain ⟨rfl, rfl, rfl, hqV⟩ := hrel
    go_wp2_with fail
    go_ret
    exact ⟨rfl, by repeat (first | (with_reducible exact Below.refl _ _) | (with_reducible assumption) | (with_reducible refine Below.setCell ?_ (by first | (simp; done) | (simp; omega) | omega) _) | (with_reducible refine Below.alloc ?_ (by first | (simp; done) | (simp; omega) | omega) _) | (refine bl_call ?_ (by assumption) (by first | (simp; done) | (simp; omega) | omega)) | (with_reducible refine bl_drewN ?_) | (with_reducible refine Below.drew ?_) | (with_reducible refine bl_grow ?_ (by first | (simp; done) | (simp; omega) | omega)))⟩
set_option maxRecDepth 100000 in
set_option maxHeartbeats 4000000 in
theorem rvalue_row (b o n c : Nat) (X : Nat → Int) (x : Int) (w : World) (hn : n ≤ 1000000) (hr : RowI w b o n X) (hx : ∀ i, i < n → 0 ≤ X i ∧ X i < 1013) (x0 : 0 ≤ x) (x1 : x < 1013) :
    Calls Tryd.prog 6 #[.slice (some ⟨b, o, none⟩) n c, .int .i64 x] w fun e w' => e = .returned (.int .i64 (vI (vlq (xq X) (zq x) n))) ∧ Below w.heap.size w w' := by
  have HR : Hid (RowI w b o n X) := hr
  have HX : Hid (∀ i, i < n → 0 ≤ X i ∧ X i < 1013) := hx
  have hb := hr.1
  clear hr hx
  go_enter Tryd.func6, Tryd.ntmps6
  go_wp2_with fail
  go_loopw [5, 6, 7] (fun ty tp ti wl => ∃ k : Nat, k ≤ n ∧ ti = .int .i64 k ∧ ty = .int .i64 (vI (vlq (xq X) (zq x) k)) ∧ tp = .int .i64 (vI (pwq (zq x) k)) ∧ Below w.heap.size w wl) (fun _ _ ti _ => n - (intOf ti).toNat)
  case atStart => exact ⟨0, by omega, rfl, rfl, rfl, by repeat (first | (with_reducible exact Below.refl _ _) | (with_reducible assumption) | (with_reducible refine Below.setCell ?_ (by first | (simp; done) | (simp; omega) | omega) _) | (with_reducible refine Below.alloc ?_ (by first | (simp; done) | (simp; omega) | omega) _) | (refine bl_call ?_ (by assumption) (by first | (simp; done) | (simp; omega) | omega)) | (with_reducible refine bl_drewN ?_) | (with_reducible refine Below.drew ?_) | (with_reducible refine bl_grow ?_ (by first | (simp; done) | (simp; omega) | omega)))⟩
  case round =>
    obtain ⟨k, hk, rfl, rfl, rfl, hqV⟩ := hrel
    have hzV := hqV.size
    by_cases hlt : k < n
    · have hlt' : (k : Int) < n := by omega
      have hbV := Nat.lt_of_lt_of_le hb hzV
      have c0 := row_int HR.out hqV hlt
      obtain ⟨d0, d1⟩ := HX.out k hlt
      obtain ⟨y, hy⟩ : ∃ y, vlq (xq X) (zq x) k = y := ⟨_, rfl⟩
      obtain ⟨p, hp⟩ : ∃ p, pwq (zq x) k = p := ⟨_, rfl⟩
      have E1 : Hid ((vI y + X k * vI p) % 1013 = vI (vlq (xq X) (zq x) (k + 1))) := by
        unfold Hid
        show _ = vI (vlq (xq X) (zq x) k + xq X k * pwq (zq x) k)
        rw [vI_addm, zq_vI, hy, hp]; rfl
      have E2 : Hid ((vI p * x) % 1013 = vI (pwq (zq x) (k + 1))) := by
        unfold Hid
        show _ = vI (pwq (zq x) k * zq x)
        rw [vI_mul, hp]
      rw [hy, hp]
      clear hy hp
      have y0 := vI_lo y
      have y1 := vI_hi y
      have p0 := vI_lo p
      have p1 := vI_hi p
      obtain ⟨q0, q1⟩ := vI_bd p d0 d1
      rw [Int.mul_comm] at q0 q1
      obtain ⟨r0, r1⟩ := vI_bd p x0 x1
      go_wp2_with fail
      go_roundw
      case rel => exact ⟨k + 1, by omega, by simp, by rw [← E1.out], by rw [← E2.out], by repeat (first | (with_reducible exact Below.refl _ _) | (with_reducible assumption) | (with_reducible refine Below.setCell ?_ (by first | (simp; done) | (simp; omega) | omega) _) | (with_reducible refine Below.alloc ?_ (by first | (simp; done) | (simp; omega) | omega) _) | (refine bl_call ?_ (by assumption) (by first | (simp; done) | (simp; omega) | omega)) | (with_reducible refine bl_drewN ?_) | (with_reducible refine Below.drew ?_) | (with_reducible refine bl_grow ?_ (by first | (simp; done) | (simp; omega) | omega)))⟩
      case measure => simp [intOf]; omega
    · have hlt' : ¬ (k : Int) < n := by omega
      obtain rfl : k = n := by omega
      go_wp2_with fail
      go_ret
      exact ⟨rfl, by repeat (first | (with_reducible exact Below.refl _ _) | (with_reducible assumption) | (with_reducible refine Below.setCell ?_ (by first | (simp; done) | (simp; omega) | omega) _) | (with_reducible refine Below.alloc ?_ (by first | (simp; done) | (simp; omega) | omega) _) | (refine bl_call ?_ (by assumption) (by first | (simp; done) | (simp; omega) | omega)) | (with_reducible refine bl_drewN ?_) | (with_reducible refine Below.drew ?_) | (with_reducible refine bl_grow ?_ (by first | (simp; done) | (simp; omega) | omega)))⟩
set_option maxRecDepth 100000 in
set_option maxHeartbeats 4000000 in
theorem rplaces_many (sa : Option Addr) (n c : Nat) (w : World) (h : 12 < n) (hn : n ≤ 9223372036854775807) : Calls Tryd.prog 10 #[.slice sa n c] w fun e w' => e = .returned (.int .i64 4) ∧ Below w.heap.size w w' := by
  have h' : (n : Int) > 12 := by omega
  go_enter Tryd.func10, Tryd.ntmps10
  go_wp2_with fail
  go_ret
  exact ⟨rfl, by repeat (first | (with_reducible exact Below.refl _ _) | (with_reducible assumption) | (with_reducible refine Below.setCell ?_ (by first | (simp; done) | (simp; omega) | omega) _) | (with_reducible refine Below.alloc ?_ (by first | (simp; done) | (simp; omega) | omega) _) | (refine bl_call ?_ (by assumption) (by first | (simp; done) | (simp; omega) | omega)) | (with_reducible refine bl_drewN ?_) | (with_reducible refine Below.drew ?_) | (with_reducible refine bl_grow ?_ (by first | (simp; done) | (simp; omega) | omega)))⟩
set_option maxRecDepth 100000 in
set_option maxHeartbeats 4000000 in
theorem rplaces_nil (sa : Option Addr) (c : Nat) (w : World) : Calls Tryd.prog 10 #[.slice sa 0 c] w fun e w' => e = .returned (.int .i64 5) ∧ Below w.heap.size w w' := by
  go_enter Tryd.func10, Tryd.ntmps10
  go_wp2_with fail
  go_ret
  exact ⟨rfl, by repeat (first | (with_reducible exact Below.refl _ _) | (with_reducible assumption) | (with_reducible refine Below.setCell ?_ (by first | (simp; done) | (simp; omega) | omega) _) | (with_reducible refine Below.alloc ?_ (by first | (simp; done) | (simp; omega) | omega) _) | (refine bl_call ?_ (by assumption) (by first | (simp; done) | (simp; omega) | omega)) | (with_reducible refine bl_drewN ?_) | (with_reducible refine Below.drew ?_) | (with_reducible refine bl_grow ?_ (by first | (simp; done) | (simp; omega) | omega)))⟩
set_option maxRecDepth 100000 in
set_option maxHeartbeats 4000000 in
theorem rplaces_row (s : Int → Bool) (hs : ∀ n w, Calls Tryd.prog 30 #[.int .i64 n] w fun e w' => e = .returned (.bool (s n)) ∧ Below w.heap.size w w') (b o n c : Nat) (X : Nat → Int) (w : World) (hn : n ≤ 12) (h0 : 0 < n) (hr : RowI w b o n X) :
    Calls Tryd.prog 10 #[.slice (some ⟨b, o, none⟩) n c] w fun e w' => e = .returned (.int .i64 (plE s X n)) ∧ Below w.heap.size w w' := by
  have HR : Hid (RowI w b o n X) := hr
  have HS : Hid (∀ n w, Calls Tryd.prog 30 #[.int .i64 n] w fun e w' => e = .returned (.bool (s n)) ∧ Below w.heap.size w w') := hs
  have hb := hr.1
  have h1' : ¬ (n : Int) > 12 := by omega
  have h2' : ((n : Int) == 0) = false := by rw [beq_eq_false_iff_ne]; omega
  clear hr hs
  go_enter Tryd.func10, Tryd.ntmps10
  go_wp2_with fail
  go_loopw [3] (fun ti wl => ∃ k : Nat, k ≤ n ∧ ti = .int .i64 k ∧ Hid (plE s X k = 0) ∧ Below w.heap.size w wl) (fun ti _ => n - (intOf ti).toNat)
  case atStart => exact ⟨0, by omega, rfl, rfl, by repeat (first | (with_reducible exact Below.refl _ _) | (with_reducible assumption) | (with_reducible refine Below.setCell ?_ (by first | (simp; done) | (simp; omega) | omega) _) | (with_reducible refine Below.alloc ?_ (by first | (simp; done) | (simp; omega) | omega) _) | (refine bl_call ?_ (by assumption) (by first | (simp; done) | (simp; omega) | omega)) | (with_reducible refine bl_drewN ?_) | (with_reducible refine Below.drew ?_) | (with_reducible refine bl_grow ?_ (by first | (simp; done) | (simp; omega) | omega)))⟩
  case round =>
    obtain ⟨k, hk, rfl, HP, hqV⟩ := hrel
    have hzV := hqV.size
    by_cases hlt : k < n
    · have hlt' : (k : Int) < n := by omega
      have hbV := Nat.lt_of_lt_of_le hb hzV
      have c0 := row_int HR.out hqV hlt
      cases hsk : s (X k) with
      | false =>
        have HSK : Hid (Calls Tryd.prog 30 #[.int .i64 (X k)] wr fun e w' => e = .returned (.bool false) ∧ Below wr.heap.size wr w') := by
          have := HS.out (X k) wr
          rwa [hsk] at this
        have HE : Hid (plE s X n = 1) := by
          unfold Hid
          have e : plE s X (k + 1) = 1 := by show (bif plE s X k == 0 then (bif s (X k) then _ else 1) else _) = 1; rw [HP.out, hsk]; rfl
          rw [pl_stay (k := k + 1) (by rw [e]; rfl) n (by omega), e]
        clear hsk
        go_wp2_with (go_at_call 30; refine HSK.out.mono ?_; rintro e w1 ⟨rfl, hb1⟩)
        go_ret
        exact ⟨ret_int HE.out.symm, by repeat (first | (with_reducible exact Below.refl _ _) | (with_reducible assumption) | (with_reducible refine Below.setCell ?_ (by first | (simp; done) | (simp; omega) | omega) _) | (with_reducible refine Below.alloc ?_ (by first | (simp; done) | (simp; omega) | omega) _) | (refine bl_call ?_ (by assumption) (by first | (simp; done) | (simp; omega) | omega)) | (with_reducible refine bl_drewN ?_) | (with_reducible refine Below.drew ?_) | (with_reducible refine bl_grow ?_ (by first | (simp; done) | (simp; omega) | omega)))⟩
      | true =>
        have HSK : Hid (Calls Tryd.prog 30 #[.int .i64 (X k)] wr fun e w' => e = .returned (.bool true) ∧ Below wr.heap.size wr w') := by
          have := HS.out (X k) wr
          rwa [hsk] at this
        have HT : Hid (s (X k) = true) := hsk
        clear hsk
        go_wp2_with (go_at_call 30; refine HSK.out.mono ?_; rintro e w1 ⟨rfl, hb1⟩)
        have hq1 : Below w.heap.size w w1 := by repeat (first | (with_reducible exact Below.refl _ _) | (with_reducible assumption) | (with_reducible refine Below.setCell ?_ (by first | (simp; done) | (simp; omega) | omega) _) | (with_reducible refine Below.alloc ?_ (by first | (simp; done) | (simp; omega) | omega) _) | (refine bl_call ?_ (by assumption) (by first | (simp; done) | (simp; omega) | omega)) | (with_reducible refine bl_drewN ?_) | (with_reducible refine Below.drew ?_) | (with_reducible refine bl_grow ?_ (by first | (simp; done) | (simp; omega) | omega)))
        have hz1 := hq1.size
        go_loopw [5] (fun tj wl => ∃ j : Nat, j ≤ k ∧ tj = .int .i64 j ∧ Hid (∀ i, i < j → X i ≠ X k) ∧ Below w.heap.size w wl) (fun tj _ => k - (intOf tj).toNat)
        case atStart => exact ⟨0, by omega, rfl, fun i hi => absurd hi (Nat.not_lt_zero _), by repeat (first | (with_reducible exact Below.refl _ _) | (with_reducible assumption) | (with_reducible refine Below.setCell ?_ (by first | (simp; done) | (simp; omega) | omega) _) | (with_reducible refine Below.alloc ?_ (by first | (simp; done) | (simp; omega) | omega) _) | (refine bl_call ?_ (by assumption) (by first | (simp; done) | (simp; omega) | omega)) | (with_reducible refine bl_drewN ?_) | (with_reducible refine Below.drew ?_) | (with_reducible refine bl_grow ?_ (by first | (simp; done) | (simp; omega) | omega)))⟩
        case round =>
          obtain ⟨j, hj, rfl, HJ, hqU⟩ := hrel
          have hzU := hqU.size
          by_cases hjk : j < k
          · have hjk' : (j : Int) < k := by omega
            rename_i wU
            have hbU := Nat.lt_of_lt_of_le hb hzU
            have d0 := row_int HR.out hqU (show j < n by omega)
            have d1 := row_int HR.out hqU hlt
            by_cases he : X j = X k
            · have he' : (X j == X k) = true := by rw [he]; simp
              have HE : Hid (plE s X n = 7) := by
                unfold Hid
                have e : plE s X (k + 1) = 7 := by show (bif plE s X k == 0 then (bif s (X k) then (bif clsB X k then _ else _) else 1) else _) = 7; rw [HP.out, HT.out, cls_yes hjk he]; rfl
                rw [pl_stay (k := k + 1) (by rw [e]; rfl) n (by omega), e]
              clear he
              go_wp2_with fail
              go_quiet (fail)
              go_wp2_with fail
              go_ret
              exact ⟨ret_int HE.out.symm, by repeat (first | (with_reducible exact Below.refl _ _) | (with_reducible assumption) | (with_reducible refine Below.setCell ?_ (by first | (simp; done) | (simp; omega) | omega) _) | (with_reducible refine Below.alloc ?_ (by first | (simp; done) | (simp; omega) | omega) _) | (refine bl_call ?_ (by assumption) (by first | (simp; done) | (simp; omega) | omega)) | (with_reducible refine bl_drewN ?_) | (with_reducible refine Below.drew ?_) | (with_reducible refine bl_grow ?_ (by first | (simp; done) | (simp; omega) | omega)))⟩
            · have he' : (X j == X k) = false := by rw [beq_eq_false_iff_ne]; exact he
              have HN : Hid (X j ≠ X k) := he
              clear he
              go_wp2_with fail
              go_quiet (fail)
              go_wp2_with fail
              go_roundw
              case rel => exact ⟨j + 1, by omega, by simp, fun i hi => (by rcases Nat.lt_succ_iff_lt_or_eq.1 hi with h | rfl; exact HJ.out i h; exact HN.out), by repeat (first | (with_reducible exact Below.refl _ _) | (with_reducible assumption) | (with_reducible refine Below.setCell ?_ (by first | (simp; done) | (simp; omega) | omega) _) | (with_reducible refine Below.alloc ?_ (by first | (simp; done) | (simp; omega) | omega) _) | (refine bl_call ?_ (by assumption) (by first | (simp; done) | (simp; omega) | omega)) | (with_reducible refine bl_drewN ?_) | (with_reducible refine Below.drew ?_) | (with_reducible refine bl_grow ?_ (by first | (simp; done) | (simp; omega) | omega)))⟩
              case measure => simp [intOf]; omega
          · have hjk' : ¬ (j : Int) < k := by omega
            obtain rfl : j = k := by omega
            have HE : Hid (plE s X (j + 1) = 0) := by
              unfold Hid
              show (bif plE s X j == 0 then (bif s (X j) then (bif clsB X j then _ else _) else 1) else _) = 0
              rw [HP.out, HT.out, cls_no HJ.out]; rfl
            go_wp2_with fail
            go_roundw
            case rel => exact ⟨j + 1, by omega, by simp, HE, by repeat (first | (with_reducible exact Below.refl _ _) | (with_reducible assumption) | (with_reducible refine Below.setCell ?_ (by first | (simp; done) | (simp; omega) | omega) _) | (with_reducible refine Below.alloc ?_ (by first | (simp; done) | (simp; omega) | omega) _) | (refine bl_call ?_ (by assumption) (by first | (simp; done) | (simp; omega) | omega)) | (with_reducible refine bl_drewN ?_) | (with_reducible refine Below.drew ?_) | (with_reducible refine bl_grow ?_ (by first | (simp; done) | (simp; omega) | omega)))⟩
            case measure => simp [intOf]; omega
    · have hlt' : ¬ (k : Int) < n := by omega
      obtain rfl : k = n := by omega
      go_wp2_with fail
      go_ret
      exact ⟨ret_int HP.out.symm, by repeat (first | (with_reducible exact Below.refl _ _) | (with_reducible assumption) | (with_reducible refine Below.setCell ?_ (by first | (simp; done) | (simp; omega) | omega) _) | (with_reducible refine Below.alloc ?_ (by first | (simp; done) | (simp; omega) | omega) _) | (refine bl_call ?_ (by assumption) (by first | (simp; done) | (simp; omega) | omega)) | (with_reducible refine bl_drewN ?_) | (with_reducible refine Below.drew ?_) | (with_reducible refine bl_grow ?_ (by first | (simp; done) | (simp; omega) | omega)))⟩
/-- It gives so many ints, in a row of its own. -/
def GivesI (w : World) (n : Nat) (X : Nat → Int) (e : Ending) (w' : World) : Prop := ∃ v, e = .returned v ∧ w'.ownsRow w.heap.size 3 1 v n (cellsI X n) ∧ Below w.heap.size w w'
theorem GivesI.mk {w w' : World} {n : Nat} {X : Nat → Int} {v : Value} (h : w'.ownsRow w.heap.size 3 1 v n (cellsI X n)) (hb : Below w.heap.size w w') : GivesI w n X (.returned v) w' := ⟨v, rfl, h, hb⟩
set_option maxRecDepth 100000 in
set_option maxHeartbeats 4000000 in
theorem rweights_row (b o n c : Nat) (X : Nat → Int) (w : World) (hn : n ≤ 12) (hr : RowI w b o n X) (hx : ∀ i, i < n → 1 ≤ X i ∧ X i < 1013) (hd : Dist (xq X) n) :
    Calls Tryd.prog 11 #[.slice (some ⟨b, o, none⟩) n c] w fun e w' => GivesI w n (fun i => vI (wtq (xq X) n i)) e w' := by
  have HR : Hid (RowI w b o n X) := hr
  have HX : Hid (∀ i, i < n → 1 ≤ X i ∧ X i < 1013) := hx
  have HD : Hid (Dist (xq X) n) := hd
  have hb := hr.1
  clear hr hx hd
  obtain ⟨i0, hi, hv0, hv1, hv2⟩ := info_parts iinfo
  go_enter Tryd.func11, Tryd.ntmps11
  go_wp2_with fail
  go_loopw [3, 4] (fun tv ti wl => ∃ i : Nat, i ≤ n ∧ ti = .int .i64 i ∧ wl.ownsRow w.heap.size 3 1 tv i (cellsI (fun i => vI (wtq (xq X) n i)) i) ∧ Below w.heap.size w wl) (fun _ ti _ => n - (intOf ti).toNat)
  case atStart => exact ⟨0, by omega, rfl, World.ownsRow_nil _ _ _ _, by repeat (first | (with_reducible exact Below.refl _ _) | (with_reducible assumption) | (with_reducible refine Below.setCell ?_ (by first | (simp; done) | (simp; omega) | omega) _) | (with_reducible refine Below.alloc ?_ (by first | (simp; done) | (simp; omega) | omega) _) | (refine bl_call ?_ (by assumption) (by first | (simp; done) | (simp; omega) | omega)) | (with_reducible refine bl_drewN ?_) | (with_reducible refine Below.drew ?_) | (with_reducible refine bl_grow ?_ (by first | (simp; done) | (simp; omega) | omega)))⟩
  case round =>
    obtain ⟨i, hin, rfl, hown, hqV⟩ := hrel
    rename World => wV
    have hzV := hqV.size
    by_cases hlt : i < n
    · have hlt' : (i : Int) < n := by omega
      have HOWN : Hid (wV.ownsRow w.heap.size 3 1 u3 i (cellsI (fun i => vI (wtq (xq X) n i)) i)) := hown
      clear hown
      go_wp2_with fail
      go_loopw [5, 6, 7] (fun tu td tk wl => ∃ k : Nat, k ≤ n ∧ tk = .int .i64 k ∧ tu = .int .i64 (vI (upq (xq X) k i)) ∧ td = .int .i64 (vI (pr (xq X) k i)) ∧ Below wV.heap.size wV wl) (fun _ _ tk _ => n - (intOf tk).toNat)
      case atStart => exact ⟨0, by omega, rfl, rfl, rfl, Below.refl _ _⟩
      case round =>
        obtain ⟨k, hk, rfl, rfl, rfl, hqU⟩ := hrel
        rename World => wU
        have hzU := hqU.size
        have hqW : Below w.heap.size w wU := bl_call hqV hqU (by omega)
        have hzW := hqW.size
        have hbU := Nat.lt_of_lt_of_le hb hzW
        obtain ⟨p, hp⟩ : ∃ p, upq (xq X) k i = p := ⟨_, rfl⟩
        obtain ⟨q, hq⟩ : ∃ q, pr (xq X) k i = q := ⟨_, rfl⟩
        have HP : Hid (upq (xq X) k i = p) := hp
        have HQ : Hid (pr (xq X) k i = q) := hq
        rw [hp, hq]
        clear hp hq
        have p0 := vI_lo p
        have p1 := vI_hi p
        have q0 := vI_lo q
        have q1 := vI_hi q
        by_cases hlk : k < n
        · have hlk' : (k : Int) < n := by omega
          have c0 := row_int HR.out hqW hlk
          have c1 := row_int HR.out hqW hlt
          obtain ⟨x0, x1⟩ := HX.out k hlk
          obtain ⟨z0, z1⟩ := HX.out i hlt
          by_cases hki : k = i
          · have hne : ((k : Int) != (i : Int)) = false := by rw [hki]; simp
            have HKI : Hid (k = i) := hki
            clear hki
            go_wp2_with fail
            go_roundw
            case rel => exact ⟨k + 1, by omega, by simp, (by rw [← HP.out, HKI.out, up_skip]), (by rw [← HQ.out, HKI.out, pr_skip]), hqU⟩
            case measure => simp [intOf]; omega
          · have hne : ((k : Int) != (i : Int)) = true := by rw [bne_iff_ne]; omega
            have HKI : Hid (k ≠ i) := hki
            clear hki
            obtain ⟨d, hd⟩ : ∃ d, (X k - X i) % 1013 = d := ⟨_, rfl⟩
            have d0 : 0 ≤ d := by omega
            have d1 : d < 1013 := by omega
            have HM : Hid (∀ w, Calls Tryd.prog 31 #[.int .i64 (X k - X i), .int .i64 1013] w fun e w' => e = .returned (.int .i64 d) ∧ Below w.heap.size w w') := fun w => by
              have := below_of_same (rmod_any (X k - X i) 1013 w (by omega) (by omega))
              rwa [hd] at this
            have E1 : Hid ((vI p * X k) % 1013 = vI (upq (xq X) (k + 1) i)) := by unfold Hid; rw [up_more _ HKI.out, vI_mul, HP.out]; rfl
            have E2 : Hid ((vI q * d) % 1013 = vI (pr (xq X) (k + 1) i)) := by
              unfold Hid
              rw [pr_more _ HKI.out, vI_mul, HQ.out, ← hd, zq_mod, zq_sub]; rfl
            obtain ⟨b1, b2⟩ := vI_bd p (n := X k) (by omega) x1
            obtain ⟨b3, b4⟩ := vI_bd q d0 d1
            clear hd
            go_wp2_with fail
            refine wp_region_quiet_below (by kernel_rfl) (by kernel_rfl) ?_
            repeat (go_big_quiet_step (first | (go_at_call 31; with_reducible exact Calls.regrown_of (HM.out _))))
            refine wpQuiet_nil ?_
            intro W1 hw1
            have hrW1 := regrown_below hw1
            clear hw1
            have hqU1 := bl_call hqU hrW1 (by omega)
            clear hrW1
            go_wp2_with fail
            go_roundw
            case rel => exact ⟨k + 1, by omega, by simp, (by rw [← E1.out]), (by rw [← E2.out]), hqU1⟩
            case measure => simp [intOf]; omega
        · have hlk' : ¬ (k : Int) < n := by omega
          obtain rfl : k = n := by omega
          have hne : q ≠ 0 := by rw [← HQ.out]; exact pr_ne HD.out hlt k (Nat.le_refl _)
          have HTU : Hid (∀ w, Calls Tryd.prog 32 #[.int .i64 (vI q), .int .i64 1013] w fun e w' => e = .returned (.int .i64 (vI (ivq q))) ∧ w' = w) := fun w => rturn_q hne w
          have EW : Hid ((vI p * vI (ivq q)) % 1013 = vI (wtq (xq X) k i)) := by unfold Hid wtq; rw [vI_mulv, HP.out, HQ.out]
          obtain ⟨b1, b2⟩ := vI_bd p (vI_lo (ivq q)) (vI_hi (ivq q))
          have hown := own_stay HOWN.out hqU
          clear hne
          go_wp2_with (first | (go_at_call 32; refine (HTU.out _).mono ?_; rintro e v1 ⟨rfl, hv1⟩; subst v1) | (at_builtin; refine wpList_append_own_at _ rfl _ _ 22 rfl w.heap.size 3 i0 (.int .i64 0) 1 8 Tryd.underlying22 hi hv0 hv1 hv2 rfl (by decide) _ _ _ rfl (hown.alloc _) ⟨wU.heap.size, 0, none⟩ 1 1 [.int .i64 ((vI p * vI (ivq q)) % 1013)] rfl rfl ?c1 ?c2 ?c3 ?c4 ?c5 ?_))
          case c1 => exact cell_one_new _ _ _
          case c2 => intro u hu; simp at hu; subst hu; rfl
          case c3 => unfold maxLen; omega
          case c4 => omega
          case c5 => simp; omega
          · intro v' w13 hown' hgrow _ hat
            have hq13 : Below w.heap.size w w13 := grown_under (B := w.heap.size) (by repeat (first | (with_reducible exact Below.refl _ _) | (with_reducible assumption) | (with_reducible refine Below.setCell ?_ (by first | (simp; done) | (simp; omega) | omega) _) | (with_reducible refine Below.alloc ?_ (by first | (simp; done) | (simp; omega) | omega) _) | (refine bl_call ?_ (by assumption) (by first | (simp; done) | (simp; omega) | omega)) | (with_reducible refine bl_drewN ?_) | (with_reducible refine Below.drew ?_) | (with_reducible refine bl_grow ?_ (by first | (simp; done) | (simp; omega) | omega)))) (hown.alloc _) hgrow (by simp; omega) (Nat.le_refl _)
            rw [EW.out] at hown'
            rw [← cellsI_succ (fun i => vI (wtq (xq X) k i))] at hown'
            clear hgrow hat hown
            go_wp2_with fail
            go_roundw
            case rel => exact ⟨i + 1, by omega, by simp, hown', hq13⟩
            case measure => simp [intOf]; omega
    · have hlt' : ¬ (i : Int) < n := by omega
      obtain rfl : i = n := by omega
      go_wp2_with fail
      go_ret
      exact GivesI.mk hown (by repeat (first | (with_reducible exact Below.refl _ _) | (with_reducible assumption) | (with_reducible refine Below.setCell ?_ (by first | (simp; done) | (simp; omega) | omega) _) | (with_reducible refine Below.alloc ?_ (by first | (simp; done) | (simp; omega) | omega) _) | (refine bl_call ?_ (by assumption) (by first | (simp; done) | (simp; omega) | omega)) | (with_reducible refine bl_drewN ?_) | (with_reducible refine Below.drew ?_) | (with_reducible refine bl_grow ?_ (by first | (simp; done) | (simp; omega) | omega))))
end Go.Proofs.YtkhpmnehjifdcafDoor
