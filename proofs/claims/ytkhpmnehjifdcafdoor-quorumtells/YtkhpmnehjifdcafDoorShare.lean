/- What package share answers: Split, Weights, Combine. -/
import Derived.Test.YtkhpmnehjifdcafDoorShareFns
import Derived.Test.YtkhpmnehjifdcafDoorShareVal
import Derived.Test.YtkhpmnehjifdcafDoorShareIs
namespace Go.Proofs.YtkhpmnehjifdcafDoor
open Go.RowKit Go.Sort
set_option linter.unusedVariables false
set_option linter.unusedSimpArgs false
theorem hinfoS : (Tryd.prog.info? 27).map (fun i => (i.zero, i.size, i.bytes)) = some (some (.agg #[.int .i64 0, .int .i64 0]), 2, 16) := by kernel_rfl
set_option maxRecDepth 100000 in
set_option maxHeartbeats 4000000 in
theorem wts_err (sx : Option Addr) (p d : Nat) (c : Int) (w : World) (hp : p ≤ 9223372036854775807) (h : Calls Tryd.prog 33 #[.slice sx p d] w fun e w' => e = .returned (errOf c) ∧ Below w.heap.size w w') : Calls Tryd.prog 12 #[.slice sx p d] w fun e w' => e = .returned (.tuple #[.slice none 0 0, errOf c]) ∧ Below w.heap.size w w' := by
  have H : Hid (Calls Tryd.prog 33 #[.slice sx p d] w fun e w' => e = .returned (errOf c) ∧ Below w.heap.size w w') := h
  clear h
  go_enter Tryd.func12, Tryd.ntmps12
  go_wp2_with (go_at_call 33; refine (H.out).mono ?_; rintro e w1 ⟨rfl, hbw1⟩; have hqw1 : Below w.heap.size w w1 := (by repeat (first | (with_reducible exact Below.refl _ _) | (with_reducible assumption) | (with_reducible refine Below.setCell ?_ (by first | (simp; done) | (simp; omega) | omega) _) | (with_reducible refine Below.alloc ?_ (by first | (simp; done) | (simp; omega) | omega) _) | (refine bl_call ?_ (by assumption) (by first | (simp; done) | (simp; omega) | omega)) | (with_reducible refine bl_drewN ?_) | (with_reducible refine Below.drew ?_) | (with_reducible refine bl_grow ?_ (by first | (simp; done) | (simp; omega) | omega)))); have hzw1 := hqw1.size; clear hbw1)
  exact bodyPost_ret (v := .tuple #[.slice none 0 0, errOf c]) (by simp [results, Tryd.results12, go_sem, *]) rfl ⟨rfl, by repeat (first | (with_reducible exact Below.refl _ _) | (with_reducible assumption) | (with_reducible refine Below.setCell ?_ (by first | (simp; done) | (simp; omega) | omega) _) | (with_reducible refine Below.alloc ?_ (by first | (simp; done) | (simp; omega) | omega) _) | (refine bl_call ?_ (by assumption) (by first | (simp; done) | (simp; omega) | omega)) | (with_reducible refine bl_drewN ?_) | (with_reducible refine Below.drew ?_) | (with_reducible refine bl_grow ?_ (by first | (simp; done) | (simp; omega) | omega)))⟩
set_option maxRecDepth 100000 in
set_option maxHeartbeats 4000000 in
theorem wts_ok (b o p d : Nat) (X : Nat → Int) (w : World) (h0 : 0 < p) (h12 : p ≤ 12) (hd : p ≤ d) (hr : RowI w b o p X) (hpl : plE secB X p = 0) : Calls Tryd.prog 12 #[.slice (some ⟨b, o, none⟩) p d] w fun ex w' => ∃ u, ex = .returned (.tuple #[u, .nilIface]) ∧ w'.ownsRow w.heap.size 3 1 u p (cellsI (fun i => vI (wtq (xq X) p i)) p) ∧ Below w.heap.size w w' := by
  have HC : Hid (Calls Tryd.prog 33 #[.slice (some ⟨b, o, none⟩) p d] w fun e w' => e = .returned (.nilIface) ∧ Below w.heap.size w w') := cpl_row b o p d X .nilIface w h12 h0 hd hr (Or.inl ⟨hpl, rfl⟩)
  have HX : ∀ i, i < p → 1 ≤ X i ∧ X i < 1013 := fun i hi => sec_bd (pl_good hpl i hi).1
  have HD : Dist (xq X) p := pl_dist (fun m h => sec_bd h) hpl
  have HR : Hid (RowI w b o p X) := hr
  have HW : Hid (∀ W i, Below w.heap.size w W → i < p → Calls Tryd.prog 34 #[.slice (some ⟨b, o, none⟩) p d, .int .i64 (X i)] W fun e w' => e = .returned (.int .i64 (vI (wtq (xq X) p i))) ∧ Below W.heap.size W w') := fun W i hW hi => weight_at b o p d i X W h12 hi (hr.below hr.1 hW) HX HD
  have hb := hr.1
  clear hr hpl HX HD
  obtain ⟨i0, hi, hv0, hv1, hv2⟩ := info_parts iinfo
  go_enter Tryd.func12, Tryd.ntmps12
  go_wp2_with (first | (go_at_call 33; refine (HC.out).mono ?_; rintro e w1 ⟨rfl, hbw1⟩; have hqw1 : Below w.heap.size w w1 := (by repeat (first | (with_reducible exact Below.refl _ _) | (with_reducible assumption) | (with_reducible refine Below.setCell ?_ (by first | (simp; done) | (simp; omega) | omega) _) | (with_reducible refine Below.alloc ?_ (by first | (simp; done) | (simp; omega) | omega) _) | (refine bl_call ?_ (by assumption) (by first | (simp; done) | (simp; omega) | omega)) | (with_reducible refine bl_drewN ?_) | (with_reducible refine Below.drew ?_) | (with_reducible refine bl_grow ?_ (by first | (simp; done) | (simp; omega) | omega)))); have hzw1 := hqw1.size; clear hbw1) | (at_make; refine wpList_make_own _ rfl _ _ 22 rfl w.heap.size 3 i0 (.int .i64 0) 1 Tryd.underlying22 hi hv0 hv1 _ _ _ p rfl rfl rfl ?b2 ?b3 ?b4 ?_))
  case b2 => rw [hv2]; omega
  case b3 => unfold maxLen; omega
  case b4 => omega
  intro w2 hown0 hgrow
  have hq2 : Below w.heap.size w w2 := (by assumption : Below w.heap.size w _).grown hgrow (by omega) (fun k hk => by cases hk)
  clear hgrow
  go_wp2_with fail
  go_loopw [5, 18] (fun tv ti wl => ∃ i : Nat, i ≤ p ∧ ti = .int .i64 i ∧ wl.ownsRow w.heap.size 3 1 tv i (cellsI (fun i => vI (wtq (xq X) p i)) i) ∧ Below w.heap.size w wl) (fun _ ti _ => p - (intOf ti).toNat)
  case atStart => exact ⟨0, by omega, rfl, hown0, by repeat (first | (with_reducible exact Below.refl _ _) | (with_reducible assumption) | (with_reducible refine Below.setCell ?_ (by first | (simp; done) | (simp; omega) | omega) _) | (with_reducible refine Below.alloc ?_ (by first | (simp; done) | (simp; omega) | omega) _) | (refine bl_call ?_ (by assumption) (by first | (simp; done) | (simp; omega) | omega)) | (with_reducible refine bl_drewN ?_) | (with_reducible refine Below.drew ?_) | (with_reducible refine bl_grow ?_ (by first | (simp; done) | (simp; omega) | omega)))⟩
  case round =>
    clear hown0
    obtain ⟨i, hin, rfl, hown, hqV⟩ := hrel
    rename World => wV
    have hzV := hqV.size
    by_cases hlt : i < p
    · have hlt' : (i : Int) < p := by omega
      have hbV := Nat.lt_of_lt_of_le hb hzV
      have c0 := row_int HR.out hqV hlt
      have HWi : Hid (Calls Tryd.prog 34 #[.slice (some ⟨b, o, none⟩) p d, .int .i64 (X i)] wV fun e w' => e = .returned (.int .i64 (vI (wtq (xq X) p i))) ∧ Below wV.heap.size wV w') := HW.out wV i hqV hlt
      go_wp2_with (first | (go_at_call 34; refine HWi.out.mono ?_; rintro e w5 ⟨rfl, hb5⟩; have hq5 : Below w.heap.size w w5 := (by repeat (first | (with_reducible exact Below.refl _ _) | (with_reducible assumption) | (with_reducible refine Below.setCell ?_ (by first | (simp; done) | (simp; omega) | omega) _) | (with_reducible refine Below.alloc ?_ (by first | (simp; done) | (simp; omega) | omega) _) | (refine bl_call ?_ (by assumption) (by first | (simp; done) | (simp; omega) | omega)) | (with_reducible refine bl_drewN ?_) | (with_reducible refine Below.drew ?_) | (with_reducible refine bl_grow ?_ (by first | (simp; done) | (simp; omega) | omega)))); have hz5 := hq5.size; have hown5 := own_stay hown hb5) | (at_builtin; refine wpList_append_own_at _ rfl _ _ 22 rfl w.heap.size 3 i0 (.int .i64 0) 1 8 Tryd.underlying22 hi hv0 hv1 hv2 rfl (by decide) _ _ _ rfl (own_stay hown5 (by repeat (first | (with_reducible exact Below.refl _ _) | (with_reducible assumption) | (with_reducible refine Below.setCell ?_ (by first | (simp; done) | (simp; omega) | omega) _) | (with_reducible refine Below.alloc ?_ (by first | (simp; done) | (simp; omega) | omega) _) | (refine bl_call ?_ (by assumption) (by first | (simp; done) | (simp; omega) | omega)) | (with_reducible refine bl_drewN ?_) | (with_reducible refine Below.drew ?_) | (with_reducible refine bl_grow ?_ (by first | (simp; done) | (simp; omega) | omega))))) ⟨_, 0, none⟩ 1 1 [.int .i64 (vI (wtq (xq X) p i))] rfl rfl ?c1 ?c2 ?c3 ?c4 ?c5 ?_))
      case c1 => exact int_at _ _ (by simp)
      case c2 => intro u hu; simp at hu; subst hu; rfl
      case c3 => unfold maxLen; omega
      case c4 => omega
      case c5 => simp; omega
      · intro v' w13 hown' hgrow _ hat
        have hq13 : Below w.heap.size w w13 := grown_under (B := w.heap.size) (by repeat (first | (with_reducible exact Below.refl _ _) | (with_reducible assumption) | (with_reducible refine Below.setCell ?_ (by first | (simp; done) | (simp; omega) | omega) _) | (with_reducible refine Below.alloc ?_ (by first | (simp; done) | (simp; omega) | omega) _) | (refine bl_call ?_ (by assumption) (by first | (simp; done) | (simp; omega) | omega)) | (with_reducible refine bl_drewN ?_) | (with_reducible refine Below.drew ?_) | (with_reducible refine bl_grow ?_ (by first | (simp; done) | (simp; omega) | omega)))) (own_stay (by assumption) (by repeat (first | (with_reducible exact Below.refl _ _) | (with_reducible assumption) | (with_reducible refine Below.setCell ?_ (by first | (simp; done) | (simp; omega) | omega) _) | (with_reducible refine Below.alloc ?_ (by first | (simp; done) | (simp; omega) | omega) _) | (refine bl_call ?_ (by assumption) (by first | (simp; done) | (simp; omega) | omega)) | (with_reducible refine bl_drewN ?_) | (with_reducible refine Below.drew ?_) | (with_reducible refine bl_grow ?_ (by first | (simp; done) | (simp; omega) | omega))))) hgrow (by simp; omega) (Nat.le_refl _)
        rw [← cellsI_succ (fun i => vI (wtq (xq X) p i))] at hown'
        clear hgrow hat hown
        go_wp2_with fail
        go_roundw
        case rel => exact ⟨i + 1, by omega, by simp, hown', hq13⟩
        case measure => simp [intOf]; omega
    · have hlt' : ¬ (i : Int) < p := by omega
      obtain rfl : i = p := by omega
      go_wp2_with fail
      go_ret2
      exact ⟨_, rfl, hown, by repeat (first | (with_reducible exact Below.refl _ _) | (with_reducible assumption) | (with_reducible refine Below.setCell ?_ (by first | (simp; done) | (simp; omega) | omega) _) | (with_reducible refine Below.alloc ?_ (by first | (simp; done) | (simp; omega) | omega) _) | (refine bl_call ?_ (by assumption) (by first | (simp; done) | (simp; omega) | omega)) | (with_reducible refine bl_drewN ?_) | (with_reducible refine Below.drew ?_) | (with_reducible refine bl_grow ?_ (by first | (simp; done) | (simp; omega) | omega)))⟩
theorem weights_is : WeightsIs :=
  ⟨fun sx p d w h1 h2 => wts_err sx p d 4 w h2 (cpl_many sx p d w h1 h2), fun sx d w => wts_err sx 0 d 5 w (by omega) (cpl_nil sx d w),
   fun b o p d X w h0 h12 hd hr _ hne => wts_err _ p d _ w (by omega) (cpl_row b o p d X _ w h12 h0 hd hr (Or.inr ⟨hne, rfl⟩)),
   fun b o p d X w h0 h12 hd hr hpl => wts_ok b o p d X w h0 h12 hd hr hpl⟩
set_option maxRecDepth 100000 in
set_option maxHeartbeats 4000000 in
theorem split_many (sc : Option Addr) (m d : Nat) (z : Int) (w : World) (h : 12 < m) (hm : m ≤ 9223372036854775807) : Calls Tryd.prog 7 #[.slice sc m d, .int .i64 z] w fun e w' => e = .returned (.tuple #[.slice none 0 0, errOf 4]) ∧ Below w.heap.size w w' := by
  have h' : (m : Int) > 12 := by omega
  go_enter Tryd.func7, Tryd.ntmps7
  go_wp2_with fail
  exact bodyPost_ret (v := .tuple #[.slice none 0 0, errOf 4]) (by simp [results, Tryd.results7, go_sem, *]) rfl ⟨rfl, by repeat (first | (with_reducible exact Below.refl _ _) | (with_reducible assumption) | (with_reducible refine Below.setCell ?_ (by first | (simp; done) | (simp; omega) | omega) _) | (with_reducible refine Below.alloc ?_ (by first | (simp; done) | (simp; omega) | omega) _) | (refine bl_call ?_ (by assumption) (by first | (simp; done) | (simp; omega) | omega)) | (with_reducible refine bl_drewN ?_) | (with_reducible refine Below.drew ?_) | (with_reducible refine bl_grow ?_ (by first | (simp; done) | (simp; omega) | omega)))⟩
set_option maxRecDepth 100000 in
set_option maxHeartbeats 4000000 in
theorem split_nil (sc : Option Addr) (d : Nat) (z : Int) (w : World) : Calls Tryd.prog 7 #[.slice sc 0 d, .int .i64 z] w fun e w' => e = .returned (.tuple #[.slice none 0 0, errOf 1]) ∧ Below w.heap.size w w' := by
  go_enter Tryd.func7, Tryd.ntmps7
  go_wp2_with fail
  exact bodyPost_ret (v := .tuple #[.slice none 0 0, errOf 1]) (by simp [results, Tryd.results7, go_sem, *]) rfl ⟨rfl, by repeat (first | (with_reducible exact Below.refl _ _) | (with_reducible assumption) | (with_reducible refine Below.setCell ?_ (by first | (simp; done) | (simp; omega) | omega) _) | (with_reducible refine Below.alloc ?_ (by first | (simp; done) | (simp; omega) | omega) _) | (refine bl_call ?_ (by assumption) (by first | (simp; done) | (simp; omega) | omega)) | (with_reducible refine bl_drewN ?_) | (with_reducible refine Below.drew ?_) | (with_reducible refine bl_grow ?_ (by first | (simp; done) | (simp; omega) | omega)))⟩
set_option maxRecDepth 100000 in
set_option maxHeartbeats 4000000 in
theorem split_bad (sc : Option Addr) (m d : Nat) (z : Int) (t : Bool) (w : World) (h0 : 0 < m) (h : ¬ 12 < m) (hc : Calls Tryd.prog 27 #[.slice sc m d, .func (.func 25) #[] #[]] w fun e w' => e = .returned (.bool t) ∧ Below w.heap.size w w') (ht : t = true ∨ z < 1 ∨ 12 < z) : Calls Tryd.prog 7 #[.slice sc m d, .int .i64 z] w fun e w' => e = .returned (.tuple #[.slice none 0 0, errOf 1]) ∧ Below w.heap.size w w' := by
  have HC : Hid (Calls Tryd.prog 27 #[.slice sc m d, .func (.func 25) #[] #[]] w fun e w' => e = .returned (.bool t) ∧ Below w.heap.size w w') := hc
  have h' : ¬ (m : Int) > 12 := by omega
  have h2 : ((m : Int) == 0) = false := by rw [beq_eq_false_iff_ne]; omega
  clear hc
  cases t with
  | true =>
    clear ht
    go_enter Tryd.func7, Tryd.ntmps7
    go_wp2_with (go_at_call 27; refine (HC.out).mono ?_; rintro e w1 ⟨rfl, hbw1⟩; have hqw1 : Below w.heap.size w w1 := (by repeat (first | (with_reducible exact Below.refl _ _) | (with_reducible assumption) | (with_reducible refine Below.setCell ?_ (by first | (simp; done) | (simp; omega) | omega) _) | (with_reducible refine Below.alloc ?_ (by first | (simp; done) | (simp; omega) | omega) _) | (refine bl_call ?_ (by assumption) (by first | (simp; done) | (simp; omega) | omega)) | (with_reducible refine bl_drewN ?_) | (with_reducible refine Below.drew ?_) | (with_reducible refine bl_grow ?_ (by first | (simp; done) | (simp; omega) | omega)))); have hzw1 := hqw1.size; clear hbw1)
    exact bodyPost_ret (v := .tuple #[.slice none 0 0, errOf 1]) (by simp [results, Tryd.results7, go_sem, *]) rfl ⟨rfl, by repeat (first | (with_reducible exact Below.refl _ _) | (with_reducible assumption) | (with_reducible refine Below.setCell ?_ (by first | (simp; done) | (simp; omega) | omega) _) | (with_reducible refine Below.alloc ?_ (by first | (simp; done) | (simp; omega) | omega) _) | (refine bl_call ?_ (by assumption) (by first | (simp; done) | (simp; omega) | omega)) | (with_reducible refine bl_drewN ?_) | (with_reducible refine Below.drew ?_) | (with_reducible refine bl_grow ?_ (by first | (simp; done) | (simp; omega) | omega)))⟩
  | false =>
    by_cases z1 : z < 1
    · clear ht
      go_enter Tryd.func7, Tryd.ntmps7
      go_wp2_with (go_at_call 27; refine (HC.out).mono ?_; rintro e w1 ⟨rfl, hbw1⟩; have hqw1 : Below w.heap.size w w1 := (by repeat (first | (with_reducible exact Below.refl _ _) | (with_reducible assumption) | (with_reducible refine Below.setCell ?_ (by first | (simp; done) | (simp; omega) | omega) _) | (with_reducible refine Below.alloc ?_ (by first | (simp; done) | (simp; omega) | omega) _) | (refine bl_call ?_ (by assumption) (by first | (simp; done) | (simp; omega) | omega)) | (with_reducible refine bl_drewN ?_) | (with_reducible refine Below.drew ?_) | (with_reducible refine bl_grow ?_ (by first | (simp; done) | (simp; omega) | omega)))); have hzw1 := hqw1.size; clear hbw1)
      exact bodyPost_ret (v := .tuple #[.slice none 0 0, errOf 1]) (by simp [results, Tryd.results7, go_sem, *]) rfl ⟨rfl, by repeat (first | (with_reducible exact Below.refl _ _) | (with_reducible assumption) | (with_reducible refine Below.setCell ?_ (by first | (simp; done) | (simp; omega) | omega) _) | (with_reducible refine Below.alloc ?_ (by first | (simp; done) | (simp; omega) | omega) _) | (refine bl_call ?_ (by assumption) (by first | (simp; done) | (simp; omega) | omega)) | (with_reducible refine bl_drewN ?_) | (with_reducible refine Below.drew ?_) | (with_reducible refine bl_grow ?_ (by first | (simp; done) | (simp; omega) | omega)))⟩
    · have z2 : z > 12 := by
        rcases ht with ht | ht | ht
        · cases ht
        · omega
        · omega
      clear ht
      go_enter Tryd.func7, Tryd.ntmps7
      go_wp2_with (go_at_call 27; refine (HC.out).mono ?_; rintro e w1 ⟨rfl, hbw1⟩; have hqw1 : Below w.heap.size w w1 := (by repeat (first | (with_reducible exact Below.refl _ _) | (with_reducible assumption) | (with_reducible refine Below.setCell ?_ (by first | (simp; done) | (simp; omega) | omega) _) | (with_reducible refine Below.alloc ?_ (by first | (simp; done) | (simp; omega) | omega) _) | (refine bl_call ?_ (by assumption) (by first | (simp; done) | (simp; omega) | omega)) | (with_reducible refine bl_drewN ?_) | (with_reducible refine Below.drew ?_) | (with_reducible refine bl_grow ?_ (by first | (simp; done) | (simp; omega) | omega)))); have hzw1 := hqw1.size; clear hbw1)
      exact bodyPost_ret (v := .tuple #[.slice none 0 0, errOf 1]) (by simp [results, Tryd.results7, go_sem, *]) rfl ⟨rfl, by repeat (first | (with_reducible exact Below.refl _ _) | (with_reducible assumption) | (with_reducible refine Below.setCell ?_ (by first | (simp; done) | (simp; omega) | omega) _) | (with_reducible refine Below.alloc ?_ (by first | (simp; done) | (simp; omega) | omega) _) | (refine bl_call ?_ (by assumption) (by first | (simp; done) | (simp; omega) | omega)) | (with_reducible refine bl_drewN ?_) | (with_reducible refine Below.drew ?_) | (with_reducible refine bl_grow ?_ (by first | (simp; done) | (simp; omega) | omega)))⟩
set_option maxRecDepth 100000 in
set_option maxHeartbeats 4000000 in
theorem split_ok (b o m d : Nat) (C : Nat → Int) (n : Nat) (w : World) (h0 : 1 ≤ m) (h12 : m ≤ 12) (hr : RowI w b o m C) (hok : ∀ i, i < m → resB (C i) = true) (n1 : 1 ≤ n) (n2 : n ≤ 12) :
    Calls Tryd.prog 7 #[.slice (some ⟨b, o, none⟩) m d, .int .i64 (n : Int)] w fun ex w' => ∃ u, ex = .returned (.tuple #[u, .nilIface]) ∧ w'.ownsRow w.heap.size 27 2 u n (cellsP (fun i : Nat => (i : Int) + 1) (fun i => vI (vlq (xq C) (zq ((i : Int) + 1)) m)) n) ∧ Below w.heap.size w w' := by
  have HC : Hid (Calls Tryd.prog 27 #[.slice (some ⟨b, o, none⟩) m d, .func (.func 25) #[] #[]] w fun e w' => e = .returned (.bool false) ∧ Below w.heap.size w w') := idxI_no b o m d C w h12 hr hok
  have hr' : RowI w b o m (fun i => vI (xq C i)) := ⟨hr.1, fun i hi => by
    have e : vI (xq C i) = C i := by
      have := res_bd (hok i hi)
      show vI (zq (C i)) = C i
      rw [vI_zq]; omega
    show _ = some (Value.int .i64 (vI (xq C i)))
    rw [e]; exact hr.2 i hi⟩
  have HV : Hid (∀ W k, Below w.heap.size w W → k < n → Calls Tryd.prog 28 #[.slice (some ⟨b, o, none⟩) m d, .int .i64 ((k : Int) + 1)] W fun e w' => e = .returned (.int .i64 (vI (vlq (xq C) (zq ((k : Int) + 1)) m))) ∧ Below W.heap.size W w') :=
    fun W k hW hk => value_at b o m d (xq C) ((k : Int) + 1) h12 (by omega) (by omega) W (hr'.below hr'.1 hW)
  have hb := hr.1
  have h' : ¬ (m : Int) > 12 := by omega
  have h2 : ((m : Int) == 0) = false := by rw [beq_eq_false_iff_ne]; omega
  have z1 : ¬ (n : Int) < 1 := by omega
  have z2 : ¬ (n : Int) > 12 := by omega
  clear hr hr' hok
  obtain ⟨i0, hi, hv0, hv1, hv2⟩ := info_parts hinfoS
  go_enter Tryd.func7, Tryd.ntmps7
  go_wp2_with (first | (go_at_call 27; refine (HC.out).mono ?_; rintro e w1 ⟨rfl, hbw1⟩; have hqw1 : Below w.heap.size w w1 := (by repeat (first | (with_reducible exact Below.refl _ _) | (with_reducible assumption) | (with_reducible refine Below.setCell ?_ (by first | (simp; done) | (simp; omega) | omega) _) | (with_reducible refine Below.alloc ?_ (by first | (simp; done) | (simp; omega) | omega) _) | (refine bl_call ?_ (by assumption) (by first | (simp; done) | (simp; omega) | omega)) | (with_reducible refine bl_drewN ?_) | (with_reducible refine Below.drew ?_) | (with_reducible refine bl_grow ?_ (by first | (simp; done) | (simp; omega) | omega)))); have hzw1 := hqw1.size; clear hbw1) | (at_make; refine wpList_make_own _ rfl _ _ 23 rfl w.heap.size 27 i0 (.agg #[.int .i64 0, .int .i64 0]) 2 Tryd.underlying23 hi hv0 hv1 _ _ _ n rfl rfl rfl ?b2 ?b3 ?b4 ?_))
  case b2 => rw [hv2]; omega
  case b3 => unfold maxLen; omega
  case b4 => omega
  intro w2 hown0 hgrow
  have hq2 : Below w.heap.size w w2 := (by assumption : Below w.heap.size w _).grown hgrow (by omega) (fun k hk => by cases hk)
  clear hgrow
  go_wp2_with fail
  go_loopw [7, 8] (fun tv ti wl => ∃ i : Nat, i ≤ n ∧ ti = .int .i64 ((i : Int) + 1) ∧ wl.ownsRow w.heap.size 27 2 tv i (cellsP (fun i : Nat => (i : Int) + 1) (fun i => vI (vlq (xq C) (zq ((i : Int) + 1)) m)) i) ∧ Below w.heap.size w wl) (fun _ ti _ => n + 1 - (intOf ti).toNat)
  case atStart => exact ⟨0, by omega, rfl, hown0, by repeat (first | (with_reducible exact Below.refl _ _) | (with_reducible assumption) | (with_reducible refine Below.setCell ?_ (by first | (simp; done) | (simp; omega) | omega) _) | (with_reducible refine Below.alloc ?_ (by first | (simp; done) | (simp; omega) | omega) _) | (refine bl_call ?_ (by assumption) (by first | (simp; done) | (simp; omega) | omega)) | (with_reducible refine bl_drewN ?_) | (with_reducible refine Below.drew ?_) | (with_reducible refine bl_grow ?_ (by first | (simp; done) | (simp; omega) | omega)))⟩
  case round =>
    clear hown0
    obtain ⟨i, hin, rfl, hown, hqV⟩ := hrel
    rename World => wV
    have hzV := hqV.size
    by_cases hlt : i < n
    · have hlt' : (i : Int) + 1 ≤ n := by omega
      have HVi : Hid (Calls Tryd.prog 28 #[.slice (some ⟨b, o, none⟩) m d, .int .i64 ((i : Int) + 1)] wV fun e w' => e = .returned (.int .i64 (vI (vlq (xq C) (zq ((i : Int) + 1)) m))) ∧ Below wV.heap.size wV w') := HV.out wV i hqV hlt
      go_wp2_with (first | (go_at_call 28; refine HVi.out.mono ?_; rintro e w5 ⟨rfl, hb5⟩; have hq5 : Below w.heap.size w w5 := (by repeat (first | (with_reducible exact Below.refl _ _) | (with_reducible assumption) | (with_reducible refine Below.setCell ?_ (by first | (simp; done) | (simp; omega) | omega) _) | (with_reducible refine Below.alloc ?_ (by first | (simp; done) | (simp; omega) | omega) _) | (refine bl_call ?_ (by assumption) (by first | (simp; done) | (simp; omega) | omega)) | (with_reducible refine bl_drewN ?_) | (with_reducible refine Below.drew ?_) | (with_reducible refine bl_grow ?_ (by first | (simp; done) | (simp; omega) | omega)))); have hz5 := hq5.size; have hown5 := own_stay hown hb5) | (at_builtin; refine wpList_append_own_at _ rfl _ _ 23 rfl w.heap.size 27 i0 (.agg #[.int .i64 0, .int .i64 0]) 2 16 Tryd.underlying23 hi hv0 hv1 hv2 rfl (by decide) _ _ _ rfl (own_stay hown5 (by repeat (first | (with_reducible exact Below.refl _ _) | (with_reducible assumption) | (with_reducible refine Below.setCell ?_ (by first | (simp; done) | (simp; omega) | omega) _) | (with_reducible refine Below.alloc ?_ (by first | (simp; done) | (simp; omega) | omega) _) | (refine bl_call ?_ (by assumption) (by first | (simp; done) | (simp; omega) | omega)) | (with_reducible refine bl_drewN ?_) | (with_reducible refine Below.drew ?_) | (with_reducible refine bl_grow ?_ (by first | (simp; done) | (simp; omega) | omega))))) ⟨_, 0, none⟩ 1 1 [.int .i64 ((i : Int) + 1), .int .i64 (vI (vlq (xq C) (zq ((i : Int) + 1)) m))] rfl rfl ?c1 ?c2 ?c3 ?c4 ?c5 ?_))
      case c1 => exact two_at _ _ _ (by simp)
      case c2 => intro u hu; simp at hu; rcases hu with rfl | rfl <;> rfl
      case c3 => unfold maxLen; omega
      case c4 => omega
      case c5 => simp; omega
      · intro v' w13 hown' hgrow _ hat
        have hq13 : Below w.heap.size w w13 := grown_under (B := w.heap.size) (by repeat (first | (with_reducible exact Below.refl _ _) | (with_reducible assumption) | (with_reducible refine Below.setCell ?_ (by first | (simp; done) | (simp; omega) | omega) _) | (with_reducible refine Below.alloc ?_ (by first | (simp; done) | (simp; omega) | omega) _) | (refine bl_call ?_ (by assumption) (by first | (simp; done) | (simp; omega) | omega)) | (with_reducible refine bl_drewN ?_) | (with_reducible refine Below.drew ?_) | (with_reducible refine bl_grow ?_ (by first | (simp; done) | (simp; omega) | omega)))) (own_stay (by assumption) (by repeat (first | (with_reducible exact Below.refl _ _) | (with_reducible assumption) | (with_reducible refine Below.setCell ?_ (by first | (simp; done) | (simp; omega) | omega) _) | (with_reducible refine Below.alloc ?_ (by first | (simp; done) | (simp; omega) | omega) _) | (refine bl_call ?_ (by assumption) (by first | (simp; done) | (simp; omega) | omega)) | (with_reducible refine bl_drewN ?_) | (with_reducible refine Below.drew ?_) | (with_reducible refine bl_grow ?_ (by first | (simp; done) | (simp; omega) | omega))))) hgrow (by simp; omega) (Nat.le_refl _)
        rw [← cellsP_succ (fun i : Nat => (i : Int) + 1) (fun i => vI (vlq (xq C) (zq ((i : Int) + 1)) m))] at hown'
        clear hgrow hat hown
        go_wp2_with fail
        go_roundw
        case rel => exact ⟨i + 1, by omega, by simp, hown', hq13⟩
        case measure => simp [intOf]; omega
    · have hlt' : ¬ (i : Int) + 1 ≤ n := by omega
      obtain rfl : i = n := by omega
      go_wp2_with fail
      go_ret2
      exact ⟨_, rfl, hown, by repeat (first | (with_reducible exact Below.refl _ _) | (with_reducible assumption) | (with_reducible refine Below.setCell ?_ (by first | (simp; done) | (simp; omega) | omega) _) | (with_reducible refine Below.alloc ?_ (by first | (simp; done) | (simp; omega) | omega) _) | (refine bl_call ?_ (by assumption) (by first | (simp; done) | (simp; omega) | omega)) | (with_reducible refine bl_drewN ?_) | (with_reducible refine Below.drew ?_) | (with_reducible refine bl_grow ?_ (by first | (simp; done) | (simp; omega) | omega)))⟩
theorem split_is : SplitIs :=
  ⟨fun sc m d z w h hm => split_many sc m d z w h hm,
   fun sc m d C z w h hr hC hz hbad => by
     by_cases m0 : m = 0
     · subst m0; exact split_nil sc d z w
     · obtain ⟨b, o, rfl, r⟩ := hr.resolve_left m0
       by_cases hno : ∃ j, j < m ∧ resB (C j) = false
       · exact split_bad _ m d z true w (by omega) h (idxI_yes b o m d C w (by omega) r hno) (Or.inl rfl)
       · have hok : ∀ i, i < m → resB (C i) = true := fun i hi => by
           cases hq : resB (C i) with
           | true => rfl
           | false => exact absurd ⟨i, hi, hq⟩ hno
         exact split_bad _ m d z false w (by omega) h (idxI_no b o m d C w (by omega) r hok) (by
           rcases hbad with k | k | k | k
           · exact absurd k m0
           · exact Or.inr (Or.inl k)
           · exact Or.inr (Or.inr k)
           · exact absurd k hno),
   fun b o m d C n w h0 h12 hr hok n1 n2 => split_ok b o m d C n w h0 h12 hr hok n1 n2⟩
set_option maxRecDepth 100000 in
set_option maxHeartbeats 4000000 in
theorem comb_many (sl : Option Addr) (p d : Nat) (w : World) (h : 12 < p) (hp : p ≤ 9223372036854775807) : Calls Tryd.prog 14 #[.slice sl p d] w fun e w' => e = .returned (.tuple #[.int .i64 0, errOf 4]) ∧ Below w.heap.size w w' := by
  have h' : (p : Int) > 12 := by omega
  go_enter Tryd.func14, Tryd.ntmps14
  go_wp2_with fail
  exact bodyPost_ret (v := .tuple #[.int .i64 0, errOf 4]) (by simp [results, Tryd.results14, go_sem, *]) rfl ⟨rfl, by repeat (first | (with_reducible exact Below.refl _ _) | (with_reducible assumption) | (with_reducible refine Below.setCell ?_ (by first | (simp; done) | (simp; omega) | omega) _) | (with_reducible refine Below.alloc ?_ (by first | (simp; done) | (simp; omega) | omega) _) | (refine bl_call ?_ (by assumption) (by first | (simp; done) | (simp; omega) | omega)) | (with_reducible refine bl_drewN ?_) | (with_reducible refine Below.drew ?_) | (with_reducible refine bl_grow ?_ (by first | (simp; done) | (simp; omega) | omega)))⟩
set_option maxRecDepth 100000 in
set_option maxHeartbeats 4000000 in
theorem comb_err (sl : Option Addr) (p d : Nat) (X : Nat → Int) (c : Int) (w : World) (h : p ≤ 12) (hp : Calls Tryd.prog 35 #[.slice sl p d] w fun e w' => ∃ v, e = .returned v ∧ w'.ownsRow w.heap.size 3 1 v p (cellsI X p) ∧ Below w.heap.size w w') (hw : ∀ W v, Below w.heap.size w W → W.ownsRow w.heap.size 3 1 v p (cellsI X p) → Calls Tryd.prog 12 #[v] W fun e w' => e = .returned (.tuple #[.slice none 0 0, errOf c]) ∧ Below W.heap.size W w') : Calls Tryd.prog 14 #[.slice sl p d] w fun e w' => e = .returned (.tuple #[.int .i64 0, errOf c]) ∧ Below w.heap.size w w' := by
  have HP : Hid (Calls Tryd.prog 35 #[.slice sl p d] w fun e w' => ∃ v, e = .returned v ∧ w'.ownsRow w.heap.size 3 1 v p (cellsI X p) ∧ Below w.heap.size w w') := hp
  have HW : Hid (∀ W v, Below w.heap.size w W → W.ownsRow w.heap.size 3 1 v p (cellsI X p) → Calls Tryd.prog 12 #[v] W fun e w' => e = .returned (.tuple #[.slice none 0 0, errOf c]) ∧ Below W.heap.size W w') := hw
  have h' : ¬ (p : Int) > 12 := by omega
  clear hp hw
  go_enter Tryd.func14, Tryd.ntmps14
  go_wp2_with (first | (go_at_call 35; refine HP.out.mono ?_; rintro e w1 ⟨v1, rfl, ho1, hb1⟩; have hq1 : Below w.heap.size w w1 := (by repeat (first | (with_reducible exact Below.refl _ _) | (with_reducible assumption) | (with_reducible refine Below.setCell ?_ (by first | (simp; done) | (simp; omega) | omega) _) | (with_reducible refine Below.alloc ?_ (by first | (simp; done) | (simp; omega) | omega) _) | (refine bl_call ?_ (by assumption) (by first | (simp; done) | (simp; omega) | omega)) | (with_reducible refine bl_drewN ?_) | (with_reducible refine Below.drew ?_) | (with_reducible refine bl_grow ?_ (by first | (simp; done) | (simp; omega) | omega)))); have hz1 := hq1.size; have H2 := HW.out w1 v1 hq1 ho1; clear hb1 ho1) | (go_at_call 12; refine H2.mono ?_; rintro e w2 ⟨rfl, hb2⟩; have hq2 : Below w.heap.size w w2 := (by repeat (first | (with_reducible exact Below.refl _ _) | (with_reducible assumption) | (with_reducible refine Below.setCell ?_ (by first | (simp; done) | (simp; omega) | omega) _) | (with_reducible refine Below.alloc ?_ (by first | (simp; done) | (simp; omega) | omega) _) | (refine bl_call ?_ (by assumption) (by first | (simp; done) | (simp; omega) | omega)) | (with_reducible refine bl_drewN ?_) | (with_reducible refine Below.drew ?_) | (with_reducible refine bl_grow ?_ (by first | (simp; done) | (simp; omega) | omega)))); have hz2 := hq2.size; clear hb2))
  exact bodyPost_ret (v := .tuple #[.int .i64 0, errOf c]) (by simp [results, Tryd.results14, go_sem, *]) rfl ⟨rfl, by repeat (first | (with_reducible exact Below.refl _ _) | (with_reducible assumption) | (with_reducible refine Below.setCell ?_ (by first | (simp; done) | (simp; omega) | omega) _) | (with_reducible refine Below.alloc ?_ (by first | (simp; done) | (simp; omega) | omega) _) | (refine bl_call ?_ (by assumption) (by first | (simp; done) | (simp; omega) | omega)) | (with_reducible refine bl_drewN ?_) | (with_reducible refine Below.drew ?_) | (with_reducible refine bl_grow ?_ (by first | (simp; done) | (simp; omega) | omega)))⟩
set_option maxRecDepth 100000 in
set_option maxHeartbeats 4000000 in
theorem comb_y (b o p d : Nat) (X Y : Nat → Int) (w : World) (h : p ≤ 12) (hp : Calls Tryd.prog 35 #[.slice (some ⟨b, o, none⟩) p d] w fun e w' => ∃ v, e = .returned v ∧ w'.ownsRow w.heap.size 3 1 v p (cellsI X p) ∧ Below w.heap.size w w') (hw : ∀ W v, Below w.heap.size w W → W.ownsRow w.heap.size 3 1 v p (cellsI X p) → Calls Tryd.prog 12 #[v] W fun e w' => ∃ u, e = .returned (.tuple #[u, .nilIface]) ∧ w'.ownsRow W.heap.size 3 1 u p (cellsI (fun i => vI (wtq (xq X) p i)) p) ∧ Below W.heap.size W w') (hr : RowP w b o p X Y) (hno : ∃ j, j < p ∧ resB (Y j) = false) : Calls Tryd.prog 14 #[.slice (some ⟨b, o, none⟩) p d] w fun e w' => e = .returned (.tuple #[.int .i64 0, errOf 1]) ∧ Below w.heap.size w w' := by
  have HP : Hid (Calls Tryd.prog 35 #[.slice (some ⟨b, o, none⟩) p d] w fun e w' => ∃ v, e = .returned v ∧ w'.ownsRow w.heap.size 3 1 v p (cellsI X p) ∧ Below w.heap.size w w') := hp
  have HW : Hid (∀ W v, Below w.heap.size w W → W.ownsRow w.heap.size 3 1 v p (cellsI X p) → Calls Tryd.prog 12 #[v] W fun e w' => ∃ u, e = .returned (.tuple #[u, .nilIface]) ∧ w'.ownsRow W.heap.size 3 1 u p (cellsI (fun i => vI (wtq (xq X) p i)) p) ∧ Below W.heap.size W w') := hw
  have HC : Hid (∀ W, Below w.heap.size w W → Calls Tryd.prog 36 #[.slice (some ⟨b, o, none⟩) p d, .func (.func 37) #[] #[]] W fun e w' => e = .returned (.bool true) ∧ Below W.heap.size W w') := fun W hW => idxP_yes b o p d X Y W h (hr.below hr.1 hW) hno
  have h' : ¬ (p : Int) > 12 := by omega
  clear hp hw hr hno
  go_enter Tryd.func14, Tryd.ntmps14
  go_wp2_with (first | (go_at_call 35; refine HP.out.mono ?_; rintro e w1 ⟨v1, rfl, ho1, hb1⟩; have hq1 : Below w.heap.size w w1 := (by repeat (first | (with_reducible exact Below.refl _ _) | (with_reducible assumption) | (with_reducible refine Below.setCell ?_ (by first | (simp; done) | (simp; omega) | omega) _) | (with_reducible refine Below.alloc ?_ (by first | (simp; done) | (simp; omega) | omega) _) | (refine bl_call ?_ (by assumption) (by first | (simp; done) | (simp; omega) | omega)) | (with_reducible refine bl_drewN ?_) | (with_reducible refine Below.drew ?_) | (with_reducible refine bl_grow ?_ (by first | (simp; done) | (simp; omega) | omega)))); have hz1 := hq1.size; have H2 := HW.out w1 v1 hq1 ho1; clear hb1 ho1) | (go_at_call 12; refine H2.mono ?_; rintro e w2 ⟨u2, rfl, ho2, hb2⟩; have hq2 : Below w.heap.size w w2 := (by repeat (first | (with_reducible exact Below.refl _ _) | (with_reducible assumption) | (with_reducible refine Below.setCell ?_ (by first | (simp; done) | (simp; omega) | omega) _) | (with_reducible refine Below.alloc ?_ (by first | (simp; done) | (simp; omega) | omega) _) | (refine bl_call ?_ (by assumption) (by first | (simp; done) | (simp; omega) | omega)) | (with_reducible refine bl_drewN ?_) | (with_reducible refine Below.drew ?_) | (with_reducible refine bl_grow ?_ (by first | (simp; done) | (simp; omega) | omega)))); have hz2 := hq2.size; clear hb2) | (go_at_call 36; refine (HC.out _ (by repeat (first | (with_reducible exact Below.refl _ _) | (with_reducible assumption) | (with_reducible refine Below.setCell ?_ (by first | (simp; done) | (simp; omega) | omega) _) | (with_reducible refine Below.alloc ?_ (by first | (simp; done) | (simp; omega) | omega) _) | (refine bl_call ?_ (by assumption) (by first | (simp; done) | (simp; omega) | omega)) | (with_reducible refine bl_drewN ?_) | (with_reducible refine Below.drew ?_) | (with_reducible refine bl_grow ?_ (by first | (simp; done) | (simp; omega) | omega))))).mono ?_; rintro e w3 ⟨rfl, hb3⟩; have hq3 : Below w.heap.size w w3 := (by repeat (first | (with_reducible exact Below.refl _ _) | (with_reducible assumption) | (with_reducible refine Below.setCell ?_ (by first | (simp; done) | (simp; omega) | omega) _) | (with_reducible refine Below.alloc ?_ (by first | (simp; done) | (simp; omega) | omega) _) | (refine bl_call ?_ (by assumption) (by first | (simp; done) | (simp; omega) | omega)) | (with_reducible refine bl_drewN ?_) | (with_reducible refine Below.drew ?_) | (with_reducible refine bl_grow ?_ (by first | (simp; done) | (simp; omega) | omega)))); have hz3 := hq3.size; have ho3 := own_stay ho2 hb3; clear ho2))
  exact bodyPost_ret (v := .tuple #[.int .i64 0, errOf 1]) (by simp [results, Tryd.results14, go_sem, *]) rfl ⟨rfl, by repeat (first | (with_reducible exact Below.refl _ _) | (with_reducible assumption) | (with_reducible refine Below.setCell ?_ (by first | (simp; done) | (simp; omega) | omega) _) | (with_reducible refine Below.alloc ?_ (by first | (simp; done) | (simp; omega) | omega) _) | (refine bl_call ?_ (by assumption) (by first | (simp; done) | (simp; omega) | omega)) | (with_reducible refine bl_drewN ?_) | (with_reducible refine Below.drew ?_) | (with_reducible refine bl_grow ?_ (by first | (simp; done) | (simp; omega) | omega)))⟩
set_option maxRecDepth 100000 in
set_option maxHeartbeats 4000000 in
theorem comb_ok (b o p d : Nat) (X Y : Nat → Int) (w : World) (h0 : 0 < p) (h : p ≤ 12) (hp : Calls Tryd.prog 35 #[.slice (some ⟨b, o, none⟩) p d] w fun e w' => ∃ v, e = .returned v ∧ w'.ownsRow w.heap.size 3 1 v p (cellsI X p) ∧ Below w.heap.size w w') (hw : ∀ W v, Below w.heap.size w W → W.ownsRow w.heap.size 3 1 v p (cellsI X p) → Calls Tryd.prog 12 #[v] W fun e w' => ∃ u, e = .returned (.tuple #[u, .nilIface]) ∧ w'.ownsRow W.heap.size 3 1 u p (cellsI (fun i => vI (wtq (xq X) p i)) p) ∧ Below W.heap.size W w') (hr : RowP w b o p X Y) (hok : ∀ j, j < p → resB (Y j) = true) : Calls Tryd.prog 14 #[.slice (some ⟨b, o, none⟩) p d] w fun e w' => e = .returned (.tuple #[.int .i64 (smI X Y p p), .nilIface]) ∧ Below w.heap.size w w' := by
  have HP : Hid (Calls Tryd.prog 35 #[.slice (some ⟨b, o, none⟩) p d] w fun e w' => ∃ v, e = .returned v ∧ w'.ownsRow w.heap.size 3 1 v p (cellsI X p) ∧ Below w.heap.size w w') := hp
  have HW : Hid (∀ W v, Below w.heap.size w W → W.ownsRow w.heap.size 3 1 v p (cellsI X p) → Calls Tryd.prog 12 #[v] W fun e w' => ∃ u, e = .returned (.tuple #[u, .nilIface]) ∧ w'.ownsRow W.heap.size 3 1 u p (cellsI (fun i => vI (wtq (xq X) p i)) p) ∧ Below W.heap.size W w') := hw
  have HC : Hid (∀ W, Below w.heap.size w W → Calls Tryd.prog 36 #[.slice (some ⟨b, o, none⟩) p d, .func (.func 37) #[] #[]] W fun e w' => e = .returned (.bool false) ∧ Below W.heap.size W w') := fun W hW => idxP_no b o p d X Y W h (hr.below hr.1 hW) hok
  have h' : ¬ (p : Int) > 12 := by omega
  have HR : Hid (RowP w b o p X Y) := hr
  have HOK : Hid (∀ j, j < p → resB (Y j) = true) := hok
  have hb := hr.1
  clear hp hw hr hok
  go_enter Tryd.func14, Tryd.ntmps14
  go_wp2_with (first | (go_at_call 35; refine HP.out.mono ?_; rintro e w1 ⟨v1, rfl, ho1, hb1⟩; have hq1 : Below w.heap.size w w1 := (by repeat (first | (with_reducible exact Below.refl _ _) | (with_reducible assumption) | (with_reducible refine Below.setCell ?_ (by first | (simp; done) | (simp; omega) | omega) _) | (with_reducible refine Below.alloc ?_ (by first | (simp; done) | (simp; omega) | omega) _) | (refine bl_call ?_ (by assumption) (by first | (simp; done) | (simp; omega) | omega)) | (with_reducible refine bl_drewN ?_) | (with_reducible refine Below.drew ?_) | (with_reducible refine bl_grow ?_ (by first | (simp; done) | (simp; omega) | omega)))); have hz1 := hq1.size; have H2 := HW.out w1 v1 hq1 ho1; clear hb1 ho1) | (go_at_call 12; refine H2.mono ?_; rintro e w2 ⟨u2, rfl, ho2, hb2⟩; have hq2 : Below w.heap.size w w2 := (by repeat (first | (with_reducible exact Below.refl _ _) | (with_reducible assumption) | (with_reducible refine Below.setCell ?_ (by first | (simp; done) | (simp; omega) | omega) _) | (with_reducible refine Below.alloc ?_ (by first | (simp; done) | (simp; omega) | omega) _) | (refine bl_call ?_ (by assumption) (by first | (simp; done) | (simp; omega) | omega)) | (with_reducible refine bl_drewN ?_) | (with_reducible refine Below.drew ?_) | (with_reducible refine bl_grow ?_ (by first | (simp; done) | (simp; omega) | omega)))); have hz2 := hq2.size; clear hb2) | (go_at_call 36; refine (HC.out _ (by repeat (first | (with_reducible exact Below.refl _ _) | (with_reducible assumption) | (with_reducible refine Below.setCell ?_ (by first | (simp; done) | (simp; omega) | omega) _) | (with_reducible refine Below.alloc ?_ (by first | (simp; done) | (simp; omega) | omega) _) | (refine bl_call ?_ (by assumption) (by first | (simp; done) | (simp; omega) | omega)) | (with_reducible refine bl_drewN ?_) | (with_reducible refine Below.drew ?_) | (with_reducible refine bl_grow ?_ (by first | (simp; done) | (simp; omega) | omega))))).mono ?_; rintro e w3 ⟨rfl, hb3⟩; have hq3 : Below w.heap.size w w3 := (by repeat (first | (with_reducible exact Below.refl _ _) | (with_reducible assumption) | (with_reducible refine Below.setCell ?_ (by first | (simp; done) | (simp; omega) | omega) _) | (with_reducible refine Below.alloc ?_ (by first | (simp; done) | (simp; omega) | omega) _) | (refine bl_call ?_ (by assumption) (by first | (simp; done) | (simp; omega) | omega)) | (with_reducible refine bl_drewN ?_) | (with_reducible refine Below.drew ?_) | (with_reducible refine bl_grow ?_ (by first | (simp; done) | (simp; omega) | omega)))); have hz3 := hq3.size; have ho3 := own_stay ho2 hb3; clear ho2))
  obtain ⟨s4, c4, e4, k4⟩ := own_ints ho3
  obtain ⟨g, e5, _, _, r5⟩ := k4.resolve_left (by omega)
  subst e5
  subst e4
  have HRW : Hid (RowI w3 g 0 p (fun i => vI (wtq (xq X) p i))) := r5
  clear k4 r5 ho3
  clear H2
  go_loopw [6, 27] (fun ts ti wl => ∃ k : Nat, k ≤ p ∧ ti = .int .i64 k ∧ ts = .int .i64 (smI X Y p k) ∧ Below w3.heap.size w3 wl ∧ Below w.heap.size w wl) (fun _ ti _ => p - (intOf ti).toNat)
  case atStart => exact ⟨0, by omega, rfl, rfl, Below.refl _ _, by repeat (first | (with_reducible exact Below.refl _ _) | (with_reducible assumption) | (with_reducible refine Below.setCell ?_ (by first | (simp; done) | (simp; omega) | omega) _) | (with_reducible refine Below.alloc ?_ (by first | (simp; done) | (simp; omega) | omega) _) | (refine bl_call ?_ (by assumption) (by first | (simp; done) | (simp; omega) | omega)) | (with_reducible refine bl_drewN ?_) | (with_reducible refine Below.drew ?_) | (with_reducible refine bl_grow ?_ (by first | (simp; done) | (simp; omega) | omega)))⟩
  case round =>
    obtain ⟨k, hk, rfl, rfl, hqU, hqV⟩ := hrel
    rename World => wV
    have hzU := hqU.size
    have hzV := hqV.size
    by_cases hlt : k < p
    · have hlt' : (k : Int) < p := by omega
      have hbV := Nat.lt_of_lt_of_le hb hzV
      have hgV := Nat.lt_of_lt_of_le HRW.out.1 hzU
      obtain ⟨c0, c1⟩ := (HR.out.below hb hqV).2 k hlt
      have d0 := (hqU.cell (p := ⟨g, 0 + k, none⟩) HRW.out.1).trans (HRW.out.2 k hlt)
      rw [Nat.zero_add] at d0
      obtain ⟨y0, y1⟩ := res_bd (HOK.out k hlt)
      obtain ⟨q, hq⟩ : ∃ q, wtq (xq X) p k = q := ⟨_, rfl⟩
      obtain ⟨s, hs⟩ : ∃ s, smI X Y p k = s := ⟨_, rfl⟩
      have E : Hid ((s + vI q * Y k) % 1013 = smI X Y p (k + 1)) := by
        unfold Hid
        rw [← smI_step, hq, hs]
      have s0 : 0 ≤ s := by rw [← hs]; exact vI_lo _
      have s1 : s < 1013 := by rw [← hs]; exact vI_hi _
      dsimp only at d0
      rw [hq] at d0
      rw [hs]
      clear hq hs
      obtain ⟨q0, q1⟩ := vI_bd q y0 y1
      go_wp2_with fail
      refine wp_gen (fun W => At W (wV.heap.size) [.int .i64 (X k), .int .i64 (Y k)] ∧ Below wV.heap.size wV W) ⟨by repeat (first | (with_reducible assumption) | ((with_reducible refine at_new' _ _ _ _ ?_); (first | rfl | (simp; done))) | (with_reducible refine At.alloc ?_ _) | (with_reducible refine At.drew ?_) | (with_reducible refine At.drewN ?_) | (with_reducible refine At.set ?_ (by omega)) | (with_reducible apply At.store4) | (with_reducible apply At.store3) | (with_reducible apply At.store2) | (with_reducible apply At.put43) | (refine At.below ?_ (by with_reducible assumption))), by repeat (first | (with_reducible exact Below.refl _ _) | (with_reducible assumption) | (with_reducible refine Below.setCell ?_ (by first | (simp; done) | (simp; omega) | omega) _) | (with_reducible refine Below.alloc ?_ (by first | (simp; done) | (simp; omega) | omega) _) | (refine bl_call ?_ (by assumption) (by first | (simp; done) | (simp; omega) | omega)) | (with_reducible refine bl_drewN ?_) | (with_reducible refine Below.drew ?_) | (with_reducible refine bl_grow ?_ (by first | (simp; done) | (simp; omega) | omega)))⟩ ?_
      rintro W5 ⟨ksW5, hqW5⟩
      have hzW5 := hqW5.size
      obtain ⟨zsW5, cs0W5, cs1W5, fs0W5, fs1W5⟩ := ksW5.two
      have d1 := (hqW5.cell (p := ⟨g, k, none⟩) hgV).trans d0
      have hgW := Nat.lt_of_lt_of_le hgV hzW5
      have hqU5 : Below w3.heap.size w3 W5 := bl_call hqU hqW5 hzU
      have hqV5 : Below w.heap.size w W5 := bl_call hqV hqW5 hzV
      clear hqU hqV hqW5 c0 c1 d0
      go_quiet (fail)
      go_wp2_with fail
      go_roundw
      case rel => exact ⟨k + 1, by omega, by simp, by rw [← E.out], (by repeat (first | (with_reducible exact Below.refl _ _) | (with_reducible assumption) | (with_reducible refine Below.setCell ?_ (by first | (simp; done) | (simp; omega) | omega) _) | (with_reducible refine Below.alloc ?_ (by first | (simp; done) | (simp; omega) | omega) _) | (refine bl_call ?_ (by assumption) (by first | (simp; done) | (simp; omega) | omega)) | (with_reducible refine bl_drewN ?_) | (with_reducible refine Below.drew ?_) | (with_reducible refine bl_grow ?_ (by first | (simp; done) | (simp; omega) | omega)))), by repeat (first | (with_reducible exact Below.refl _ _) | (with_reducible assumption) | (with_reducible refine Below.setCell ?_ (by first | (simp; done) | (simp; omega) | omega) _) | (with_reducible refine Below.alloc ?_ (by first | (simp; done) | (simp; omega) | omega) _) | (refine bl_call ?_ (by assumption) (by first | (simp; done) | (simp; omega) | omega)) | (with_reducible refine bl_drewN ?_) | (with_reducible refine Below.drew ?_) | (with_reducible refine bl_grow ?_ (by first | (simp; done) | (simp; omega) | omega)))⟩
      case measure => simp [intOf]; omega
    · have hlt' : ¬ (k : Int) < p := by omega
      obtain rfl : k = p := by omega
      go_wp2_with fail
      exact bodyPost_ret (v := .tuple #[.int .i64 (smI X Y k k), .nilIface]) (by simp [results, Tryd.results14, go_sem, *]) rfl ⟨rfl, by repeat (first | (with_reducible exact Below.refl _ _) | (with_reducible assumption) | (with_reducible refine Below.setCell ?_ (by first | (simp; done) | (simp; omega) | omega) _) | (with_reducible refine Below.alloc ?_ (by first | (simp; done) | (simp; omega) | omega) _) | (refine bl_call ?_ (by assumption) (by first | (simp; done) | (simp; omega) | omega)) | (with_reducible refine bl_drewN ?_) | (with_reducible refine Below.drew ?_) | (with_reducible refine bl_grow ?_ (by first | (simp; done) | (simp; omega) | omega)))⟩
theorem combine_is : CombineIs :=
  ⟨fun sl p d w h1 h2 _ => comb_many sl p d w h1 (by omega),
   fun sl d w => comb_err sl 0 d (fun _ => 0) 5 w (by omega) (places_of sl 0 d (fun _ => 0) (fun _ => 0) w (by omega) (Or.inl rfl)) (fun W v hW ho => by
     obtain ⟨s, c, rfl, _⟩ := own_slice ho
     exact weights_is.2.1 s c W),
   fun b o p d X Y w h0 h12 hr hx hy hne => comb_err _ p d X _ w h12 (places_of _ p d X Y w h12 (Or.inr ⟨b, o, rfl, hr⟩)) (fun W v hW ho => by
     obtain ⟨s, c, rfl, k⟩ := own_ints ho
     obtain ⟨g, rfl, _, _, r⟩ := k.resolve_left (by omega)
     exact weights_is.2.2.1 g 0 p c X W h0 h12 (own_room ho) r hx hne),
   fun b o p d X Y w h0 h12 hr hy hpl hno => comb_y b o p d X Y w h12 (places_of _ p d X Y w h12 (Or.inr ⟨b, o, rfl, hr⟩)) (fun W v hW ho => by
     obtain ⟨s, c, rfl, k⟩ := own_ints ho
     obtain ⟨g, rfl, _, _, r⟩ := k.resolve_left (by omega)
     exact weights_is.2.2.2 g 0 p c X W h0 h12 (own_room ho) r hpl) hr hno,
   fun b o p d X Y w h0 h12 hr hpl hok => comb_ok b o p d X Y w h0 h12 (places_of _ p d X Y w h12 (Or.inr ⟨b, o, rfl, hr⟩)) (fun W v hW ho => by
     obtain ⟨s, c, rfl, k⟩ := own_ints ho
     obtain ⟨g, rfl, _, _, r⟩ := k.resolve_left (by omega)
     exact weights_is.2.2.2 g 0 p c X W h0 h12 (own_room ho) r hpl) hr hok⟩
end Go.Proofs.YtkhpmnehjifdcafDoor
