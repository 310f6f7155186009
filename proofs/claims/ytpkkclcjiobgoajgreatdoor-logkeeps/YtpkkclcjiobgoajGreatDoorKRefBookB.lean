/- What the plain reckoning of a deal's excess (stoneref2: Book.Excess) answers. -/
import Derived.Test.YtpkkclcjiobgoajGreatDoorKRefBookA
namespace Go.Proofs.YtpkkclcjiobgoajGreatDoor
open Go.RowKit Go.Sort
set_option linter.unusedVariables false
set_option linter.unusedSimpArgs false
theorem rneg_4 (k : Nat) (w : World) : Calls Tryz.prog 53 #[.agg #[.int .i64 ((tM (4 * k)).1 : Int), .int .i64 ((tM (4 * k)).2.1 : Int), .bool (tM (4 * k)).2.2]] w fun e w' => e = .returned (.agg #[.int .i64 ((tM (4 * (1012 * k))).1 : Int), .int .i64 ((tM (4 * (1012 * k))).2.1 : Int), .bool (tM (4 * (1012 * k))).2.2]) ∧ Below w.heap.size w w' := by
  have := rneg_tM (4 * k) w
  rwa [show tM (4052 - 4 * k % 4052) = tM (4 * (1012 * k)) from tM_congr (by omega)] at this
theorem ns_step (K : Nat → Nat) (Z : Nat → Int) {k z : Nat} (h : Z k = (z : Int)) : tM (4 * nsN K Z k + 4 * (1012 * K z)) = tM (4 * nsN K Z (k + 1)) := by
  rw [nsN_succ, h, Int.toNat_natCast, Nat.mul_add]
set_option maxRecDepth 100000 in
set_option maxHeartbeats 4000000 in
theorem rexc_bad (B p n m c d dz t : Nat) (sz sl : Option Addr) (u v : Value) (K : Nat → Nat) (G : Nat → Bool) (Z : Nat → Int) (w : World) (hn : n ≤ 1000000) (hm : m ≤ 9223372036854775807) (h : BookAt 25 4 B w p u v n K G) (hz : (m = 0 ∨ ∃ b o : Nat, sz = some ⟨b, o, none⟩ ∧ RowI w b o m Z)) (ht : t < m) (hok : ∀ j, j < t → goE n G Z j = 0) (hbad : (goE n G Z t == 0) = false) :
    Calls Tryz.prog 18 #[.pointer (some ⟨p, 0, none⟩), .slice sz m dz, .slice sl c d] w fun e w' => e = .returned (.tuple #[.agg #[.int .i64 0, .int .i64 0, .bool false], .int .i64 (goE n G Z t)]) ∧ Below w.heap.size w w' := by
  obtain ⟨su, cu, sv, cv, rfl, rfl, hrow⟩ := h.slices
  have HP : Hid (At w p [.slice su n cu, .slice sv n cv]) := h.cells
  have HR : Hid (n = 0 ∨ ∃ g h, su = some ⟨g, 0, none⟩ ∧ sv = some ⟨h, 0, none⟩ ∧ RowO w g 0 n (fun i => ((tM (4 * K i)).1 : Int)) (fun i => ((tM (4 * K i)).2.1 : Int)) (fun i => (tM (4 * K i)).2.2) ∧ RowB w h 0 n G) := hrow
  have HZ : Hid ((m = 0 ∨ ∃ b o : Nat, sz = some ⟨b, o, none⟩ ∧ RowI w b o m Z)) := hz
  clear hrow h hz
  have HO : Hid (∀ j, j < t → goE n G Z j = 0) := hok
  have HB : Hid ((goE n G Z t == 0) = false) := hbad
  clear hok hbad
  obtain ⟨ans, hans⟩ : ∃ q, goE n G Z t = q := ⟨_, rfl⟩
  rw [hans]
  have HQ : Hid (goE n G Z t = ans) := hans
  clear hans
  go_enter Tryz.func18, Tryz.ntmps18
  go_wp2_with fail
  go_loopw [9] (fun ti wl => ∃ k : Nat, k ≤ t ∧ ti = .int .i64 k ∧ At wl (w.heap.size) [.int .i64 0, .int .i64 0, .bool false] ∧ At wl (w.heap.size + 1) [.int .i64 ((tM (4 * nsN K Z k)).1 : Int), .int .i64 ((tM (4 * nsN K Z k)).2.1 : Int), .bool (tM (4 * nsN K Z k)).2.2] ∧ Below w.heap.size w wl) (fun ti _ => m - (intOf ti).toNat)
  case atStart => exact ⟨0, by omega, rfl, by repeat (first | (with_reducible first | assumption | (refine at_new' _ _ _ _ ?_; first | rfl | (simp; done)) | refine At.alloc ?_ _ | refine At.drew ?_ | refine At.drewN ?_ | refine At.set ?_ (by omega) | apply At.store4 | apply At.store3 | apply At.store2 | apply At.put43) | refine At.below ?_ (by with_reducible assumption)), by show At _ _ [.int .i64 0, .int .i64 0, .bool true]; exact (by repeat (first | (with_reducible first | assumption | (refine at_new' _ _ _ _ ?_; first | rfl | (simp; done)) | refine At.alloc ?_ _ | refine At.drew ?_ | refine At.drewN ?_ | refine At.set ?_ (by omega) | apply At.store4 | apply At.store3 | apply At.store2 | apply At.put43) | refine At.below ?_ (by with_reducible assumption))), by repeat (first | (with_reducible first | exact Below.refl _ _ | assumption | refine Below.setCell ?_ (by first | simp <;> omega | omega) _ | refine Below.alloc ?_ (by first | simp <;> omega | omega) _) | refine bl_call ?_ (by assumption) (by first | simp <;> omega | omega) | (with_reducible first | refine bl_drewN ?_ | refine Below.drew ?_ | refine bl_grow ?_ (by first | simp <;> omega | omega)))⟩
  case round =>
    obtain ⟨k, hk, rfl, krV, ksV, hqV⟩ := hrel
    rename World => V
    have hzV := hqV.size
    obtain ⟨zrV, cr0V, cr1V, cr2V, fr0V, fr1V, fr2V⟩ := krV.three
    obtain ⟨zsV, cs0V, cs1V, cs2V, fs0V, fs1V, fs2V⟩ := ksV.three
    have kpV := HP.out.below hqV
    obtain ⟨zpV, cp0V, cp1V, fp0V, fp1V⟩ := kpV.two
    have hlt : k < m := by omega
    by_cases hkt : k < t
    · have hk0 := HO.out k hkt
      have hlt' : (k : Int) < m := by omega
      obtain ⟨b, o, rfl, hzr⟩ : ∃ b o : Nat, sz = some ⟨b, o, none⟩ ∧ RowI w b o m Z := HZ.out.resolve_left (by omega)
      have hb := hzr.1
      have HZr : Hid (RowI w b o m Z) := hzr
      have hbV := Nat.lt_of_lt_of_le hb hzV
      have c0 := (hzr.below hb hqV).2 k hlt
      clear hzr
      obtain ⟨a1, a2, a3⟩ := goE_ok hk0
      obtain ⟨z, hz⟩ : ∃ z : Nat, Z k = (z : Int) := ⟨(Z k).toNat, by have := inN_yes a1; omega⟩
      have hzn : z < n := by have := inN_yes a1; omega
      have HZz : Hid (Z k = (z : Int)) := hz
      rw [hz] at c0
      rw [hz, Int.toNat_natCast] at a2
      clear a1 hz
      have t1 : ¬ (z : Int) < 0 := by omega
      have t2 : ¬ (z : Int) ≥ n := by omega
      obtain ⟨g, h, rfl, rfl, r1, r2⟩ := HR.out.resolve_left (by omega)
      have HG1 : Hid (RowO w g 0 n (fun i => ((tM (4 * K i)).1 : Int)) (fun i => ((tM (4 * K i)).2.1 : Int)) (fun i => (tM (4 * K i)).2.2)) := r1
      have hg := r1.1
      have hgV := Nat.lt_of_lt_of_le r1.1 hzV
      have hhV := Nat.lt_of_lt_of_le r2.1 hzV
      have d0 := (r2.below r2.1 hqV).2 z hzn
      rw [Nat.zero_add, a2] at d0
      clear r1 r2 a2
      go_wp2_with fail
      go_loopw [11] (fun tj wl => ∃ j : Nat, j ≤ k ∧ tj = .int .i64 j ∧ (∀ i, i < j → Z i ≠ (z : Int)) ∧ At wl (w.heap.size) [.int .i64 0, .int .i64 0, .bool false] ∧ At wl (w.heap.size + 1) [.int .i64 ((tM (4 * nsN K Z k)).1 : Int), .int .i64 ((tM (4 * nsN K Z k)).2.1 : Int), .bool (tM (4 * nsN K Z k)).2.2] ∧ Below w.heap.size w wl) (fun tj _ => k - (intOf tj).toNat)
      case atStart => exact ⟨0, by omega, rfl, fun i hi => absurd hi (Nat.not_lt_zero _), krV, ksV, hqV⟩
      case round =>
        clear c0 d0 cp0V cp1V fp0V fp1V kpV krV cr0V fr0V cr1V fr1V cr2V fr2V ksV cs0V fs0V cs1V fs1V cs2V fs2V hqV
        obtain ⟨j, hj, rfl, hno, krU, ksU, hqU⟩ := hrel
        rename World => U
        have HNO : Hid (∀ i, i < j → Z i ≠ (z : Int)) := hno
        clear hno
        have hzU := hqU.size
        obtain ⟨zrU, cr0U, cr1U, cr2U, fr0U, fr1U, fr2U⟩ := krU.three
        obtain ⟨zsU, cs0U, cs1U, cs2U, fs0U, fs1U, fs2U⟩ := ksU.three
        have kpU := HP.out.below hqU
        obtain ⟨zpU, cp0U, cp1U, fp0U, fp1U⟩ := kpU.two
        have hbU : b < U.heap.size := Nat.lt_of_lt_of_le hb hzU
        have hgU : g < U.heap.size := Nat.lt_of_lt_of_le hg hzU
        by_cases hjk : j < k
        · have hjk' : (j : Int) < k := by omega
          have q0 := (HZr.out.below hb hqU).2 j (by omega)
          have QNE : Z j ≠ (z : Int) := fun e => dupB_no a3 j hjk (e.trans HZz.out.symm)
          have qt : (Z j == (z : Int)) = false := by rw [beq_eq_false_iff_ne]; exact QNE
          go_wp2_with fail
          go_roundw
          case rel => exact ⟨j + 1, by omega, by simp, fun i hi => by
              rcases Nat.lt_succ_iff_lt_or_eq.1 hi with e | rfl
              · exact HNO.out i e
              · exact QNE, by repeat (first | (with_reducible first | assumption | (refine at_new' _ _ _ _ ?_; first | rfl | (simp; done)) | refine At.alloc ?_ _ | refine At.drew ?_ | refine At.drewN ?_ | refine At.set ?_ (by omega) | apply At.store4 | apply At.store3 | apply At.store2 | apply At.put43) | refine At.below ?_ (by with_reducible assumption)), by repeat (first | (with_reducible first | assumption | (refine at_new' _ _ _ _ ?_; first | rfl | (simp; done)) | refine At.alloc ?_ _ | refine At.drew ?_ | refine At.drewN ?_ | refine At.set ?_ (by omega) | apply At.store4 | apply At.store3 | apply At.store2 | apply At.put43) | refine At.below ?_ (by with_reducible assumption)), by repeat (first | (with_reducible first | exact Below.refl _ _ | assumption | refine Below.setCell ?_ (by first | simp <;> omega | omega) _ | refine Below.alloc ?_ (by first | simp <;> omega | omega) _) | refine bl_call ?_ (by assumption) (by first | simp <;> omega | omega) | (with_reducible first | refine bl_drewN ?_ | refine Below.drew ?_ | refine bl_grow ?_ (by first | simp <;> omega | omega)))⟩
          case measure => simp [intOf]; omega
        · have hjk' : ¬ (j : Int) < k := by omega
          obtain rfl : j = k := by omega
          have E : Hid (tM (4 * nsN K Z j + 4 * (1012 * K z)) = tM (4 * nsN K Z (j + 1))) := ns_step K Z HZz.out
          obtain ⟨e0, e1, e2⟩ := (HG1.out.below hg hqU).2 z hzn
          rw [Nat.zero_add] at e0 e1 e2
          go_wp2_with fail
          refine below_gate 10 1 #[true, true, true, true, true, true, true, true, true, true, false] (by kernel_rfl) (by kernel_rfl) rfl rfl ?_
          dsimp only [List.take]
          repeat (go_big_quiet_step (first | (go_at_call 53; with_reducible exact Calls.regrown_of (rneg_4 _ _)) | (go_at_call 45; with_reducible exact Calls.regrown_of (radd_tM _ _ _))))
          refine wpQuiet_nil ?_
          intro W1 hw1
          have hrW1 := regrown_below hw1
          clear hw1
          have krW1 := krU.below hrW1
          have ksW1 := ksU.below hrW1
          have kpW1 := kpU.below hrW1
          have hqW1 := bl_call hqU hrW1 (by omega)
          have hzW1 := hqW1.size
          clear hrW1 krU cr0U fr0U cr1U fr1U cr2U fr2U ksU cs0U fs0U cs1U fs1U cs2U fs2U kpU cp0U fp0U cp1U fp1U hqU
          obtain ⟨zrW1, cr0W1, cr1W1, cr2W1, fr0W1, fr1W1, fr2W1⟩ := krW1.three
          obtain ⟨zsW1, cs0W1, cs1W1, cs2W1, fs0W1, fs1W1, fs2W1⟩ := ksW1.three
          obtain ⟨zpW1, cp0W1, cp1W1, fp0W1, fp1W1⟩ := kpW1.two
          refine wpAny_ready (rs := [10]) (by kernel_rfl) (by simp) (AllReady.cons rfl (fun K hK => ?_) AllReady.nil)
          go_simp
          refine hK _ _ ?_
          clear hK K
          refine wpAny_done (by kernel_rfl) ?_ _
          go_wp2_with fail
          go_roundw
          case rel => exact ⟨j + 1, by omega, by simp, by repeat (first | (with_reducible first | assumption | (refine at_new' _ _ _ _ ?_; first | rfl | (simp; done)) | refine At.alloc ?_ _ | refine At.drew ?_ | refine At.drewN ?_ | refine At.set ?_ (by omega) | apply At.store4 | apply At.store3 | apply At.store2 | apply At.put43) | refine At.below ?_ (by with_reducible assumption)), by rw [← E.out]; exact (show At _ _ [.int .i64 ((tM (4 * nsN K Z j + 4 * (1012 * K z))).1 : Int), .int .i64 ((tM (4 * nsN K Z j + 4 * (1012 * K z))).2.1 : Int), .bool (tM (4 * nsN K Z j + 4 * (1012 * K z))).2.2] from by repeat (first | (with_reducible first | assumption | (refine at_new' _ _ _ _ ?_; first | rfl | (simp; done)) | refine At.alloc ?_ _ | refine At.drew ?_ | refine At.drewN ?_ | refine At.set ?_ (by omega) | apply At.store4 | apply At.store3 | apply At.store2 | apply At.put43) | refine At.below ?_ (by with_reducible assumption))), by repeat (first | (with_reducible first | exact Below.refl _ _ | assumption | refine Below.setCell ?_ (by first | simp <;> omega | omega) _ | refine Below.alloc ?_ (by first | simp <;> omega | omega) _) | refine bl_call ?_ (by assumption) (by first | simp <;> omega | omega) | (with_reducible first | refine bl_drewN ?_ | refine Below.drew ?_ | refine bl_grow ?_ (by first | simp <;> omega | omega)))⟩
          case measure => simp [intOf]; omega
    · obtain rfl : k = t := by omega
      have hlt' : (k : Int) < m := by omega
      obtain ⟨b, o, rfl, hzr⟩ : ∃ b o : Nat, sz = some ⟨b, o, none⟩ ∧ RowI w b o m Z := HZ.out.resolve_left (by omega)
      have hb := hzr.1
      have HZr : Hid (RowI w b o m Z) := hzr
      have hbV := Nat.lt_of_lt_of_le hb hzV
      have c0 := (hzr.below hb hqV).2 k hlt
      clear hzr
      rcases goE_way n G Z k with ⟨a1, e⟩ | ⟨a1, a2, e⟩ | ⟨a1, a2, a3, e⟩ | ⟨_, _, _, e⟩
      · obtain rfl : ans = 1 := HQ.out.symm.trans e
        clear e HB HQ
        have a2 := inN_no a1
        clear a1
        by_cases a3 : Z k < 0
        · go_wp2_with fail
          exact bodyPost_ret (v := .tuple #[.agg #[.int .i64 0, .int .i64 0, .bool false], .int .i64 1]) (by simp [results, Tryz.results18, go_sem, *]) rfl ⟨rfl, by repeat (first | (with_reducible first | exact Below.refl _ _ | assumption | refine Below.setCell ?_ (by first | simp <;> omega | omega) _ | refine Below.alloc ?_ (by first | simp <;> omega | omega) _) | refine bl_call ?_ (by assumption) (by first | simp <;> omega | omega) | (with_reducible first | refine bl_drewN ?_ | refine Below.drew ?_ | refine bl_grow ?_ (by first | simp <;> omega | omega)))⟩
        · have a4 : Z k ≥ n := by omega
          clear a2
          go_wp2_with fail
          exact bodyPost_ret (v := .tuple #[.agg #[.int .i64 0, .int .i64 0, .bool false], .int .i64 1]) (by simp [results, Tryz.results18, go_sem, *]) rfl ⟨rfl, by repeat (first | (with_reducible first | exact Below.refl _ _ | assumption | refine Below.setCell ?_ (by first | simp <;> omega | omega) _ | refine Below.alloc ?_ (by first | simp <;> omega | omega) _) | refine bl_call ?_ (by assumption) (by first | simp <;> omega | omega) | (with_reducible first | refine bl_drewN ?_ | refine Below.drew ?_ | refine bl_grow ?_ (by first | simp <;> omega | omega)))⟩
      · obtain rfl : ans = 6 := HQ.out.symm.trans e
        clear e HB HQ
        obtain ⟨z, hz⟩ : ∃ z : Nat, Z k = (z : Int) := ⟨(Z k).toNat, by have := inN_yes a1; omega⟩
        have hzn : z < n := by have := inN_yes a1; omega
        have HZz : Hid (Z k = (z : Int)) := hz
        rw [hz] at c0
        rw [hz, Int.toNat_natCast] at a2
        clear a1 hz
        have t1 : ¬ (z : Int) < 0 := by omega
        have t2 : ¬ (z : Int) ≥ n := by omega
        obtain ⟨g, h, rfl, rfl, r1, r2⟩ := HR.out.resolve_left (by omega)
        have HG1 : Hid (RowO w g 0 n (fun i => ((tM (4 * K i)).1 : Int)) (fun i => ((tM (4 * K i)).2.1 : Int)) (fun i => (tM (4 * K i)).2.2)) := r1
        have hg := r1.1
        have hgV := Nat.lt_of_lt_of_le r1.1 hzV
        have hhV := Nat.lt_of_lt_of_le r2.1 hzV
        have d0 := (r2.below r2.1 hqV).2 z hzn
        rw [Nat.zero_add, a2] at d0
        clear r1 r2 a2
        go_wp2_with fail
        exact bodyPost_ret (v := .tuple #[.agg #[.int .i64 0, .int .i64 0, .bool false], .int .i64 6]) (by simp [results, Tryz.results18, go_sem, *]) rfl ⟨rfl, by repeat (first | (with_reducible first | exact Below.refl _ _ | assumption | refine Below.setCell ?_ (by first | simp <;> omega | omega) _ | refine Below.alloc ?_ (by first | simp <;> omega | omega) _) | refine bl_call ?_ (by assumption) (by first | simp <;> omega | omega) | (with_reducible first | refine bl_drewN ?_ | refine Below.drew ?_ | refine bl_grow ?_ (by first | simp <;> omega | omega)))⟩
      · obtain rfl : ans = 7 := HQ.out.symm.trans e
        clear e HB HQ
        obtain ⟨z, hz⟩ : ∃ z : Nat, Z k = (z : Int) := ⟨(Z k).toNat, by have := inN_yes a1; omega⟩
        have hzn : z < n := by have := inN_yes a1; omega
        have HZz : Hid (Z k = (z : Int)) := hz
        rw [hz] at c0
        rw [hz, Int.toNat_natCast] at a2
        clear a1 hz
        have t1 : ¬ (z : Int) < 0 := by omega
        have t2 : ¬ (z : Int) ≥ n := by omega
        obtain ⟨g, h, rfl, rfl, r1, r2⟩ := HR.out.resolve_left (by omega)
        have HG1 : Hid (RowO w g 0 n (fun i => ((tM (4 * K i)).1 : Int)) (fun i => ((tM (4 * K i)).2.1 : Int)) (fun i => (tM (4 * K i)).2.2)) := r1
        have hg := r1.1
        have hgV := Nat.lt_of_lt_of_le r1.1 hzV
        have hhV := Nat.lt_of_lt_of_le r2.1 hzV
        have d0 := (r2.below r2.1 hqV).2 z hzn
        rw [Nat.zero_add, a2] at d0
        clear r1 r2 a2
        go_wp2_with fail
        go_loopw [11] (fun tj wl => ∃ j : Nat, j ≤ k ∧ tj = .int .i64 j ∧ (∀ i, i < j → Z i ≠ (z : Int)) ∧ At wl (w.heap.size) [.int .i64 0, .int .i64 0, .bool false] ∧ At wl (w.heap.size + 1) [.int .i64 ((tM (4 * nsN K Z k)).1 : Int), .int .i64 ((tM (4 * nsN K Z k)).2.1 : Int), .bool (tM (4 * nsN K Z k)).2.2] ∧ Below w.heap.size w wl) (fun tj _ => k - (intOf tj).toNat)
        case atStart => exact ⟨0, by omega, rfl, fun i hi => absurd hi (Nat.not_lt_zero _), krV, ksV, hqV⟩
        case round =>
          clear c0 d0 cp0V cp1V fp0V fp1V kpV krV cr0V fr0V cr1V fr1V cr2V fr2V ksV cs0V fs0V cs1V fs1V cs2V fs2V hqV
          obtain ⟨j, hj, rfl, hno, krU, ksU, hqU⟩ := hrel
          rename World => U
          have HNO : Hid (∀ i, i < j → Z i ≠ (z : Int)) := hno
          clear hno
          have hzU := hqU.size
          obtain ⟨zrU, cr0U, cr1U, cr2U, fr0U, fr1U, fr2U⟩ := krU.three
          obtain ⟨zsU, cs0U, cs1U, cs2U, fs0U, fs1U, fs2U⟩ := ksU.three
          have kpU := HP.out.below hqU
          obtain ⟨zpU, cp0U, cp1U, fp0U, fp1U⟩ := kpU.two
          have hbU : b < U.heap.size := Nat.lt_of_lt_of_le hb hzU
          have hgU : g < U.heap.size := Nat.lt_of_lt_of_le hg hzU
          by_cases hjk : j < k
          · have hjk' : (j : Int) < k := by omega
            have q0 := (HZr.out.below hb hqU).2 j (by omega)
            by_cases QNE : Z j = (z : Int)
            · have qt : (Z j == (z : Int)) = true := by rw [QNE]; exact beq_self_eq_true _
              clear QNE
              go_wp2_with fail
              exact bodyPost_ret (v := .tuple #[.agg #[.int .i64 0, .int .i64 0, .bool false], .int .i64 7]) (by simp [results, Tryz.results18, go_sem, *]) rfl ⟨rfl, by repeat (first | (with_reducible first | exact Below.refl _ _ | assumption | refine Below.setCell ?_ (by first | simp <;> omega | omega) _ | refine Below.alloc ?_ (by first | simp <;> omega | omega) _) | refine bl_call ?_ (by assumption) (by first | simp <;> omega | omega) | (with_reducible first | refine bl_drewN ?_ | refine Below.drew ?_ | refine bl_grow ?_ (by first | simp <;> omega | omega)))⟩
            · have qt : (Z j == (z : Int)) = false := by rw [beq_eq_false_iff_ne]; exact QNE
              go_wp2_with fail
              go_roundw
              case rel => exact ⟨j + 1, by omega, by simp, fun i hi => by
                  rcases Nat.lt_succ_iff_lt_or_eq.1 hi with e | rfl
                  · exact HNO.out i e
                  · exact QNE, by repeat (first | (with_reducible first | assumption | (refine at_new' _ _ _ _ ?_; first | rfl | (simp; done)) | refine At.alloc ?_ _ | refine At.drew ?_ | refine At.drewN ?_ | refine At.set ?_ (by omega) | apply At.store4 | apply At.store3 | apply At.store2 | apply At.put43) | refine At.below ?_ (by with_reducible assumption)), by repeat (first | (with_reducible first | assumption | (refine at_new' _ _ _ _ ?_; first | rfl | (simp; done)) | refine At.alloc ?_ _ | refine At.drew ?_ | refine At.drewN ?_ | refine At.set ?_ (by omega) | apply At.store4 | apply At.store3 | apply At.store2 | apply At.put43) | refine At.below ?_ (by with_reducible assumption)), by repeat (first | (with_reducible first | exact Below.refl _ _ | assumption | refine Below.setCell ?_ (by first | simp <;> omega | omega) _ | refine Below.alloc ?_ (by first | simp <;> omega | omega) _) | refine bl_call ?_ (by assumption) (by first | simp <;> omega | omega) | (with_reducible first | refine bl_drewN ?_ | refine Below.drew ?_ | refine bl_grow ?_ (by first | simp <;> omega | omega)))⟩
              case measure => simp [intOf]; omega
          · have hjk' : ¬ (j : Int) < k := by omega
            obtain rfl : j = k := by omega
            exact absurd a3 (by rw [Bool.not_eq_true]; cases hd : dupB Z (Z j) j with | false => rfl | true => (obtain ⟨i, hi, e⟩ := (dupB_iff Z (Z j) j).1 hd; exact absurd (e.trans HZz.out) (HNO.out i hi)))
      · exact absurd HB.out (by rw [e]; decide)
set_option maxRecDepth 100000 in
set_option maxHeartbeats 4000000 in
theorem rexc_come (B p n m c d dz : Nat) (sz sl : Option Addr) (u v : Value) (K : Nat → Nat) (G : Nat → Bool) (Z : Nat → Int) (q : Int) (w : World) (hn : n ≤ 1000000) (hm : m ≤ 9223372036854775807) (h : BookAt 25 4 B w p u v n K G) (hz : (m = 0 ∨ ∃ b o : Nat, sz = some ⟨b, o, none⟩ ∧ RowI w b o m Z)) (hok : (∀ j, j < m → goE n G Z j = 0)) (hq : (q == 0) = false) (hc : ∀ W, Below w.heap.size w W → Calls Tryz.prog 15 #[.slice sl c d] W fun e w' => e = .returned (.int .i64 q) ∧ Below W.heap.size W w') :
    Calls Tryz.prog 18 #[.pointer (some ⟨p, 0, none⟩), .slice sz m dz, .slice sl c d] w fun e w' => e = .returned (.tuple #[.agg #[.int .i64 0, .int .i64 0, .bool false], .int .i64 q]) ∧ Below w.heap.size w w' := by
  obtain ⟨su, cu, sv, cv, rfl, rfl, hrow⟩ := h.slices
  have HP : Hid (At w p [.slice su n cu, .slice sv n cv]) := h.cells
  have HR : Hid (n = 0 ∨ ∃ g h, su = some ⟨g, 0, none⟩ ∧ sv = some ⟨h, 0, none⟩ ∧ RowO w g 0 n (fun i => ((tM (4 * K i)).1 : Int)) (fun i => ((tM (4 * K i)).2.1 : Int)) (fun i => (tM (4 * K i)).2.2) ∧ RowB w h 0 n G) := hrow
  have HZ : Hid ((m = 0 ∨ ∃ b o : Nat, sz = some ⟨b, o, none⟩ ∧ RowI w b o m Z)) := hz
  clear hrow h hz
  have HO : Hid (∀ j, j < m → goE n G Z j = 0) := hok
  have HQ : Hid ((q == 0) = false) := hq
  have HC : Hid (∀ W, Below w.heap.size w W → Calls Tryz.prog 15 #[.slice sl c d] W fun e w' => e = .returned (.int .i64 q) ∧ Below W.heap.size W w') := hc
  have hq2 : (q == 0) = false := hq
  clear hok hq hc
  go_enter Tryz.func18, Tryz.ntmps18
  go_wp2_with fail
  go_loopw [9] (fun ti wl => ∃ k : Nat, k ≤ m ∧ ti = .int .i64 k ∧ At wl (w.heap.size) [.int .i64 0, .int .i64 0, .bool false] ∧ At wl (w.heap.size + 1) [.int .i64 ((tM (4 * nsN K Z k)).1 : Int), .int .i64 ((tM (4 * nsN K Z k)).2.1 : Int), .bool (tM (4 * nsN K Z k)).2.2] ∧ Below w.heap.size w wl) (fun ti _ => m - (intOf ti).toNat)
  case atStart => exact ⟨0, by omega, rfl, by repeat (first | (with_reducible first | assumption | (refine at_new' _ _ _ _ ?_; first | rfl | (simp; done)) | refine At.alloc ?_ _ | refine At.drew ?_ | refine At.drewN ?_ | refine At.set ?_ (by omega) | apply At.store4 | apply At.store3 | apply At.store2 | apply At.put43) | refine At.below ?_ (by with_reducible assumption)), by show At _ _ [.int .i64 0, .int .i64 0, .bool true]; exact (by repeat (first | (with_reducible first | assumption | (refine at_new' _ _ _ _ ?_; first | rfl | (simp; done)) | refine At.alloc ?_ _ | refine At.drew ?_ | refine At.drewN ?_ | refine At.set ?_ (by omega) | apply At.store4 | apply At.store3 | apply At.store2 | apply At.put43) | refine At.below ?_ (by with_reducible assumption))), by repeat (first | (with_reducible first | exact Below.refl _ _ | assumption | refine Below.setCell ?_ (by first | simp <;> omega | omega) _ | refine Below.alloc ?_ (by first | simp <;> omega | omega) _) | refine bl_call ?_ (by assumption) (by first | simp <;> omega | omega) | (with_reducible first | refine bl_drewN ?_ | refine Below.drew ?_ | refine bl_grow ?_ (by first | simp <;> omega | omega)))⟩
  case round =>
    obtain ⟨k, hk, rfl, krV, ksV, hqV⟩ := hrel
    rename World => V
    have hzV := hqV.size
    obtain ⟨zrV, cr0V, cr1V, cr2V, fr0V, fr1V, fr2V⟩ := krV.three
    obtain ⟨zsV, cs0V, cs1V, cs2V, fs0V, fs1V, fs2V⟩ := ksV.three
    have kpV := HP.out.below hqV
    obtain ⟨zpV, cp0V, cp1V, fp0V, fp1V⟩ := kpV.two
    by_cases hlt : k < m
    · have hk0 := HO.out k hlt
      have hlt' : (k : Int) < m := by omega
      obtain ⟨b, o, rfl, hzr⟩ : ∃ b o : Nat, sz = some ⟨b, o, none⟩ ∧ RowI w b o m Z := HZ.out.resolve_left (by omega)
      have hb := hzr.1
      have HZr : Hid (RowI w b o m Z) := hzr
      have hbV := Nat.lt_of_lt_of_le hb hzV
      have c0 := (hzr.below hb hqV).2 k hlt
      clear hzr
      obtain ⟨a1, a2, a3⟩ := goE_ok hk0
      obtain ⟨z, hz⟩ : ∃ z : Nat, Z k = (z : Int) := ⟨(Z k).toNat, by have := inN_yes a1; omega⟩
      have hzn : z < n := by have := inN_yes a1; omega
      have HZz : Hid (Z k = (z : Int)) := hz
      rw [hz] at c0
      rw [hz, Int.toNat_natCast] at a2
      clear a1 hz
      have t1 : ¬ (z : Int) < 0 := by omega
      have t2 : ¬ (z : Int) ≥ n := by omega
      obtain ⟨g, h, rfl, rfl, r1, r2⟩ := HR.out.resolve_left (by omega)
      have HG1 : Hid (RowO w g 0 n (fun i => ((tM (4 * K i)).1 : Int)) (fun i => ((tM (4 * K i)).2.1 : Int)) (fun i => (tM (4 * K i)).2.2)) := r1
      have hg := r1.1
      have hgV := Nat.lt_of_lt_of_le r1.1 hzV
      have hhV := Nat.lt_of_lt_of_le r2.1 hzV
      have d0 := (r2.below r2.1 hqV).2 z hzn
      rw [Nat.zero_add, a2] at d0
      clear r1 r2 a2
      go_wp2_with fail
      go_loopw [11] (fun tj wl => ∃ j : Nat, j ≤ k ∧ tj = .int .i64 j ∧ (∀ i, i < j → Z i ≠ (z : Int)) ∧ At wl (w.heap.size) [.int .i64 0, .int .i64 0, .bool false] ∧ At wl (w.heap.size + 1) [.int .i64 ((tM (4 * nsN K Z k)).1 : Int), .int .i64 ((tM (4 * nsN K Z k)).2.1 : Int), .bool (tM (4 * nsN K Z k)).2.2] ∧ Below w.heap.size w wl) (fun tj _ => k - (intOf tj).toNat)
      case atStart => exact ⟨0, by omega, rfl, fun i hi => absurd hi (Nat.not_lt_zero _), krV, ksV, hqV⟩
      case round =>
        clear c0 d0 cp0V cp1V fp0V fp1V kpV krV cr0V fr0V cr1V fr1V cr2V fr2V ksV cs0V fs0V cs1V fs1V cs2V fs2V hqV
        obtain ⟨j, hj, rfl, hno, krU, ksU, hqU⟩ := hrel
        rename World => U
        have HNO : Hid (∀ i, i < j → Z i ≠ (z : Int)) := hno
        clear hno
        have hzU := hqU.size
        obtain ⟨zrU, cr0U, cr1U, cr2U, fr0U, fr1U, fr2U⟩ := krU.three
        obtain ⟨zsU, cs0U, cs1U, cs2U, fs0U, fs1U, fs2U⟩ := ksU.three
        have kpU := HP.out.below hqU
        obtain ⟨zpU, cp0U, cp1U, fp0U, fp1U⟩ := kpU.two
        have hbU : b < U.heap.size := Nat.lt_of_lt_of_le hb hzU
        have hgU : g < U.heap.size := Nat.lt_of_lt_of_le hg hzU
        by_cases hjk : j < k
        · have hjk' : (j : Int) < k := by omega
          have q0 := (HZr.out.below hb hqU).2 j (by omega)
          have QNE : Z j ≠ (z : Int) := fun e => dupB_no a3 j hjk (e.trans HZz.out.symm)
          have qt : (Z j == (z : Int)) = false := by rw [beq_eq_false_iff_ne]; exact QNE
          go_wp2_with fail
          go_roundw
          case rel => exact ⟨j + 1, by omega, by simp, fun i hi => by
              rcases Nat.lt_succ_iff_lt_or_eq.1 hi with e | rfl
              · exact HNO.out i e
              · exact QNE, by repeat (first | (with_reducible first | assumption | (refine at_new' _ _ _ _ ?_; first | rfl | (simp; done)) | refine At.alloc ?_ _ | refine At.drew ?_ | refine At.drewN ?_ | refine At.set ?_ (by omega) | apply At.store4 | apply At.store3 | apply At.store2 | apply At.put43) | refine At.below ?_ (by with_reducible assumption)), by repeat (first | (with_reducible first | assumption | (refine at_new' _ _ _ _ ?_; first | rfl | (simp; done)) | refine At.alloc ?_ _ | refine At.drew ?_ | refine At.drewN ?_ | refine At.set ?_ (by omega) | apply At.store4 | apply At.store3 | apply At.store2 | apply At.put43) | refine At.below ?_ (by with_reducible assumption)), by repeat (first | (with_reducible first | exact Below.refl _ _ | assumption | refine Below.setCell ?_ (by first | simp <;> omega | omega) _ | refine Below.alloc ?_ (by first | simp <;> omega | omega) _) | refine bl_call ?_ (by assumption) (by first | simp <;> omega | omega) | (with_reducible first | refine bl_drewN ?_ | refine Below.drew ?_ | refine bl_grow ?_ (by first | simp <;> omega | omega)))⟩
          case measure => simp [intOf]; omega
        · have hjk' : ¬ (j : Int) < k := by omega
          obtain rfl : j = k := by omega
          have E : Hid (tM (4 * nsN K Z j + 4 * (1012 * K z)) = tM (4 * nsN K Z (j + 1))) := ns_step K Z HZz.out
          obtain ⟨e0, e1, e2⟩ := (HG1.out.below hg hqU).2 z hzn
          rw [Nat.zero_add] at e0 e1 e2
          go_wp2_with fail
          refine below_gate 10 1 #[true, true, true, true, true, true, true, true, true, true, false] (by kernel_rfl) (by kernel_rfl) rfl rfl ?_
          dsimp only [List.take]
          repeat (go_big_quiet_step (first | (go_at_call 53; with_reducible exact Calls.regrown_of (rneg_4 _ _)) | (go_at_call 45; with_reducible exact Calls.regrown_of (radd_tM _ _ _))))
          refine wpQuiet_nil ?_
          intro W1 hw1
          have hrW1 := regrown_below hw1
          clear hw1
          have krW1 := krU.below hrW1
          have ksW1 := ksU.below hrW1
          have kpW1 := kpU.below hrW1
          have hqW1 := bl_call hqU hrW1 (by omega)
          have hzW1 := hqW1.size
          clear hrW1 krU cr0U fr0U cr1U fr1U cr2U fr2U ksU cs0U fs0U cs1U fs1U cs2U fs2U kpU cp0U fp0U cp1U fp1U hqU
          obtain ⟨zrW1, cr0W1, cr1W1, cr2W1, fr0W1, fr1W1, fr2W1⟩ := krW1.three
          obtain ⟨zsW1, cs0W1, cs1W1, cs2W1, fs0W1, fs1W1, fs2W1⟩ := ksW1.three
          obtain ⟨zpW1, cp0W1, cp1W1, fp0W1, fp1W1⟩ := kpW1.two
          refine wpAny_ready (rs := [10]) (by kernel_rfl) (by simp) (AllReady.cons rfl (fun K hK => ?_) AllReady.nil)
          go_simp
          refine hK _ _ ?_
          clear hK K
          refine wpAny_done (by kernel_rfl) ?_ _
          go_wp2_with fail
          go_roundw
          case rel => exact ⟨j + 1, by omega, by simp, by repeat (first | (with_reducible first | assumption | (refine at_new' _ _ _ _ ?_; first | rfl | (simp; done)) | refine At.alloc ?_ _ | refine At.drew ?_ | refine At.drewN ?_ | refine At.set ?_ (by omega) | apply At.store4 | apply At.store3 | apply At.store2 | apply At.put43) | refine At.below ?_ (by with_reducible assumption)), by rw [← E.out]; exact (show At _ _ [.int .i64 ((tM (4 * nsN K Z j + 4 * (1012 * K z))).1 : Int), .int .i64 ((tM (4 * nsN K Z j + 4 * (1012 * K z))).2.1 : Int), .bool (tM (4 * nsN K Z j + 4 * (1012 * K z))).2.2] from by repeat (first | (with_reducible first | assumption | (refine at_new' _ _ _ _ ?_; first | rfl | (simp; done)) | refine At.alloc ?_ _ | refine At.drew ?_ | refine At.drewN ?_ | refine At.set ?_ (by omega) | apply At.store4 | apply At.store3 | apply At.store2 | apply At.put43) | refine At.below ?_ (by with_reducible assumption))), by repeat (first | (with_reducible first | exact Below.refl _ _ | assumption | refine Below.setCell ?_ (by first | simp <;> omega | omega) _ | refine Below.alloc ?_ (by first | simp <;> omega | omega) _) | refine bl_call ?_ (by assumption) (by first | simp <;> omega | omega) | (with_reducible first | refine bl_drewN ?_ | refine Below.drew ?_ | refine bl_grow ?_ (by first | simp <;> omega | omega)))⟩
          case measure => simp [intOf]; omega
    · have hlt' : ¬ (k : Int) < m := by omega
      obtain rfl : k = m := by omega
      have m1 : True := trivial
      go_wp2_with (go_at_call 15; clear m1; refine (HC.out _ (by repeat (first | (with_reducible first | exact Below.refl _ _ | assumption | refine Below.setCell ?_ (by first | simp <;> omega | omega) _ | refine Below.alloc ?_ (by first | simp <;> omega | omega) _) | refine bl_call ?_ (by assumption) (by first | simp <;> omega | omega) | (with_reducible first | refine bl_drewN ?_ | refine Below.drew ?_ | refine bl_grow ?_ (by first | simp <;> omega | omega))))).mono ?_; rintro e w1 ⟨rfl, hbw1⟩; have krw1 : At w1 (w.heap.size) [.int .i64 0, .int .i64 0, .bool false] := (by repeat (first | (with_reducible first | assumption | (refine at_new' _ _ _ _ ?_; first | rfl | (simp; done)) | refine At.alloc ?_ _ | refine At.drew ?_ | refine At.drewN ?_ | refine At.set ?_ (by omega) | apply At.store4 | apply At.store3 | apply At.store2 | apply At.put43) | refine At.below ?_ (by with_reducible assumption))); have ksw1 : At w1 (w.heap.size + 1) [.int .i64 ((tM (4 * nsN K Z k)).1 : Int), .int .i64 ((tM (4 * nsN K Z k)).2.1 : Int), .bool (tM (4 * nsN K Z k)).2.2] := (by repeat (first | (with_reducible first | assumption | (refine at_new' _ _ _ _ ?_; first | rfl | (simp; done)) | refine At.alloc ?_ _ | refine At.drew ?_ | refine At.drewN ?_ | refine At.set ?_ (by omega) | apply At.store4 | apply At.store3 | apply At.store2 | apply At.put43) | refine At.below ?_ (by with_reducible assumption))); have hqw1 : Below w.heap.size w w1 := (by repeat (first | (with_reducible first | exact Below.refl _ _ | assumption | refine Below.setCell ?_ (by first | simp <;> omega | omega) _ | refine Below.alloc ?_ (by first | simp <;> omega | omega) _) | refine bl_call ?_ (by assumption) (by first | simp <;> omega | omega) | (with_reducible first | refine bl_drewN ?_ | refine Below.drew ?_ | refine bl_grow ?_ (by first | simp <;> omega | omega)))); have hzw1 := hqw1.size; obtain ⟨zrw1, cr0w1, cr1w1, cr2w1, fr0w1, fr1w1, fr2w1⟩ := krw1.three; obtain ⟨zsw1, cs0w1, cs1w1, cs2w1, fs0w1, fs1w1, fs2w1⟩ := ksw1.three; clear krV cr0V fr0V cr1V fr1V cr2V fr2V ksV cs0V fs0V cs1V fs1V cs2V fs2V hqV; clear hbw1)
      exact bodyPost_ret (v := .tuple #[.agg #[.int .i64 0, .int .i64 0, .bool false], .int .i64 q]) (by simp [results, Tryz.results18, go_sem, *]) rfl ⟨rfl, by repeat (first | (with_reducible first | exact Below.refl _ _ | assumption | refine Below.setCell ?_ (by first | simp <;> omega | omega) _ | refine Below.alloc ?_ (by first | simp <;> omega | omega) _) | refine bl_call ?_ (by assumption) (by first | simp <;> omega | omega) | (with_reducible first | refine bl_drewN ?_ | refine Below.drew ?_ | refine bl_grow ?_ (by first | simp <;> omega | omega)))⟩
set_option maxRecDepth 100000 in
set_option maxHeartbeats 4000000 in
theorem rexc_ok (B p n m c d dz : Nat) (sz sl : Option Addr) (u v : Value) (K : Nat → Nat) (G : Nat → Bool) (Z : Nat → Int) (J : Nat → Nat) (w : World) (hn : n ≤ 1000000) (hm : m ≤ 9223372036854775807) (h : BookAt 25 4 B w p u v n K G) (hz : (m = 0 ∨ ∃ b o : Nat, sz = some ⟨b, o, none⟩ ∧ RowI w b o m Z)) (hok : (∀ j, j < m → goE n G Z j = 0)) (hc : ∀ W, Below w.heap.size w W → Calls Tryz.prog 15 #[.slice sl c d] W fun e w' => e = .returned (.int .i64 0) ∧ Below W.heap.size W w') (hj : ∀ W, Below w.heap.size w W → Calls Tryz.prog 54 #[.slice sl c d] W fun e w' => e = .returned (.agg #[.int .i64 ((tM (4 * jsN J c)).1 : Int), .int .i64 ((tM (4 * jsN J c)).2.1 : Int), .bool (tM (4 * jsN J c)).2.2]) ∧ Below W.heap.size W w') :
    Calls Tryz.prog 18 #[.pointer (some ⟨p, 0, none⟩), .slice sz m dz, .slice sl c d] w fun e w' => e = .returned (.tuple #[.agg #[.int .i64 ((tM (4 * exN K Z m J c)).1 : Int), .int .i64 ((tM (4 * exN K Z m J c)).2.1 : Int), .bool (tM (4 * exN K Z m J c)).2.2], .int .i64 0]) ∧ Below w.heap.size w w' := by
  obtain ⟨su, cu, sv, cv, rfl, rfl, hrow⟩ := h.slices
  have HP : Hid (At w p [.slice su n cu, .slice sv n cv]) := h.cells
  have HR : Hid (n = 0 ∨ ∃ g h, su = some ⟨g, 0, none⟩ ∧ sv = some ⟨h, 0, none⟩ ∧ RowO w g 0 n (fun i => ((tM (4 * K i)).1 : Int)) (fun i => ((tM (4 * K i)).2.1 : Int)) (fun i => (tM (4 * K i)).2.2) ∧ RowB w h 0 n G) := hrow
  have HZ : Hid ((m = 0 ∨ ∃ b o : Nat, sz = some ⟨b, o, none⟩ ∧ RowI w b o m Z)) := hz
  clear hrow h hz
  have HO : Hid (∀ j, j < m → goE n G Z j = 0) := hok
  have HC : Hid (∀ W, Below w.heap.size w W → Calls Tryz.prog 15 #[.slice sl c d] W fun e w' => e = .returned (.int .i64 0) ∧ Below W.heap.size W w') := hc
  have HJ : Hid (∀ W, Below w.heap.size w W → Calls Tryz.prog 54 #[.slice sl c d] W fun e w' => e = .returned (.agg #[.int .i64 ((tM (4 * jsN J c)).1 : Int), .int .i64 ((tM (4 * jsN J c)).2.1 : Int), .bool (tM (4 * jsN J c)).2.2]) ∧ Below W.heap.size W w') := hj
  clear hok hc hj
  go_enter Tryz.func18, Tryz.ntmps18
  go_wp2_with fail
  go_loopw [9] (fun ti wl => ∃ k : Nat, k ≤ m ∧ ti = .int .i64 k ∧ At wl (w.heap.size) [.int .i64 0, .int .i64 0, .bool false] ∧ At wl (w.heap.size + 1) [.int .i64 ((tM (4 * nsN K Z k)).1 : Int), .int .i64 ((tM (4 * nsN K Z k)).2.1 : Int), .bool (tM (4 * nsN K Z k)).2.2] ∧ Below w.heap.size w wl) (fun ti _ => m - (intOf ti).toNat)
  case atStart => exact ⟨0, by omega, rfl, by repeat (first | (with_reducible first | assumption | (refine at_new' _ _ _ _ ?_; first | rfl | (simp; done)) | refine At.alloc ?_ _ | refine At.drew ?_ | refine At.drewN ?_ | refine At.set ?_ (by omega) | apply At.store4 | apply At.store3 | apply At.store2 | apply At.put43) | refine At.below ?_ (by with_reducible assumption)), by show At _ _ [.int .i64 0, .int .i64 0, .bool true]; exact (by repeat (first | (with_reducible first | assumption | (refine at_new' _ _ _ _ ?_; first | rfl | (simp; done)) | refine At.alloc ?_ _ | refine At.drew ?_ | refine At.drewN ?_ | refine At.set ?_ (by omega) | apply At.store4 | apply At.store3 | apply At.store2 | apply At.put43) | refine At.below ?_ (by with_reducible assumption))), by repeat (first | (with_reducible first | exact Below.refl _ _ | assumption | refine Below.setCell ?_ (by first | simp <;> omega | omega) _ | refine Below.alloc ?_ (by first | simp <;> omega | omega) _) | refine bl_call ?_ (by assumption) (by first | simp <;> omega | omega) | (with_reducible first | refine bl_drewN ?_ | refine Below.drew ?_ | refine bl_grow ?_ (by first | simp <;> omega | omega)))⟩
  case round =>
    obtain ⟨k, hk, rfl, krV, ksV, hqV⟩ := hrel
    rename World => V
    have hzV := hqV.size
    obtain ⟨zrV, cr0V, cr1V, cr2V, fr0V, fr1V, fr2V⟩ := krV.three
    obtain ⟨zsV, cs0V, cs1V, cs2V, fs0V, fs1V, fs2V⟩ := ksV.three
    have kpV := HP.out.below hqV
    obtain ⟨zpV, cp0V, cp1V, fp0V, fp1V⟩ := kpV.two
    by_cases hlt : k < m
    · have hk0 := HO.out k hlt
      have hlt' : (k : Int) < m := by omega
      obtain ⟨b, o, rfl, hzr⟩ : ∃ b o : Nat, sz = some ⟨b, o, none⟩ ∧ RowI w b o m Z := HZ.out.resolve_left (by omega)
      have hb := hzr.1
      have HZr : Hid (RowI w b o m Z) := hzr
      have hbV := Nat.lt_of_lt_of_le hb hzV
      have c0 := (hzr.below hb hqV).2 k hlt
      clear hzr
      obtain ⟨a1, a2, a3⟩ := goE_ok hk0
      obtain ⟨z, hz⟩ : ∃ z : Nat, Z k = (z : Int) := ⟨(Z k).toNat, by have := inN_yes a1; omega⟩
      have hzn : z < n := by have := inN_yes a1; omega
      have HZz : Hid (Z k = (z : Int)) := hz
      rw [hz] at c0
      rw [hz, Int.toNat_natCast] at a2
      clear a1 hz
      have t1 : ¬ (z : Int) < 0 := by omega
      have t2 : ¬ (z : Int) ≥ n := by omega
      obtain ⟨g, h, rfl, rfl, r1, r2⟩ := HR.out.resolve_left (by omega)
      have HG1 : Hid (RowO w g 0 n (fun i => ((tM (4 * K i)).1 : Int)) (fun i => ((tM (4 * K i)).2.1 : Int)) (fun i => (tM (4 * K i)).2.2)) := r1
      have hg := r1.1
      have hgV := Nat.lt_of_lt_of_le r1.1 hzV
      have hhV := Nat.lt_of_lt_of_le r2.1 hzV
      have d0 := (r2.below r2.1 hqV).2 z hzn
      rw [Nat.zero_add, a2] at d0
      clear r1 r2 a2
      go_wp2_with fail
      go_loopw [11] (fun tj wl => ∃ j : Nat, j ≤ k ∧ tj = .int .i64 j ∧ (∀ i, i < j → Z i ≠ (z : Int)) ∧ At wl (w.heap.size) [.int .i64 0, .int .i64 0, .bool false] ∧ At wl (w.heap.size + 1) [.int .i64 ((tM (4 * nsN K Z k)).1 : Int), .int .i64 ((tM (4 * nsN K Z k)).2.1 : Int), .bool (tM (4 * nsN K Z k)).2.2] ∧ Below w.heap.size w wl) (fun tj _ => k - (intOf tj).toNat)
      case atStart => exact ⟨0, by omega, rfl, fun i hi => absurd hi (Nat.not_lt_zero _), krV, ksV, hqV⟩
      case round =>
        clear c0 d0 cp0V cp1V fp0V fp1V kpV krV cr0V fr0V cr1V fr1V cr2V fr2V ksV cs0V fs0V cs1V fs1V cs2V fs2V hqV
        obtain ⟨j, hj, rfl, hno, krU, ksU, hqU⟩ := hrel
        rename World => U
        have HNO : Hid (∀ i, i < j → Z i ≠ (z : Int)) := hno
        clear hno
        have hzU := hqU.size
        obtain ⟨zrU, cr0U, cr1U, cr2U, fr0U, fr1U, fr2U⟩ := krU.three
        obtain ⟨zsU, cs0U, cs1U, cs2U, fs0U, fs1U, fs2U⟩ := ksU.three
        have kpU := HP.out.below hqU
        obtain ⟨zpU, cp0U, cp1U, fp0U, fp1U⟩ := kpU.two
        have hbU : b < U.heap.size := Nat.lt_of_lt_of_le hb hzU
        have hgU : g < U.heap.size := Nat.lt_of_lt_of_le hg hzU
        by_cases hjk : j < k
        · have hjk' : (j : Int) < k := by omega
          have q0 := (HZr.out.below hb hqU).2 j (by omega)
          have QNE : Z j ≠ (z : Int) := fun e => dupB_no a3 j hjk (e.trans HZz.out.symm)
          have qt : (Z j == (z : Int)) = false := by rw [beq_eq_false_iff_ne]; exact QNE
          go_wp2_with fail
          go_roundw
          case rel => exact ⟨j + 1, by omega, by simp, fun i hi => by
              rcases Nat.lt_succ_iff_lt_or_eq.1 hi with e | rfl
              · exact HNO.out i e
              · exact QNE, by repeat (first | (with_reducible first | assumption | (refine at_new' _ _ _ _ ?_; first | rfl | (simp; done)) | refine At.alloc ?_ _ | refine At.drew ?_ | refine At.drewN ?_ | refine At.set ?_ (by omega) | apply At.store4 | apply At.store3 | apply At.store2 | apply At.put43) | refine At.below ?_ (by with_reducible assumption)), by repeat (first | (with_reducible first | assumption | (refine at_new' _ _ _ _ ?_; first | rfl | (simp; done)) | refine At.alloc ?_ _ | refine At.drew ?_ | refine At.drewN ?_ | refine At.set ?_ (by omega) | apply At.store4 | apply At.store3 | apply At.store2 | apply At.put43) | refine At.below ?_ (by with_reducible assumption)), by repeat (first | (with_reducible first | exact Below.refl _ _ | assumption | refine Below.setCell ?_ (by first | simp <;> omega | omega) _ | refine Below.alloc ?_ (by first | simp <;> omega | omega) _) | refine bl_call ?_ (by assumption) (by first | simp <;> omega | omega) | (with_reducible first | refine bl_drewN ?_ | refine Below.drew ?_ | refine bl_grow ?_ (by first | simp <;> omega | omega)))⟩
          case measure => simp [intOf]; omega
        · have hjk' : ¬ (j : Int) < k := by omega
          obtain rfl : j = k := by omega
          have E : Hid (tM (4 * nsN K Z j + 4 * (1012 * K z)) = tM (4 * nsN K Z (j + 1))) := ns_step K Z HZz.out
          obtain ⟨e0, e1, e2⟩ := (HG1.out.below hg hqU).2 z hzn
          rw [Nat.zero_add] at e0 e1 e2
          go_wp2_with fail
          refine below_gate 10 1 #[true, true, true, true, true, true, true, true, true, true, false] (by kernel_rfl) (by kernel_rfl) rfl rfl ?_
          dsimp only [List.take]
          repeat (go_big_quiet_step (first | (go_at_call 53; with_reducible exact Calls.regrown_of (rneg_4 _ _)) | (go_at_call 45; with_reducible exact Calls.regrown_of (radd_tM _ _ _))))
          refine wpQuiet_nil ?_
          intro W1 hw1
          have hrW1 := regrown_below hw1
          clear hw1
          have krW1 := krU.below hrW1
          have ksW1 := ksU.below hrW1
          have kpW1 := kpU.below hrW1
          have hqW1 := bl_call hqU hrW1 (by omega)
          have hzW1 := hqW1.size
          clear hrW1 krU cr0U fr0U cr1U fr1U cr2U fr2U ksU cs0U fs0U cs1U fs1U cs2U fs2U kpU cp0U fp0U cp1U fp1U hqU
          obtain ⟨zrW1, cr0W1, cr1W1, cr2W1, fr0W1, fr1W1, fr2W1⟩ := krW1.three
          obtain ⟨zsW1, cs0W1, cs1W1, cs2W1, fs0W1, fs1W1, fs2W1⟩ := ksW1.three
          obtain ⟨zpW1, cp0W1, cp1W1, fp0W1, fp1W1⟩ := kpW1.two
          refine wpAny_ready (rs := [10]) (by kernel_rfl) (by simp) (AllReady.cons rfl (fun K hK => ?_) AllReady.nil)
          go_simp
          refine hK _ _ ?_
          clear hK K
          refine wpAny_done (by kernel_rfl) ?_ _
          go_wp2_with fail
          go_roundw
          case rel => exact ⟨j + 1, by omega, by simp, by repeat (first | (with_reducible first | assumption | (refine at_new' _ _ _ _ ?_; first | rfl | (simp; done)) | refine At.alloc ?_ _ | refine At.drew ?_ | refine At.drewN ?_ | refine At.set ?_ (by omega) | apply At.store4 | apply At.store3 | apply At.store2 | apply At.put43) | refine At.below ?_ (by with_reducible assumption)), by rw [← E.out]; exact (show At _ _ [.int .i64 ((tM (4 * nsN K Z j + 4 * (1012 * K z))).1 : Int), .int .i64 ((tM (4 * nsN K Z j + 4 * (1012 * K z))).2.1 : Int), .bool (tM (4 * nsN K Z j + 4 * (1012 * K z))).2.2] from by repeat (first | (with_reducible first | assumption | (refine at_new' _ _ _ _ ?_; first | rfl | (simp; done)) | refine At.alloc ?_ _ | refine At.drew ?_ | refine At.drewN ?_ | refine At.set ?_ (by omega) | apply At.store4 | apply At.store3 | apply At.store2 | apply At.put43) | refine At.below ?_ (by with_reducible assumption))), by repeat (first | (with_reducible first | exact Below.refl _ _ | assumption | refine Below.setCell ?_ (by first | simp <;> omega | omega) _ | refine Below.alloc ?_ (by first | simp <;> omega | omega) _) | refine bl_call ?_ (by assumption) (by first | simp <;> omega | omega) | (with_reducible first | refine bl_drewN ?_ | refine Below.drew ?_ | refine bl_grow ?_ (by first | simp <;> omega | omega)))⟩
          case measure => simp [intOf]; omega
    · have hlt' : ¬ (k : Int) < m := by omega
      obtain rfl : k = m := by omega
      have E : Hid (tM (4 * nsN K Z k + 4 * jsN J c) = tM (4 * exN K Z k J c)) := by unfold Hid exN; rw [Nat.mul_add]
      have m1 : True := trivial
      go_upto_region 19 with (go_at_call 15; clear m1; refine (HC.out _ (by repeat (first | (with_reducible first | exact Below.refl _ _ | assumption | refine Below.setCell ?_ (by first | simp <;> omega | omega) _ | refine Below.alloc ?_ (by first | simp <;> omega | omega) _) | refine bl_call ?_ (by assumption) (by first | simp <;> omega | omega) | (with_reducible first | refine bl_drewN ?_ | refine Below.drew ?_ | refine bl_grow ?_ (by first | simp <;> omega | omega))))).mono ?_; rintro e w1 ⟨rfl, hbw1⟩; have krw1 : At w1 (w.heap.size) [.int .i64 0, .int .i64 0, .bool false] := (by repeat (first | (with_reducible first | assumption | (refine at_new' _ _ _ _ ?_; first | rfl | (simp; done)) | refine At.alloc ?_ _ | refine At.drew ?_ | refine At.drewN ?_ | refine At.set ?_ (by omega) | apply At.store4 | apply At.store3 | apply At.store2 | apply At.put43) | refine At.below ?_ (by with_reducible assumption))); have ksw1 : At w1 (w.heap.size + 1) [.int .i64 ((tM (4 * nsN K Z k)).1 : Int), .int .i64 ((tM (4 * nsN K Z k)).2.1 : Int), .bool (tM (4 * nsN K Z k)).2.2] := (by repeat (first | (with_reducible first | assumption | (refine at_new' _ _ _ _ ?_; first | rfl | (simp; done)) | refine At.alloc ?_ _ | refine At.drew ?_ | refine At.drewN ?_ | refine At.set ?_ (by omega) | apply At.store4 | apply At.store3 | apply At.store2 | apply At.put43) | refine At.below ?_ (by with_reducible assumption))); have hqw1 : Below w.heap.size w w1 := (by repeat (first | (with_reducible first | exact Below.refl _ _ | assumption | refine Below.setCell ?_ (by first | simp <;> omega | omega) _ | refine Below.alloc ?_ (by first | simp <;> omega | omega) _) | refine bl_call ?_ (by assumption) (by first | simp <;> omega | omega) | (with_reducible first | refine bl_drewN ?_ | refine Below.drew ?_ | refine bl_grow ?_ (by first | simp <;> omega | omega)))); have hzw1 := hqw1.size; obtain ⟨zrw1, cr0w1, cr1w1, cr2w1, fr0w1, fr1w1, fr2w1⟩ := krw1.three; obtain ⟨zsw1, cs0w1, cs1w1, cs2w1, fs0w1, fs1w1, fs2w1⟩ := ksw1.three; clear krV cr0V fr0V cr1V fr1V cr2V fr2V ksV cs0V fs0V cs1V fs1V cs2V fs2V hqV; clear hbw1)
      have HJV : Hid (∀ W, Below w1.heap.size w1 W → Calls Tryz.prog 54 #[.slice sl c d] W fun e w' => e = .returned (.agg #[.int .i64 ((tM (4 * jsN J c)).1 : Int), .int .i64 ((tM (4 * jsN J c)).2.1 : Int), .bool (tM (4 * jsN J c)).2.2]) ∧ Below W.heap.size W w') := fun W hW => HJ.out W (bl_call hqw1 hW hzw1)
      refine below_gate 4 2 #[true, true, true, true, false, false] (by kernel_rfl) (by kernel_rfl) rfl rfl ?_
      dsimp only [List.take]
      repeat (go_big_quiet_step (first | (go_at_call 54; with_reducible exact Calls.regrown_of (HJV.out _ (below_regrown _ _ _))) | (go_at_call 45; with_reducible exact Calls.regrown_of (radd_tM _ _ _))))
      refine wpQuiet_nil ?_
      intro W1 hw1
      have hrW1 := regrown_below hw1
      clear hw1
      have krW1 := krw1.below hrW1
      have ksW1 := ksw1.below hrW1
      have hqW1 := bl_call hqw1 hrW1 (by omega)
      have hzW1 := hqW1.size
      clear hrW1 krw1 cr0w1 fr0w1 cr1w1 fr1w1 cr2w1 fr2w1 ksw1 cs0w1 fs0w1 cs1w1 fs1w1 cs2w1 fs2w1 hqw1
      obtain ⟨zrW1, cr0W1, cr1W1, cr2W1, fr0W1, fr1W1, fr2W1⟩ := krW1.three
      obtain ⟨zsW1, cs0W1, cs1W1, cs2W1, fs0W1, fs1W1, fs2W1⟩ := ksW1.three
      refine wpAny_ready (rs := [4]) (by kernel_rfl) (by simp) (AllReady.cons rfl (fun K hK => ?_) AllReady.nil)
      go_simp
      refine hK _ _ ?_
      clear hK K
      refine wpAny_ready (rs := [5]) (by kernel_rfl) (by simp) (AllReady.cons rfl (fun K hK => ?_) AllReady.nil)
      go_simp
      refine hK _ _ ?_
      clear hK K
      refine wpAny_done (by kernel_rfl) ?_ _
      rw [E.out]
      go_wp2_with fail
      exact bodyPost_ret (v := .tuple #[.agg #[.int .i64 ((tM (4 * exN K Z k J c)).1 : Int), .int .i64 ((tM (4 * exN K Z k J c)).2.1 : Int), .bool (tM (4 * exN K Z k J c)).2.2], .int .i64 0]) (by simp [results, Tryz.results18, go_sem, *]) rfl ⟨rfl, by repeat (first | (with_reducible first | exact Below.refl _ _ | assumption | refine Below.setCell ?_ (by first | simp <;> omega | omega) _ | refine Below.alloc ?_ (by first | simp <;> omega | omega) _) | refine bl_call ?_ (by assumption) (by first | simp <;> omega | omega) | (with_reducible first | refine bl_drewN ?_ | refine Below.drew ?_ | refine bl_grow ?_ (by first | simp <;> omega | omega)))⟩
set_option maxRecDepth 100000 in
set_option maxHeartbeats 4000000 in
theorem bjoin (sl : Option Addr) (n d : Nat) (X Y : Nat → Int) (F : Nat → Bool) (J : Nat → Nat) (w : World) (hn : n ≤ 1000000) (hr : (n = 0 ∨ ∃ b o : Nat, sl = some ⟨b, o, none⟩ ∧ RowO w b o n X Y F)) (hK : isC X Y F J n) : Calls Tryz.prog 54 #[.slice sl n d] w fun e w' => e = .returned (.agg #[.int .i64 ((tM (4 * jsN J n)).1 : Int), .int .i64 ((tM (4 * jsN J n)).2.1 : Int), .bool (tM (4 * jsN J n)).2.2]) ∧ Below w.heap.size w w' := by
  have HR : Hid ((n = 0 ∨ ∃ b o : Nat, sl = some ⟨b, o, none⟩ ∧ RowO w b o n X Y F)) := hr
  have HK : Hid (isC X Y F J n) := hK
  clear hr hK
  go_enter Tryz.func54, Tryz.ntmps54
  go_wp2_with fail
  go_loopw [4] (fun ti wl => ∃ k : Nat, k ≤ n ∧ ti = .int .i64 k ∧ At wl (w.heap.size) [.int .i64 0, .int .i64 0, .bool false] ∧ At wl (w.heap.size + 1) [.int .i64 ((tM (4 * jsN J k)).1 : Int), .int .i64 ((tM (4 * jsN J k)).2.1 : Int), .bool (tM (4 * jsN J k)).2.2] ∧ Below w.heap.size w wl) (fun ti _ => n - (intOf ti).toNat)
  case atStart => exact ⟨0, by omega, rfl, by repeat (first | (with_reducible first | assumption | (refine at_new' _ _ _ _ ?_; first | rfl | (simp; done)) | refine At.alloc ?_ _ | refine At.drew ?_ | refine At.drewN ?_ | refine At.set ?_ (by omega) | apply At.store4 | apply At.store3 | apply At.store2 | apply At.put43) | refine At.below ?_ (by with_reducible assumption)), by show At _ _ [.int .i64 0, .int .i64 0, .bool true]; exact (by repeat (first | (with_reducible first | assumption | (refine at_new' _ _ _ _ ?_; first | rfl | (simp; done)) | refine At.alloc ?_ _ | refine At.drew ?_ | refine At.drewN ?_ | refine At.set ?_ (by omega) | apply At.store4 | apply At.store3 | apply At.store2 | apply At.put43) | refine At.below ?_ (by with_reducible assumption))), by repeat (first | (with_reducible first | exact Below.refl _ _ | assumption | refine Below.setCell ?_ (by first | simp <;> omega | omega) _ | refine Below.alloc ?_ (by first | simp <;> omega | omega) _) | refine bl_call ?_ (by assumption) (by first | simp <;> omega | omega) | (with_reducible first | refine bl_drewN ?_ | refine Below.drew ?_ | refine bl_grow ?_ (by first | simp <;> omega | omega)))⟩
  case round =>
    obtain ⟨k, hk, rfl, krV, kpV, hqV⟩ := hrel
    rename World => V
    have hzV := hqV.size
    obtain ⟨zrV, cr0V, cr1V, cr2V, fr0V, fr1V, fr2V⟩ := krV.three
    obtain ⟨zpV, cp0V, cp1V, cp2V, fp0V, fp1V, fp2V⟩ := kpV.three
    by_cases hlt : k < n
    · have hlt' : (k : Int) < n := by omega
      obtain ⟨b, o, rfl, hz⟩ : ∃ b o : Nat, sl = some ⟨b, o, none⟩ ∧ RowO w b o n X Y F := HR.out.resolve_left (by omega)
      have hbV := Nat.lt_of_lt_of_le hz.1 hzV
      obtain ⟨c0, c1, c2⟩ := (hz.below hz.1 hqV).2 k hlt
      obtain ⟨e0, e1, e2⟩ := HK.out k hlt
      rw [e0] at c0
      rw [e1] at c1
      rw [e2] at c2
      clear e0 e1 e2 hz
      have E : Hid (tM (4 * jsN J k + 4 * J k) = tM (4 * jsN J (k + 1))) := by unfold Hid; rw [← Nat.mul_add]; rfl
      go_wp2_with fail
      refine below_gate 6 1 #[true, true, true, true, true, true, false] (by kernel_rfl) (by kernel_rfl) rfl rfl ?_
      dsimp only [List.take]
      repeat (go_big_quiet_step (first | (go_at_call 45; with_reducible exact Calls.regrown_of (radd_tM _ _ _))))
      refine wpQuiet_nil ?_
      intro W1 hw1
      have hrW1 := regrown_below hw1
      clear hw1
      have krW1 := krV.below hrW1
      have kpW1 := kpV.below hrW1
      have hqW1 := bl_call hqV hrW1 (by omega)
      have hzW1 := hqW1.size
      clear hrW1 krV cr0V fr0V cr1V fr1V cr2V fr2V kpV cp0V fp0V cp1V fp1V cp2V fp2V hqV
      obtain ⟨zrW1, cr0W1, cr1W1, cr2W1, fr0W1, fr1W1, fr2W1⟩ := krW1.three
      obtain ⟨zpW1, cp0W1, cp1W1, cp2W1, fp0W1, fp1W1, fp2W1⟩ := kpW1.three
      refine wpAny_ready (rs := [6]) (by kernel_rfl) (by simp) (AllReady.cons rfl (fun K hK => ?_) AllReady.nil)
      go_simp
      refine hK _ _ ?_
      clear hK K
      refine wpAny_done (by kernel_rfl) ?_ _
      go_wp2_with fail
      go_roundw
      case rel => exact ⟨k + 1, by omega, by simp, by repeat (first | (with_reducible first | assumption | (refine at_new' _ _ _ _ ?_; first | rfl | (simp; done)) | refine At.alloc ?_ _ | refine At.drew ?_ | refine At.drewN ?_ | refine At.set ?_ (by omega) | apply At.store4 | apply At.store3 | apply At.store2 | apply At.put43) | refine At.below ?_ (by with_reducible assumption)), by rw [← E.out]; exact (show At _ _ [.int .i64 ((tM (4 * jsN J k + 4 * J k)).1 : Int), .int .i64 ((tM (4 * jsN J k + 4 * J k)).2.1 : Int), .bool (tM (4 * jsN J k + 4 * J k)).2.2] from by repeat (first | (with_reducible first | assumption | (refine at_new' _ _ _ _ ?_; first | rfl | (simp; done)) | refine At.alloc ?_ _ | refine At.drew ?_ | refine At.drewN ?_ | refine At.set ?_ (by omega) | apply At.store4 | apply At.store3 | apply At.store2 | apply At.put43) | refine At.below ?_ (by with_reducible assumption))), by repeat (first | (with_reducible first | exact Below.refl _ _ | assumption | refine Below.setCell ?_ (by first | simp <;> omega | omega) _ | refine Below.alloc ?_ (by first | simp <;> omega | omega) _) | refine bl_call ?_ (by assumption) (by first | simp <;> omega | omega) | (with_reducible first | refine bl_drewN ?_ | refine Below.drew ?_ | refine bl_grow ?_ (by first | simp <;> omega | omega)))⟩
      case measure => simp [intOf]; omega
    · have hlt' : ¬ (k : Int) < n := by omega
      obtain rfl : k = n := by omega
      go_wp2_with fail
      exact bodyPost_ret (v := .agg #[.int .i64 ((tM (4 * jsN J k)).1 : Int), .int .i64 ((tM (4 * jsN J k)).2.1 : Int), .bool (tM (4 * jsN J k)).2.2]) (by simp [results, Tryz.results54, go_sem, *]) rfl ⟨rfl, by repeat (first | (with_reducible first | exact Below.refl _ _ | assumption | refine Below.setCell ?_ (by first | simp <;> omega | omega) _ | refine Below.alloc ?_ (by first | simp <;> omega | omega) _) | refine bl_call ?_ (by assumption) (by first | simp <;> omega | omega) | (with_reducible first | refine bl_drewN ?_ | refine Below.drew ?_ | refine bl_grow ?_ (by first | simp <;> omega | omega)))⟩
end Go.Proofs.YtpkkclcjiobgoajGreatDoor
