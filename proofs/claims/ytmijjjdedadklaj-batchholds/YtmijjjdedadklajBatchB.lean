/- What the inner functions of package batch answer: weighed, answered. -/
import Derived.Test.YtmijjjdedadklajBatchA
namespace Go.Proofs.Ytmijjjdedadklaj
open Go.RowKit Go.Sort
set_option linter.unusedVariables false
set_option linter.unusedSimpArgs false
theorem bsum_bd {W S : Nat → Nat} : ∀ {n : Nat}, (∀ i, i < n → W i < 1013 ∧ S i < 1013) → jsN (fun i => W i * S i) n ≤ n * 1100000
  | 0, _ => Nat.zero_le _
  | n + 1, h => by
    have h1 := bsum_bd (n := n) fun i hi => h i (by omega)
    have h2 : W n * S n ≤ 1013 * 1013 := Nat.mul_le_mul (by have := (h n (by omega)).1; omega) (by have := (h n (by omega)).2; omega)
    show jsN _ n + W n * S n ≤ _
    omega
set_option maxRecDepth 100000 in
set_option maxHeartbeats 4000000 in
theorem bweigh_row (sl sw : Option Addr) (n dl dw : Nat) (I : Nat → BatI) (K R S W : Nat → Nat) (w : World) (hn : n ≤ 12) (hl : (n = 0 ∨ ∃ b o : Nat, sl = some ⟨b, o, none⟩ ∧ RowL w b o n I)) (hw : (n = 0 ∨ ∃ b o : Nat, sw = some ⟨b, o, none⟩ ∧ RowI w b o n (fun i => (I i).w))) (ho : (∀ i, i < n → BatOk (I i) (K i) (R i) (S i) (W i))) :
    Calls Try.prog 46 #[.slice sl n dl, .slice sw n dw] w fun e w' => e = .returned (.int .i64 ((jsN (fun i => W i * S i) n) : Int)) ∧ Below w.heap.size w w' := by
  have HRL : Hid ((n = 0 ∨ ∃ b o : Nat, sl = some ⟨b, o, none⟩ ∧ RowL w b o n I)) := hl
  have HRW : Hid ((n = 0 ∨ ∃ b o : Nat, sw = some ⟨b, o, none⟩ ∧ RowI w b o n (fun i => (I i).w))) := hw
  have HO : Hid ((∀ i, i < n → BatOk (I i) (K i) (R i) (S i) (W i))) := ho
  have HB : Hid (∀ k, k ≤ n → (jsN (fun i => W i * S i) k) ≤ k * 1100000) := fun k hk => bsum_bd fun i hi => ⟨(ho i (by omega)).hw2, (ho i (by omega)).hlt⟩
  clear hl hw ho
  go_enter Try.func46, Try.ntmps46
  go_wp2_with fail
  go_loopw [5, 10] (fun ts ti wl => ∃ k : Nat, k ≤ n ∧ ti = .int .i64 k ∧ ts = .int .i64 ((jsN (fun i => W i * S i) k) : Int) ∧ Below w.heap.size w wl) (fun _ ti _ => n - (intOf ti).toNat)
  case atStart => exact ⟨0, by omega, rfl, rfl, by repeat (first | (with_reducible exact Below.refl _ _) | (with_reducible assumption) | (with_reducible refine Below.setCell ?_ (by first | (simp; done) | (simp; omega) | omega) _) | (with_reducible refine Below.alloc ?_ (by first | (simp; done) | (simp; omega) | omega) _) | (refine bl_call ?_ (by assumption) (by first | (simp; done) | (simp; omega) | omega)) | (with_reducible refine bl_drewN ?_) | (with_reducible refine Below.drew ?_) | (with_reducible refine bl_grow ?_ (by first | (simp; done) | (simp; omega) | omega)))⟩
  case round =>
    obtain ⟨k, hk, rfl, rfl, hqV⟩ := hrel
    rename World => V
    have hzV := hqV.size
    by_cases hlt : k < n
    · have hlt' : (k : Int) < n := by omega
      obtain ⟨bl, ol, rfl, rl⟩ := HRL.out.resolve_left (by omega)
      have Rl : Hid (RowL w bl ol n I) := rl
      obtain ⟨bw, ow, rfl, rw⟩ := HRW.out.resolve_left (by omega)
      have Rw : Hid (RowI w bw ow n (fun i => (I i).w)) := rw
      have hblV := Nat.lt_of_lt_of_le rl.1 hzV
      obtain ⟨l0, l1, l2, l3⟩ := (rl.below rl.1 hqV).2 k hlt
      clear rl rw
      have hb := HB.out k hk
      have hb2 := HB.out (k + 1) hlt
      have hstep : (jsN (fun i => W i * S i) (k + 1)) = (jsN (fun i => W i * S i) k) + W k * S k := rfl
      have hs := (HO.out k hlt).hs
      have hwk := (HO.out k hlt).hw
      rw [hs] at l3
      obtain ⟨a, ha⟩ : ∃ a, (jsN (fun i => W i * S i) k) = a := ⟨_, rfl⟩
      obtain ⟨s, hs'⟩ : ∃ s, S k = s := ⟨_, rfl⟩
      obtain ⟨v, hv'⟩ : ∃ v, W k = v := ⟨_, rfl⟩
      obtain ⟨u, hu⟩ : ∃ u, v * s = u := ⟨_, rfl⟩
      rw [ha] at hb hstep
      rw [hv', hs', hu] at hstep
      rw [hstep] at hb2
      rw [hs'] at l3
      rw [hv'] at hwk
      rw [ha]
      have hm : (v : Int) * (s : Int) = (u : Int) := by rw [← hu, Int.natCast_mul]
      have HX : Hid ((jsN (fun i => W i * S i) (k + 1)) = a + u) := hstep
      clear hstep ha hs' hv' hu hs
      go_wp2_with fail
      refine wp_gen (fun Y => At Y (V.heap.size) [.int .i64 (I k).rx, .int .i64 (I k).ry, .bool (I k).rf, .int .i64 (s : Int)] ∧ Below w.heap.size w Y) ⟨by repeat (first | (with_reducible assumption) | ((with_reducible refine at_new' _ _ _ _ ?_); (first | rfl | (simp; done))) | (with_reducible refine At.alloc ?_ _) | (with_reducible refine At.drew ?_) | (with_reducible refine At.drewN ?_) | (with_reducible refine At.set ?_ (by omega)) | (with_reducible apply At.store4) | (with_reducible apply At.store3) | (with_reducible apply At.store2) | (with_reducible apply At.put43) | (refine At.below ?_ (by with_reducible assumption))), by repeat (first | (with_reducible exact Below.refl _ _) | (with_reducible assumption) | (with_reducible refine Below.setCell ?_ (by first | (simp; done) | (simp; omega) | omega) _) | (with_reducible refine Below.alloc ?_ (by first | (simp; done) | (simp; omega) | omega) _) | (refine bl_call ?_ (by assumption) (by first | (simp; done) | (simp; omega) | omega)) | (with_reducible refine bl_drewN ?_) | (with_reducible refine Below.drew ?_) | (with_reducible refine bl_grow ?_ (by first | (simp; done) | (simp; omega) | omega)))⟩ ?_
      rintro Y ⟨ksY, hqY⟩
      have hzY := hqY.size
      obtain ⟨zsY, cs0Y, cs1Y, cs2Y, cs3Y, fs0Y, fs1Y, fs2Y, fs3Y⟩ := ksY.four
      have cw := (Rw.out.below Rw.out.1 hqY).2 k hlt
      have hbw := Nat.lt_of_lt_of_le Rw.out.1 hzY
      dsimp only at cw
      rw [hwk] at cw
      refine wp_region_quiet_below (by kernel_rfl) (by kernel_rfl) ?_
      repeat (go_big_quiet_step (first | fail))
      refine wpQuiet_nil ?_
      intro Z hw1
      have hrZ := regrown_below hw1
      clear hw1
      have ksZ := ksY.below hrZ
      have hqZ := bl_call hqY hrZ (by omega)
      have hzZ := hqZ.size
      clear hrZ ksY cs0Y fs0Y cs1Y fs1Y cs2Y fs2Y cs3Y fs3Y hqY
      obtain ⟨zsZ, cs0Z, cs1Z, cs2Z, cs3Z, fs0Z, fs1Z, fs2Z, fs3Z⟩ := ksZ.four
      go_wp2_with fail
      go_roundw
      case rel => exact ⟨k + 1, by omega, by simp, by rw [HX.out]; simp, by repeat (first | (with_reducible exact Below.refl _ _) | (with_reducible assumption) | (with_reducible refine Below.setCell ?_ (by first | (simp; done) | (simp; omega) | omega) _) | (with_reducible refine Below.alloc ?_ (by first | (simp; done) | (simp; omega) | omega) _) | (refine bl_call ?_ (by assumption) (by first | (simp; done) | (simp; omega) | omega)) | (with_reducible refine bl_drewN ?_) | (with_reducible refine Below.drew ?_) | (with_reducible refine bl_grow ?_ (by first | (simp; done) | (simp; omega) | omega)))⟩
      case measure => simp [intOf]; omega
    · have hlt' : ¬ (k : Int) < n := by omega
      obtain rfl : k = n := by omega
      go_wp2_with fail
      go_ret
      exact ⟨rfl, by repeat (first | (with_reducible exact Below.refl _ _) | (with_reducible assumption) | (with_reducible refine Below.setCell ?_ (by first | (simp; done) | (simp; omega) | omega) _) | (with_reducible refine Below.alloc ?_ (by first | (simp; done) | (simp; omega) | omega) _) | (refine bl_call ?_ (by assumption) (by first | (simp; done) | (simp; omega) | omega)) | (with_reducible refine bl_drewN ?_) | (with_reducible refine Below.drew ?_) | (with_reducible refine bl_grow ?_ (by first | (simp; done) | (simp; omega) | omega)))⟩
theorem browZ_at {w W : World} {b o n : Nat} {T : Nat → ByteArray} (h : RowZ w b o n T) (k : Below w.heap.size w W) {i : Nat} (hi : i < n) : b < W.heap.size ∧ W.cell? ⟨b, o + i, none⟩ = some (.string (T i)) :=
  ⟨Nat.lt_of_lt_of_le h.1 k.size, (h.below h.1 k).2 i hi⟩
theorem browI_at {w W : World} {b o n : Nat} {X : Nat → Int} {v : Int} (h : RowI w b o n X) (k : Below w.heap.size w W) {i : Nat} (hi : i < n) (hv : X i = v) : b < W.heap.size ∧ W.cell? ⟨b, o + i, none⟩ = some (.int .i64 v) :=
  ⟨Nat.lt_of_lt_of_le h.1 k.size, by rw [← hv]; exact (h.below h.1 k).2 i hi⟩
theorem browL_at {w W : World} {b o n : Nat} {I : Nat → BatI} (h : RowL w b o n I) (k : Below w.heap.size w W) {i : Nat} (hi : i < n) : b < W.heap.size ∧ W.cell? ⟨b, o + i * 4, none⟩ = some (.int .i64 (I i).rx) ∧ W.cell? ⟨b, o + i * 4 + 1, none⟩ = some (.int .i64 (I i).ry) ∧ W.cell? ⟨b, o + i * 4 + 2, none⟩ = some (.bool (I i).rf) :=
  ⟨Nat.lt_of_lt_of_le h.1 k.size, ((h.below h.1 k).2 i hi).1, ((h.below h.1 k).2 i hi).2.1, ((h.below h.1 k).2 i hi).2.2.1⟩
theorem brow_tl {w W : World} {b o b' o' n : Nat} {I : Nat → BatI} (h : RowZ w b o n (fun i => (I i).t)) (h' : RowL w b' o' n I) (k : Below w.heap.size w W) {i : Nat} (hi : i < n) : (b < W.heap.size ∧ W.cell? ⟨b, o + i, none⟩ = some (.string (I i).t)) ∧ (b' < W.heap.size ∧ W.cell? ⟨b', o' + i * 4, none⟩ = some (.int .i64 (I i).rx) ∧ W.cell? ⟨b', o' + i * 4 + 1, none⟩ = some (.int .i64 (I i).ry) ∧ W.cell? ⟨b', o' + i * 4 + 2, none⟩ = some (.bool (I i).rf)) := ⟨browZ_at h k hi, browL_at h' k hi⟩
set_option maxRecDepth 100000 in
set_option maxHeartbeats 4000000 in
theorem bans_row (sk st sl sw : Option Addr) (n dk dt dl dw : Nat) (I : Nat → BatI) (w : World) (K R S W : Nat → Nat) (hn : n ≤ 12) (hk : (n = 0 ∨ ∃ b o : Nat, sk = some ⟨b, o, none⟩ ∧ RowO w b o n (fun i => (I i).kx) (fun i => (I i).ky) (fun i => (I i).kf))) (ht : (n = 0 ∨ ∃ b o : Nat, st = some ⟨b, o, none⟩ ∧ RowZ w b o n (fun i => (I i).t))) (hl : (n = 0 ∨ ∃ b o : Nat, sl = some ⟨b, o, none⟩ ∧ RowL w b o n I)) (hw : (n = 0 ∨ ∃ b o : Nat, sw = some ⟨b, o, none⟩ ∧ RowI w b o n (fun i => (I i).w))) (ho : (∀ i, i < n → BatOk (I i) (K i) (R i) (S i) (W i))) : Calls Try.prog 47 #[.slice sk n dk, .slice st n dt, .slice sl n dl, .slice sw n dw] w fun e w' => e = .returned (.tuple #[.agg #[.int .i64 ((tM (jsN (fun i => (R i + K i * askN (R i) (K i) (I i).t) * W i) n)).1 : Int), .int .i64 ((tM (jsN (fun i => (R i + K i * askN (R i) (K i) (I i).t) * W i) n)).2.1 : Int), .bool (tM (jsN (fun i => (R i + K i * askN (R i) (K i) (I i).t) * W i) n)).2.2], .nilIface]) ∧ Below w.heap.size w w' := by
  have HRK : Hid ((n = 0 ∨ ∃ b o : Nat, sk = some ⟨b, o, none⟩ ∧ RowO w b o n (fun i => (I i).kx) (fun i => (I i).ky) (fun i => (I i).kf))) := hk
  have HRT : Hid ((n = 0 ∨ ∃ b o : Nat, st = some ⟨b, o, none⟩ ∧ RowZ w b o n (fun i => (I i).t))) := ht
  have HRL : Hid ((n = 0 ∨ ∃ b o : Nat, sl = some ⟨b, o, none⟩ ∧ RowL w b o n I)) := hl
  have HRW : Hid ((n = 0 ∨ ∃ b o : Nat, sw = some ⟨b, o, none⟩ ∧ RowI w b o n (fun i => (I i).w))) := hw
  clear hk ht hl hw
  have HO : Hid ((∀ i, i < n → BatOk (I i) (K i) (R i) (S i) (W i))) := ho
  clear ho
  go_enter Try.func47, Try.ntmps47
  go_wp2_with fail
  go_loopw [19] (fun ti wl => ∃ k : Nat, k ≤ n ∧ ti = .int .i64 k ∧ At wl (w.heap.size) [.int .i64 0, .int .i64 0, .bool false] ∧ At wl (w.heap.size + 1) [.int .i64 ((tM (jsN (fun i => (R i + K i * askN (R i) (K i) (I i).t) * W i) k)).1 : Int), .int .i64 ((tM (jsN (fun i => (R i + K i * askN (R i) (K i) (I i).t) * W i) k)).2.1 : Int), .bool (tM (jsN (fun i => (R i + K i * askN (R i) (K i) (I i).t) * W i) k)).2.2] ∧ Below w.heap.size w wl) (fun ti _ => n - (intOf ti).toNat)
  case atStart => exact ⟨0, by omega, rfl, by repeat (first | (with_reducible assumption) | ((with_reducible refine at_new' _ _ _ _ ?_); (first | rfl | (simp; done))) | (with_reducible refine At.alloc ?_ _) | (with_reducible refine At.drew ?_) | (with_reducible refine At.drewN ?_) | (with_reducible refine At.set ?_ (by omega)) | (with_reducible apply At.store4) | (with_reducible apply At.store3) | (with_reducible apply At.store2) | (with_reducible apply At.put43) | (refine At.below ?_ (by with_reducible assumption))), by show At _ _ [.int .i64 0, .int .i64 0, .bool true]; exact (by repeat (first | (with_reducible assumption) | ((with_reducible refine at_new' _ _ _ _ ?_); (first | rfl | (simp; done))) | (with_reducible refine At.alloc ?_ _) | (with_reducible refine At.drew ?_) | (with_reducible refine At.drewN ?_) | (with_reducible refine At.set ?_ (by omega)) | (with_reducible apply At.store4) | (with_reducible apply At.store3) | (with_reducible apply At.store2) | (with_reducible apply At.put43) | (refine At.below ?_ (by with_reducible assumption)))), by repeat (first | (with_reducible exact Below.refl _ _) | (with_reducible assumption) | (with_reducible refine Below.setCell ?_ (by first | (simp; done) | (simp; omega) | omega) _) | (with_reducible refine Below.alloc ?_ (by first | (simp; done) | (simp; omega) | omega) _) | (refine bl_call ?_ (by assumption) (by first | (simp; done) | (simp; omega) | omega)) | (with_reducible refine bl_drewN ?_) | (with_reducible refine Below.drew ?_) | (with_reducible refine bl_grow ?_ (by first | (simp; done) | (simp; omega) | omega)))⟩
  case round =>
    obtain ⟨k, hk, rfl, krV, kpV, hqV⟩ := hrel
    rename World => V
    have hzV := hqV.size
    obtain ⟨zrV, cr0V, cr1V, cr2V, fr0V, fr1V, fr2V⟩ := krV.three
    obtain ⟨zpV, cp0V, cp1V, cp2V, fp0V, fp1V, fp2V⟩ := kpV.three
    by_cases hlt : k < n
    · have hlt' : (k : Int) < n := by omega
      obtain ⟨bk, ok, rfl, rk⟩ := HRK.out.resolve_left (by omega)
      have Rk : Hid (RowO w bk ok n (fun i => (I i).kx) (fun i => (I i).ky) (fun i => (I i).kf)) := rk
      obtain ⟨bt, ot, rfl, rt⟩ := HRT.out.resolve_left (by omega)
      have Rt : Hid (RowZ w bt ot n (fun i => (I i).t)) := rt
      obtain ⟨bl, ol, rfl, rl⟩ := HRL.out.resolve_left (by omega)
      have Rl : Hid (RowL w bl ol n I) := rl
      obtain ⟨bw, ow, rfl, rw⟩ := HRW.out.resolve_left (by omega)
      have Rw : Hid (RowI w bw ow n (fun i => (I i).w)) := rw
      have hbk := Nat.lt_of_lt_of_le rk.1 hzV
      have hbt := Nat.lt_of_lt_of_le rt.1 hzV
      have hbl := Nat.lt_of_lt_of_le rl.1 hzV
      have hbw := Nat.lt_of_lt_of_le rw.1 hzV
      obtain ⟨c0, c1, c2⟩ := (rk.below rk.1 hqV).2 k hlt
      dsimp only at c0 c1 c2
      clear rk rt rl rw
      obtain ⟨y, hy⟩ : ∃ y, R k + K k * askN (R k) (K k) (I k).t = y := ⟨_, rfl⟩
      obtain ⟨v, hv⟩ : ∃ v, W k = v := ⟨_, rfl⟩
      have HS : Hid (∀ w, Calls Try.prog 51 #[.agg #[.int .i64 (I k).kx, .int .i64 (I k).ky, .bool (I k).kf], .string (I k).t, .agg #[.int .i64 (I k).rx, .int .i64 (I k).ry, .bool (I k).rf]] w fun e w' => e = .returned (.tuple #[.agg #[.int .i64 ((tM y).1 : Int), .int .i64 ((tM y).2.1 : Int), .bool (tM y).2.2], .nilIface]) ∧ Below w.heap.size w w') := fun w => bsa_ok (HO.out k hlt).toSealOk (by rw [hy]) w
      have HWV : Hid ((I k).w = (v : Int)) := by unfold Hid; rw [← hv]; exact (HO.out k hlt).hw
      have E : Hid (tM (y * em (v : Int)) = tM (y * v)) := tM_em _ _
      have HX : Hid ((jsN (fun i => (R i + K i * askN (R i) (K i) (I i).t) * W i) (k + 1)) = (jsN (fun i => (R i + K i * askN (R i) (K i) (I i).t) * W i) k) + y * v) := by unfold Hid; rw [← hy, ← hv]; rfl
      clear hy hv
      go_wp2_with fail
      go_cut [13, 14] from 20 to 37 (fun t13 t14 wx => ∃ b9 : Nat, t13 = .pointer (some ⟨b9, 0, none⟩) ∧ t14 = .nilIface ∧ At wx (w.heap.size) [.int .i64 0, .int .i64 0, .bool false] ∧ At wx (w.heap.size + 1) [.int .i64 ((tM (jsN (fun i => (R i + K i * askN (R i) (K i) (I i).t) * W i) k)).1 : Int), .int .i64 ((tM (jsN (fun i => (R i + K i * askN (R i) (K i) (I i).t) * W i) k)).2.1 : Int), .bool (tM (jsN (fun i => (R i + K i * askN (R i) (K i) (I i).t) * W i) k)).2.2] ∧ At wx b9 [.int .i64 ((tM y).1 : Int), .int .i64 ((tM y).2.1 : Int), .bool (tM y).2.2] ∧ w.heap.size + 1 < b9 ∧ Below w.heap.size w wx)
      case first =>
        go_region_held3 (fun W => ((V.heap.size) < W.heap.size ∧ W.cell? ⟨V.heap.size, 0, none⟩ = some (.int .i64 (I k).kx) ∧ W.cell? ⟨V.heap.size, 1, none⟩ = some (.int .i64 (I k).ky) ∧ W.cell? ⟨V.heap.size, 2, none⟩ = some (.bool (I k).kf) ∧ W.frozen? ⟨V.heap.size, 0, none⟩ = false ∧ W.frozen? ⟨V.heap.size, 1, none⟩ = false ∧ W.frozen? ⟨V.heap.size, 2, none⟩ = false) ∧ ((bt < W.heap.size ∧ W.cell? ⟨bt, ot + k, none⟩ = some (.string (I k).t)) ∧ (bl < W.heap.size ∧ W.cell? ⟨bl, ol + k * 4, none⟩ = some (.int .i64 (I k).rx) ∧ W.cell? ⟨bl, ol + k * 4 + 1, none⟩ = some (.int .i64 (I k).ry) ∧ W.cell? ⟨bl, ol + k * 4 + 2, none⟩ = some (.bool (I k).rf)))) (exact ⟨At.three (by repeat (first | (with_reducible assumption) | ((with_reducible refine at_new' _ _ _ _ ?_); (first | rfl | (simp; done))) | (with_reducible refine At.alloc ?_ _) | (with_reducible refine At.drew ?_) | (with_reducible refine At.drewN ?_) | (with_reducible refine At.set ?_ (by omega)) | (with_reducible apply At.store4) | (with_reducible apply At.store3) | (with_reducible apply At.store2) | (with_reducible apply At.put43) | (refine At.below ?_ (by with_reducible assumption)))), brow_tl Rt.out Rl.out (by repeat (first | (with_reducible exact Below.refl _ _) | (with_reducible assumption) | (with_reducible refine Below.setCell ?_ (by first | (simp; done) | (simp; omega) | omega) _) | (with_reducible refine Below.alloc ?_ (by first | (simp; done) | (simp; omega) | omega) _) | (refine bl_call ?_ (by assumption) (by first | (simp; done) | (simp; omega) | omega)) | (with_reducible refine bl_drewN ?_) | (with_reducible refine Below.drew ?_) | (with_reducible refine bl_grow ?_ (by first | (simp; done) | (simp; omega) | omega)))) hlt⟩) (first | (go_at_call 51; refine (HS.out _).mono ?_; rintro e w2 ⟨rfl, hb2⟩; obtain ⟨hc2, hf2⟩ := bcell hb2; have hq2 : Below w.heap.size w w2 := (by repeat (first | (with_reducible exact Below.refl _ _) | (with_reducible assumption) | (with_reducible refine Below.setCell ?_ (by first | (simp; done) | (simp; omega) | omega) _) | (with_reducible refine Below.alloc ?_ (by first | (simp; done) | (simp; omega) | omega) _) | (refine bl_call ?_ (by assumption) (by first | (simp; done) | (simp; omega) | omega)) | (with_reducible refine bl_drewN ?_) | (with_reducible refine Below.drew ?_) | (with_reducible refine bl_grow ?_ (by first | (simp; done) | (simp; omega) | omega)))); have hz2 := hq2.size; clear hq2; have hl2 := vb_lt hb2; have hn2 := vb_ne hb2; have hm2 := vb_ne2 hb2; have hs2 := hb2.size; (try simp at hs2)))
        all_goals (go_wp2_with fail)
        all_goals go_meet
        all_goals (case rel => exact ⟨_, rfl, rfl, by repeat (first | (with_reducible assumption) | ((with_reducible refine at_new' _ _ _ _ ?_); (first | rfl | (simp; done))) | (with_reducible refine At.alloc ?_ _) | (with_reducible refine At.drew ?_) | (with_reducible refine At.drewN ?_) | (with_reducible refine At.set ?_ (by omega)) | (with_reducible apply At.store4) | (with_reducible apply At.store3) | (with_reducible apply At.store2) | (with_reducible apply At.put43) | (refine At.below ?_ (by with_reducible assumption))), by repeat (first | (with_reducible assumption) | ((with_reducible refine at_new' _ _ _ _ ?_); (first | rfl | (simp; done))) | (with_reducible refine At.alloc ?_ _) | (with_reducible refine At.drew ?_) | (with_reducible refine At.drewN ?_) | (with_reducible refine At.set ?_ (by omega)) | (with_reducible apply At.store4) | (with_reducible apply At.store3) | (with_reducible apply At.store2) | (with_reducible apply At.put43) | (refine At.below ?_ (by with_reducible assumption))), by repeat (first | (with_reducible assumption) | ((with_reducible refine at_new' _ _ _ _ ?_); (first | rfl | (simp; done))) | (with_reducible refine At.alloc ?_ _) | (with_reducible refine At.drew ?_) | (with_reducible refine At.drewN ?_) | (with_reducible refine At.set ?_ (by omega)) | (with_reducible apply At.store4) | (with_reducible apply At.store3) | (with_reducible apply At.store2) | (with_reducible apply At.put43) | (refine At.below ?_ (by with_reducible assumption))), by omega, by repeat (first | (with_reducible exact Below.refl _ _) | (with_reducible assumption) | (with_reducible refine Below.setCell ?_ (by first | (simp; done) | (simp; omega) | omega) _) | (with_reducible refine Below.alloc ?_ (by first | (simp; done) | (simp; omega) | omega) _) | (refine bl_call ?_ (by assumption) (by first | (simp; done) | (simp; omega) | omega)) | (with_reducible refine bl_drewN ?_) | (with_reducible refine Below.drew ?_) | (with_reducible refine bl_grow ?_ (by first | (simp; done) | (simp; omega) | omega)))⟩)
      case rest =>
        clear c0 c1 c2 krV cr0V fr0V cr1V fr1V cr2V fr2V kpV cp0V fp0V cp1V fp1V cp2V fp2V hqV hzV hbk hbt hbl hbw
        obtain ⟨b9, rfl, rfl, krX, kpX, kyX, hb9, hqX⟩ := hcut
        rename World => X
        have hzX := hqX.size
        obtain ⟨zrX, cr0X, cr1X, cr2X, fr0X, fr1X, fr2X⟩ := krX.three
        obtain ⟨zpX, cp0X, cp1X, cp2X, fp0X, fp1X, fp2X⟩ := kpX.three
        obtain ⟨zyX, cy0X, cy1X, cy2X, fy0X, fy1X, fy2X⟩ := kyX.three
        have hbw := Nat.lt_of_lt_of_le Rw.out.1 hzX
        go_upto_region 8 with fail
        go_cut [15, 14] from 20 to 50 (fun t15 t14 wx => ∃ b8 : Nat, t15 = .pointer (some ⟨b8, 0, none⟩) ∧ t14 = .nilIface ∧ At wx (w.heap.size) [.int .i64 0, .int .i64 0, .bool false] ∧ At wx (w.heap.size + 1) [.int .i64 ((tM (jsN (fun i => (R i + K i * askN (R i) (K i) (I i).t) * W i) k)).1 : Int), .int .i64 ((tM (jsN (fun i => (R i + K i * askN (R i) (K i) (I i).t) * W i) k)).2.1 : Int), .bool (tM (jsN (fun i => (R i + K i * askN (R i) (K i) (I i).t) * W i) k)).2.2] ∧ At wx b8 [.int .i64 ((tM (y * v)).1 : Int), .int .i64 ((tM (y * v)).2.1 : Int), .bool (tM (y * v)).2.2] ∧ w.heap.size + 1 < b8 ∧ Below w.heap.size w wx)
        case first =>
          go_region_held3 (fun W => ((b9) < W.heap.size ∧ W.cell? ⟨b9, 0, none⟩ = some (.int .i64 ((tM y).1 : Int)) ∧ W.cell? ⟨b9, 1, none⟩ = some (.int .i64 ((tM y).2.1 : Int)) ∧ W.cell? ⟨b9, 2, none⟩ = some (.bool (tM y).2.2) ∧ W.frozen? ⟨b9, 0, none⟩ = false ∧ W.frozen? ⟨b9, 1, none⟩ = false ∧ W.frozen? ⟨b9, 2, none⟩ = false) ∧ (bw < W.heap.size ∧ W.cell? ⟨bw, ow + k, none⟩ = some (.int .i64 (v : Int)))) (exact ⟨At.three (by repeat (first | (with_reducible assumption) | ((with_reducible refine at_new' _ _ _ _ ?_); (first | rfl | (simp; done))) | (with_reducible refine At.alloc ?_ _) | (with_reducible refine At.drew ?_) | (with_reducible refine At.drewN ?_) | (with_reducible refine At.set ?_ (by omega)) | (with_reducible apply At.store4) | (with_reducible apply At.store3) | (with_reducible apply At.store2) | (with_reducible apply At.put43) | (refine At.below ?_ (by with_reducible assumption)))), browI_at Rw.out (by repeat (first | (with_reducible exact Below.refl _ _) | (with_reducible assumption) | (with_reducible refine Below.setCell ?_ (by first | (simp; done) | (simp; omega) | omega) _) | (with_reducible refine Below.alloc ?_ (by first | (simp; done) | (simp; omega) | omega) _) | (refine bl_call ?_ (by assumption) (by first | (simp; done) | (simp; omega) | omega)) | (with_reducible refine bl_drewN ?_) | (with_reducible refine Below.drew ?_) | (with_reducible refine bl_grow ?_ (by first | (simp; done) | (simp; omega) | omega)))) hlt HWV.out⟩) (first | (go_at_call 26; refine (times_eq E.out _).mono ?_; rintro e w3 ⟨rfl, hb3⟩; obtain ⟨hc3, hf3⟩ := bcell hb3; have hq3 : Below w.heap.size w w3 := (by repeat (first | (with_reducible exact Below.refl _ _) | (with_reducible assumption) | (with_reducible refine Below.setCell ?_ (by first | (simp; done) | (simp; omega) | omega) _) | (with_reducible refine Below.alloc ?_ (by first | (simp; done) | (simp; omega) | omega) _) | (refine bl_call ?_ (by assumption) (by first | (simp; done) | (simp; omega) | omega)) | (with_reducible refine bl_drewN ?_) | (with_reducible refine Below.drew ?_) | (with_reducible refine bl_grow ?_ (by first | (simp; done) | (simp; omega) | omega)))); have hz3 := hq3.size; clear hq3; have hl3 := vb_lt hb3; have hn3 := vb_ne hb3; have hm3 := vb_ne2 hb3; have hs3 := hb3.size; (try simp at hs3)))
          all_goals (go_wp2_with fail)
          all_goals go_meet
          all_goals (case rel => exact ⟨_, rfl, rfl, by repeat (first | (with_reducible assumption) | ((with_reducible refine at_new' _ _ _ _ ?_); (first | rfl | (simp; done))) | (with_reducible refine At.alloc ?_ _) | (with_reducible refine At.drew ?_) | (with_reducible refine At.drewN ?_) | (with_reducible refine At.set ?_ (by omega)) | (with_reducible apply At.store4) | (with_reducible apply At.store3) | (with_reducible apply At.store2) | (with_reducible apply At.put43) | (refine At.below ?_ (by with_reducible assumption))), by repeat (first | (with_reducible assumption) | ((with_reducible refine at_new' _ _ _ _ ?_); (first | rfl | (simp; done))) | (with_reducible refine At.alloc ?_ _) | (with_reducible refine At.drew ?_) | (with_reducible refine At.drewN ?_) | (with_reducible refine At.set ?_ (by omega)) | (with_reducible apply At.store4) | (with_reducible apply At.store3) | (with_reducible apply At.store2) | (with_reducible apply At.put43) | (refine At.below ?_ (by with_reducible assumption))), by repeat (first | (with_reducible assumption) | ((with_reducible refine at_new' _ _ _ _ ?_); (first | rfl | (simp; done))) | (with_reducible refine At.alloc ?_ _) | (with_reducible refine At.drew ?_) | (with_reducible refine At.drewN ?_) | (with_reducible refine At.set ?_ (by omega)) | (with_reducible apply At.store4) | (with_reducible apply At.store3) | (with_reducible apply At.store2) | (with_reducible apply At.put43) | (refine At.below ?_ (by with_reducible assumption))), by omega, by repeat (first | (with_reducible exact Below.refl _ _) | (with_reducible assumption) | (with_reducible refine Below.setCell ?_ (by first | (simp; done) | (simp; omega) | omega) _) | (with_reducible refine Below.alloc ?_ (by first | (simp; done) | (simp; omega) | omega) _) | (refine bl_call ?_ (by assumption) (by first | (simp; done) | (simp; omega) | omega)) | (with_reducible refine bl_drewN ?_) | (with_reducible refine Below.drew ?_) | (with_reducible refine bl_grow ?_ (by first | (simp; done) | (simp; omega) | omega)))⟩)
        case rest =>
          clear krX cr0X fr0X cr1X fr1X cr2X fr2X kpX cp0X fp0X cp1X fp1X cp2X fp2X kyX cy0X fy0X cy1X fy1X cy2X fy2X hqX hzX hbw
          obtain ⟨b8, rfl, rfl, krU, kpU, kxU, hb8, hqU⟩ := hcut
          rename World => U
          have hzU := hqU.size
          obtain ⟨zrU, cr0U, cr1U, cr2U, fr0U, fr1U, fr2U⟩ := krU.three
          obtain ⟨zpU, cp0U, cp1U, cp2U, fp0U, fp1U, fp2U⟩ := kpU.three
          obtain ⟨zxU, cx0U, cx1U, cx2U, fx0U, fx1U, fx2U⟩ := kxU.three
          have m1 : True := trivial
          go_wp2_with (go_at_call 29; clear m1; refine (cadd_tM _ _ _).mono ?_; rintro e w3 ⟨rfl, hbw3⟩; have krw3 : At w3 (w.heap.size) [.int .i64 0, .int .i64 0, .bool false] := (by repeat (first | (with_reducible assumption) | ((with_reducible refine at_new' _ _ _ _ ?_); (first | rfl | (simp; done))) | (with_reducible refine At.alloc ?_ _) | (with_reducible refine At.drew ?_) | (with_reducible refine At.drewN ?_) | (with_reducible refine At.set ?_ (by omega)) | (with_reducible apply At.store4) | (with_reducible apply At.store3) | (with_reducible apply At.store2) | (with_reducible apply At.put43) | (refine At.below ?_ (by with_reducible assumption)))); have kpw3 : At w3 (w.heap.size + 1) [.int .i64 ((tM (jsN (fun i => (R i + K i * askN (R i) (K i) (I i).t) * W i) k)).1 : Int), .int .i64 ((tM (jsN (fun i => (R i + K i * askN (R i) (K i) (I i).t) * W i) k)).2.1 : Int), .bool (tM (jsN (fun i => (R i + K i * askN (R i) (K i) (I i).t) * W i) k)).2.2] := (by repeat (first | (with_reducible assumption) | ((with_reducible refine at_new' _ _ _ _ ?_); (first | rfl | (simp; done))) | (with_reducible refine At.alloc ?_ _) | (with_reducible refine At.drew ?_) | (with_reducible refine At.drewN ?_) | (with_reducible refine At.set ?_ (by omega)) | (with_reducible apply At.store4) | (with_reducible apply At.store3) | (with_reducible apply At.store2) | (with_reducible apply At.put43) | (refine At.below ?_ (by with_reducible assumption)))); have hqw3 : Below w.heap.size w w3 := (by repeat (first | (with_reducible exact Below.refl _ _) | (with_reducible assumption) | (with_reducible refine Below.setCell ?_ (by first | (simp; done) | (simp; omega) | omega) _) | (with_reducible refine Below.alloc ?_ (by first | (simp; done) | (simp; omega) | omega) _) | (refine bl_call ?_ (by assumption) (by first | (simp; done) | (simp; omega) | omega)) | (with_reducible refine bl_drewN ?_) | (with_reducible refine Below.drew ?_) | (with_reducible refine bl_grow ?_ (by first | (simp; done) | (simp; omega) | omega)))); have hzw3 := hqw3.size; obtain ⟨zrw3, cr0w3, cr1w3, cr2w3, fr0w3, fr1w3, fr2w3⟩ := krw3.three; obtain ⟨zpw3, cp0w3, cp1w3, cp2w3, fp0w3, fp1w3, fp2w3⟩ := kpw3.three; clear krU cr0U fr0U cr1U fr1U cr2U fr2U kpU cp0U fp0U cp1U fp1U cp2U fp2U hqU; clear hbw3)
          go_roundw
          case rel => exact ⟨k + 1, by omega, by simp, by repeat (first | (with_reducible assumption) | ((with_reducible refine at_new' _ _ _ _ ?_); (first | rfl | (simp; done))) | (with_reducible refine At.alloc ?_ _) | (with_reducible refine At.drew ?_) | (with_reducible refine At.drewN ?_) | (with_reducible refine At.set ?_ (by omega)) | (with_reducible apply At.store4) | (with_reducible apply At.store3) | (with_reducible apply At.store2) | (with_reducible apply At.put43) | (refine At.below ?_ (by with_reducible assumption))), by rw [HX.out]; exact (by repeat (first | (with_reducible assumption) | ((with_reducible refine at_new' _ _ _ _ ?_); (first | rfl | (simp; done))) | (with_reducible refine At.alloc ?_ _) | (with_reducible refine At.drew ?_) | (with_reducible refine At.drewN ?_) | (with_reducible refine At.set ?_ (by omega)) | (with_reducible apply At.store4) | (with_reducible apply At.store3) | (with_reducible apply At.store2) | (with_reducible apply At.put43) | (refine At.below ?_ (by with_reducible assumption)))), by repeat (first | (with_reducible exact Below.refl _ _) | (with_reducible assumption) | (with_reducible refine Below.setCell ?_ (by first | (simp; done) | (simp; omega) | omega) _) | (with_reducible refine Below.alloc ?_ (by first | (simp; done) | (simp; omega) | omega) _) | (refine bl_call ?_ (by assumption) (by first | (simp; done) | (simp; omega) | omega)) | (with_reducible refine bl_drewN ?_) | (with_reducible refine Below.drew ?_) | (with_reducible refine bl_grow ?_ (by first | (simp; done) | (simp; omega) | omega)))⟩
          case measure => simp [intOf]; omega
    · have hlt' : ¬ (k : Int) < n := by omega
      obtain rfl : k = n := by omega
      go_wp2_with fail
      exact bodyPost_ret (v := .tuple #[.agg #[.int .i64 ((tM (jsN (fun i => (R i + K i * askN (R i) (K i) (I i).t) * W i) k)).1 : Int), .int .i64 ((tM (jsN (fun i => (R i + K i * askN (R i) (K i) (I i).t) * W i) k)).2.1 : Int), .bool (tM (jsN (fun i => (R i + K i * askN (R i) (K i) (I i).t) * W i) k)).2.2], .nilIface]) (by simp [results, Try.results47, go_sem, *]) rfl ⟨rfl, by repeat (first | (with_reducible exact Below.refl _ _) | (with_reducible assumption) | (with_reducible refine Below.setCell ?_ (by first | (simp; done) | (simp; omega) | omega) _) | (with_reducible refine Below.alloc ?_ (by first | (simp; done) | (simp; omega) | omega) _) | (refine bl_call ?_ (by assumption) (by first | (simp; done) | (simp; omega) | omega)) | (with_reducible refine bl_drewN ?_) | (with_reducible refine Below.drew ?_) | (with_reducible refine bl_grow ?_ (by first | (simp; done) | (simp; omega) | omega)))⟩
end Go.Proofs.Ytmijjjdedadklaj
