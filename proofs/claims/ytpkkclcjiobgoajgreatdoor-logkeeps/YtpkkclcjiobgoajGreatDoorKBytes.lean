/- What each function of package bytes answers, of right spots and wrong ones, of any bytes; nothing that was there is turned. -/
import Derived.Test.YtpkkclcjiobgoajGreatDoorKCurveEq
import Derived.Test.YtpkkclcjiobgoajGreatDoorKC
import Derived.Laws.IdiomStrings
import Derived.BigQuiet
namespace Go.Proofs.YtpkkclcjiobgoajGreatDoor
open Go.RowKit Go.Sort
set_option linter.unusedVariables false
set_option linter.unusedSimpArgs false
theorem w64_in {n : Int} (h0 : -9223372036854775808 ≤ n) (h1 : n ≤ 9223372036854775807) : wrap64 n = n := by unfold wrap64; omega
theorem or_pl (d e : UInt8) : bits BinOp.or IntKind.i64 ((d.toNat : Int) * 256) (e.toNat : Int) = (plN d e : Int) := by
  have h1 := d.toNat_lt
  have h2 := e.toNat_lt
  have h3 : d.toNat * 256 ||| e.toNat = plN d e := by
    have := Nat.shiftLeft_add_eq_or_of_lt (i := 8) (b := e.toNat) (by omega) d.toNat
    rw [Nat.shiftLeft_eq] at this
    rw [← this]; rfl
  have h4 : plN d e < 65536 := by unfold plN; omega
  have e1 : (BitVec.ofInt 64 ((d.toNat : Int) * 256)).toNat = d.toNat * 256 := by
    rw [show ((d.toNat : Int) * 256) = ((d.toNat * 256 : Nat) : Int) by omega, BitVec.ofInt_natCast, BitVec.toNat_ofNat]; exact Nat.mod_eq_of_lt (by omega)
  have e2 : (BitVec.ofInt 64 (e.toNat : Int)).toNat = e.toNat := by
    rw [BitVec.ofInt_natCast, BitVec.toNat_ofNat]; exact Nat.mod_eq_of_lt (by omega)
  show IntKind.i64.wrap ((BitVec.ofInt 64 ((d.toNat : Int) * 256) ||| BitVec.ofInt 64 (e.toNat : Int)).toNat : Int) = _
  rw [BitVec.toNat_or, e1, e2, h3, IntKind.wrap_i64]
  omega
theorem packed_far (w : World) :
    Calls Tryz.prog 70 #[.agg #[.int .i64 0, .int .i64 0, .bool true]] w fun e w' => e = .returned (.string ⟨#[0]⟩) ∧ Below w.heap.size w w' := by
  have hcv : ∀ o, (convert 100 9 (.slice (some ⟨w.heap.size + 1, 0, none⟩) 1 1)).run Tryz.prog ((w.alloc o).alloc (.cells #[.int .u8 0] 5)) = .ok (.string ⟨#[0]⟩) ((w.alloc o).alloc (.cells #[.int .u8 0] 5)) := fun o =>
    run_convert_bytes_back (P := Tryz.prog) _ _ _ 5 _ 1 [0] Tryz.underlying100 Tryz.underlying5 Tryz.underlying9 (fun j hj => by
      match j, hj with
      | 0, _ => simp [go_sem, *])
  go_enter Tryz.func70, Tryz.ntmps70
  go_wp2_with fail
  go_ret
  exact ⟨rfl, by repeat (first | (with_reducible first | exact Below.refl _ _ | assumption | refine Below.setCell ?_ (by first | simp <;> omega | omega) _ | refine Below.alloc ?_ (by first | simp <;> omega | omega) _) | refine bl_call ?_ (by assumption) (by first | simp <;> omega | omega) | (with_reducible first | refine bl_drewN ?_ | refine Below.drew ?_ | refine bl_grow ?_ (by first | simp <;> omega | omega)))⟩
theorem packed_one (x y : Nat) (w : World) (hx : x < 4051) (hy : y ≤ 2025) :
    Calls Tryz.prog 70 #[.agg #[.int .i64 (x : Int), .int .i64 (y : Int), .bool false]] w fun e w' => e = .returned (.string ⟨#[1, hiB x, loB x]⟩) ∧ Below w.heap.size w w' := by
  have h1 : ¬ (2025 < (y : Int)) := by omega
  have q1 : (((hiB x).toNat : Nat) : Int) = (x : Int) / 256 := by rw [hi_nat hx]; omega
  have q2 : (((loB x).toNat : Nat) : Int) = (x : Int) % 256 := by rw [lo_nat]; omega
  have hcv : ∀ o, (convert 100 9 (.slice (some ⟨w.heap.size + 1, 0, none⟩) 3 3)).run Tryz.prog ((w.alloc o).alloc (.cells #[.int .u8 1, .int .u8 ((x : Int) / 256), .int .u8 ((x : Int) % 256)] 5)) = .ok (.string ⟨#[1, hiB x, loB x]⟩) ((w.alloc o).alloc (.cells #[.int .u8 1, .int .u8 ((x : Int) / 256), .int .u8 ((x : Int) % 256)] 5)) := fun o =>
    run_convert_bytes_back (P := Tryz.prog) _ _ _ 5 _ 3 [1, hiB x, loB x] Tryz.underlying100 Tryz.underlying5 Tryz.underlying9 (fun j hj => by
      match j, hj with
      | 0, _ => simp [go_sem, *]
      | 1, _ => simp [go_sem, *]
      | 2, _ => simp [go_sem, *])
  clear q1 q2
  go_enter Tryz.func70, Tryz.ntmps70
  go_wp2_with fail
  go_ret
  exact ⟨rfl, by repeat (first | (with_reducible first | exact Below.refl _ _ | assumption | refine Below.setCell ?_ (by first | simp <;> omega | omega) _ | refine Below.alloc ?_ (by first | simp <;> omega | omega) _) | refine bl_call ?_ (by assumption) (by first | simp <;> omega | omega) | (with_reducible first | refine bl_drewN ?_ | refine Below.drew ?_ | refine bl_grow ?_ (by first | simp <;> omega | omega)))⟩
theorem packed_two (x y : Nat) (w : World) (hx : x < 4051) (hy : 2025 < y) :
    Calls Tryz.prog 70 #[.agg #[.int .i64 (x : Int), .int .i64 (y : Int), .bool false]] w fun e w' => e = .returned (.string ⟨#[2, hiB x, loB x]⟩) ∧ Below w.heap.size w w' := by
  have h1 : 2025 < (y : Int) := by omega
  have q1 : (((hiB x).toNat : Nat) : Int) = (x : Int) / 256 := by rw [hi_nat hx]; omega
  have q2 : (((loB x).toNat : Nat) : Int) = (x : Int) % 256 := by rw [lo_nat]; omega
  have hcv : ∀ o, (convert 100 9 (.slice (some ⟨w.heap.size + 1, 0, none⟩) 3 3)).run Tryz.prog ((w.alloc o).alloc (.cells #[.int .u8 2, .int .u8 ((x : Int) / 256), .int .u8 ((x : Int) % 256)] 5)) = .ok (.string ⟨#[2, hiB x, loB x]⟩) ((w.alloc o).alloc (.cells #[.int .u8 2, .int .u8 ((x : Int) / 256), .int .u8 ((x : Int) % 256)] 5)) := fun o =>
    run_convert_bytes_back (P := Tryz.prog) _ _ _ 5 _ 3 [2, hiB x, loB x] Tryz.underlying100 Tryz.underlying5 Tryz.underlying9 (fun j hj => by
      match j, hj with
      | 0, _ => simp [go_sem, *]
      | 1, _ => simp [go_sem, *]
      | 2, _ => simp [go_sem, *])
  clear q1 q2
  go_enter Tryz.func70, Tryz.ntmps70
  go_wp2_with fail
  go_ret
  exact ⟨rfl, by repeat (first | (with_reducible first | exact Below.refl _ _ | assumption | refine Below.setCell ?_ (by first | simp <;> omega | omega) _ | refine Below.alloc ?_ (by first | simp <;> omega | omega) _) | refine bl_call ?_ (by assumption) (by first | simp <;> omega | omega) | (with_reducible first | refine bl_drewN ?_ | refine Below.drew ?_ | refine bl_grow ?_ (by first | simp <;> omega | omega)))⟩
theorem packed_tM (k : Nat) (w : World) : Calls Tryz.prog 70 #[.agg #[.int .i64 ((tM k).1 : Int), .int .i64 ((tM k).2.1 : Int), .bool (tM k).2.2]] w fun e w' => e = .returned (.string (pkB (tM k))) ∧ Below w.heap.size w w' := by
  have ho := tM_ok k
  generalize tM k = s at ho ⊢
  obtain ⟨x, y, f⟩ := s
  cases f with
  | true => obtain ⟨rfl, rfl⟩ := far_ok ho; exact packed_far w
  | false =>
    have hl := okS_lt ho
    simp only at hl
    rw [pkB_aff]
    by_cases hy : y ≤ 2025
    · rw [wh_one hy]; exact packed_one x y w hl.1 hy
    · rw [wh_two (by omega)]; exact packed_two x y w hl.1 (by omega)
theorem pack_tM (k : Nat) (w : World) : Calls Tryz.prog 107 #[.agg #[.int .i64 ((tM k).1 : Int), .int .i64 ((tM k).2.1 : Int), .bool (tM k).2.2]] w fun e w' => e = .returned (.tuple #[.string (pkB (tM k)), .nilIface]) ∧ Below w.heap.size w w' := by
  have m1 : True := trivial; have m2 : True := trivial
  go_enter Tryz.func107, Tryz.ntmps107
  go_wp2_with (first | (go_at_call 77; clear m1; refine (check_tM k _).mono ?_; rintro e w1 ⟨rfl, hbw1⟩; have ksw1 : At w1 (w.heap.size) [.int .i64 ((tM k).1 : Int), .int .i64 ((tM k).2.1 : Int), .bool (tM k).2.2] := (by repeat (first | assumption | (with_reducible first | (refine at_new' _ _ _ _ ?_; first | rfl | (simp; done)) | refine At.alloc ?_ _ | refine At.drewN ?_ | refine At.grow ?_ | refine At.store4 (by assumption) | refine At.store3 (by assumption) | refine At.store2 (by assumption) | refine At.set ?_ (by omega) | apply At.store4 | apply At.store3 | apply At.put43) | refine At.below ?_ (by assumption))); have hqw1 : Below w.heap.size w w1 := (by repeat (first | (with_reducible first | exact Below.refl _ _ | assumption | refine Below.setCell ?_ (by first | simp <;> omega | omega) _ | refine Below.alloc ?_ (by first | simp <;> omega | omega) _) | refine bl_call ?_ (by assumption) (by first | simp <;> omega | omega) | (with_reducible first | refine bl_drewN ?_ | refine Below.drew ?_ | refine bl_grow ?_ (by first | simp <;> omega | omega)))); have hzw1 := hqw1.size; obtain ⟨zsw1, cs0w1, cs1w1, cs2w1, fs0w1, fs1w1, fs2w1⟩ := ksw1.three; clear hbw1) | (go_at_call 70; clear m2; refine (packed_tM k _).mono ?_; rintro e w2 ⟨rfl, hbw2⟩; have hqw2 : Below w.heap.size w w2 := (by repeat (first | (with_reducible first | exact Below.refl _ _ | assumption | refine Below.setCell ?_ (by first | simp <;> omega | omega) _ | refine Below.alloc ?_ (by first | simp <;> omega | omega) _) | refine bl_call ?_ (by assumption) (by first | simp <;> omega | omega) | (with_reducible first | refine bl_drewN ?_ | refine Below.drew ?_ | refine bl_grow ?_ (by first | simp <;> omega | omega)))); have hzw2 := hqw2.size; clear ksw1 cs0w1 fs0w1 cs1w1 fs1w1 cs2w1 fs2w1 hqw1; clear hbw2))
  exact bodyPost_ret (v := .tuple #[.string (pkB (tM k)), .nilIface]) (by simp [results, Tryz.results107, go_sem, *]) rfl ⟨rfl, by repeat (first | (with_reducible first | exact Below.refl _ _ | assumption | refine Below.setCell ?_ (by first | simp <;> omega | omega) _ | refine Below.alloc ?_ (by first | simp <;> omega | omega) _) | refine bl_call ?_ (by assumption) (by first | simp <;> omega | omega) | (with_reducible first | refine bl_drewN ?_ | refine Below.drew ?_ | refine bl_grow ?_ (by first | simp <;> omega | omega)))⟩
theorem place_any (c d e : UInt8) (w : World) :
    Calls Tryz.prog 124 #[.string ⟨#[c, d, e]⟩] w fun ex w' => ex = .returned (.int .i64 (plN d e : Int)) ∧ Below w.heap.size w w' := by
  have HO : Hid (bits BinOp.or IntKind.i64 ((d.toNat : Int) * 256) (e.toNat : Int) = (plN d e : Int)) := or_pl d e
  go_enter Tryz.func124, Tryz.ntmps124
  go_wp2_with fail
  go_quiet (fail)
  go_wp2_with fail
  go_ret
  have h1 := d.toNat_lt
  have h2 := e.toNat_lt
  refine ⟨ret_int ?_, by repeat (first | (with_reducible first | exact Below.refl _ _ | assumption | refine Below.setCell ?_ (by first | simp <;> omega | omega) _ | refine Below.alloc ?_ (by first | simp <;> omega | omega) _) | refine bl_call ?_ (by assumption) (by first | simp <;> omega | omega) | (with_reducible first | refine bl_drewN ?_ | refine Below.drew ?_ | refine bl_grow ?_ (by first | simp <;> omega | omega)))⟩
  rw [← HO.out]
  have e1 : (⟨#[c, d, e]⟩ : ByteArray)[1]'(show 1 < 3 by decide) = d := rfl
  have e2 : (⟨#[c, d, e]⟩ : ByteArray)[2]'(show 2 < 3 by decide) = e := rfl
  rw [e1, e2, w64_in (n := (d.toNat : Int)) (by omega) (by omega), w64_in (n := (e.toNat : Int)) (by omega) (by omega), w64_in (n := (d.toNat : Int) * 256) (by omega) (by omega)]
theorem lift_at (x : Nat) (w : World) (h1 : x < 4051) (h : rtOk (sqI (x : Int)) = true) :
    Calls Tryz.prog 117 #[.int .i64 (x : Int)] w fun e w' => e = .returned (.tuple #[.agg #[.int .i64 (x : Int), .int .i64 (ltN x : Int), .bool false], .nilIface]) ∧ Below w.heap.size w w' := by
  have := lift_yes (x : Int) w (by omega) (by omega) h
  rwa [ltI] at this
theorem lesser_yes (x : Nat) (w : World) (h1 : x < 4051) (h : rtOk (sqI (x : Int)) = true) :
    Calls Tryz.prog 123 #[.int .i64 (x : Int)] w fun e w' => e = .returned (.tuple #[.agg #[.int .i64 (x : Int), .int .i64 (ltN x : Int), .bool false], .nilIface]) ∧ Below w.heap.size w w' := by
  have HR : Hid (rtOk (sqI (x : Int)) = true) := h
  clear h
  have m1 : True := trivial
  go_enter Tryz.func123, Tryz.ntmps123
  go_wp2_with (first | (go_at_call 117; clear m1; refine (lift_at _ _ h1 HR.out).mono ?_; rintro e w1 ⟨rfl, hbw1⟩; have krw1 : At w1 (w.heap.size) [.int .i64 0, .int .i64 0, .bool false] := (by repeat (first | assumption | (with_reducible first | (refine at_new' _ _ _ _ ?_; first | rfl | (simp; done)) | refine At.alloc ?_ _ | refine At.drewN ?_ | refine At.grow ?_ | refine At.store4 (by assumption) | refine At.store3 (by assumption) | refine At.store2 (by assumption) | refine At.set ?_ (by omega) | apply At.store4 | apply At.store3 | apply At.put43) | refine At.below ?_ (by assumption))); have hqw1 : Below w.heap.size w w1 := (by repeat (first | (with_reducible first | exact Below.refl _ _ | assumption | refine Below.setCell ?_ (by first | simp <;> omega | omega) _ | refine Below.alloc ?_ (by first | simp <;> omega | omega) _) | refine bl_call ?_ (by assumption) (by first | simp <;> omega | omega) | (with_reducible first | refine bl_drewN ?_ | refine Below.drew ?_ | refine bl_grow ?_ (by first | simp <;> omega | omega)))); have hzw1 := hqw1.size; obtain ⟨zrw1, cr0w1, cr1w1, cr2w1, fr0w1, fr1w1, fr2w1⟩ := krw1.three; clear hbw1))
  exact bodyPost_ret (v := .tuple #[.agg #[.int .i64 (x : Int), .int .i64 (ltN x : Int), .bool false], .nilIface]) (by simp [results, Tryz.results123, go_sem, *]) rfl ⟨rfl, by repeat (first | (with_reducible first | exact Below.refl _ _ | assumption | refine Below.setCell ?_ (by first | simp <;> omega | omega) _ | refine Below.alloc ?_ (by first | simp <;> omega | omega) _) | refine bl_call ?_ (by assumption) (by first | simp <;> omega | omega) | (with_reducible first | refine bl_drewN ?_ | refine Below.drew ?_ | refine bl_grow ?_ (by first | simp <;> omega | omega)))⟩
theorem greater_yes (x : Nat) (w : World) (h1 : x < 4051) (h : rtOk (sqI (x : Int)) = true) (h0 : ltN x ≠ 0) :
    Calls Tryz.prog 125 #[.int .i64 (x : Int)] w fun e w' => e = .returned (.tuple #[.agg #[.int .i64 (x : Int), .int .i64 (ny (ltN x) : Int), .bool false], .nilIface]) ∧ Below w.heap.size w w' := by
  have HR : Hid (rtOk (sqI (x : Int)) = true) := h
  have HO : Hid (okS (x, ltN x, false) = true) := lt_ok h1 h
  have hz : ((ltN x : Int) == 0) = false := by rw [beq_eq_false_iff_ne]; omega
  clear h
  have m1 : True := trivial; have m2 : True := trivial
  go_enter Tryz.func125, Tryz.ntmps125
  go_wp2_with (first | (go_at_call 123; clear m1; refine (lesser_yes _ _ h1 HR.out).mono ?_; rintro e w1 ⟨rfl, hbw1⟩; have krw1 : At w1 (w.heap.size) [.int .i64 0, .int .i64 0, .bool false] := (by repeat (first | assumption | (with_reducible first | (refine at_new' _ _ _ _ ?_; first | rfl | (simp; done)) | refine At.alloc ?_ _ | refine At.drewN ?_ | refine At.grow ?_ | refine At.store4 (by assumption) | refine At.store3 (by assumption) | refine At.store2 (by assumption) | refine At.set ?_ (by omega) | apply At.store4 | apply At.store3 | apply At.put43) | refine At.below ?_ (by assumption))); have hqw1 : Below w.heap.size w w1 := (by repeat (first | (with_reducible first | exact Below.refl _ _ | assumption | refine Below.setCell ?_ (by first | simp <;> omega | omega) _ | refine Below.alloc ?_ (by first | simp <;> omega | omega) _) | refine bl_call ?_ (by assumption) (by first | simp <;> omega | omega) | (with_reducible first | refine bl_drewN ?_ | refine Below.drew ?_ | refine bl_grow ?_ (by first | simp <;> omega | omega)))); have hzw1 := hqw1.size; obtain ⟨zrw1, cr0w1, cr1w1, cr2w1, fr0w1, fr1w1, fr2w1⟩ := krw1.three; clear hbw1) | (go_at_call 58; clear m2; refine (cneg_ok _ _ _ _ HO.out).mono ?_; rintro e w2 ⟨rfl, hbw2⟩; have krw2 : At w2 (w.heap.size) [.int .i64 0, .int .i64 0, .bool false] := (by repeat (first | assumption | (with_reducible first | (refine at_new' _ _ _ _ ?_; first | rfl | (simp; done)) | refine At.alloc ?_ _ | refine At.drewN ?_ | refine At.grow ?_ | refine At.store4 (by assumption) | refine At.store3 (by assumption) | refine At.store2 (by assumption) | refine At.set ?_ (by omega) | apply At.store4 | apply At.store3 | apply At.put43) | refine At.below ?_ (by assumption))); have ksw2 : At w2 (w1.heap.size) [.int .i64 (x : Int), .int .i64 (ltN x : Int), .bool false] := (by repeat (first | assumption | (with_reducible first | (refine at_new' _ _ _ _ ?_; first | rfl | (simp; done)) | refine At.alloc ?_ _ | refine At.drewN ?_ | refine At.grow ?_ | refine At.store4 (by assumption) | refine At.store3 (by assumption) | refine At.store2 (by assumption) | refine At.set ?_ (by omega) | apply At.store4 | apply At.store3 | apply At.put43) | refine At.below ?_ (by assumption))); have hqw2 : Below w.heap.size w w2 := (by repeat (first | (with_reducible first | exact Below.refl _ _ | assumption | refine Below.setCell ?_ (by first | simp <;> omega | omega) _ | refine Below.alloc ?_ (by first | simp <;> omega | omega) _) | refine bl_call ?_ (by assumption) (by first | simp <;> omega | omega) | (with_reducible first | refine bl_drewN ?_ | refine Below.drew ?_ | refine bl_grow ?_ (by first | simp <;> omega | omega)))); have hzw2 := hqw2.size; obtain ⟨zrw2, cr0w2, cr1w2, cr2w2, fr0w2, fr1w2, fr2w2⟩ := krw2.three; obtain ⟨zsw2, cs0w2, cs1w2, cs2w2, fs0w2, fs1w2, fs2w2⟩ := ksw2.three; clear krw1 cr0w1 fr0w1 cr1w1 fr1w1 cr2w1 fr2w1 hqw1; clear hbw2))
  exact bodyPost_ret (v := .tuple #[.agg #[.int .i64 (x : Int), .int .i64 (ny (ltN x) : Int), .bool false], .nilIface]) (by simp [results, Tryz.results125, go_sem, *]) rfl ⟨rfl, by repeat (first | (with_reducible first | exact Below.refl _ _ | assumption | refine Below.setCell ?_ (by first | simp <;> omega | omega) _ | refine Below.alloc ?_ (by first | simp <;> omega | omega) _) | refine bl_call ?_ (by assumption) (by first | simp <;> omega | omega) | (with_reducible first | refine bl_drewN ?_ | refine Below.drew ?_ | refine bl_grow ?_ (by first | simp <;> omega | omega)))⟩
theorem unpack_far (w : World) : Calls Tryz.prog 122 #[.string ⟨#[0]⟩] w fun e w' => e = .returned (.tuple #[.agg #[.int .i64 0, .int .i64 0, .bool true], .nilIface]) ∧ Below w.heap.size w w' := by
  go_enter Tryz.func122, Tryz.ntmps122
  go_wp2_with (fail)
  exact bodyPost_ret (v := .tuple #[.agg #[.int .i64 0, .int .i64 0, .bool true], .nilIface]) (by simp [results, Tryz.results122, go_sem, *]) rfl ⟨rfl, by repeat (first | (with_reducible first | exact Below.refl _ _ | assumption | refine Below.setCell ?_ (by first | simp <;> omega | omega) _ | refine Below.alloc ?_ (by first | simp <;> omega | omega) _) | refine bl_call ?_ (by assumption) (by first | simp <;> omega | omega) | (with_reducible first | refine bl_drewN ?_ | refine Below.drew ?_ | refine bl_grow ?_ (by first | simp <;> omega | omega)))⟩
theorem unpack_one (d e : UInt8) (w : World) (h1 : plN d e < 4051) (h : rtOk (sqI (plN d e : Int)) = true) :
    Calls Tryz.prog 122 #[.string ⟨#[1, d, e]⟩] w fun ex w' => ex = .returned (.tuple #[.agg #[.int .i64 (plN d e : Int), .int .i64 (ltN (plN d e) : Int), .bool false], .nilIface]) ∧ Below w.heap.size w w' := by
  have HR : Hid (rtOk (sqI (plN d e : Int)) = true) := h
  clear h
  have m1 : True := trivial; have m2 : True := trivial
  go_enter Tryz.func122, Tryz.ntmps122
  go_wp2_with (first | (go_at_call 124; clear m1; refine (place_any _ _ _ _).mono ?_; rintro e w1 ⟨rfl, hbw1⟩; have krw1 : At w1 (w.heap.size) [.int .i64 0, .int .i64 0, .bool false] := (by repeat (first | assumption | (with_reducible first | (refine at_new' _ _ _ _ ?_; first | rfl | (simp; done)) | refine At.alloc ?_ _ | refine At.drewN ?_ | refine At.grow ?_ | refine At.store4 (by assumption) | refine At.store3 (by assumption) | refine At.store2 (by assumption) | refine At.set ?_ (by omega) | apply At.store4 | apply At.store3 | apply At.put43) | refine At.below ?_ (by assumption))); have hqw1 : Below w.heap.size w w1 := (by repeat (first | (with_reducible first | exact Below.refl _ _ | assumption | refine Below.setCell ?_ (by first | simp <;> omega | omega) _ | refine Below.alloc ?_ (by first | simp <;> omega | omega) _) | refine bl_call ?_ (by assumption) (by first | simp <;> omega | omega) | (with_reducible first | refine bl_drewN ?_ | refine Below.drew ?_ | refine bl_grow ?_ (by first | simp <;> omega | omega)))); have hzw1 := hqw1.size; obtain ⟨zrw1, cr0w1, cr1w1, cr2w1, fr0w1, fr1w1, fr2w1⟩ := krw1.three; clear hbw1) | (go_at_call 123; clear m2; refine (lesser_yes _ _ h1 HR.out).mono ?_; rintro e w2 ⟨rfl, hbw2⟩; have krw2 : At w2 (w.heap.size) [.int .i64 0, .int .i64 0, .bool false] := (by repeat (first | assumption | (with_reducible first | (refine at_new' _ _ _ _ ?_; first | rfl | (simp; done)) | refine At.alloc ?_ _ | refine At.drewN ?_ | refine At.grow ?_ | refine At.store4 (by assumption) | refine At.store3 (by assumption) | refine At.store2 (by assumption) | refine At.set ?_ (by omega) | apply At.store4 | apply At.store3 | apply At.put43) | refine At.below ?_ (by assumption))); have hqw2 : Below w.heap.size w w2 := (by repeat (first | (with_reducible first | exact Below.refl _ _ | assumption | refine Below.setCell ?_ (by first | simp <;> omega | omega) _ | refine Below.alloc ?_ (by first | simp <;> omega | omega) _) | refine bl_call ?_ (by assumption) (by first | simp <;> omega | omega) | (with_reducible first | refine bl_drewN ?_ | refine Below.drew ?_ | refine bl_grow ?_ (by first | simp <;> omega | omega)))); have hzw2 := hqw2.size; obtain ⟨zrw2, cr0w2, cr1w2, cr2w2, fr0w2, fr1w2, fr2w2⟩ := krw2.three; clear krw1 cr0w1 fr0w1 cr1w1 fr1w1 cr2w1 fr2w1 hqw1; clear hbw2))
  exact bodyPost_ret (v := .tuple #[.agg #[.int .i64 (plN d e : Int), .int .i64 (ltN (plN d e) : Int), .bool false], .nilIface]) (by simp [results, Tryz.results122, go_sem, *]) rfl ⟨rfl, by repeat (first | (with_reducible first | exact Below.refl _ _ | assumption | refine Below.setCell ?_ (by first | simp <;> omega | omega) _ | refine Below.alloc ?_ (by first | simp <;> omega | omega) _) | refine bl_call ?_ (by assumption) (by first | simp <;> omega | omega) | (with_reducible first | refine bl_drewN ?_ | refine Below.drew ?_ | refine bl_grow ?_ (by first | simp <;> omega | omega)))⟩
theorem unpack_two (d e : UInt8) (w : World) (h1 : plN d e < 4051) (h : rtOk (sqI (plN d e : Int)) = true) (h0 : ltN (plN d e) ≠ 0) :
    Calls Tryz.prog 122 #[.string ⟨#[2, d, e]⟩] w fun ex w' => ex = .returned (.tuple #[.agg #[.int .i64 (plN d e : Int), .int .i64 (ny (ltN (plN d e)) : Int), .bool false], .nilIface]) ∧ Below w.heap.size w w' := by
  have HR : Hid (rtOk (sqI (plN d e : Int)) = true) := h
  have HZ : Hid (ltN (plN d e) ≠ 0) := h0
  clear h h0
  have m1 : True := trivial; have m2 : True := trivial
  go_enter Tryz.func122, Tryz.ntmps122
  go_wp2_with (first | (go_at_call 124; clear m1; refine (place_any _ _ _ _).mono ?_; rintro e w1 ⟨rfl, hbw1⟩; have krw1 : At w1 (w.heap.size) [.int .i64 0, .int .i64 0, .bool false] := (by repeat (first | assumption | (with_reducible first | (refine at_new' _ _ _ _ ?_; first | rfl | (simp; done)) | refine At.alloc ?_ _ | refine At.drewN ?_ | refine At.grow ?_ | refine At.store4 (by assumption) | refine At.store3 (by assumption) | refine At.store2 (by assumption) | refine At.set ?_ (by omega) | apply At.store4 | apply At.store3 | apply At.put43) | refine At.below ?_ (by assumption))); have hqw1 : Below w.heap.size w w1 := (by repeat (first | (with_reducible first | exact Below.refl _ _ | assumption | refine Below.setCell ?_ (by first | simp <;> omega | omega) _ | refine Below.alloc ?_ (by first | simp <;> omega | omega) _) | refine bl_call ?_ (by assumption) (by first | simp <;> omega | omega) | (with_reducible first | refine bl_drewN ?_ | refine Below.drew ?_ | refine bl_grow ?_ (by first | simp <;> omega | omega)))); have hzw1 := hqw1.size; obtain ⟨zrw1, cr0w1, cr1w1, cr2w1, fr0w1, fr1w1, fr2w1⟩ := krw1.three; clear hbw1) | (go_at_call 125; clear m2; refine (greater_yes _ _ h1 HR.out HZ.out).mono ?_; rintro e w2 ⟨rfl, hbw2⟩; have krw2 : At w2 (w.heap.size) [.int .i64 0, .int .i64 0, .bool false] := (by repeat (first | assumption | (with_reducible first | (refine at_new' _ _ _ _ ?_; first | rfl | (simp; done)) | refine At.alloc ?_ _ | refine At.drewN ?_ | refine At.grow ?_ | refine At.store4 (by assumption) | refine At.store3 (by assumption) | refine At.store2 (by assumption) | refine At.set ?_ (by omega) | apply At.store4 | apply At.store3 | apply At.put43) | refine At.below ?_ (by assumption))); have hqw2 : Below w.heap.size w w2 := (by repeat (first | (with_reducible first | exact Below.refl _ _ | assumption | refine Below.setCell ?_ (by first | simp <;> omega | omega) _ | refine Below.alloc ?_ (by first | simp <;> omega | omega) _) | refine bl_call ?_ (by assumption) (by first | simp <;> omega | omega) | (with_reducible first | refine bl_drewN ?_ | refine Below.drew ?_ | refine bl_grow ?_ (by first | simp <;> omega | omega)))); have hzw2 := hqw2.size; obtain ⟨zrw2, cr0w2, cr1w2, cr2w2, fr0w2, fr1w2, fr2w2⟩ := krw2.three; clear krw1 cr0w1 fr0w1 cr1w1 fr1w1 cr2w1 fr2w1 hqw1; clear hbw2))
  exact bodyPost_ret (v := .tuple #[.agg #[.int .i64 (plN d e : Int), .int .i64 (ny (ltN (plN d e)) : Int), .bool false], .nilIface]) (by simp [results, Tryz.results122, go_sem, *]) rfl ⟨rfl, by repeat (first | (with_reducible first | exact Below.refl _ _ | assumption | refine Below.setCell ?_ (by first | simp <;> omega | omega) _ | refine Below.alloc ?_ (by first | simp <;> omega | omega) _) | refine bl_call ?_ (by assumption) (by first | simp <;> omega | omega) | (with_reducible first | refine bl_drewN ?_ | refine Below.drew ?_ | refine bl_grow ?_ (by first | simp <;> omega | omega)))⟩
/-- The bytes of a right spot tell it. -/
theorem unpack_tM (k : Nat) (w : World) : Calls Tryz.prog 122 #[.string (pkB (tM k))] w fun e w' => e = .returned (.tuple #[.agg #[.int .i64 ((tM k).1 : Int), .int .i64 ((tM k).2.1 : Int), .bool (tM k).2.2], .nilIface]) ∧ Below w.heap.size w w' := by
  have ho := tM_ok k
  generalize tM k = s at ho ⊢
  obtain ⟨x, y, f⟩ := s
  cases f with
  | true => obtain ⟨rfl, rfl⟩ := far_ok ho; exact unpack_far w
  | false =>
    have hl := okS_lt ho
    simp only at hl
    have hh := height ho
    have hr := on_root ho
    have hp := pl_hl hl.1
    rw [pkB_aff]
    by_cases hy : y ≤ 2025
    · rw [wh_one hy]
      have := unpack_one (hiB x) (loB x) w (by rw [hp]; exact hl.1) (by rw [hp]; exact hr)
      rw [hp, hh.1 hy] at this
      exact this
    · obtain ⟨h1, h2, h3⟩ := hh.2 (by omega)
      rw [wh_two (by omega)]
      have := unpack_two (hiB x) (loB x) w (by rw [hp]; exact hl.1) (by rw [hp]; exact hr) (by rw [hp]; exact h2)
      rw [hp, h3] at this
      exact this
end Go.Proofs.YtpkkclcjiobgoajGreatDoor
