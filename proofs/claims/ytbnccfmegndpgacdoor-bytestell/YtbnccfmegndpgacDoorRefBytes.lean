/- What the plain reckoning's Bytes, ReadBytes, Spots and List (stoneref1) answer. -/
import Derived.Test.YtbnccfmegndpgacDoorRefCurve
import Derived.Test.YtbnccfmegndpgacDoorList
namespace Go.Proofs.YtbnccfmegndpgacDoor
open Go.RowKit Go.Sort
set_option linter.unusedVariables false
set_option linter.unusedSimpArgs false
theorem rbytes_far (w : World) :
    Calls Tryd.prog 5 #[.agg #[.int .i64 0, .int .i64 0, .bool true]] w fun e w' => e = .returned (.string ⟨#[0]⟩) ∧ Below w.heap.size w w' := by
  go_enter Tryd.func5, Tryd.ntmps5
  go_wp2_with fail
  go_ret
  exact ⟨rfl, by repeat (first | (with_reducible exact Below.refl _ _) | (with_reducible assumption) | (with_reducible refine Below.setCell ?_ (by first | (simp; done) | (simp; omega) | omega) _) | (with_reducible refine Below.alloc ?_ (by first | (simp; done) | (simp; omega) | omega) _) | (refine bl_call ?_ (by assumption) (by first | (simp; done) | (simp; omega) | omega)) | (with_reducible refine bl_drewN ?_) | (with_reducible refine Below.drew ?_) | (with_reducible refine bl_grow ?_ (by first | (simp; done) | (simp; omega) | omega)))⟩
theorem rbytes_one (x y : Nat) (w : World) (hx : x < 4051) (hy : y ≤ 2025) :
    Calls Tryd.prog 5 #[.agg #[.int .i64 (x : Int), .int .i64 (y : Int), .bool false]] w fun e w' => e = .returned (.string ⟨#[1, hiB x, loB x]⟩) ∧ Below w.heap.size w w' := by
  have h1 : ¬ (4051 < 2 * (y : Int)) := by omega
  have q1 : (((hiB x).toNat : Nat) : Int) = (x : Int) / 256 := by rw [hi_nat hx]; omega
  have q2 : (((loB x).toNat : Nat) : Int) = (x : Int) % 256 := by rw [lo_nat]; omega
  have hcv : ∀ o, (convert 40 9 (.slice (some ⟨w.heap.size + 1, 0, none⟩) 3 3)).run Tryd.prog ((w.alloc o).alloc (.cells #[.int .u8 1, .int .u8 ((x : Int) / 256), .int .u8 ((x : Int) % 256)] 5)) = .ok (.string ⟨#[1, hiB x, loB x]⟩) ((w.alloc o).alloc (.cells #[.int .u8 1, .int .u8 ((x : Int) / 256), .int .u8 ((x : Int) % 256)] 5)) := fun o =>
    run_convert_bytes_back (P := Tryd.prog) _ _ _ 5 _ 3 [1, hiB x, loB x] Tryd.underlying40 Tryd.underlying5 Tryd.underlying9 (fun j hj => by
      match j, hj with
      | 0, _ => simp [go_sem, *]
      | 1, _ => simp [go_sem, *]
      | 2, _ => simp [go_sem, *])
  clear q1 q2
  go_enter Tryd.func5, Tryd.ntmps5
  go_wp2_with fail
  go_ret
  exact ⟨rfl, by repeat (first | (with_reducible exact Below.refl _ _) | (with_reducible assumption) | (with_reducible refine Below.setCell ?_ (by first | (simp; done) | (simp; omega) | omega) _) | (with_reducible refine Below.alloc ?_ (by first | (simp; done) | (simp; omega) | omega) _) | (refine bl_call ?_ (by assumption) (by first | (simp; done) | (simp; omega) | omega)) | (with_reducible refine bl_drewN ?_) | (with_reducible refine Below.drew ?_) | (with_reducible refine bl_grow ?_ (by first | (simp; done) | (simp; omega) | omega)))⟩
theorem rbytes_two (x y : Nat) (w : World) (hx : x < 4051) (hy : 2025 < y) (hy' : y < 4051) :
    Calls Tryd.prog 5 #[.agg #[.int .i64 (x : Int), .int .i64 (y : Int), .bool false]] w fun e w' => e = .returned (.string ⟨#[2, hiB x, loB x]⟩) ∧ Below w.heap.size w w' := by
  have h1 : 4051 < 2 * (y : Int) := by omega
  have q1 : (((hiB x).toNat : Nat) : Int) = (x : Int) / 256 := by rw [hi_nat hx]; omega
  have q2 : (((loB x).toNat : Nat) : Int) = (x : Int) % 256 := by rw [lo_nat]; omega
  have hcv : ∀ o, (convert 40 9 (.slice (some ⟨w.heap.size + 1, 0, none⟩) 3 3)).run Tryd.prog ((w.alloc o).alloc (.cells #[.int .u8 2, .int .u8 ((x : Int) / 256), .int .u8 ((x : Int) % 256)] 5)) = .ok (.string ⟨#[2, hiB x, loB x]⟩) ((w.alloc o).alloc (.cells #[.int .u8 2, .int .u8 ((x : Int) / 256), .int .u8 ((x : Int) % 256)] 5)) := fun o =>
    run_convert_bytes_back (P := Tryd.prog) _ _ _ 5 _ 3 [2, hiB x, loB x] Tryd.underlying40 Tryd.underlying5 Tryd.underlying9 (fun j hj => by
      match j, hj with
      | 0, _ => simp [go_sem, *]
      | 1, _ => simp [go_sem, *]
      | 2, _ => simp [go_sem, *])
  clear q1 q2
  go_enter Tryd.func5, Tryd.ntmps5
  go_wp2_with fail
  go_ret
  exact ⟨rfl, by repeat (first | (with_reducible exact Below.refl _ _) | (with_reducible assumption) | (with_reducible refine Below.setCell ?_ (by first | (simp; done) | (simp; omega) | omega) _) | (with_reducible refine Below.alloc ?_ (by first | (simp; done) | (simp; omega) | omega) _) | (refine bl_call ?_ (by assumption) (by first | (simp; done) | (simp; omega) | omega)) | (with_reducible refine bl_drewN ?_) | (with_reducible refine Below.drew ?_) | (with_reducible refine bl_grow ?_ (by first | (simp; done) | (simp; omega) | omega)))⟩
theorem rbytes_tM (k : Nat) (w : World) : Calls Tryd.prog 5 #[.agg #[.int .i64 ((tM k).1 : Int), .int .i64 ((tM k).2.1 : Int), .bool (tM k).2.2]] w fun e w' => e = .returned (.string (pkB (tM k))) ∧ Below w.heap.size w w' := by
  have ho := tM_ok k
  generalize tM k = s at ho ⊢
  obtain ⟨x, y, f⟩ := s
  cases f with
  | true => obtain ⟨rfl, rfl⟩ := far_ok ho; exact rbytes_far w
  | false =>
    have hl := okS_lt ho
    simp only at hl
    rw [pkB_aff]
    by_cases hy : y ≤ 2025
    · rw [wh_one hy]; exact rbytes_one x y w hl.1 hy
    · rw [wh_two (by omega)]; exact rbytes_two x y w hl.1 (by omega) hl.2
theorem pl_wrap (d e : UInt8) : wrap64 (wrap64 (wrap64 (d.toNat : Int) * 256) + wrap64 (e.toNat : Int)) = (plN d e : Int) := by
  have h1 := d.toNat_lt
  have h2 := e.toNat_lt
  unfold plN
  rw [w64_in (n := (d.toNat : Int)) (by omega) (by omega), w64_in (n := (e.toNat : Int)) (by omega) (by omega), w64_in (n := (d.toNat : Int) * 256) (by omega) (by omega), w64_in (by omega) (by omega)]
  omega
theorem rlift_at (x : Nat) (w : World) (h1 : x < 4051) (h : rtOk (sqI (x : Int)) = true) :
    Calls Tryd.prog 16 #[.int .i64 (x : Int)] w fun e w' => e = .returned (.tuple #[.agg #[.int .i64 (x : Int), .int .i64 (ltN x : Int), .bool false], .bool true]) ∧ Below w.heap.size w w' := by
  have := rlift_yes (x : Int) w (by omega) (by omega) h
  rwa [ltI] at this
theorem above {c : UInt8} (h0 : c ≠ 0) (h1 : c ≠ 1) (h2 : c ≠ 2) : 2 < c.toNat := by
  have e0 : c.toNat ≠ 0 := fun h => h0 (UInt8.toNat_inj.1 h)
  have e1 : c.toNat ≠ 1 := fun h => h1 (UInt8.toNat_inj.1 h)
  have e2 : c.toNat ≠ 2 := fun h => h2 (UInt8.toNat_inj.1 h)
  omega
theorem in12 {c : UInt8} (hc : c = 1 ∨ c = 2) : ¬ ((c.toNat : Int) < 1) ∧ ¬ (2 < (c.toNat : Int)) := by rcases hc with rfl | rfl <;> decide
theorem rread_far (w : World) : Calls Tryd.prog 8 #[.string ⟨#[0]⟩] w fun e w' => e = .returned (.tuple #[.agg #[.int .i64 0, .int .i64 0, .bool true], .bool true]) ∧ Below w.heap.size w w' := by
  go_enter Tryd.func8, Tryd.ntmps8
  go_wp2_with fail
  exact bodyPost_ret (v := .tuple #[.agg #[.int .i64 0, .int .i64 0, .bool true], .bool true]) (by simp [results, Tryd.results8, go_sem, *]) rfl ⟨rfl, by repeat (first | (with_reducible exact Below.refl _ _) | (with_reducible assumption) | (with_reducible refine Below.setCell ?_ (by first | (simp; done) | (simp; omega) | omega) _) | (with_reducible refine Below.alloc ?_ (by first | (simp; done) | (simp; omega) | omega) _) | (refine bl_call ?_ (by assumption) (by first | (simp; done) | (simp; omega) | omega)) | (with_reducible refine bl_drewN ?_) | (with_reducible refine Below.drew ?_) | (with_reducible refine bl_grow ?_ (by first | (simp; done) | (simp; omega) | omega)))⟩
theorem rread_bad1 (c : UInt8) (w : World) (h : c ≠ 0) : Calls Tryd.prog 8 #[.string ⟨#[c]⟩] w fun e w' => e = .returned (.tuple #[.agg #[.int .i64 0, .int .i64 0, .bool false], .bool false]) ∧ Below w.heap.size w w' := by
  have h1 : ((((⟨#[c]⟩ : ByteArray)[0]'(show 0 < 1 by decide)).toNat : Int) == 0) = false := by
    show ((c.toNat : Int) == 0) = false
    rw [beq_eq_false_iff_ne]; intro h2; exact h (UInt8.toNat_inj.1 (by show c.toNat = 0; omega))
  go_enter Tryd.func8, Tryd.ntmps8
  go_wp2_with fail
  exact bodyPost_ret (v := .tuple #[.agg #[.int .i64 0, .int .i64 0, .bool false], .bool false]) (by simp [results, Tryd.results8, go_sem, *]) rfl ⟨rfl, by repeat (first | (with_reducible exact Below.refl _ _) | (with_reducible assumption) | (with_reducible refine Below.setCell ?_ (by first | (simp; done) | (simp; omega) | omega) _) | (with_reducible refine Below.alloc ?_ (by first | (simp; done) | (simp; omega) | omega) _) | (refine bl_call ?_ (by assumption) (by first | (simp; done) | (simp; omega) | omega)) | (with_reducible refine bl_drewN ?_) | (with_reducible refine Below.drew ?_) | (with_reducible refine bl_grow ?_ (by first | (simp; done) | (simp; omega) | omega)))⟩
theorem rread_size (b : ByteArray) (w : World) (h1 : b.size ≠ 1) (h3 : b.size ≠ 3) : Calls Tryd.prog 8 #[.string b] w fun e w' => e = .returned (.tuple #[.agg #[.int .i64 0, .int .i64 0, .bool false], .bool false]) ∧ Below w.heap.size w w' := by
  have q1 : ((b.size : Int) == 1) = false := by rw [beq_eq_false_iff_ne]; omega
  have q3 : ((b.size : Int) == 3) = false := by rw [beq_eq_false_iff_ne]; omega
  go_enter Tryd.func8, Tryd.ntmps8
  go_wp2_with fail
  exact bodyPost_ret (v := .tuple #[.agg #[.int .i64 0, .int .i64 0, .bool false], .bool false]) (by simp [results, Tryd.results8, go_sem, *]) rfl ⟨rfl, by repeat (first | (with_reducible exact Below.refl _ _) | (with_reducible assumption) | (with_reducible refine Below.setCell ?_ (by first | (simp; done) | (simp; omega) | omega) _) | (with_reducible refine Below.alloc ?_ (by first | (simp; done) | (simp; omega) | omega) _) | (refine bl_call ?_ (by assumption) (by first | (simp; done) | (simp; omega) | omega)) | (with_reducible refine bl_drewN ?_) | (with_reducible refine Below.drew ?_) | (with_reducible refine bl_grow ?_ (by first | (simp; done) | (simp; omega) | omega)))⟩
theorem rread_bad0 (d e : UInt8) (w : World) : Calls Tryd.prog 8 #[.string ⟨#[0, d, e]⟩] w fun ex w' => ex = .returned (.tuple #[.agg #[.int .i64 0, .int .i64 0, .bool false], .bool false]) ∧ Below w.heap.size w w' := by
  go_enter Tryd.func8, Tryd.ntmps8
  go_wp2_with fail
  exact bodyPost_ret (v := .tuple #[.agg #[.int .i64 0, .int .i64 0, .bool false], .bool false]) (by simp [results, Tryd.results8, go_sem, *]) rfl ⟨rfl, by repeat (first | (with_reducible exact Below.refl _ _) | (with_reducible assumption) | (with_reducible refine Below.setCell ?_ (by first | (simp; done) | (simp; omega) | omega) _) | (with_reducible refine Below.alloc ?_ (by first | (simp; done) | (simp; omega) | omega) _) | (refine bl_call ?_ (by assumption) (by first | (simp; done) | (simp; omega) | omega)) | (with_reducible refine bl_drewN ?_) | (with_reducible refine Below.drew ?_) | (with_reducible refine bl_grow ?_ (by first | (simp; done) | (simp; omega) | omega)))⟩
theorem rread_bad3 (c d e : UInt8) (w : World) (h : 2 < c.toNat) : Calls Tryd.prog 8 #[.string ⟨#[c, d, e]⟩] w fun ex w' => ex = .returned (.tuple #[.agg #[.int .i64 0, .int .i64 0, .bool false], .bool false]) ∧ Below w.heap.size w w' := by
  have q1 : ¬ ((((⟨#[c, d, e]⟩ : ByteArray)[0]'(show 0 < 3 by decide)).toNat : Int) < 1) := by show ¬ ((c.toNat : Int) < 1); omega
  have q2 : 2 < (((⟨#[c, d, e]⟩ : ByteArray)[0]'(show 0 < 3 by decide)).toNat : Int) := by show 2 < (c.toNat : Int); omega
  go_enter Tryd.func8, Tryd.ntmps8
  go_wp2_with fail
  exact bodyPost_ret (v := .tuple #[.agg #[.int .i64 0, .int .i64 0, .bool false], .bool false]) (by simp [results, Tryd.results8, go_sem, *]) rfl ⟨rfl, by repeat (first | (with_reducible exact Below.refl _ _) | (with_reducible assumption) | (with_reducible refine Below.setCell ?_ (by first | (simp; done) | (simp; omega) | omega) _) | (with_reducible refine Below.alloc ?_ (by first | (simp; done) | (simp; omega) | omega) _) | (refine bl_call ?_ (by assumption) (by first | (simp; done) | (simp; omega) | omega)) | (with_reducible refine bl_drewN ?_) | (with_reducible refine Below.drew ?_) | (with_reducible refine bl_grow ?_ (by first | (simp; done) | (simp; omega) | omega)))⟩
set_option maxRecDepth 100000 in
theorem rread_one (d e : UInt8) (w : World) (h1 : plN d e < 4051) (h : rtOk (sqI (plN d e : Int)) = true) :
    Calls Tryd.prog 8 #[.string ⟨#[1, d, e]⟩] w fun ex w' => ex = .returned (.tuple #[.agg #[.int .i64 (plN d e : Int), .int .i64 (ltN (plN d e) : Int), .bool false], .bool true]) ∧ Below w.heap.size w w' := by
  have HR : Hid (rtOk (sqI (plN d e : Int)) = true) := h
  have HX : Hid (wrap64 (wrap64 (wrap64 (((⟨#[1, d, e]⟩ : ByteArray)[1]'(show 1 < 3 by decide)).toNat : Int) * 256) + wrap64 (((⟨#[1, d, e]⟩ : ByteArray)[2]'(show 2 < 3 by decide)).toNat : Int)) = (plN d e : Int)) := pl_wrap d e
  have q1 : ¬ ((((⟨#[1, d, e]⟩ : ByteArray)[0]'(show 0 < 3 by decide)).toNat : Int) < 1) := (in12 (c := 1) (by decide)).1
  have q2 : ¬ (2 < (((⟨#[1, d, e]⟩ : ByteArray)[0]'(show 0 < 3 by decide)).toNat : Int)) := (in12 (c := 1) (by decide)).2
  clear h
  have m1 : True := trivial
  go_enter Tryd.func8, Tryd.ntmps8
  go_wp2_with fail
  go_quiet (fail)
  rw [HX.out]
  go_wp2_with (first | (go_at_call 16; clear m1; refine (rlift_at _ _ h1 HR.out).mono ?_; rintro e w1 ⟨rfl, hbw1⟩; have krw1 : At w1 (w.heap.size) [.int .i64 0, .int .i64 0, .bool false] := (by repeat (first | assumption | ((with_reducible refine at_new' _ _ _ _ ?_); (first | rfl | (simp; done))) | (with_reducible refine At.alloc ?_ _) | (with_reducible refine At.drewN ?_) | (with_reducible refine At.grow ?_) | (with_reducible refine At.store3 (by assumption)) | (with_reducible refine At.store2 (by assumption)) | (with_reducible refine At.set ?_ (by omega)) | (with_reducible apply At.store3) | (refine At.below ?_ (by assumption)))); have hqw1 : Below w.heap.size w w1 := (by repeat (first | (with_reducible exact Below.refl _ _) | (with_reducible assumption) | (with_reducible refine Below.setCell ?_ (by first | (simp; done) | (simp; omega) | omega) _) | (with_reducible refine Below.alloc ?_ (by first | (simp; done) | (simp; omega) | omega) _) | (refine bl_call ?_ (by assumption) (by first | (simp; done) | (simp; omega) | omega)) | (with_reducible refine bl_drewN ?_) | (with_reducible refine Below.drew ?_) | (with_reducible refine bl_grow ?_ (by first | (simp; done) | (simp; omega) | omega)))); have hzw1 := hqw1.size; obtain ⟨zrw1, cr0w1, cr1w1, cr2w1, fr0w1, fr1w1, fr2w1⟩ := krw1.three; clear hbw1))
  exact bodyPost_ret (v := .tuple #[.agg #[.int .i64 (plN d e : Int), .int .i64 (ltN (plN d e) : Int), .bool false], .bool true]) (by simp [results, Tryd.results8, go_sem, *]) rfl ⟨rfl, by repeat (first | (with_reducible exact Below.refl _ _) | (with_reducible assumption) | (with_reducible refine Below.setCell ?_ (by first | (simp; done) | (simp; omega) | omega) _) | (with_reducible refine Below.alloc ?_ (by first | (simp; done) | (simp; omega) | omega) _) | (refine bl_call ?_ (by assumption) (by first | (simp; done) | (simp; omega) | omega)) | (with_reducible refine bl_drewN ?_) | (with_reducible refine Below.drew ?_) | (with_reducible refine bl_grow ?_ (by first | (simp; done) | (simp; omega) | omega)))⟩
set_option maxRecDepth 100000 in
theorem rread_none (c d e : UInt8) (w : World) (hc : c = 1 ∨ c = 2) (h1 : plN d e < 4051) (h : rtOk (sqI (plN d e : Int)) = false) :
    Calls Tryd.prog 8 #[.string ⟨#[c, d, e]⟩] w fun ex w' => ex = .returned (.tuple #[.agg #[.int .i64 0, .int .i64 0, .bool false], .bool false]) ∧ Below w.heap.size w w' := by
  have HR : Hid (rtOk (sqI (plN d e : Int)) = false) := h
  have HX : Hid (wrap64 (wrap64 (wrap64 (((⟨#[c, d, e]⟩ : ByteArray)[1]'(show 1 < 3 by decide)).toNat : Int) * 256) + wrap64 (((⟨#[c, d, e]⟩ : ByteArray)[2]'(show 2 < 3 by decide)).toNat : Int)) = (plN d e : Int)) := pl_wrap d e
  have q1 : ¬ ((((⟨#[c, d, e]⟩ : ByteArray)[0]'(show 0 < 3 by decide)).toNat : Int) < 1) := (in12 hc).1
  have q2 : ¬ (2 < (((⟨#[c, d, e]⟩ : ByteArray)[0]'(show 0 < 3 by decide)).toNat : Int)) := (in12 hc).2
  clear h hc
  have m1 : True := trivial
  go_enter Tryd.func8, Tryd.ntmps8
  go_wp2_with fail
  go_quiet (fail)
  rw [HX.out]
  go_wp2_with (first | (go_at_call 16; clear m1; refine (rlift_no _ _ (by omega) (by omega) HR.out).mono ?_; rintro e w1 ⟨rfl, hbw1⟩; have krw1 : At w1 (w.heap.size) [.int .i64 0, .int .i64 0, .bool false] := (by repeat (first | assumption | ((with_reducible refine at_new' _ _ _ _ ?_); (first | rfl | (simp; done))) | (with_reducible refine At.alloc ?_ _) | (with_reducible refine At.drewN ?_) | (with_reducible refine At.grow ?_) | (with_reducible refine At.store3 (by assumption)) | (with_reducible refine At.store2 (by assumption)) | (with_reducible refine At.set ?_ (by omega)) | (with_reducible apply At.store3) | (refine At.below ?_ (by assumption)))); have hqw1 : Below w.heap.size w w1 := (by repeat (first | (with_reducible exact Below.refl _ _) | (with_reducible assumption) | (with_reducible refine Below.setCell ?_ (by first | (simp; done) | (simp; omega) | omega) _) | (with_reducible refine Below.alloc ?_ (by first | (simp; done) | (simp; omega) | omega) _) | (refine bl_call ?_ (by assumption) (by first | (simp; done) | (simp; omega) | omega)) | (with_reducible refine bl_drewN ?_) | (with_reducible refine Below.drew ?_) | (with_reducible refine bl_grow ?_ (by first | (simp; done) | (simp; omega) | omega)))); have hzw1 := hqw1.size; obtain ⟨zrw1, cr0w1, cr1w1, cr2w1, fr0w1, fr1w1, fr2w1⟩ := krw1.three; clear hbw1))
  exact bodyPost_ret (v := .tuple #[.agg #[.int .i64 0, .int .i64 0, .bool false], .bool false]) (by simp [results, Tryd.results8, go_sem, *]) rfl ⟨rfl, by repeat (first | (with_reducible exact Below.refl _ _) | (with_reducible assumption) | (with_reducible refine Below.setCell ?_ (by first | (simp; done) | (simp; omega) | omega) _) | (with_reducible refine Below.alloc ?_ (by first | (simp; done) | (simp; omega) | omega) _) | (refine bl_call ?_ (by assumption) (by first | (simp; done) | (simp; omega) | omega)) | (with_reducible refine bl_drewN ?_) | (with_reducible refine Below.drew ?_) | (with_reducible refine bl_grow ?_ (by first | (simp; done) | (simp; omega) | omega)))⟩
set_option maxRecDepth 100000 in
theorem rread_out (c d e : UInt8) (w : World) (hc : c = 1 ∨ c = 2) (h1 : 4051 ≤ plN d e) :
    Calls Tryd.prog 8 #[.string ⟨#[c, d, e]⟩] w fun ex w' => ex = .returned (.tuple #[.agg #[.int .i64 0, .int .i64 0, .bool false], .bool false]) ∧ Below w.heap.size w w' := by
  have HX : Hid (wrap64 (wrap64 (wrap64 (((⟨#[c, d, e]⟩ : ByteArray)[1]'(show 1 < 3 by decide)).toNat : Int) * 256) + wrap64 (((⟨#[c, d, e]⟩ : ByteArray)[2]'(show 2 < 3 by decide)).toNat : Int)) = (plN d e : Int)) := pl_wrap d e
  have q1 : ¬ ((((⟨#[c, d, e]⟩ : ByteArray)[0]'(show 0 < 3 by decide)).toNat : Int) < 1) := (in12 hc).1
  have q2 : ¬ (2 < (((⟨#[c, d, e]⟩ : ByteArray)[0]'(show 0 < 3 by decide)).toNat : Int)) := (in12 hc).2
  clear hc
  go_enter Tryd.func8, Tryd.ntmps8
  go_wp2_with fail
  go_quiet (fail)
  rw [HX.out]
  go_wp2_with (fail)
  exact bodyPost_ret (v := .tuple #[.agg #[.int .i64 0, .int .i64 0, .bool false], .bool false]) (by simp [results, Tryd.results8, go_sem, *]) rfl ⟨rfl, by repeat (first | (with_reducible exact Below.refl _ _) | (with_reducible assumption) | (with_reducible refine Below.setCell ?_ (by first | (simp; done) | (simp; omega) | omega) _) | (with_reducible refine Below.alloc ?_ (by first | (simp; done) | (simp; omega) | omega) _) | (refine bl_call ?_ (by assumption) (by first | (simp; done) | (simp; omega) | omega)) | (with_reducible refine bl_drewN ?_) | (with_reducible refine Below.drew ?_) | (with_reducible refine bl_grow ?_ (by first | (simp; done) | (simp; omega) | omega)))⟩
set_option maxRecDepth 100000 in
theorem rread_two (d e : UInt8) (w : World) (h1 : plN d e < 4051) (h : rtOk (sqI (plN d e : Int)) = true) (h0 : ltN (plN d e) ≠ 0) :
    Calls Tryd.prog 8 #[.string ⟨#[2, d, e]⟩] w fun ex w' => ex = .returned (.tuple #[.agg #[.int .i64 (plN d e : Int), .int .i64 (ny (ltN (plN d e)) : Int), .bool false], .bool true]) ∧ Below w.heap.size w w' := by
  have HR : Hid (rtOk (sqI (plN d e : Int)) = true) := h
  have HL : Hid (ltN (plN d e) < 4051) := by have := lt_half h; unfold Hid; omega
  have hz : ((ltN (plN d e) : Int) == 0) = false := by rw [beq_eq_false_iff_ne]; omega
  have HX : Hid (wrap64 (wrap64 (wrap64 (((⟨#[2, d, e]⟩ : ByteArray)[1]'(show 1 < 3 by decide)).toNat : Int) * 256) + wrap64 (((⟨#[2, d, e]⟩ : ByteArray)[2]'(show 2 < 3 by decide)).toNat : Int)) = (plN d e : Int)) := pl_wrap d e
  have q1 : ¬ ((((⟨#[2, d, e]⟩ : ByteArray)[0]'(show 0 < 3 by decide)).toNat : Int) < 1) := (in12 (c := 2) (by decide)).1
  have q2 : ¬ (2 < (((⟨#[2, d, e]⟩ : ByteArray)[0]'(show 0 < 3 by decide)).toNat : Int)) := (in12 (c := 2) (by decide)).2
  clear h
  have m1 : True := trivial; have m2 : True := trivial
  go_enter Tryd.func8, Tryd.ntmps8
  go_wp2_with fail
  go_quiet (fail)
  rw [HX.out]
  go_wp2_with (first | (go_at_call 16; clear m1; refine (rlift_at _ _ h1 HR.out).mono ?_; rintro e w1 ⟨rfl, hbw1⟩; have krw1 : At w1 (w.heap.size) [.int .i64 0, .int .i64 0, .bool false] := (by repeat (first | assumption | ((with_reducible refine at_new' _ _ _ _ ?_); (first | rfl | (simp; done))) | (with_reducible refine At.alloc ?_ _) | (with_reducible refine At.drewN ?_) | (with_reducible refine At.grow ?_) | (with_reducible refine At.store3 (by assumption)) | (with_reducible refine At.store2 (by assumption)) | (with_reducible refine At.set ?_ (by omega)) | (with_reducible apply At.store3) | (refine At.below ?_ (by assumption)))); have hqw1 : Below w.heap.size w w1 := (by repeat (first | (with_reducible exact Below.refl _ _) | (with_reducible assumption) | (with_reducible refine Below.setCell ?_ (by first | (simp; done) | (simp; omega) | omega) _) | (with_reducible refine Below.alloc ?_ (by first | (simp; done) | (simp; omega) | omega) _) | (refine bl_call ?_ (by assumption) (by first | (simp; done) | (simp; omega) | omega)) | (with_reducible refine bl_drewN ?_) | (with_reducible refine Below.drew ?_) | (with_reducible refine bl_grow ?_ (by first | (simp; done) | (simp; omega) | omega)))); have hzw1 := hqw1.size; obtain ⟨zrw1, cr0w1, cr1w1, cr2w1, fr0w1, fr1w1, fr2w1⟩ := krw1.three; clear hbw1) | (go_at_call 17; clear m2; refine (rneg_any _ _ _ _ HL.out).mono ?_; rintro e w2 ⟨rfl, hbw2⟩; have krw2 : At w2 (w.heap.size) [.int .i64 0, .int .i64 0, .bool false] := (by repeat (first | assumption | ((with_reducible refine at_new' _ _ _ _ ?_); (first | rfl | (simp; done))) | (with_reducible refine At.alloc ?_ _) | (with_reducible refine At.drewN ?_) | (with_reducible refine At.grow ?_) | (with_reducible refine At.store3 (by assumption)) | (with_reducible refine At.store2 (by assumption)) | (with_reducible refine At.set ?_ (by omega)) | (with_reducible apply At.store3) | (refine At.below ?_ (by assumption)))); have ksw2 : At w2 (w1.heap.size) [.int .i64 (plN d e : Int), .int .i64 (ltN (plN d e) : Int), .bool false] := (by repeat (first | assumption | ((with_reducible refine at_new' _ _ _ _ ?_); (first | rfl | (simp; done))) | (with_reducible refine At.alloc ?_ _) | (with_reducible refine At.drewN ?_) | (with_reducible refine At.grow ?_) | (with_reducible refine At.store3 (by assumption)) | (with_reducible refine At.store2 (by assumption)) | (with_reducible refine At.set ?_ (by omega)) | (with_reducible apply At.store3) | (refine At.below ?_ (by assumption)))); have hqw2 : Below w.heap.size w w2 := (by repeat (first | (with_reducible exact Below.refl _ _) | (with_reducible assumption) | (with_reducible refine Below.setCell ?_ (by first | (simp; done) | (simp; omega) | omega) _) | (with_reducible refine Below.alloc ?_ (by first | (simp; done) | (simp; omega) | omega) _) | (refine bl_call ?_ (by assumption) (by first | (simp; done) | (simp; omega) | omega)) | (with_reducible refine bl_drewN ?_) | (with_reducible refine Below.drew ?_) | (with_reducible refine bl_grow ?_ (by first | (simp; done) | (simp; omega) | omega)))); have hzw2 := hqw2.size; obtain ⟨zrw2, cr0w2, cr1w2, cr2w2, fr0w2, fr1w2, fr2w2⟩ := krw2.three; obtain ⟨zsw2, cs0w2, cs1w2, cs2w2, fs0w2, fs1w2, fs2w2⟩ := ksw2.three; clear krw1 cr0w1 fr0w1 cr1w1 fr1w1 cr2w1 fr2w1 hqw1; clear hbw2))
  exact bodyPost_ret (v := .tuple #[.agg #[.int .i64 (plN d e : Int), .int .i64 (ny (ltN (plN d e)) : Int), .bool false], .bool true]) (by simp [results, Tryd.results8, go_sem, *]) rfl ⟨rfl, by repeat (first | (with_reducible exact Below.refl _ _) | (with_reducible assumption) | (with_reducible refine Below.setCell ?_ (by first | (simp; done) | (simp; omega) | omega) _) | (with_reducible refine Below.alloc ?_ (by first | (simp; done) | (simp; omega) | omega) _) | (refine bl_call ?_ (by assumption) (by first | (simp; done) | (simp; omega) | omega)) | (with_reducible refine bl_drewN ?_) | (with_reducible refine Below.drew ?_) | (with_reducible refine bl_grow ?_ (by first | (simp; done) | (simp; omega) | omega)))⟩
set_option maxRecDepth 100000 in
theorem rread_zero (d e : UInt8) (w : World) (h1 : plN d e < 4051) (h : rtOk (sqI (plN d e : Int)) = true) (h0 : ltN (plN d e) = 0) :
    Calls Tryd.prog 8 #[.string ⟨#[2, d, e]⟩] w fun ex w' => ex = .returned (.tuple #[.agg #[.int .i64 0, .int .i64 0, .bool false], .bool false]) ∧ Below w.heap.size w w' := by
  have HR : Hid (rtOk (sqI (plN d e : Int)) = true) := h
  have hz : ((ltN (plN d e) : Int) == 0) = true := by rw [beq_iff_eq]; omega
  have HX : Hid (wrap64 (wrap64 (wrap64 (((⟨#[2, d, e]⟩ : ByteArray)[1]'(show 1 < 3 by decide)).toNat : Int) * 256) + wrap64 (((⟨#[2, d, e]⟩ : ByteArray)[2]'(show 2 < 3 by decide)).toNat : Int)) = (plN d e : Int)) := pl_wrap d e
  have q1 : ¬ ((((⟨#[2, d, e]⟩ : ByteArray)[0]'(show 0 < 3 by decide)).toNat : Int) < 1) := (in12 (c := 2) (by decide)).1
  have q2 : ¬ (2 < (((⟨#[2, d, e]⟩ : ByteArray)[0]'(show 0 < 3 by decide)).toNat : Int)) := (in12 (c := 2) (by decide)).2
  clear h
  have m1 : True := trivial
  go_enter Tryd.func8, Tryd.ntmps8
  go_wp2_with fail
  go_quiet (fail)
  rw [HX.out]
  go_wp2_with (first | (go_at_call 16; clear m1; refine (rlift_at _ _ h1 HR.out).mono ?_; rintro e w1 ⟨rfl, hbw1⟩; have krw1 : At w1 (w.heap.size) [.int .i64 0, .int .i64 0, .bool false] := (by repeat (first | assumption | ((with_reducible refine at_new' _ _ _ _ ?_); (first | rfl | (simp; done))) | (with_reducible refine At.alloc ?_ _) | (with_reducible refine At.drewN ?_) | (with_reducible refine At.grow ?_) | (with_reducible refine At.store3 (by assumption)) | (with_reducible refine At.store2 (by assumption)) | (with_reducible refine At.set ?_ (by omega)) | (with_reducible apply At.store3) | (refine At.below ?_ (by assumption)))); have hqw1 : Below w.heap.size w w1 := (by repeat (first | (with_reducible exact Below.refl _ _) | (with_reducible assumption) | (with_reducible refine Below.setCell ?_ (by first | (simp; done) | (simp; omega) | omega) _) | (with_reducible refine Below.alloc ?_ (by first | (simp; done) | (simp; omega) | omega) _) | (refine bl_call ?_ (by assumption) (by first | (simp; done) | (simp; omega) | omega)) | (with_reducible refine bl_drewN ?_) | (with_reducible refine Below.drew ?_) | (with_reducible refine bl_grow ?_ (by first | (simp; done) | (simp; omega) | omega)))); have hzw1 := hqw1.size; obtain ⟨zrw1, cr0w1, cr1w1, cr2w1, fr0w1, fr1w1, fr2w1⟩ := krw1.three; clear hbw1))
  exact bodyPost_ret (v := .tuple #[.agg #[.int .i64 0, .int .i64 0, .bool false], .bool false]) (by simp [results, Tryd.results8, go_sem, *]) rfl ⟨rfl, by repeat (first | (with_reducible exact Below.refl _ _) | (with_reducible assumption) | (with_reducible refine Below.setCell ?_ (by first | (simp; done) | (simp; omega) | omega) _) | (with_reducible refine Below.alloc ?_ (by first | (simp; done) | (simp; omega) | omega) _) | (refine bl_call ?_ (by assumption) (by first | (simp; done) | (simp; omega) | omega)) | (with_reducible refine bl_drewN ?_) | (with_reducible refine Below.drew ?_) | (with_reducible refine bl_grow ?_ (by first | (simp; done) | (simp; omega) | omega)))⟩
theorem rread_tM (k : Nat) (w : World) : Calls Tryd.prog 8 #[.string (pkB (tM k))] w fun e w' => e = .returned (.tuple #[.agg #[.int .i64 ((tM k).1 : Int), .int .i64 ((tM k).2.1 : Int), .bool (tM k).2.2], .bool true]) ∧ Below w.heap.size w w' := by
  have ho := tM_ok k
  generalize tM k = s at ho ⊢
  obtain ⟨x, y, f⟩ := s
  cases f with
  | true => obtain ⟨rfl, rfl⟩ := far_ok ho; exact rread_far w
  | false =>
    have hl := okS_lt ho
    simp only at hl
    have hh := height ho
    have hr := on_root ho
    have hp := pl_hl hl.1
    rw [pkB_aff]
    by_cases hy : y ≤ 2025
    · rw [wh_one hy]
      have := rread_one (hiB x) (loB x) w (by rw [hp]; exact hl.1) (by rw [hp]; exact hr)
      rw [hp, hh.1 hy] at this
      exact this
    · obtain ⟨h1, h2, h3⟩ := hh.2 (by omega)
      rw [wh_two (by omega)]
      have := rread_two (hiB x) (loB x) w (by rw [hp]; exact hl.1) (by rw [hp]; exact hr) (by rw [hp]; exact h2)
      rw [hp, h3] at this
      exact this
theorem rread_no (b : ByteArray) (w : World) (h : noB b) : Calls Tryd.prog 8 #[.string b] w fun e w' => e = .returned (.tuple #[.agg #[.int .i64 0, .int .i64 0, .bool false], .bool false]) ∧ Below w.heap.size w w' := by
  by_cases h1 : b.size = 1
  · obtain ⟨c, rfl⟩ := ba_one h1
    exact rread_bad1 c w (no_one h)
  by_cases h3 : b.size = 3
  · obtain ⟨c, d, e, rfl⟩ := ba_three h3
    by_cases hp : plN d e < 4051
    · by_cases c1 : c = 1
      · subst c1; exact rread_none 1 d e w (Or.inl rfl) hp (no_less h hp)
      by_cases c2 : c = 2
      · subst c2
        cases hr : rtOk (sqI (plN d e : Int))
        · exact rread_none 2 d e w (Or.inr rfl) hp hr
        · exact rread_zero d e w hp hr (no_great h hp hr)
      by_cases c0 : c = 0
      · subst c0; exact rread_bad0 d e w
      exact rread_bad3 c d e w (above c0 c1 c2)
    · by_cases c1 : c = 1
      · exact rread_out c d e w (Or.inl c1) (by omega)
      by_cases c2 : c = 2
      · exact rread_out c d e w (Or.inr c2) (by omega)
      by_cases c0 : c = 0
      · subst c0; exact rread_bad0 d e w
      exact rread_bad3 c d e w (above c0 c1 c2)
  exact rread_size b w h1 h3
theorem rspots_many (sa : Option Addr) (n c : Nat) (w : World) (h : 12 < n) : Calls Tryd.prog 10 #[.slice sa n c] w fun e w' => e = .returned (.int .i64 4) ∧ Below w.heap.size w w' := by
  have h1 : 12 < (n : Int) := by omega
  go_enter Tryd.func10, Tryd.ntmps10
  go_wp2_with fail
  go_ret
  exact ⟨rfl, by repeat (first | (with_reducible exact Below.refl _ _) | (with_reducible assumption) | (with_reducible refine Below.setCell ?_ (by first | (simp; done) | (simp; omega) | omega) _) | (with_reducible refine Below.alloc ?_ (by first | (simp; done) | (simp; omega) | omega) _) | (refine bl_call ?_ (by assumption) (by first | (simp; done) | (simp; omega) | omega)) | (with_reducible refine bl_drewN ?_) | (with_reducible refine Below.drew ?_) | (with_reducible refine bl_grow ?_ (by first | (simp; done) | (simp; omega) | omega)))⟩
theorem rspots_nil (sa : Option Addr) (c : Nat) (w : World) : Calls Tryd.prog 10 #[.slice sa 0 c] w fun e w' => e = .returned (.int .i64 0) ∧ Below w.heap.size w w' := by
  go_enter Tryd.func10, Tryd.ntmps10
  go_wp2_with fail
  go_loopw [3] (fun ti wl => ti = .int .i64 0 ∧ Below w.heap.size w wl) (fun _ _ => 0)
  case atStart => exact ⟨rfl, Below.refl _ _⟩
  case round =>
    obtain ⟨rfl, hbl⟩ := hrel
    go_wp2_with fail
    go_ret
    exact ⟨rfl, hbl⟩
set_option maxRecDepth 100000 in
set_option maxHeartbeats 1000000 in
theorem rspots_any (b o n c m : Nat) (X Y : Nat → Int) (F : Nat → Bool) (w : World) (hn : n ≤ 12) (hr : RowO w b o n X Y F) (hm : m ≤ n) (hok : ∀ j, j < m → ckI (X j) (Y j) (F j) = 0) (v : Int)
    (hv : (m = n ∧ v = 0) ∨ (m < n ∧ (ckI (X m) (Y m) (F m) == 0) = false ∧ v = ckI (X m) (Y m) (F m))) :
    Calls Tryd.prog 10 #[.slice (some ⟨b, o, none⟩) n c] w fun e w' => e = .returned (.int .i64 v) ∧ Below w.heap.size w w' := by
  have HR : Hid (RowO w b o n X Y F) := hr
  have HO : Hid (∀ j, j < m → ckI (X j) (Y j) (F j) = 0) := hok
  have HV : Hid ((m = n ∧ v = 0) ∨ (m < n ∧ (ckI (X m) (Y m) (F m) == 0) = false ∧ v = ckI (X m) (Y m) (F m))) := hv
  have hb := hr.1
  have h1 : ¬ (12 < (n : Int)) := by omega
  clear hr hok hv
  go_enter Tryd.func10, Tryd.ntmps10
  go_wp2_with fail
  go_loopw [3] (fun ti wl => ∃ k : Nat, k ≤ m ∧ ti = .int .i64 k ∧ Below w.heap.size w wl) (fun ti _ => n - (intOf ti).toNat)
  case atStart => exact ⟨0, by omega, rfl, Below.refl _ _⟩
  case round =>
    obtain ⟨k, hk, rfl, hbl⟩ := hrel
    have hz := hbl.size
    by_cases hlt : k < n
    · have hlt' : (k : Int) < n := by omega
      obtain ⟨c0, c1, c2⟩ := (HR.out.below hb hbl).2 k hlt
      by_cases hkm : k < m
      · go_wp2_with (go_at_call 4; refine (rspot_yes (HO.out k hkm) _).mono ?_; rintro e w1 ⟨rfl, hb1⟩)
        go_roundw
        case rel => exact ⟨k + 1, by omega, by simp, by repeat (first | (with_reducible exact Below.refl _ _) | (with_reducible assumption) | (with_reducible refine Below.setCell ?_ (by first | (simp; done) | (simp; omega) | omega) _) | (with_reducible refine Below.alloc ?_ (by first | (simp; done) | (simp; omega) | omega) _) | (refine bl_call ?_ (by assumption) (by first | (simp; done) | (simp; omega) | omega)) | (with_reducible refine bl_drewN ?_) | (with_reducible refine Below.drew ?_) | (with_reducible refine bl_grow ?_ (by first | (simp; done) | (simp; omega) | omega)))⟩
        case measure => simp [intOf]; omega
      · obtain rfl : k = m := by omega
        obtain ⟨h1, h2, rfl⟩ : k < n ∧ (ckI (X k) (Y k) (F k) == 0) = false ∧ v = ckI (X k) (Y k) (F k) := by
          rcases HV.out with h | h
          · omega
          · exact h
        go_wp2_with (go_at_call 4; refine (rspot_any _ _ _ _).mono ?_; rintro e w1 ⟨rfl, hb1⟩)
        go_ret
        exact ⟨rfl, by repeat (first | (with_reducible exact Below.refl _ _) | (with_reducible assumption) | (with_reducible refine Below.setCell ?_ (by first | (simp; done) | (simp; omega) | omega) _) | (with_reducible refine Below.alloc ?_ (by first | (simp; done) | (simp; omega) | omega) _) | (refine bl_call ?_ (by assumption) (by first | (simp; done) | (simp; omega) | omega)) | (with_reducible refine bl_drewN ?_) | (with_reducible refine Below.drew ?_) | (with_reducible refine bl_grow ?_ (by first | (simp; done) | (simp; omega) | omega)))⟩
    · have hlt' : ¬ (k : Int) < n := by omega
      obtain ⟨h1, rfl⟩ : m = n ∧ v = 0 := by
        rcases HV.out with h | h
        · exact h
        · omega
      go_wp2_with fail
      go_ret
      exact ⟨rfl, by repeat (first | (with_reducible exact Below.refl _ _) | (with_reducible assumption) | (with_reducible refine Below.setCell ?_ (by first | (simp; done) | (simp; omega) | omega) _) | (with_reducible refine Below.alloc ?_ (by first | (simp; done) | (simp; omega) | omega) _) | (refine bl_call ?_ (by assumption) (by first | (simp; done) | (simp; omega) | omega)) | (with_reducible refine bl_drewN ?_) | (with_reducible refine Below.drew ?_) | (with_reducible refine bl_grow ?_ (by first | (simp; done) | (simp; omega) | omega)))⟩
theorem rspots_row (b o n c : Nat) (X Y : Nat → Int) (F : Nat → Bool) (w : World) (hn : n ≤ 12) (hr : RowO w b o n X Y F) : Calls Tryd.prog 10 #[.slice (some ⟨b, o, none⟩) n c] w fun e w' => e = .returned (.int .i64 (rowE X Y F n)) ∧ Below w.heap.size w w' := by
  cases h : rowE X Y F n == 0
  · obtain ⟨m, h1, h2, h3, h4⟩ := rowE_first h
    rw [h4]
    exact rspots_any b o n c m X Y F w hn hr (Nat.le_of_lt h1) h2 _ (Or.inr ⟨h1, h3, rfl⟩)
  · have h0 : rowE X Y F n = 0 := by simpa using h
    rw [h0]
    exact rspots_any b o n c n X Y F w hn hr (Nat.le_refl _) (rowE_zero h0) _ (Or.inl ⟨rfl, rfl⟩)
theorem rlist_nil (sa : Option Addr) (c : Nat) (w : World) : Calls Tryd.prog 11 #[.slice sa 0 c] w fun e w' => e = .returned (.string ⟨#[0]⟩) ∧ Below w.heap.size w w' := by
  have hcv : (convert 40 9 (.slice (some ⟨w.heap.size, 0, none⟩) 1 1)).run Tryd.prog (w.alloc (.cells #[.int .u8 0] 5)) = .ok (.string ⟨#[0]⟩) (w.alloc (.cells #[.int .u8 0] 5)) := 
    run_convert_bytes_back (P := Tryd.prog) _ _ _ 5 _ 1 [0] Tryd.underlying40 Tryd.underlying5 Tryd.underlying9 (fun j hj => by
      match j, hj with
      | 0, _ => simp [go_sem, *])
  go_enter Tryd.func11, Tryd.ntmps11
  go_wp2_with fail
  go_loopw [4, 5] (fun ts ti wl => ts = .string ⟨#[0]⟩ ∧ ti = .int .i64 0 ∧ Below w.heap.size w wl) (fun _ _ _ => 0)
  case atStart => exact ⟨rfl, rfl, by repeat (first | (with_reducible exact Below.refl _ _) | (with_reducible assumption) | (with_reducible refine Below.setCell ?_ (by first | (simp; done) | (simp; omega) | omega) _) | (with_reducible refine Below.alloc ?_ (by first | (simp; done) | (simp; omega) | omega) _) | (refine bl_call ?_ (by assumption) (by first | (simp; done) | (simp; omega) | omega)) | (with_reducible refine bl_drewN ?_) | (with_reducible refine Below.drew ?_) | (with_reducible refine bl_grow ?_ (by first | (simp; done) | (simp; omega) | omega)))⟩
  case round =>
    obtain ⟨rfl, rfl, hbl⟩ := hrel
    go_wp2_with fail
    go_ret
    exact ⟨rfl, hbl⟩
theorem cat_pk (l : List UInt8) (s : Sn) : (⟨l.toArray⟩ : ByteArray) ++ pkB s = ⟨(l ++ pkL s).toArray⟩ := by
  apply ByteArray.ext
  rw [ByteArray.data_append]
  simp [pkB]
set_option maxRecDepth 100000 in
set_option maxHeartbeats 1000000 in
theorem rlist_row (b o n c : Nat) (X Y : Nat → Int) (F : Nat → Bool) (K : Nat → Nat) (w : World) (hn : n ≤ 12) (hr : RowO w b o n X Y F) (hK : ∀ i, i < n → X i = ((tM (K i)).1 : Int) ∧ Y i = ((tM (K i)).2.1 : Int) ∧ F i = (tM (K i)).2.2) :
    Calls Tryd.prog 11 #[.slice (some ⟨b, o, none⟩) n c] w fun e w' => e = .returned (.string ⟨(lsL K n).toArray⟩) ∧ Below w.heap.size w w' := by
  have hcv : (convert 40 9 (.slice (some ⟨w.heap.size, 0, none⟩) 1 1)).run Tryd.prog (w.alloc (.cells #[.int .u8 (n : Int)] 5)) = .ok (.string ⟨#[UInt8.ofNat n]⟩) (w.alloc (.cells #[.int .u8 (n : Int)] 5)) := 
    run_convert_bytes_back (P := Tryd.prog) _ _ _ 5 _ 1 [UInt8.ofNat n] Tryd.underlying40 Tryd.underlying5 Tryd.underlying9 (fun j hj => by
      match j, hj with
      | 0, _ => (simp [go_sem]; omega))
  have HR : Hid (RowO w b o n X Y F) := hr
  have HK : Hid (∀ i, i < n → X i = ((tM (K i)).1 : Int) ∧ Y i = ((tM (K i)).2.1 : Int) ∧ F i = (tM (K i)).2.2) := hK
  have hb := hr.1
  clear hr hK
  go_enter Tryd.func11, Tryd.ntmps11
  go_wp2_with fail
  go_loopw [4, 5] (fun ts ti wl => ∃ k : Nat, k ≤ n ∧ ts = .string ⟨(UInt8.ofNat n :: rowL K k).toArray⟩ ∧ ti = .int .i64 k ∧ Below w.heap.size w wl) (fun _ ti _ => n - (intOf ti).toNat)
  case atStart => exact ⟨0, by omega, rfl, rfl, by repeat (first | (with_reducible exact Below.refl _ _) | (with_reducible assumption) | (with_reducible refine Below.setCell ?_ (by first | (simp; done) | (simp; omega) | omega) _) | (with_reducible refine Below.alloc ?_ (by first | (simp; done) | (simp; omega) | omega) _) | (refine bl_call ?_ (by assumption) (by first | (simp; done) | (simp; omega) | omega)) | (with_reducible refine bl_drewN ?_) | (with_reducible refine Below.drew ?_) | (with_reducible refine bl_grow ?_ (by first | (simp; done) | (simp; omega) | omega)))⟩
  case round =>
    obtain ⟨k, hk, rfl, rfl, hbl⟩ := hrel
    have hz := hbl.size
    have hl := rowL_le K k
    by_cases hlt : k < n
    · have hlt' : (k : Int) < n := by omega
      obtain ⟨c0, c1, c2⟩ := (HR.out.below hb hbl).2 k hlt
      obtain ⟨e0, e1, e2⟩ := HK.out k hlt
      rw [e0] at c0; rw [e1] at c1; rw [e2] at c2
      clear e0 e1 e2
      have hs := pkB_size (tM (K k))
      go_wp2_with (go_at_call 5; refine (rbytes_tM (K k) _).mono ?_; rintro e w3 ⟨rfl, hb3⟩)
      go_roundw
      case rel => exact ⟨k + 1, by omega, by rw [cat_pk, rowL_succ]; rfl, by simp, by repeat (first | (with_reducible exact Below.refl _ _) | (with_reducible assumption) | (with_reducible refine Below.setCell ?_ (by first | (simp; done) | (simp; omega) | omega) _) | (with_reducible refine Below.alloc ?_ (by first | (simp; done) | (simp; omega) | omega) _) | (refine bl_call ?_ (by assumption) (by first | (simp; done) | (simp; omega) | omega)) | (with_reducible refine bl_drewN ?_) | (with_reducible refine Below.drew ?_) | (with_reducible refine bl_grow ?_ (by first | (simp; done) | (simp; omega) | omega)))⟩
      case measure => simp [intOf]; omega
    · have hlt' : ¬ (k : Int) < n := by omega
      obtain rfl : k = n := by omega
      go_wp2_with fail
      go_ret
      exact ⟨rfl, hbl⟩
end Go.Proofs.YtbnccfmegndpgacDoor
