/- What each function of package bytes answers, of right spots and wrong ones, of any bytes; nothing that was there is turned. -/
import Derived.Test.YtmijjjdedadklaiDoorCurveEq
import Derived.Test.YtmijjjdedadklaiDoorBytesMath
import Derived.Laws.IdiomStrings
import Derived.BigQuiet
namespace Go.Proofs.YtmijjjdedadklaiDoor
open Go.RowKit Go.Sort
set_option linter.unusedVariables false
set_option linter.unusedSimpArgs false
theorem w64_in {n : Int} (h0 : -9223372036854775808 ≤ n) (h1 : n ≤ 9223372036854775807) : wrap64 n = n := by unfold wrap64; omega
theorem or_pl (d e : UInt8) : bits BinOp.or IntKind.i64 ((d.toNat : Int) * 256) (e.toNat : Int) = (plN d e : Int) := by
  have h1 := d.toNat_lt
  have h2 := e.toNat_lt
  have h3 : d.toNat * 256 ||| e.toNat = plN d e := by
    have := Nat.shiftLeft_add_eq_or_of_lt (i := 8) (b := e.toNat) (by omega) d.toNat
    rw [Nat.shiftLeft_eq] at this
    rw [← this]; rfl
  have h4 : plN d e < 65536 := by unfold plN; omega
  have e1 : (BitVec.ofInt 64 ((d.toNat : Int) * 256)).toNat = d.toNat * 256 := by
    rw [show ((d.toNat : Int) * 256) = ((d.toNat * 256 : Nat) : Int) by omega, BitVec.ofInt_natCast, BitVec.toNat_ofNat]; exact Nat.mod_eq_of_lt (by omega)
  have e2 : (BitVec.ofInt 64 (e.toNat : Int)).toNat = e.toNat := by
    rw [BitVec.ofInt_natCast, BitVec.toNat_ofNat]; exact Nat.mod_eq_of_lt (by omega)
  show IntKind.i64.wrap ((BitVec.ofInt 64 ((d.toNat : Int) * 256) ||| BitVec.ofInt 64 (e.toNat : Int)).toNat : Int) = _
  rw [BitVec.toNat_or, e1, e2, h3, IntKind.wrap_i64]
  omega
theorem packed_far (w : World) :
    Calls Tryd.prog 93 #[.agg #[.int .i64 0, .int .i64 0, .bool true]] w fun e w' => e = .returned (.string ⟨#[0]⟩) ∧ Below w.heap.size w w' := by
  have hcv : ∀ o, (convert 115 9 (.slice (some ⟨w.heap.size + 1, 0, none⟩) 1 1)).run Tryd.prog ((w.alloc o).alloc (.cells #[.int .u8 0] 5)) = .ok (.string ⟨#[0]⟩) ((w.alloc o).alloc (.cells #[.int .u8 0] 5)) := fun o =>
    run_convert_bytes_back (P := Tryd.prog) _ _ _ 5 _ 1 [0] Tryd.underlying115 Tryd.underlying5 Tryd.underlying9 (fun j hj => by
      match j, hj with
      | 0, _ => simp [go_sem, *])
  go_enter Tryd.func93, Tryd.ntmps93
  go_wp2_with fail
  go_ret
  exact ⟨rfl, by repeat (first | (with_reducible exact Below.refl _ _) | (with_reducible assumption) | (with_reducible refine Below.setCell ?_ (by first | (simp; done) | (simp; omega) | omega) _) | (with_reducible refine Below.alloc ?_ (by first | (simp; done) | (simp; omega) | omega) _) | (refine bl_call ?_ (by assumption) (by first | (simp; done) | (simp; omega) | omega)) | (with_reducible refine bl_drewN ?_) | (with_reducible refine Below.drew ?_) | (with_reducible refine bl_grow ?_ (by first | (simp; done) | (simp; omega) | omega)))⟩
theorem packed_one (x y : Nat) (w : World) (hx : x < 4051) (hy : y ≤ 2025) :
    Calls Tryd.prog 93 #[.agg #[.int .i64 (x : Int), .int .i64 (y : Int), .bool false]] w fun e w' => e = .returned (.string ⟨#[1, hiB x, loB x]⟩) ∧ Below w.heap.size w w' := by
  have h1 : ¬ (2025 < (y : Int)) := by omega
  have q1 : (((hiB x).toNat : Nat) : Int) = (x : Int) / 256 := by rw [hi_nat hx]; omega
  have q2 : (((loB x).toNat : Nat) : Int) = (x : Int) % 256 := by rw [lo_nat]; omega
  have hcv : ∀ o, (convert 115 9 (.slice (some ⟨w.heap.size + 1, 0, none⟩) 3 3)).run Tryd.prog ((w.alloc o).alloc (.cells #[.int .u8 1, .int .u8 ((x : Int) / 256), .int .u8 ((x : Int) % 256)] 5)) = .ok (.string ⟨#[1, hiB x, loB x]⟩) ((w.alloc o).alloc (.cells #[.int .u8 1, .int .u8 ((x : Int) / 256), .int .u8 ((x : Int) % 256)] 5)) := fun o =>
    run_convert_bytes_back (P := Tryd.prog) _ _ _ 5 _ 3 [1, hiB x, loB x] Tryd.underlying115 Tryd.underlying5 Tryd.underlying9 (fun j hj => by
      match j, hj with
      | 0, _ => simp [go_sem, *]
      | 1, _ => simp [go_sem, *]
      | 2, _ => simp [go_sem, *])
  clear q1 q2
  go_enter Tryd.func93, Tryd.ntmps93
  go_wp2_with fail
  go_ret
  exact ⟨rfl, by repeat (first | (with_reducible exact Below.refl _ _) | (with_reducible assumption) | (with_reducible refine Below.setCell ?_ (by first | (simp; done) | (simp; omega) | omega) _) | (with_reducible refine Below.alloc ?_ (by first | (simp; done) | (simp; omega) | omega) _) | (refine bl_call ?_ (by assumption) (by first | (simp; done) | (simp; omega) | omega)) | (with_reducible refine bl_drewN ?_) | (with_reducible refine Below.drew ?_) | (with_reducible refine bl_grow ?_ (by first | (simp; done) | (simp; omega) | omega)))⟩
theorem packed_two (x y : Nat) (w : World) (hx : x < 4051) (hy : 2025 < y) :
    Calls Tryd.prog 93 #[.agg #[.int .i64 (x : Int), .int .i64 (y : Int), .bool false]] w fun e w' => e = .returned (.string ⟨#[2, hiB x, loB x]⟩) ∧ Below w.heap.size w w' := by
  have h1 : 2025 < (y : Int) := by omega
  have q1 : (((hiB x).toNat : Nat) : Int) = (x : Int) / 256 := by rw [hi_nat hx]; omega
  have q2 : (((loB x).toNat : Nat) : Int) = (x : Int) % 256 := by rw [lo_nat]; omega
  have hcv : ∀ o, (convert 115 9 (.slice (some ⟨w.heap.size + 1, 0, none⟩) 3 3)).run Tryd.prog ((w.alloc o).alloc (.cells #[.int .u8 2, .int .u8 ((x : Int) / 256), .int .u8 ((x : Int) % 256)] 5)) = .ok (.string ⟨#[2, hiB x, loB x]⟩) ((w.alloc o).alloc (.cells #[.int .u8 2, .int .u8 ((x : Int) / 256), .int .u8 ((x : Int) % 256)] 5)) := fun o =>
    run_convert_bytes_back (P := Tryd.prog) _ _ _ 5 _ 3 [2, hiB x, loB x] Tryd.underlying115 Tryd.underlying5 Tryd.underlying9 (fun j hj => by
      match j, hj with
      | 0, _ => simp [go_sem, *]
      | 1, _ => simp [go_sem, *]
      | 2, _ => simp [go_sem, *])
  clear q1 q2
  go_enter Tryd.func93, Tryd.ntmps93
  go_wp2_with fail
  go_ret
  exact ⟨rfl, by repeat (first | (with_reducible exact Below.refl _ _) | (with_reducible assumption) | (with_reducible refine Below.setCell ?_ (by first | (simp; done) | (simp; omega) | omega) _) | (with_reducible refine Below.alloc ?_ (by first | (simp; done) | (simp; omega) | omega) _) | (refine bl_call ?_ (by assumption) (by first | (simp; done) | (simp; omega) | omega)) | (with_reducible refine bl_drewN ?_) | (with_reducible refine Below.drew ?_) | (with_reducible refine bl_grow ?_ (by first | (simp; done) | (simp; omega) | omega)))⟩
theorem packed_tM (k : Nat) (w : World) : Calls Tryd.prog 93 #[.agg #[.int .i64 ((tM k).1 : Int), .int .i64 ((tM k).2.1 : Int), .bool (tM k).2.2]] w fun e w' => e = .returned (.string (pkB (tM k))) ∧ Below w.heap.size w w' := by
  have ho := tM_ok k
  generalize tM k = s at ho ⊢
  obtain ⟨x, y, f⟩ := s
  cases f with
  | true => obtain ⟨rfl, rfl⟩ := far_ok ho; exact packed_far w
  | false =>
    have hl := okS_lt ho
    simp only at hl
    rw [pkB_aff]
    by_cases hy : y ≤ 2025
    · rw [wh_one hy]; exact packed_one x y w hl.1 hy
    · rw [wh_two (by omega)]; exact packed_two x y w hl.1 (by omega)
theorem pack_tM (k : Nat) (w : World) : Calls Tryd.prog 82 #[.agg #[.int .i64 ((tM k).1 : Int), .int .i64 ((tM k).2.1 : Int), .bool (tM k).2.2]] w fun e w' => e = .returned (.tuple #[.string (pkB (tM k)), .nilIface]) ∧ Below w.heap.size w w' := by
  have m1 : True := trivial; have m2 : True := trivial
  go_enter Tryd.func82, Tryd.ntmps82
  go_wp2_with (first | (go_at_call 53; clear m1; refine (check_tM k _).mono ?_; rintro e w1 ⟨rfl, hbw1⟩; have ksw1 : At w1 (w.heap.size) [.int .i64 ((tM k).1 : Int), .int .i64 ((tM k).2.1 : Int), .bool (tM k).2.2] := (by repeat (first | assumption | ((with_reducible refine at_new' _ _ _ _ ?_); (first | rfl | (simp; done))) | (with_reducible refine At.alloc ?_ _) | (with_reducible refine At.drewN ?_) | (with_reducible refine At.grow ?_) | (with_reducible refine At.store4 (by assumption)) | (with_reducible refine At.store3 (by assumption)) | (with_reducible refine At.store2 (by assumption)) | (with_reducible refine At.set ?_ (by omega)) | (with_reducible apply At.store4) | (with_reducible apply At.store3) | (with_reducible apply At.put43) | (refine At.below ?_ (by assumption)))); have hqw1 : Below w.heap.size w w1 := (by repeat (first | (with_reducible exact Below.refl _ _) | (with_reducible assumption) | (with_reducible refine Below.setCell ?_ (by first | (simp; done) | (simp; omega) | omega) _) | (with_reducible refine Below.alloc ?_ (by first | (simp; done) | (simp; omega) | omega) _) | (refine bl_call ?_ (by assumption) (by first | (simp; done) | (simp; omega) | omega)) | (with_reducible refine bl_drewN ?_) | (with_reducible refine Below.drew ?_) | (with_reducible refine bl_grow ?_ (by first | (simp; done) | (simp; omega) | omega)))); have hzw1 := hqw1.size; obtain ⟨zsw1, cs0w1, cs1w1, cs2w1, fs0w1, fs1w1, fs2w1⟩ := ksw1.three; clear hbw1) | (go_at_call 93; clear m2; refine (packed_tM k _).mono ?_; rintro e w2 ⟨rfl, hbw2⟩; have hqw2 : Below w.heap.size w w2 := (by repeat (first | (with_reducible exact Below.refl _ _) | (with_reducible assumption) | (with_reducible refine Below.setCell ?_ (by first | (simp; done) | (simp; omega) | omega) _) | (with_reducible refine Below.alloc ?_ (by first | (simp; done) | (simp; omega) | omega) _) | (refine bl_call ?_ (by assumption) (by first | (simp; done) | (simp; omega) | omega)) | (with_reducible refine bl_drewN ?_) | (with_reducible refine Below.drew ?_) | (with_reducible refine bl_grow ?_ (by first | (simp; done) | (simp; omega) | omega)))); have hzw2 := hqw2.size; clear ksw1 cs0w1 fs0w1 cs1w1 fs1w1 cs2w1 fs2w1 hqw1; clear hbw2))
  exact bodyPost_ret (v := .tuple #[.string (pkB (tM k)), .nilIface]) (by simp [results, Tryd.results82, go_sem, *]) rfl ⟨rfl, by repeat (first | (with_reducible exact Below.refl _ _) | (with_reducible assumption) | (with_reducible refine Below.setCell ?_ (by first | (simp; done) | (simp; omega) | omega) _) | (with_reducible refine Below.alloc ?_ (by first | (simp; done) | (simp; omega) | omega) _) | (refine bl_call ?_ (by assumption) (by first | (simp; done) | (simp; omega) | omega)) | (with_reducible refine bl_drewN ?_) | (with_reducible refine Below.drew ?_) | (with_reducible refine bl_grow ?_ (by first | (simp; done) | (simp; omega) | omega)))⟩
theorem pack_no (x y : Int) (f : Bool) (w : World) (h : (ckI x y f == 0) = false) : Calls Tryd.prog 82 #[.agg #[.int .i64 x, .int .i64 y, .bool f]] w fun e w' => e = .returned (.tuple #[.string ⟨#[]⟩, errOf (ckI x y f)]) ∧ Below w.heap.size w w' := by
  have m1 : True := trivial
  go_enter Tryd.func82, Tryd.ntmps82
  go_wp2_with (first | (go_at_call 53; clear m1; refine (check_no _ _ _ _ h).mono ?_; rintro e w1 ⟨rfl, hbw1⟩; have hqw1 : Below w.heap.size w w1 := (by repeat (first | (with_reducible exact Below.refl _ _) | (with_reducible assumption) | (with_reducible refine Below.setCell ?_ (by first | (simp; done) | (simp; omega) | omega) _) | (with_reducible refine Below.alloc ?_ (by first | (simp; done) | (simp; omega) | omega) _) | (refine bl_call ?_ (by assumption) (by first | (simp; done) | (simp; omega) | omega)) | (with_reducible refine bl_drewN ?_) | (with_reducible refine Below.drew ?_) | (with_reducible refine bl_grow ?_ (by first | (simp; done) | (simp; omega) | omega)))); have hzw1 := hqw1.size; clear hbw1))
  exact bodyPost_ret (v := .tuple #[.string ⟨#[]⟩, errOf (ckI x y f)]) (by simp [results, Tryd.results82, go_sem, *]) rfl ⟨rfl, by repeat (first | (with_reducible exact Below.refl _ _) | (with_reducible assumption) | (with_reducible refine Below.setCell ?_ (by first | (simp; done) | (simp; omega) | omega) _) | (with_reducible refine Below.alloc ?_ (by first | (simp; done) | (simp; omega) | omega) _) | (refine bl_call ?_ (by assumption) (by first | (simp; done) | (simp; omega) | omega)) | (with_reducible refine bl_drewN ?_) | (with_reducible refine Below.drew ?_) | (with_reducible refine bl_grow ?_ (by first | (simp; done) | (simp; omega) | omega)))⟩
end Go.Proofs.YtmijjjdedadklaiDoor
