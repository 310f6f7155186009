/- What each function of package bytes answers, of right spots and wrong ones, of any bytes; nothing that was there is turned. -/
import Derived.Test.YtlbdcgnhmkjfiajGreatDoorCurveEq
import Derived.Test.YtlbdcgnhmkjfiajGreatDoorBytesMath
import Derived.Laws.IdiomStrings
import Derived.BigQuiet
namespace Go.Proofs.YtlbdcgnhmkjfiajGreatDoor
open Go.RowKit Go.Sort
set_option linter.unusedVariables false
set_option linter.unusedSimpArgs false
theorem w64_in {n : Int} (h0 : -9223372036854775808 ≤ n) (h1 : n ≤ 9223372036854775807) : wrap64 n = n := by unfold wrap64; omega
theorem or_pl (d e : UInt8) : bits BinOp.or IntKind.i64 ((d.toNat : Int) * 256) (e.toNat : Int) = (plN d e : Int) := by
  have h1 := d.toNat_lt
  have h2 := e.toNat_lt
  have h3 : d.toNat * 256 ||| e.toNat = plN d e := by
    have := Nat.shiftLeft_add_eq_or_of_lt (i := 8) (b := e.toNat) (by omega) d.toNat
    rw [Nat.shiftLeft_eq] at this
    rw [← this]; rfl
  have h4 : plN d e < 65536 := by unfold plN; omega
  have e1 : (BitVec.ofInt 64 ((d.toNat : Int) * 256)).toNat = d.toNat * 256 := by
    rw [show ((d.toNat : Int) * 256) = ((d.toNat * 256 : Nat) : Int) by omega, BitVec.ofInt_natCast, BitVec.toNat_ofNat]; exact Nat.mod_eq_of_lt (by omega)
  have e2 : (BitVec.ofInt 64 (e.toNat : Int)).toNat = e.toNat := by
    rw [BitVec.ofInt_natCast, BitVec.toNat_ofNat]; exact Nat.mod_eq_of_lt (by omega)
  show IntKind.i64.wrap ((BitVec.ofInt 64 ((d.toNat : Int) * 256) ||| BitVec.ofInt 64 (e.toNat : Int)).toNat : Int) = _
  rw [BitVec.toNat_or, e1, e2, h3, IntKind.wrap_i64]
  omega
theorem packed_far (w : World) :
    Calls Tryz.prog 54 #[.agg #[.int .i64 0, .int .i64 0, .bool true]] w fun e w' => e = .returned (.string ⟨#[0]⟩) ∧ Below w.heap.size w w' := by
  have hcv : ∀ o, (convert 89 9 (.slice (some ⟨w.heap.size + 1, 0, none⟩) 1 1)).run Tryz.prog ((w.alloc o).alloc (.cells #[.int .u8 0] 5)) = .ok (.string ⟨#[0]⟩) ((w.alloc o).alloc (.cells #[.int .u8 0] 5)) := fun o =>
    run_convert_bytes_back (P := Tryz.prog) _ _ _ 5 _ 1 [0] Tryz.underlying89 Tryz.underlying5 Tryz.underlying9 (fun j hj => by
      match j, hj with
      | 0, _ => simp [go_sem, *])
  go_enter Tryz.func54, Tryz.ntmps54
  go_wp2_with fail
  go_ret
  exact ⟨rfl, by repeat (first | (with_reducible exact Below.refl _ _) | (with_reducible assumption) | (with_reducible refine Below.setCell ?_ (by first | (simp; done) | (simp; omega) | omega) _) | (with_reducible refine Below.alloc ?_ (by first | (simp; done) | (simp; omega) | omega) _) | (refine bl_call ?_ (by assumption) (by first | (simp; done) | (simp; omega) | omega)) | (with_reducible refine bl_drewN ?_) | (with_reducible refine Below.drew ?_) | (with_reducible refine bl_grow ?_ (by first | (simp; done) | (simp; omega) | omega)))⟩
theorem packed_one (x y : Nat) (w : World) (hx : x < 4051) (hy : y ≤ 2025) :
    Calls Tryz.prog 54 #[.agg #[.int .i64 (x : Int), .int .i64 (y : Int), .bool false]] w fun e w' => e = .returned (.string ⟨#[1, hiB x, loB x]⟩) ∧ Below w.heap.size w w' := by
  have h1 : ¬ (2025 < (y : Int)) := by omega
  have q1 : (((hiB x).toNat : Nat) : Int) = (x : Int) / 256 := by rw [hi_nat hx]; omega
  have q2 : (((loB x).toNat : Nat) : Int) = (x : Int) % 256 := by rw [lo_nat]; omega
  have hcv : ∀ o, (convert 89 9 (.slice (some ⟨w.heap.size + 1, 0, none⟩) 3 3)).run Tryz.prog ((w.alloc o).alloc (.cells #[.int .u8 1, .int .u8 ((x : Int) / 256), .int .u8 ((x : Int) % 256)] 5)) = .ok (.string ⟨#[1, hiB x, loB x]⟩) ((w.alloc o).alloc (.cells #[.int .u8 1, .int .u8 ((x : Int) / 256), .int .u8 ((x : Int) % 256)] 5)) := fun o =>
    run_convert_bytes_back (P := Tryz.prog) _ _ _ 5 _ 3 [1, hiB x, loB x] Tryz.underlying89 Tryz.underlying5 Tryz.underlying9 (fun j hj => by
      match j, hj with
      | 0, _ => simp [go_sem, *]
      | 1, _ => simp [go_sem, *]
      | 2, _ => simp [go_sem, *])
  clear q1 q2
  go_enter Tryz.func54, Tryz.ntmps54
  go_wp2_with fail
  go_ret
  exact ⟨rfl, by repeat (first | (with_reducible exact Below.refl _ _) | (with_reducible assumption) | (with_reducible refine Below.setCell ?_ (by first | (simp; done) | (simp; omega) | omega) _) | (with_reducible refine Below.alloc ?_ (by first | (simp; done) | (simp; omega) | omega) _) | (refine bl_call ?_ (by assumption) (by first | (simp; done) | (simp; omega) | omega)) | (with_reducible refine bl_drewN ?_) | (with_reducible refine Below.drew ?_) | (with_reducible refine bl_grow ?_ (by first | (simp; done) | (simp; omega) | omega)))⟩
theorem packed_two (x y : Nat) (w : World) (hx : x < 4051) (hy : 2025 < y) :
    Calls Tryz.prog 54 #[.agg #[.int .i64 (x : Int), .int .i64 (y : Int), .bool false]] w fun e w' => e = .returned (.string ⟨#[2, hiB x, loB x]⟩) ∧ Below w.heap.size w w' := by
  have h1 : 2025 < (y : Int) := by omega
  have q1 : (((hiB x).toNat : Nat) : Int) = (x : Int) / 256 := by rw [hi_nat hx]; omega
  have q2 : (((loB x).toNat : Nat) : Int) = (x : Int) % 256 := by rw [lo_nat]; omega
  have hcv : ∀ o, (convert 89 9 (.slice (some ⟨w.heap.size + 1, 0, none⟩) 3 3)).run Tryz.prog ((w.alloc o).alloc (.cells #[.int .u8 2, .int .u8 ((x : Int) / 256), .int .u8 ((x : Int) % 256)] 5)) = .ok (.string ⟨#[2, hiB x, loB x]⟩) ((w.alloc o).alloc (.cells #[.int .u8 2, .int .u8 ((x : Int) / 256), .int .u8 ((x : Int) % 256)] 5)) := fun o =>
    run_convert_bytes_back (P := Tryz.prog) _ _ _ 5 _ 3 [2, hiB x, loB x] Tryz.underlying89 Tryz.underlying5 Tryz.underlying9 (fun j hj => by
      match j, hj with
      | 0, _ => simp [go_sem, *]
      | 1, _ => simp [go_sem, *]
      | 2, _ => simp [go_sem, *])
  clear q1 q2
  go_enter Tryz.func54, Tryz.ntmps54
  go_wp2_with fail
  go_ret
  exact ⟨rfl, by repeat (first | (with_reducible exact Below.refl _ _) | (with_reducible assumption) | (with_reducible refine Below.setCell ?_ (by first | (simp; done) | (simp; omega) | omega) _) | (with_reducible refine Below.alloc ?_ (by first | (simp; done) | (simp; omega) | omega) _) | (refine bl_call ?_ (by assumption) (by first | (simp; done) | (simp; omega) | omega)) | (with_reducible refine bl_drewN ?_) | (with_reducible refine Below.drew ?_) | (with_reducible refine bl_grow ?_ (by first | (simp; done) | (simp; omega) | omega)))⟩
theorem packed_tM (k : Nat) (w : World) : Calls Tryz.prog 54 #[.agg #[.int .i64 ((tM k).1 : Int), .int .i64 ((tM k).2.1 : Int), .bool (tM k).2.2]] w fun e w' => e = .returned (.string (pkB (tM k))) ∧ Below w.heap.size w w' := by
  have ho := tM_ok k
  generalize tM k = s at ho ⊢
  obtain ⟨x, y, f⟩ := s
  cases f with
  | true => obtain ⟨rfl, rfl⟩ := far_ok ho; exact packed_far w
  | false =>
    have hl := okS_lt ho
    simp only at hl
    rw [pkB_aff]
    by_cases hy : y ≤ 2025
    · rw [wh_one hy]; exact packed_one x y w hl.1 hy
    · rw [wh_two (by omega)]; exact packed_two x y w hl.1 (by omega)
end Go.Proofs.YtlbdcgnhmkjfiajGreatDoor
