/- The long number of any text, as package hash answers it; nothing that was there is turned. -/
import Derived.Test.YtgngdabfmbipaakGreatDoorKG0
import Derived.Test.YtgngdabfmbipaakGreatDoorKG3
import Derived.Test.YtgngdabfmbipaakGreatDoorKG2
import Derived.Laws.IdiomStrings
import Derived.BigQuiet
import Derived.Test.YtgngdabfmbipaakGreatDoorKG5
import Derived.Test.YtgngdabfmbipaakGreatDoorKG1
namespace Go.Proofs.YtgngdabfmbipaakGreatDoor
open Go.RowKit Go.Sort
set_option linter.unusedVariables false
set_option linter.unusedSimpArgs false
theorem bh_int (n b : Nat) : ((bhN n b : Nat) : Int) = ((n : Int) * 263 + b + 1) % 1000003 := by unfold bhN; omega
theorem behind_any (n b : Nat) (w : World) (hn : n < 1000003) (hb : b < 256) :
    Calls Tryz.prog 113 #[.int .i64 (n : Int), .int .u8 (b : Int)] w fun e w' => e = .returned (.int .i64 (bhN n b : Int)) ∧ w' = w := by
  have e1 : wrap64 (b : Int) = b := by unfold wrap64; omega
  go_enter Tryz.func113, Tryz.ntmps113
  go_wp2_with fail
  go_ret
  refine ⟨ret_int ?_, rfl⟩
  rw [bh_int]
theorem behind_at {v : Int} {b : Nat} (h : v = (b : Int)) (n : Nat) (w : World) (hn : n < 1000003) (hb : b < 256) :
    Calls Tryz.prog 113 #[.int .i64 (n : Int), .int .u8 v] w fun e w' => e = .returned (.int .i64 (bhN n b : Int)) ∧ w' = w := by
  subst h; exact behind_any n b w hn hb
theorem long_any (t : ByteArray) (w : World) (ht : t.size ≤ 9223372036854775807) :
    Calls Tryz.prog 73 #[.string t] w fun e w' => e = .returned (.int .i64 (longN t : Int)) ∧ w' = w := by
  go_enter Tryz.func73, Tryz.ntmps73
  go_wp2_with fail
  go_loopw [3, 7] (fun tn ti wl => ∃ k : Nat, k ≤ t.size ∧ ti = .int .i64 k ∧ tn = .int .i64 (lgN t k : Int) ∧ wl = w) (fun _ ti _ => t.size - (intOf ti).toNat)
  case atStart => exact ⟨0, by omega, rfl, rfl, rfl⟩
  case round =>
    obtain ⟨k, hk, rfl, rfl, rfl⟩ := hrel
    by_cases hlt : k < t.size
    · have hlt' : (k : Int) < t.size := by omega
      have hb := byN_lt t k
      have hl := lgN_lt t k
      have he := byN_at hlt
      go_wp2_with (go_at_call 113; refine (behind_at (b := byN t k) (by rw [he]) _ _ hl hb).mono ?_; rintro e w1 ⟨rfl, rfl⟩)
      go_roundw
      case rel => exact ⟨k + 1, by omega, by simp, by show _ = Value.int .i64 ((bhN (lgN t k) (byN t k) : Nat) : Int); rw [he], by first | trivial | rfl⟩
      case measure => simp [intOf]; omega
    · have hlt' : ¬ (k : Int) < t.size := by omega
      obtain rfl : k = t.size := by omega
      go_wp2_with fail
      go_ret
      exact ⟨rfl, rfl⟩
theorem number_any (t : ByteArray) (w : World) (ht : t.size ≤ 9223372036854775807) :
    Calls Tryz.prog 31 #[.string t] w fun e w' => e = .returned (.int .i64 ((longN t : Int) % 1013)) ∧ w' = w := by
  have hl := longN_lt t
  go_enter Tryz.func31, Tryz.ntmps31
  go_wp2_with (go_at_call 73; refine (long_any _ _ ht).mono ?_; rintro e w1 ⟨rfl, rfl⟩)
  go_ret
  exact ⟨rfl, rfl⟩
end Go.Proofs.YtgngdabfmbipaakGreatDoor

/- What each function of package bytes answers, of right spots and wrong ones, of any bytes; nothing that was there is turned. -/
namespace Go.Proofs.YtgngdabfmbipaakGreatDoor
open Go.RowKit Go.Sort
set_option linter.unusedVariables false
set_option linter.unusedSimpArgs false
theorem packed_far (w : World) :
    Calls Tryz.prog 139 #[.agg #[.int .i64 0, .int .i64 0, .bool true]] w fun e w' => e = .returned (.string ⟨#[0]⟩) ∧ Below w.heap.size w w' := by
  have hcv : ∀ o, (convert 37 9 (.slice (some ⟨w.heap.size + 1, 0, none⟩) 1 1)).run Tryz.prog ((w.alloc o).alloc (.cells #[.int .u8 0] 5)) = .ok (.string ⟨#[0]⟩) ((w.alloc o).alloc (.cells #[.int .u8 0] 5)) := fun o =>
    run_convert_bytes_back (P := Tryz.prog) _ _ _ 5 _ 1 [0] Tryz.underlying37 Tryz.underlying5 Tryz.underlying9 (fun j hj => by
      match j, hj with
      | 0, _ => simp [go_sem, *])
  go_enter Tryz.func139, Tryz.ntmps139
  go_wp2_with fail
  go_ret
  exact ⟨rfl, below_by⟩
theorem packed_one (x y : Nat) (w : World) (hx : x < 4051) (hy : y ≤ 2025) :
    Calls Tryz.prog 139 #[.agg #[.int .i64 (x : Int), .int .i64 (y : Int), .bool false]] w fun e w' => e = .returned (.string ⟨#[1, hiB x, loB x]⟩) ∧ Below w.heap.size w w' := by
  have h1 : ¬ (2025 < (y : Int)) := by omega
  have q1 : (((hiB x).toNat : Nat) : Int) = (x : Int) / 256 := by rw [hi_nat hx]; omega
  have q2 : (((loB x).toNat : Nat) : Int) = (x : Int) % 256 := by rw [lo_nat]; omega
  have hcv : ∀ o, (convert 37 9 (.slice (some ⟨w.heap.size + 1, 0, none⟩) 3 3)).run Tryz.prog ((w.alloc o).alloc (.cells #[.int .u8 1, .int .u8 ((x : Int) / 256), .int .u8 ((x : Int) % 256)] 5)) = .ok (.string ⟨#[1, hiB x, loB x]⟩) ((w.alloc o).alloc (.cells #[.int .u8 1, .int .u8 ((x : Int) / 256), .int .u8 ((x : Int) % 256)] 5)) := fun o =>
    run_convert_bytes_back (P := Tryz.prog) _ _ _ 5 _ 3 [1, hiB x, loB x] Tryz.underlying37 Tryz.underlying5 Tryz.underlying9 (fun j hj => by
      match j, hj with
      | 0, _ => simp [go_sem, *]
      | 1, _ => simp [go_sem, *]
      | 2, _ => simp [go_sem, *])
  clear q1 q2
  go_enter Tryz.func139, Tryz.ntmps139
  go_wp2_with fail
  go_ret
  exact ⟨rfl, below_by⟩
theorem packed_two (x y : Nat) (w : World) (hx : x < 4051) (hy : 2025 < y) :
    Calls Tryz.prog 139 #[.agg #[.int .i64 (x : Int), .int .i64 (y : Int), .bool false]] w fun e w' => e = .returned (.string ⟨#[2, hiB x, loB x]⟩) ∧ Below w.heap.size w w' := by
  have h1 : 2025 < (y : Int) := by omega
  have q1 : (((hiB x).toNat : Nat) : Int) = (x : Int) / 256 := by rw [hi_nat hx]; omega
  have q2 : (((loB x).toNat : Nat) : Int) = (x : Int) % 256 := by rw [lo_nat]; omega
  have hcv : ∀ o, (convert 37 9 (.slice (some ⟨w.heap.size + 1, 0, none⟩) 3 3)).run Tryz.prog ((w.alloc o).alloc (.cells #[.int .u8 2, .int .u8 ((x : Int) / 256), .int .u8 ((x : Int) % 256)] 5)) = .ok (.string ⟨#[2, hiB x, loB x]⟩) ((w.alloc o).alloc (.cells #[.int .u8 2, .int .u8 ((x : Int) / 256), .int .u8 ((x : Int) % 256)] 5)) := fun o =>
    run_convert_bytes_back (P := Tryz.prog) _ _ _ 5 _ 3 [2, hiB x, loB x] Tryz.underlying37 Tryz.underlying5 Tryz.underlying9 (fun j hj => by
      match j, hj with
      | 0, _ => simp [go_sem, *]
      | 1, _ => simp [go_sem, *]
      | 2, _ => simp [go_sem, *])
  clear q1 q2
  go_enter Tryz.func139, Tryz.ntmps139
  go_wp2_with fail
  go_ret
  exact ⟨rfl, below_by⟩
theorem packed_tM (k : Nat) (w : World) : Calls Tryz.prog 139 #[.agg #[.int .i64 ((tM k).1 : Int), .int .i64 ((tM k).2.1 : Int), .bool (tM k).2.2]] w fun e w' => e = .returned (.string (pkB (tM k))) ∧ Below w.heap.size w w' := by
  have ho := tM_ok k
  generalize tM k = s at ho ⊢
  obtain ⟨x, y, f⟩ := s
  cases f with
  | true => obtain ⟨rfl, rfl⟩ := far_ok ho; exact packed_far w
  | false =>
    have hl := okS_lt ho
    simp only at hl
    rw [pkB_aff]
    by_cases hy : y ≤ 2025
    · rw [wh_one hy]; exact packed_one x y w hl.1 hy
    · rw [wh_two (by omega)]; exact packed_two x y w hl.1 (by omega)
theorem pack_tM (k : Nat) (w : World) : Calls Tryz.prog 118 #[.agg #[.int .i64 ((tM k).1 : Int), .int .i64 ((tM k).2.1 : Int), .bool (tM k).2.2]] w fun e w' => e = .returned (.tuple #[.string (pkB (tM k)), .nilIface]) ∧ Below w.heap.size w w' := by
  have m1 : True := trivial; have m2 : True := trivial
  go_enter Tryz.func118, Tryz.ntmps118
  go_wp2_with (first | (go_at_call 20; clear m1; refine (check_tM k _).mono ?_; rintro e w1 ⟨rfl, hbw1⟩; have ksw1 : At w1 (w.heap.size) [.int .i64 ((tM k).1 : Int), .int .i64 ((tM k).2.1 : Int), .bool (tM k).2.2] := (at_by); have hqw1 : Below w.heap.size w w1 := (below_by); have hzw1 := hqw1.size; obtain ⟨zsw1, cs0w1, cs1w1, cs2w1, fs0w1, fs1w1, fs2w1⟩ := ksw1.three; clear hbw1) | (go_at_call 139; clear m2; refine (packed_tM k _).mono ?_; rintro e w2 ⟨rfl, hbw2⟩; have hqw2 : Below w.heap.size w w2 := (below_by); have hzw2 := hqw2.size; clear ksw1 cs0w1 fs0w1 cs1w1 fs1w1 cs2w1 fs2w1 hqw1; clear hbw2))
  exact bodyPost_ret (v := .tuple #[.string (pkB (tM k)), .nilIface]) (by simp [results, Tryz.results118, go_sem, *]) rfl ⟨rfl, below_by⟩
theorem pack_no (x y : Int) (f : Bool) (w : World) (h : (ckI x y f == 0) = false) : Calls Tryz.prog 118 #[.agg #[.int .i64 x, .int .i64 y, .bool f]] w fun e w' => e = .returned (.tuple #[.string ⟨#[]⟩, errOf (ckI x y f)]) ∧ Below w.heap.size w w' := by
  have m1 : True := trivial
  go_enter Tryz.func118, Tryz.ntmps118
  go_wp2_with (first | (go_at_call 20; clear m1; refine (check_no _ _ _ _ h).mono ?_; rintro e w1 ⟨rfl, hbw1⟩; have hqw1 : Below w.heap.size w w1 := (below_by); have hzw1 := hqw1.size; clear hbw1))
  exact bodyPost_ret (v := .tuple #[.string ⟨#[]⟩, errOf (ckI x y f)]) (by simp [results, Tryz.results118, go_sem, *]) rfl ⟨rfl, below_by⟩
end Go.Proofs.YtgngdabfmbipaakGreatDoor
