/- What the plain reckoning's Bytes, ReadBytes, Spots and List (stoneref1) answer. -/
import Derived.Test.YtpkkclcjiobgoajGreatDoorKRefCurve
import Derived.Test.YtpkkclcjiobgoajGreatDoorKF
namespace Go.Proofs.YtpkkclcjiobgoajGreatDoor
open Go.RowKit Go.Sort
set_option linter.unusedVariables false
set_option linter.unusedSimpArgs false
theorem rbytes_far (w : World) :
    Calls Tryz.prog 66 #[.agg #[.int .i64 0, .int .i64 0, .bool true]] w fun e w' => e = .returned (.string ⟨#[0]⟩) ∧ Below w.heap.size w w' := by
  go_enter Tryz.func66, Tryz.ntmps66
  go_wp2_with fail
  go_ret
  exact ⟨rfl, by repeat (first | (with_reducible first | exact Below.refl _ _ | assumption | refine Below.setCell ?_ (by first | simp <;> omega | omega) _ | refine Below.alloc ?_ (by first | simp <;> omega | omega) _) | refine bl_call ?_ (by assumption) (by first | simp <;> omega | omega) | (with_reducible first | refine bl_drewN ?_ | refine Below.drew ?_ | refine bl_grow ?_ (by first | simp <;> omega | omega)))⟩
theorem rbytes_one (x y : Nat) (w : World) (hx : x < 4051) (hy : y ≤ 2025) :
    Calls Tryz.prog 66 #[.agg #[.int .i64 (x : Int), .int .i64 (y : Int), .bool false]] w fun e w' => e = .returned (.string ⟨#[1, hiB x, loB x]⟩) ∧ Below w.heap.size w w' := by
  have h1 : ¬ (4051 < 2 * (y : Int)) := by omega
  have q1 : (((hiB x).toNat : Nat) : Int) = (x : Int) / 256 := by rw [hi_nat hx]; omega
  have q2 : (((loB x).toNat : Nat) : Int) = (x : Int) % 256 := by rw [lo_nat]; omega
  have hcv : ∀ o, (convert 100 9 (.slice (some ⟨w.heap.size + 1, 0, none⟩) 3 3)).run Tryz.prog ((w.alloc o).alloc (.cells #[.int .u8 1, .int .u8 ((x : Int) / 256), .int .u8 ((x : Int) % 256)] 5)) = .ok (.string ⟨#[1, hiB x, loB x]⟩) ((w.alloc o).alloc (.cells #[.int .u8 1, .int .u8 ((x : Int) / 256), .int .u8 ((x : Int) % 256)] 5)) := fun o =>
    run_convert_bytes_back (P := Tryz.prog) _ _ _ 5 _ 3 [1, hiB x, loB x] Tryz.underlying100 Tryz.underlying5 Tryz.underlying9 (fun j hj => by
      match j, hj with
      | 0, _ => simp [go_sem, *]
      | 1, _ => simp [go_sem, *]
      | 2, _ => simp [go_sem, *])
  clear q1 q2
  go_enter Tryz.func66, Tryz.ntmps66
  go_wp2_with fail
  go_ret
  exact ⟨rfl, by repeat (first | (with_reducible first | exact Below.refl _ _ | assumption | refine Below.setCell ?_ (by first | simp <;> omega | omega) _ | refine Below.alloc ?_ (by first | simp <;> omega | omega) _) | refine bl_call ?_ (by assumption) (by first | simp <;> omega | omega) | (with_reducible first | refine bl_drewN ?_ | refine Below.drew ?_ | refine bl_grow ?_ (by first | simp <;> omega | omega)))⟩
theorem rbytes_two (x y : Nat) (w : World) (hx : x < 4051) (hy : 2025 < y) (hy' : y < 4051) :
    Calls Tryz.prog 66 #[.agg #[.int .i64 (x : Int), .int .i64 (y : Int), .bool false]] w fun e w' => e = .returned (.string ⟨#[2, hiB x, loB x]⟩) ∧ Below w.heap.size w w' := by
  have h1 : 4051 < 2 * (y : Int) := by omega
  have q1 : (((hiB x).toNat : Nat) : Int) = (x : Int) / 256 := by rw [hi_nat hx]; omega
  have q2 : (((loB x).toNat : Nat) : Int) = (x : Int) % 256 := by rw [lo_nat]; omega
  have hcv : ∀ o, (convert 100 9 (.slice (some ⟨w.heap.size + 1, 0, none⟩) 3 3)).run Tryz.prog ((w.alloc o).alloc (.cells #[.int .u8 2, .int .u8 ((x : Int) / 256), .int .u8 ((x : Int) % 256)] 5)) = .ok (.string ⟨#[2, hiB x, loB x]⟩) ((w.alloc o).alloc (.cells #[.int .u8 2, .int .u8 ((x : Int) / 256), .int .u8 ((x : Int) % 256)] 5)) := fun o =>
    run_convert_bytes_back (P := Tryz.prog) _ _ _ 5 _ 3 [2, hiB x, loB x] Tryz.underlying100 Tryz.underlying5 Tryz.underlying9 (fun j hj => by
      match j, hj with
      | 0, _ => simp [go_sem, *]
      | 1, _ => simp [go_sem, *]
      | 2, _ => simp [go_sem, *])
  clear q1 q2
  go_enter Tryz.func66, Tryz.ntmps66
  go_wp2_with fail
  go_ret
  exact ⟨rfl, by repeat (first | (with_reducible first | exact Below.refl _ _ | assumption | refine Below.setCell ?_ (by first | simp <;> omega | omega) _ | refine Below.alloc ?_ (by first | simp <;> omega | omega) _) | refine bl_call ?_ (by assumption) (by first | simp <;> omega | omega) | (with_reducible first | refine bl_drewN ?_ | refine Below.drew ?_ | refine bl_grow ?_ (by first | simp <;> omega | omega)))⟩
theorem rbytes_tM (k : Nat) (w : World) : Calls Tryz.prog 66 #[.agg #[.int .i64 ((tM k).1 : Int), .int .i64 ((tM k).2.1 : Int), .bool (tM k).2.2]] w fun e w' => e = .returned (.string (pkB (tM k))) ∧ Below w.heap.size w w' := by
  have ho := tM_ok k
  generalize tM k = s at ho ⊢
  obtain ⟨x, y, f⟩ := s
  cases f with
  | true => obtain ⟨rfl, rfl⟩ := far_ok ho; exact rbytes_far w
  | false =>
    have hl := okS_lt ho
    simp only at hl
    rw [pkB_aff]
    by_cases hy : y ≤ 2025
    · rw [wh_one hy]; exact rbytes_one x y w hl.1 hy
    · rw [wh_two (by omega)]; exact rbytes_two x y w hl.1 (by omega) hl.2
theorem cat_pk (l : List UInt8) (s : Sn) : (⟨l.toArray⟩ : ByteArray) ++ pkB s = ⟨(l ++ pkL s).toArray⟩ := by
  apply ByteArray.ext
  rw [ByteArray.data_append]
  simp [pkB]
set_option maxRecDepth 100000 in
set_option maxHeartbeats 1000000 in
theorem rlist_row (b o n c : Nat) (X Y : Nat → Int) (F : Nat → Bool) (K : Nat → Nat) (w : World) (hn : n ≤ 12) (hr : RowO w b o n X Y F) (hK : ∀ i, i < n → X i = ((tM (K i)).1 : Int) ∧ Y i = ((tM (K i)).2.1 : Int) ∧ F i = (tM (K i)).2.2) :
    Calls Tryz.prog 40 #[.slice (some ⟨b, o, none⟩) n c] w fun e w' => e = .returned (.string ⟨(lsL K n).toArray⟩) ∧ Below w.heap.size w w' := by
  have hcv : (convert 100 9 (.slice (some ⟨w.heap.size, 0, none⟩) 1 1)).run Tryz.prog (w.alloc (.cells #[.int .u8 (n : Int)] 5)) = .ok (.string ⟨#[UInt8.ofNat n]⟩) (w.alloc (.cells #[.int .u8 (n : Int)] 5)) := 
    run_convert_bytes_back (P := Tryz.prog) _ _ _ 5 _ 1 [UInt8.ofNat n] Tryz.underlying100 Tryz.underlying5 Tryz.underlying9 (fun j hj => by
      match j, hj with
      | 0, _ => (simp [go_sem]; omega))
  have HR : Hid (RowO w b o n X Y F) := hr
  have HK : Hid (∀ i, i < n → X i = ((tM (K i)).1 : Int) ∧ Y i = ((tM (K i)).2.1 : Int) ∧ F i = (tM (K i)).2.2) := hK
  have hb := hr.1
  clear hr hK
  go_enter Tryz.func40, Tryz.ntmps40
  go_wp2_with fail
  go_loopw [4, 5] (fun ts ti wl => ∃ k : Nat, k ≤ n ∧ ts = .string ⟨(UInt8.ofNat n :: rowL K k).toArray⟩ ∧ ti = .int .i64 k ∧ Below w.heap.size w wl) (fun _ ti _ => n - (intOf ti).toNat)
  case atStart => exact ⟨0, by omega, rfl, rfl, by repeat (first | (with_reducible first | exact Below.refl _ _ | assumption | refine Below.setCell ?_ (by first | simp <;> omega | omega) _ | refine Below.alloc ?_ (by first | simp <;> omega | omega) _) | refine bl_call ?_ (by assumption) (by first | simp <;> omega | omega) | (with_reducible first | refine bl_drewN ?_ | refine Below.drew ?_ | refine bl_grow ?_ (by first | simp <;> omega | omega)))⟩
  case round =>
    obtain ⟨k, hk, rfl, rfl, hbl⟩ := hrel
    have hz := hbl.size
    have hl := rowL_le K k
    by_cases hlt : k < n
    · have hlt' : (k : Int) < n := by omega
      obtain ⟨c0, c1, c2⟩ := (HR.out.below hb hbl).2 k hlt
      obtain ⟨e0, e1, e2⟩ := HK.out k hlt
      rw [e0] at c0; rw [e1] at c1; rw [e2] at c2
      clear e0 e1 e2
      have hs := pkB_size (tM (K k))
      go_wp2_with (go_at_call 66; refine (rbytes_tM (K k) _).mono ?_; rintro e w3 ⟨rfl, hb3⟩)
      go_roundw
      case rel => exact ⟨k + 1, by omega, by rw [cat_pk, rowL_succ]; rfl, by simp, by repeat (first | (with_reducible first | exact Below.refl _ _ | assumption | refine Below.setCell ?_ (by first | simp <;> omega | omega) _ | refine Below.alloc ?_ (by first | simp <;> omega | omega) _) | refine bl_call ?_ (by assumption) (by first | simp <;> omega | omega) | (with_reducible first | refine bl_drewN ?_ | refine Below.drew ?_ | refine bl_grow ?_ (by first | simp <;> omega | omega)))⟩
      case measure => simp [intOf]; omega
    · have hlt' : ¬ (k : Int) < n := by omega
      obtain rfl : k = n := by omega
      go_wp2_with fail
      go_ret
      exact ⟨rfl, hbl⟩
end Go.Proofs.YtpkkclcjiobgoajGreatDoor
