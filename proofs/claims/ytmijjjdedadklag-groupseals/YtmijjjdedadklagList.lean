/- What curve.CheckAll and bytes.List answer of so many spots that lie in a row, from whatever place on. -/
import Derived.Test.YtmijjjdedadklagBytes
import Derived.Test.YtmijjjdedadklagBuilder
import Derived.Test.YtmijjjdedadklagStay
import Derived.Test.YtmijjjdedadklagRowE
namespace Go.Proofs.Ytmijjjdedadklag
open Go.RowKit Go.Sort
set_option linter.unusedVariables false
set_option linter.unusedSimpArgs false
theorem list_many (sa : Option Addr) (n c : Nat) (w : World) (h : 12 < n) : Calls Try.prog 49 #[.slice sa n c] w fun e w' => e = .returned (.tuple #[.string ⟨#[]⟩, errOf 4]) ∧ Below w.heap.size w w' := by
  have h1 : 12 < (n : Int) := by omega
  go_enter Try.func49, Try.ntmps49
  go_wp2_with fail
  exact bodyPost_ret (v := .tuple #[.string ⟨#[]⟩, errOf 4]) (by simp [results, Try.results49, go_sem, *]) rfl ⟨rfl, by repeat (first | (with_reducible exact Below.refl _ _) | (with_reducible assumption) | (with_reducible refine Below.setCell ?_ (by first | (simp; done) | (simp; omega) | omega) _) | (with_reducible refine Below.alloc ?_ (by first | (simp; done) | (simp; omega) | omega) _) | (refine bl_call ?_ (by assumption) (by first | (simp; done) | (simp; omega) | omega)) | (with_reducible refine bl_drewN ?_) | (with_reducible refine Below.drew ?_) | (with_reducible refine bl_grow ?_ (by first | (simp; done) | (simp; omega) | omega)))⟩
theorem list_no (b o n c : Nat) (X Y : Nat → Int) (F : Nat → Bool) (w : World) (hn : n ≤ 12) (hr : RowO w b o n X Y F) (h : (rowE X Y F n == 0) = false) :
    Calls Try.prog 49 #[.slice (some ⟨b, o, none⟩) n c] w fun e w' => e = .returned (.tuple #[.string ⟨#[]⟩, errOf (rowE X Y F n)]) ∧ Below w.heap.size w w' := by
  have h1 : ¬ (12 < (n : Int)) := by omega
  have HR : Hid (RowO w b o n X Y F) := hr
  have HE : Hid ((rowE X Y F n == 0) = false) := h
  clear hr h
  have m1 : True := trivial
  go_enter Try.func49, Try.ntmps49
  go_wp2_with (first | (go_at_call 37; clear m1; refine (checkAll_bad _ _ _ _ _ _ _ _ (by omega) HR.out HE.out).mono ?_; rintro e w1 ⟨rfl, hbw1⟩; have hqw1 : Below w.heap.size w w1 := (by repeat (first | (with_reducible exact Below.refl _ _) | (with_reducible assumption) | (with_reducible refine Below.setCell ?_ (by first | (simp; done) | (simp; omega) | omega) _) | (with_reducible refine Below.alloc ?_ (by first | (simp; done) | (simp; omega) | omega) _) | (refine bl_call ?_ (by assumption) (by first | (simp; done) | (simp; omega) | omega)) | (with_reducible refine bl_drewN ?_) | (with_reducible refine Below.drew ?_) | (with_reducible refine bl_grow ?_ (by first | (simp; done) | (simp; omega) | omega)))); have hzw1 := hqw1.size; clear hbw1))
  exact bodyPost_ret (v := .tuple #[.string ⟨#[]⟩, errOf (rowE X Y F n)]) (by simp [results, Try.results49, go_sem, *]) rfl ⟨rfl, by repeat (first | (with_reducible exact Below.refl _ _) | (with_reducible assumption) | (with_reducible refine Below.setCell ?_ (by first | (simp; done) | (simp; omega) | omega) _) | (with_reducible refine Below.alloc ?_ (by first | (simp; done) | (simp; omega) | omega) _) | (refine bl_call ?_ (by assumption) (by first | (simp; done) | (simp; omega) | omega)) | (with_reducible refine bl_drewN ?_) | (with_reducible refine Below.drew ?_) | (with_reducible refine bl_grow ?_ (by first | (simp; done) | (simp; omega) | omega)))⟩
theorem u8_nat {n : Nat} (h : n ≤ 12) : ((UInt8.ofNat n).toNat : Int) = (n : Int) := by rw [UInt8.toNat_ofNat']; omega
theorem writeByte_n (B b n : Nat) (w : World) (hn : n ≤ 12) (h : Bld B b [] w) (hB : B ≤ w.heap.size) :
    Calls Try.prog 76 #[.pointer (some ⟨b, 0, none⟩), .int .u8 (n : Int)] w fun e w' => e = .returned .nilIface ∧ Bld B b [UInt8.ofNat n] w' ∧ Below B w w' := by
  rw [← u8_nat hn]
  exact (writeByte_bld B b [] (UInt8.ofNat n) w h (by simp) hB).mono fun _ _ ⟨h1, h2, h3, _⟩ => ⟨h1, h2, h3⟩
theorem writeString_pk (B b : Nat) (l : List UInt8) (s : Sn) (w : World) (h : Bld B b l w) (hl : l.length ≤ 1000000) (hB : B ≤ w.heap.size) :
    Calls Try.prog 77 #[.pointer (some ⟨b, 0, none⟩), .string (pkB s)] w fun e w' => e = .returned (.tuple #[.int .i64 (pkL s).length, .nilIface]) ∧ Bld B b (l ++ pkL s) w' ∧ Below B w w' :=
  (writeString_bld B b l (pkL s) w h hl (by have := pkL_le s; omega) hB).mono fun _ _ ⟨h1, h2, h3, _⟩ => ⟨h1, h2, h3⟩
set_option maxRecDepth 100000 in
set_option maxHeartbeats 2000000 in
theorem list_row (b o n c : Nat) (X Y : Nat → Int) (F : Nat → Bool) (K : Nat → Nat) (w : World) (hn : n ≤ 12) (hr : RowO w b o n X Y F) (h : rowE X Y F n = 0) (hK : ∀ i, i < n → X i = ((tM (K i)).1 : Int) ∧ Y i = ((tM (K i)).2.1 : Int) ∧ F i = (tM (K i)).2.2) :
    Calls Try.prog 49 #[.slice (some ⟨b, o, none⟩) n c] w fun e w' => e = .returned (.tuple #[.string ⟨(lsL K n).toArray⟩, .nilIface]) ∧ Below w.heap.size w w' := by
  have h1 : ¬ (12 < (n : Int)) := by omega
  have HR : Hid (RowO w b o n X Y F) := hr
  have HE : Hid (rowE X Y F n = 0) := h
  have HK : Hid (∀ i, i < n → X i = ((tM (K i)).1 : Int) ∧ Y i = ((tM (K i)).2.1 : Int) ∧ F i = (tM (K i)).2.2) := hK
  have hb := hr.1
  clear hr h hK
  have m1 : True := trivial
  go_enter Try.func49, Try.ntmps49
  go_wp2_with (first | (go_at_call 37; clear m1; refine (checkAll_all _ _ _ _ _ _ _ _ (by omega) HR.out HE.out).mono ?_; rintro e w1 ⟨rfl, hbw1⟩; have hqw1 : Below w.heap.size w w1 := (by repeat (first | (with_reducible exact Below.refl _ _) | (with_reducible assumption) | (with_reducible refine Below.setCell ?_ (by first | (simp; done) | (simp; omega) | omega) _) | (with_reducible refine Below.alloc ?_ (by first | (simp; done) | (simp; omega) | omega) _) | (refine bl_call ?_ (by assumption) (by first | (simp; done) | (simp; omega) | omega)) | (with_reducible refine bl_drewN ?_) | (with_reducible refine Below.drew ?_) | (with_reducible refine bl_grow ?_ (by first | (simp; done) | (simp; omega) | omega)))); have hzw1 := hqw1.size; clear hbw1) | (go_at_call 76; refine (writeByte_n w1.heap.size w1.heap.size n _ hn (bld_new w1) (by simp)).mono ?_; rintro e w2 ⟨rfl, hB2, hb2⟩))
  have hq2 : Below w1.heap.size w1 w2 := ((Below.refl _ _).alloc (Nat.le_refl _) _).trans hb2
  clear hb2
  go_loopw [23] (fun ti wr => ∃ k : Nat, k ≤ n ∧ ti = .int .i64 k ∧ Bld w1.heap.size w1.heap.size (UInt8.ofNat n :: rowL K k) wr ∧ Below w1.heap.size w1 wr) (fun ti _ => n - (intOf ti).toNat)
  case atStart => exact ⟨0, by omega, rfl, hB2, hq2⟩
  case round =>
    clear hB2 hq2
    obtain ⟨k, hk, rfl, hB, hbl⟩ := hrel
    have hz := hbl.size
    by_cases hlt : k < n
    · have hlt' : (k : Int) < n := by omega
      obtain ⟨c0, c1, c2⟩ := ((HR.out.below hb hqw1).below (by omega) hbl).2 k hlt
      obtain ⟨e0, e1, e2⟩ := HK.out k hlt
      rw [e0] at c0; rw [e1] at c1; rw [e2] at c2
      clear e0 e1 e2
      have HL : Hid ((UInt8.ofNat n :: rowL K k).length ≤ 1000000) := by
        have := rowL_le K k
        unfold Hid; simp only [List.length_cons]; omega
      have HB : Hid (Bld w1.heap.size w1.heap.size (UInt8.ofNat n :: rowL K k) wr) := hB
      clear hB
      go_wp2_with (first | (go_at_call 32; refine (packed_tM (K k) _).mono ?_; rintro e w3 ⟨rfl, hb3⟩; have hq3 : Below wr.heap.size wr w3 := (by repeat (first | (with_reducible exact Below.refl _ _) | (with_reducible assumption) | (with_reducible refine Below.setCell ?_ (by first | (simp; done) | (simp; omega) | omega) _) | (with_reducible refine Below.alloc ?_ (by first | (simp; done) | (simp; omega) | omega) _) | (refine bl_call ?_ (by assumption) (by first | (simp; done) | (simp; omega) | omega)) | (with_reducible refine bl_drewN ?_) | (with_reducible refine Below.drew ?_) | (with_reducible refine bl_grow ?_ (by first | (simp; done) | (simp; omega) | omega)))); have hz3 := hq3.size; clear hb3) | (go_at_call 77; refine (writeString_pk _ _ _ _ _ (HB.out.below hq3) HL.out (by omega)).mono ?_; rintro e w4 ⟨rfl, hB4, hb4⟩))
      go_roundw
      case rel =>
        refine ⟨k + 1, by omega, by simp, ?_, (hbl.trans (hq3.mono (by omega))).trans hb4⟩
        rw [rowL_succ]
        exact hB4
      case measure => simp [intOf]; omega
    · have hlt' : ¬ (k : Int) < n := by omega
      obtain rfl : k = n := by omega
      go_wp2_with (go_at_call 78; refine (string_bld _ _ _ _ hB (by omega)).mono ?_; rintro e w3 ⟨rfl, hb3⟩)
      have hq3 : Below w.heap.size w w3 := hqw1.trans ((hbl.trans hb3).mono hzw1)
      exact bodyPost_ret (v := .tuple #[.string ⟨(lsL K k).toArray⟩, .nilIface]) (by simp [results, Try.results49, go_sem, lsL]) rfl ⟨rfl, hq3⟩
theorem list_nil (sa : Option Addr) (c : Nat) (w : World) : Calls Try.prog 49 #[.slice sa 0 c] w fun e w' => e = .returned (.tuple #[.string ⟨#[0]⟩, .nilIface]) ∧ Below w.heap.size w w' := by
  have m1 : True := trivial
  go_enter Try.func49, Try.ntmps49
  go_wp2_with (first | (go_at_call 37; clear m1; refine (checkAll_nil _ _ _).mono ?_; rintro e w1 ⟨rfl, hbw1⟩; have hqw1 : Below w.heap.size w w1 := (by repeat (first | (with_reducible exact Below.refl _ _) | (with_reducible assumption) | (with_reducible refine Below.setCell ?_ (by first | (simp; done) | (simp; omega) | omega) _) | (with_reducible refine Below.alloc ?_ (by first | (simp; done) | (simp; omega) | omega) _) | (refine bl_call ?_ (by assumption) (by first | (simp; done) | (simp; omega) | omega)) | (with_reducible refine bl_drewN ?_) | (with_reducible refine Below.drew ?_) | (with_reducible refine bl_grow ?_ (by first | (simp; done) | (simp; omega) | omega)))); have hzw1 := hqw1.size; clear hbw1) | (go_at_call 76; refine (writeByte_n w1.heap.size w1.heap.size 0 _ (by omega) (bld_new w1) (by simp)).mono ?_; rintro e w2 ⟨rfl, hB2, hb2⟩))
  have hq2 : Below w1.heap.size w1 w2 := ((Below.refl _ _).alloc (Nat.le_refl _) _).trans hb2
  clear hb2
  go_loopw [23] (fun ti wr => ti = .int .i64 0 ∧ Bld w1.heap.size w1.heap.size [0] wr ∧ Below w1.heap.size w1 wr) (fun _ _ => 0)
  case atStart => exact ⟨rfl, hB2, hq2⟩
  case round =>
    clear hB2 hq2
    obtain ⟨rfl, hB, hbl⟩ := hrel
    have hz := hbl.size
    go_wp2_with (go_at_call 78; refine (string_bld _ _ _ _ hB (by omega)).mono ?_; rintro e w3 ⟨rfl, hb3⟩)
    have hq3 : Below w.heap.size w w3 := hqw1.trans ((hbl.trans hb3).mono hzw1)
    exact bodyPost_ret (v := .tuple #[.string ⟨#[0]⟩, .nilIface]) (by simp [results, Try.results49, go_sem]) rfl ⟨rfl, hq3⟩
end Go.Proofs.Ytmijjjdedadklag
