/- Proved: stonelaw1.HashCounts answers true for every text: the long numbers of the empty text and of the letter a are 5 and 1413; its spot counts and is not far; its number is not less than 0 and less than 1013, its long number not less than 0 and less than 1000003, and the number is what is left of the long one by 1013. No condition stands behind it. -/
import Derived.Test.YtljmfcpighfmoacHash
import Derived.BigQuiet
namespace Go.Proofs.Ytljmfcpighfmoac
open Go.RowKit Go.Sort
set_option linter.unusedVariables false
set_option linter.unusedSimpArgs false
theorem long_eq {t : ByteArray} {k : Nat} (h : longN t = k) (w : World) (ht : t.size ≤ 9223372036854775807) :
    Calls Try.prog 15 #[.string t] w fun e w' => e = .returned (.int .i64 (k : Int)) ∧ w' = w := by
  subst h; exact long_any t w ht
theorem long_nil : longN ⟨#[]⟩ = 5 := rfl
theorem long_a : longN ⟨#[97]⟩ = 1413 := by decide +kernel
theorem in_spot (n : Nat) (w : World) : Calls Try.prog 11 #[.agg #[.int .i64 ((tM (spN n)).1 : Int), .int .i64 ((tM (spN n)).2.1 : Int), .bool false]] w fun e w' => e = .returned (.tuple #[.bool true, .nilIface]) ∧ Below w.heap.size w w' := by
  have := in_eq (sp_in n) w
  rwa [sp_f] at this
set_option maxRecDepth 100000 in
set_option maxHeartbeats 4000000 in
theorem walkHashCounts (w : World) (t : ByteArray) (ht : t.size ≤ maxLen) :
    Calls Try.prog 7 #[.string t] w fun e w' => e = .returned (.bool true) ∧ Below w.heap.size w w' := by
  have ht' : t.size ≤ 9223372036854775807 := ht
  clear ht
  have hl := longN_lt t
  have h1 : 0 ≤ (longN t : Int) % 1013 := by omega
  have h2 : (longN t : Int) % 1013 < 1013 := by omega
  have h3 : 0 ≤ (longN t : Int) := by omega
  have h4 : (longN t : Int) < 1000003 := by omega
  have m1 : True := trivial; have m2 : True := trivial; have m3 : True := trivial; have m4 : True := trivial; have m5 : True := trivial; have m6 : True := trivial
  go_enter Try.func7, Try.ntmps7
  go_wp2_with (first | (go_at_call 15; clear m1; refine (long_eq long_nil _ (by decide)).mono ?_; rintro e v1 ⟨rfl, hv1⟩; subst v1) | (go_at_call 15; clear m2; refine (long_eq long_a _ (by decide)).mono ?_; rintro e v1 ⟨rfl, hv1⟩; subst v1) | (go_at_call 15; clear m3; refine (long_any _ _ ht').mono ?_; rintro e v1 ⟨rfl, hv1⟩; subst v1) | (go_at_call 19; clear m4; refine (spot_any _ _ ht').mono ?_; rintro e w1 ⟨rfl, hbw1⟩; have hqw1 : Below w.heap.size w w1 := (by repeat (first | (with_reducible exact Below.refl _ _) | (with_reducible assumption) | (with_reducible refine Below.setCell ?_ (by first | (simp; done) | (simp; omega) | omega) _) | (with_reducible refine Below.alloc ?_ (by first | (simp; done) | (simp; omega) | omega) _) | (refine bl_call ?_ (by assumption) (by first | (simp; done) | (simp; omega) | omega)) | (with_reducible refine bl_drewN ?_) | (with_reducible refine Below.drew ?_) | (with_reducible refine bl_grow ?_ (by first | (simp; done) | (simp; omega) | omega)))); have hzw1 := hqw1.size; clear hbw1) | (go_at_call 11; clear m5; refine (in_spot _ _).mono ?_; rintro e w2 ⟨rfl, hbw2⟩; have ksw2 : At w2 (w1.heap.size) [.int .i64 ((tM (spN (longN t))).1 : Int), .int .i64 ((tM (spN (longN t))).2.1 : Int), .bool false] := (by repeat (first | assumption | ((with_reducible refine at_new' _ _ _ _ ?_); (first | rfl | (simp; done))) | (with_reducible refine At.alloc ?_ _) | (with_reducible refine At.drewN ?_) | (with_reducible refine At.grow ?_) | (with_reducible refine At.store3 (by assumption)) | (with_reducible refine At.store2 (by assumption)) | (with_reducible refine At.set ?_ (by omega)) | (with_reducible apply At.store3) | (refine At.below ?_ (by assumption)))); have hqw2 : Below w.heap.size w w2 := (by repeat (first | (with_reducible exact Below.refl _ _) | (with_reducible assumption) | (with_reducible refine Below.setCell ?_ (by first | (simp; done) | (simp; omega) | omega) _) | (with_reducible refine Below.alloc ?_ (by first | (simp; done) | (simp; omega) | omega) _) | (refine bl_call ?_ (by assumption) (by first | (simp; done) | (simp; omega) | omega)) | (with_reducible refine bl_drewN ?_) | (with_reducible refine Below.drew ?_) | (with_reducible refine bl_grow ?_ (by first | (simp; done) | (simp; omega) | omega)))); have hzw2 := hqw2.size; obtain ⟨zsw2, cs0w2, cs1w2, cs2w2, fs0w2, fs1w2, fs2w2⟩ := ksw2.three; clear hbw2) | (go_at_call 17; clear m6; refine (number_any _ _ ht').mono ?_; rintro e v1 ⟨rfl, hv1⟩; subst v1))
  go_ret
  exact ⟨rfl, by repeat (first | (with_reducible exact Below.refl _ _) | (with_reducible assumption) | (with_reducible refine Below.setCell ?_ (by first | (simp; done) | (simp; omega) | omega) _) | (with_reducible refine Below.alloc ?_ (by first | (simp; done) | (simp; omega) | omega) _) | (refine bl_call ?_ (by assumption) (by first | (simp; done) | (simp; omega) | omega)) | (with_reducible refine bl_drewN ?_) | (with_reducible refine Below.drew ?_) | (with_reducible refine bl_grow ?_ (by first | (simp; done) | (simp; omega) | omega)))⟩
end Go.Proofs.Ytljmfcpighfmoac
