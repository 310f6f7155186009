/- Proved: stonelaw1.HashTells answers true for every text: its long number, its number and its spot are those of the plain reckoning. No condition stands behind it but the form's own (no text of more than 140737488351232 bytes). -/
import Derived.Test.YtljmfcpighfmoacRefHash
namespace Go.Proofs.Ytljmfcpighfmoac
open Go.RowKit Go.Sort
set_option linter.unusedVariables false
set_option linter.unusedSimpArgs false
set_option maxRecDepth 100000 in
set_option maxHeartbeats 4000000 in
theorem walkHashTells (w : World) (t : ByteArray) (ht : t.size ≤ maxLen) (hz : t.size ≤ reachBytes) :
    Calls Try.prog 6 #[.string t] w fun e w' => e = .returned (.bool true) ∧ Below w.heap.size w w' := by
  have ht' : t.size ≤ 9223372036854775807 := ht
  have hz' : t.size ≤ 140737488351232 := hz
  clear ht hz
  have m1 : True := trivial; have m2 : True := trivial; have m3 : True := trivial; have m4 : True := trivial; have m5 : True := trivial; have m6 : True := trivial
  go_enter Try.func6, Try.ntmps6
  go_wp2_with (first | (go_at_call 15; clear m1; refine (long_any _ _ ht').mono ?_; rintro e v1 ⟨rfl, hv1⟩; subst v1) | (go_at_call 16; clear m2; refine (rlong_any _ _ ht').mono ?_; rintro e v1 ⟨rfl, hv1⟩; subst v1) | (go_at_call 17; clear m3; refine (number_any _ _ ht').mono ?_; rintro e v1 ⟨rfl, hv1⟩; subst v1) | (go_at_call 18; clear m4; refine (rnumber_any _ _ ht').mono ?_; rintro e v1 ⟨rfl, hv1⟩; subst v1) | (go_at_call 19; clear m5; refine (spot_any _ _ ht').mono ?_; rintro e w1 ⟨rfl, hbw1⟩; have hqw1 : Below w.heap.size w w1 := (by repeat (first | (with_reducible exact Below.refl _ _) | (with_reducible assumption) | (with_reducible refine Below.setCell ?_ (by first | (simp; done) | (simp; omega) | omega) _) | (with_reducible refine Below.alloc ?_ (by first | (simp; done) | (simp; omega) | omega) _) | (refine bl_call ?_ (by assumption) (by first | (simp; done) | (simp; omega) | omega)) | (with_reducible refine bl_drewN ?_) | (with_reducible refine Below.drew ?_) | (with_reducible refine bl_grow ?_ (by first | (simp; done) | (simp; omega) | omega)))); have hzw1 := hqw1.size; clear hbw1) | (go_at_call 20; clear m6; refine (rof_any _ _ hz').mono ?_; rintro e w2 ⟨rfl, hbw2⟩; have hqw2 : Below w.heap.size w w2 := (by repeat (first | (with_reducible exact Below.refl _ _) | (with_reducible assumption) | (with_reducible refine Below.setCell ?_ (by first | (simp; done) | (simp; omega) | omega) _) | (with_reducible refine Below.alloc ?_ (by first | (simp; done) | (simp; omega) | omega) _) | (refine bl_call ?_ (by assumption) (by first | (simp; done) | (simp; omega) | omega)) | (with_reducible refine bl_drewN ?_) | (with_reducible refine Below.drew ?_) | (with_reducible refine bl_grow ?_ (by first | (simp; done) | (simp; omega) | omega)))); have hzw2 := hqw2.size; clear hbw2))
  go_ret
  exact ⟨rfl, by repeat (first | (with_reducible exact Below.refl _ _) | (with_reducible assumption) | (with_reducible refine Below.setCell ?_ (by first | (simp; done) | (simp; omega) | omega) _) | (with_reducible refine Below.alloc ?_ (by first | (simp; done) | (simp; omega) | omega) _) | (refine bl_call ?_ (by assumption) (by first | (simp; done) | (simp; omega) | omega)) | (with_reducible refine bl_drewN ?_) | (with_reducible refine Below.drew ?_) | (with_reducible refine bl_grow ?_ (by first | (simp; done) | (simp; omega) | omega)))⟩
end Go.Proofs.Ytljmfcpighfmoac
