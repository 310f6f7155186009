/- Proved: stonelaw4.HashGoes answers true for every text and every byte: the long number of a text with a byte behind it is that of the text, times 263, and the byte, and 1, modulo 1000003; and that of the letter b is 1414. No condition stands behind it but the form's own (no text of more than 140737488351232 bytes). -/
import Derived.Test.YtljmfcpighfmoadHashLong
namespace Go.Proofs.Ytljmfcpighfmoad
open Go.RowKit Go.Sort
set_option linter.unusedVariables false
set_option linter.unusedSimpArgs false
theorem long_is {t : ByteArray} {k : Nat} (h : longN t = k) (w : World) (ht : t.size ≤ 9223372036854775807) :
    Calls Try.prog 4 #[.string t] w fun e w' => e = .returned (.int .i64 (k : Int)) ∧ w' = w := by
  subst h; exact long_any t w ht
theorem long_b : longN ⟨#[98]⟩ = 1414 := by decide +kernel
theorem long_on {t : ByteArray} {c : UInt8} {k : Nat} (hc : c.toNat = k) (w : World) (ht : t.size ≤ 140737488351232) :
    Calls Try.prog 4 #[.string (t ++ ⟨#[c]⟩)] w fun e w' => e = .returned (.int .i64 (((longN t : Int) * 263 + k + 1) % 1000003)) ∧ w' = w := by
  have := long_any (t ++ ⟨#[c]⟩) w (by rw [ByteArray.size_append]; show t.size + 1 ≤ _; omega)
  rwa [long_more, hc, bh_int] at this
set_option maxRecDepth 100000 in
set_option maxHeartbeats 4000000 in
theorem walkHashGoes (w : World) (t : ByteArray) (n : Int) (ht : t.size ≤ maxLen) (hz : t.size ≤ reachBytes) (hn : (Lit.int .u8 n).wf = true) :
    Calls Try.prog 3 #[.string t, .int .u8 n] w fun e w' => e = .returned (.bool true) ∧ Below w.heap.size w w' := by
  have ht' : t.size ≤ 9223372036854775807 := ht
  have hz' : t.size ≤ 140737488351232 := hz
  obtain ⟨k, hk, rfl⟩ : ∃ k : Nat, k < 256 ∧ n = (k : Int) := by
    have h1 : (0 : Int) ≤ n ∧ n ≤ 255 := by
      unfold Lit.wf at hn
      simp only [Bool.and_eq_true, decide_eq_true_eq] at hn
      exact hn
    exact ⟨n.toNat, by omega, by omega⟩
  clear ht hz hn
  obtain ⟨c, hc⟩ : ∃ c : UInt8, c.toNat = k := ⟨UInt8.ofNat k, by rw [UInt8.toNat_ofNat']; omega⟩
  have q1 : (((c.toNat) : Nat) : Int) = (k : Int) := by rw [hc]
  have hcv : (convert 23 9 (.slice (some ⟨w.heap.size, 0, none⟩) 1 1)).run Try.prog (w.alloc (.cells #[.int .u8 (k : Int)] 5)) = .ok (.string ⟨#[c]⟩) (w.alloc (.cells #[.int .u8 (k : Int)] 5)) :=
    run_convert_bytes_back (P := Try.prog) _ _ _ 5 _ 1 [c] Try.underlying23 Try.underlying5 Try.underlying9 (fun j hj => by
      match j, hj with
      | 0, _ => simp [go_sem, *])
  clear q1
  have hsz : (t ++ (⟨#[c]⟩ : ByteArray)).size = t.size + 1 := by rw [ByteArray.size_append]; rfl
  have hs1 : ¬ 9223372036854775807 < t.size + 1 := by omega
  have e1 : wrap64 (k : Int) = k := by unfold wrap64; omega
  have hl := longN_lt t
  have m1 : True := trivial; have m2 : True := trivial; have m3 : True := trivial
  go_enter Try.func3, Try.ntmps3
  go_wp2_with (first | (go_at_call 4; clear m1; refine (long_on hc _ hz').mono ?_; rintro e v1 ⟨rfl, hv1⟩; subst v1) | (go_at_call 4; clear m2; refine (long_is long_b _ (by decide)).mono ?_; rintro e v1 ⟨rfl, hv1⟩; subst v1) | (go_at_call 4; clear m3; refine (long_any _ _ ht').mono ?_; rintro e v1 ⟨rfl, hv1⟩; subst v1))
  go_ret
  exact ⟨rfl, by repeat (first | (with_reducible exact Below.refl _ _) | (with_reducible assumption) | (with_reducible refine Below.setCell ?_ (by first | (simp; done) | (simp; omega) | omega) _) | (with_reducible refine Below.alloc ?_ (by first | (simp; done) | (simp; omega) | omega) _) | (refine bl_call ?_ (by assumption) (by first | (simp; done) | (simp; omega) | omega)) | (with_reducible refine bl_drewN ?_) | (with_reducible refine Below.drew ?_) | (with_reducible refine bl_grow ?_ (by first | (simp; done) | (simp; omega) | omega)))⟩
end Go.Proofs.Ytljmfcpighfmoad
