/- Words, numbers, digits, pieces, as the plain reckoning has them (stoneref2). -/
import Derived.Test.YtgngdabfmbipaakGreatDoorKG0
import Derived.Test.YtgngdabfmbipaakGreatDoorKG19
import Derived.Test.YtgngdabfmbipaakGreatDoorKG2
import Derived.Test.YtgngdabfmbipaakGreatDoorKG3
import Derived.Laws.IdiomStrings
import Derived.BigQuiet
import Derived.Lib.QuietBelow
namespace Go.Proofs.YtgngdabfmbipaakGreatDoor
open Go.RowKit Go.Sort
set_option linter.unusedVariables false
set_option linter.unusedSimpArgs false
set_option maxRecDepth 100000 in
set_option maxHeartbeats 4000000 in
theorem rword (s : ByteArray) (w : World) (hs : s.size ≤ 9223372036854775807) : Calls Tryz.prog 17 #[.string s] w fun e w' => e = .returned (.tuple #[.string (wordA s), .string (wordR s), .bool (wordM s)]) ∧ Below w.heap.size w w' := by
  go_enter Tryz.func17, Tryz.ntmps17
  go_wp2_with fail
  go_loopw [5] (fun ti wl => ∃ i : Nat, i ≤ s.size ∧ ti = .int .i64 i ∧ blankB s = blankF s (s.size - i) i ∧ Below w.heap.size w wl) (fun ti _ => s.size - (intOf ti).toNat)
  case atStart => exact ⟨0, by omega, rfl, rfl, below_by⟩
  case round =>
    obtain ⟨i, hi, rfl, he, hqV⟩ := hrel
    rename World => V
    have hzV := hqV.size
    have HE : Hid (blankB s = blankF s (s.size - i) i) := he
    clear he
    by_cases hlt : i < s.size
    · have hlt' : (i : Int) < s.size := by omega
      have hb := byN_at hlt
      by_cases h32 : byN s i = 32
      · have h9 : ((s[i].toNat : Nat) : Int) = 32 := by rw [← hb, h32]; rfl
        have HB : Hid (blankB s = i) := by
          unfold Hid
          rw [HE.out, show s.size - i = (s.size - i - 1) + 1 by omega, blankF_yes h32]
        have HM : Hid (wordM s = true) := by unfold Hid wordM; rw [HB.out]; exact decide_eq_true hlt
        clear hb h32
        go_wp2_with fail
        go_quiet (fail)
        go_wp2_with fail
        exact bodyPost_ret (v := .tuple #[.string (s.extract 0 i), .string (s.extract (i + 1) s.size), .bool true]) (by simp [results, Tryz.results17, go_sem, *]) rfl ⟨by unfold wordA wordR; rw [HM.out, HB.out]; rfl, below_by⟩
      · have h9 : ¬ ((s[i].toNat : Nat) : Int) = 32 := by rw [← hb]; omega
        have HB : Hid (blankB s = blankF s (s.size - (i + 1)) (i + 1)) := by
          unfold Hid
          rw [HE.out, show s.size - i = (s.size - (i + 1)) + 1 by omega, blankF_no h32]
        clear hb h32
        go_wp2_with fail
        go_roundw
        case rel => exact ⟨i + 1, by omega, by simp, HB.out, below_by⟩
        case measure => simp [intOf]; omega
    · have hlt' : ¬ (i : Int) < s.size := by omega
      have HM : Hid (wordM s = false) := by
        unfold Hid wordM
        rw [HE.out, show s.size - i = 0 by omega]
        exact decide_eq_false hlt
      go_wp2_with fail
      exact bodyPost_ret (v := .tuple #[.string s, .string ⟨#[]⟩, .bool false]) (by simp [results, Tryz.results17, go_sem, *]) rfl ⟨by unfold wordA wordR; rw [HM.out]; rfl, below_by⟩
/-- One digit. -/
def dg1 (n : Nat) : ByteArray := ⟨[UInt8.ofNat (48 + n)].toArray⟩
theorem rdig_sl {n : Nat} (h : n < 10) (w : World) : (Instr.slice 9 (.string (⟨#[48, 49, 50, 51, 52, 53, 54, 55, 56, 57]⟩ : ByteArray)) (some (.int .i64 (n : Int))) (some (.int .i64 ((n : Int) + 1))) none).run Tryz.prog w = .ok (.string (dg1 n)) w := by
  have h9 : ((n : Int) + 1) ≤ ((((⟨#[48, 49, 50, 51, 52, 53, 54, 55, 56, 57]⟩ : ByteArray)).size : Nat) : Int) := by show ((n : Int) + 1) ≤ 10; omega
  rw [run_slice_string _ _ _ _ _ _ _ Tryz.underlying9 (by omega) (by omega) h9, show ((n : Int)).toNat = n by omega, show ((n : Int) + 1).toNat = n + 1 by omega, dig_lit h]
  rfl
theorem rdig_len : ∀ f n, (digF f n).length ≤ f + 1
  | 0, n => Nat.le_refl _
  | f + 1, n => by
    by_cases h : n < 10
    · rw [digF_low h]; simp
    · rw [digF_high h, List.length_append]; have := rdig_len f (n / 10); simp; omega
theorem rdig_size (f n : Nat) (h : f ≤ 99) : (⟨(digF f n).toArray⟩ : ByteArray).size ≤ 100 := by
  have := rdig_len f n
  show (digF f n).toArray.size ≤ 100
  simp; omega
set_option maxRecDepth 100000 in
set_option maxHeartbeats 4000000 in
theorem rdigF (f : Nat) : f ≤ 99 → ∀ (n : Nat) (w : World), n < 10 ^ (f + 1) → n ≤ 1000000 → Calls Tryz.prog 11 #[.int .i64 (n : Int)] w fun e w' => e = .returned (.string ⟨(digF f n).toArray⟩) ∧ Below w.heap.size w w' := by
  induction f with
  | zero =>
    intro hf n w h hm
    have h10 : n < 10 := h
    have h1 : (n : Int) < 10 := by omega
    have HX : Hid (dg1 n = ⟨(digF 0 n).toArray⟩) := by unfold Hid; rw [digF_low h10]; rfl
    have hsl := rdig_sl h10
    go_enter Tryz.func11, Tryz.ntmps11
    go_wp2_with fail
    go_ret
    exact ⟨by rw [← HX.out]; rfl, below_by⟩
  | succ f ih =>
    intro hf n w h hm
    by_cases h10 : n < 10
    · have h1 : (n : Int) < 10 := by omega
      have HX : Hid (dg1 n = ⟨(digF (f + 1) n).toArray⟩) := by unfold Hid; rw [digF_low h10]; rfl
      have hsl := rdig_sl h10
      go_enter Tryz.func11, Tryz.ntmps11
      go_wp2_with fail
      go_ret
      exact ⟨by rw [← HX.out]; rfl, below_by⟩
    · have h1 : ¬ (n : Int) < 10 := by omega
      obtain ⟨d, hd⟩ : ∃ d, n / 10 = d := ⟨_, rfl⟩
      obtain ⟨r, hr⟩ : ∃ r, n % 10 = r := ⟨_, rfl⟩
      have r1 : r < 10 := by omega
      have IH : Hid (∀ w, Calls Tryz.prog 11 #[.int .i64 (d : Int)] w fun e w' => e = .returned (.string ⟨(digF f d).toArray⟩) ∧ Below w.heap.size w w') := fun w => ih (by omega) d w (by rw [Nat.pow_succ] at h; omega) (by omega)
      have HY : Hid ((⟨(digF f d).toArray⟩ : ByteArray) ++ dg1 r = ⟨(digF (f + 1) n).toArray⟩) := by unfold Hid dg1; rw [dig_join, digF_high h10, hd, hr]
      have hsz : (⟨(digF f d).toArray⟩ : ByteArray).size ≤ 100 := rdig_size f d (by omega)
      have hsl := rdig_sl r1
      have e1 : (n : Int) / 10 = (d : Int) := by omega
      have e2 : (n : Int) % 10 = (r : Int) := by omega
      have e3 : (n : Int).tdiv 10 = (d : Int) := by rw [Int.tdiv_eq_ediv_of_nonneg (by omega)]; exact e1
      have e4 : (n : Int).tmod 10 = (r : Int) := by rw [Int.tmod_eq_emod_of_nonneg (by omega)]; exact e2
      have hg : (dg1 r).size = 1 := rfl
      generalize dg1 r = C at *
      generalize (⟨(digF f d).toArray⟩ : ByteArray) = D at *
      clear ih hd hr
      go_enter Tryz.func11, Tryz.ntmps11
      go_wp2_with (go_at_call 11; refine (IH.out _).mono ?_; rintro e w1 ⟨rfl, hb1⟩)
      go_ret
      exact ⟨by rw [← HY.out]; rfl, below_by⟩
end Go.Proofs.YtgngdabfmbipaakGreatDoor
