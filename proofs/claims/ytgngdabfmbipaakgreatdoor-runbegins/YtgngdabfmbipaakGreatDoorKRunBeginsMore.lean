/- What RunBegins needs besides. -/
import Derived.Test.YtgngdabfmbipaakGreatDoorKG0
import Derived.Test.YtgngdabfmbipaakGreatDoorKG1
import Derived.Test.YtgngdabfmbipaakGreatDoorKRunNum
import Derived.Test.YtgngdabfmbipaakGreatDoorKRunSplit
import Derived.Test.YtgngdabfmbipaakGreatDoorKDoor
import Derived.Test.YtgngdabfmbipaakGreatDoorKG3
import Derived.Test.YtgngdabfmbipaakGreatDoorKG2
import Derived.Test.YtgngdabfmbipaakGreatDoorKG23
import Derived.Test.YtgngdabfmbipaakGreatDoorKShelf
import Derived.Test.YtgngdabfmbipaakGreatDoorKBuilder
import Derived.Test.YtgngdabfmbipaakGreatDoorKShell
import Derived.Test.YtgngdabfmbipaakGreatDoorKG18
import Derived.Test.YtgngdabfmbipaakGreatDoorKG19
import Derived.Test.YtgngdabfmbipaakGreatDoorKRunLib
import Derived.Test.YtgngdabfmbipaakGreatDoorKRunLaid
import Derived.Test.YtgngdabfmbipaakGreatDoorKG8
import Derived.Test.YtgngdabfmbipaakGreatDoorKG4
import Derived.Test.YtgngdabfmbipaakGreatDoorKG5
import Derived.Test.YtgngdabfmbipaakGreatDoorKG6
import Derived.Test.YtgngdabfmbipaakGreatDoorKG9
import Derived.Test.YtgngdabfmbipaakGreatDoorKG36
import Derived.Test.YtgngdabfmbipaakGreatDoorKG10
import Derived.Test.YtgngdabfmbipaakGreatDoorKGate
import Derived.Test.YtgngdabfmbipaakGreatDoorKG14
import Derived.Test.YtgngdabfmbipaakGreatDoorKG37
import Derived.Test.YtgngdabfmbipaakGreatDoorKRunRead
import Derived.Test.YtgngdabfmbipaakGreatDoorKRunArgs
import Derived.Test.YtgngdabfmbipaakGreatDoorKG11
import Derived.Test.YtgngdabfmbipaakGreatDoorKPairMany
import Derived.Test.YtgngdabfmbipaakGreatDoorKShort
import Derived.Test.YtgngdabfmbipaakGreatDoorKG21
import Derived.Test.YtgngdabfmbipaakGreatDoorKG38
import Derived.Test.YtgngdabfmbipaakGreatDoorKG42
import Derived.Test.YtgngdabfmbipaakGreatDoorKG43
import Derived.Test.YtgngdabfmbipaakGreatDoorKRunIter
import Derived.Test.YtgngdabfmbipaakGreatDoorKRefRun
import Derived.Test.YtgngdabfmbipaakGreatDoorKRefRunB
import Derived.Test.YtgngdabfmbipaakGreatDoorKRefRunC
import Derived.Test.YtgngdabfmbipaakGreatDoorKG7
import Derived.Test.YtgngdabfmbipaakGreatDoorKRefRunD
import Derived.Test.YtgngdabfmbipaakGreatDoorKRefRunF
import Derived.Test.YtgngdabfmbipaakGreatDoorKRunSize
import Derived.Test.YtgngdabfmbipaakGreatDoorKG46
import Derived.Test.YtgngdabfmbipaakGreatDoorKG20
import Derived.Test.YtgngdabfmbipaakGreatDoorKRefAsk
import Derived.Test.YtgngdabfmbipaakGreatDoorKRefSeal
import Derived.Test.YtgngdabfmbipaakGreatDoorKG33
import Derived.Test.YtgngdabfmbipaakGreatDoorKRunAnswersBy
/- RunMath -/
namespace Go.Proofs.YtgngdabfmbipaakGreatDoor
set_option linter.unusedVariables false
set_option linter.unusedSimpArgs false

theorem ex_extract {s : ByteArray} {k a b : Nat} (hk : k ≤ s.size) (h : b ≤ k) : (s.extract 0 k).extract a b = s.extract a b := by
  apply ByteArray.ext
  simp [ByteArray.data_extract, Nat.min_eq_left, h]
theorem cutS_extract {s : ByteArray} {c k : Nat} (hk : k ≤ s.size) : ∀ {i : Nat}, i ≤ k → cutS (s.extract 0 k) c i = cutS s c i
  | 0, _ => rfl
  | i + 1, h => by
    have ih := cutS_extract (c := c) hk (i := i) (by omega)
    by_cases e : byN s i = c
    · rw [cutS_yes e, cutS_yes (by rw [at_extract hk h]; exact e), ih, ex_extract hk (by omega)]
    · rw [cutS_no e, cutS_no (by rw [at_extract hk h]; exact e), ih]
theorem cutS_more (s : ByteArray) (c : Nat) : ∀ {i j : Nat}, i ≤ j → ∃ r, (cutS s c j).1 = (cutS s c i).1 ++ r
  | i, 0, h => ⟨[], by rw [show i = 0 by omega]; simp⟩
  | i, j + 1, h => by
    rcases Nat.lt_succ_iff_lt_or_eq.1 (Nat.lt_succ_of_le h) with h2 | rfl
    · obtain ⟨r, hr⟩ := cutS_more s c (i := i) (j := j) (by omega)
      by_cases e : byN s j = c
      · exact ⟨r ++ [s.extract (cutS s c j).2 j], by rw [cutS_yes e, hr, List.append_assoc]⟩
      · exact ⟨r, by rw [cutS_no e, hr]⟩
    · exact ⟨[], by simp⟩
/-- The answers to a beginning that ends in a line's end, or to all, are a beginning of the answers. -/
theorem run_begins (F : ByteArray → ByteArray) {t : ByteArray} {k : Nat} (ht : t.size ≤ 3000) (hk : k ≤ t.size) (he : k = t.size ∨ (cutS t 10 k).2 = k) : ∃ r, runB F t = runB F (t.extract 0 k) ++ r := by
  rcases he with rfl | he
  · refine ⟨⟨#[]⟩, ?_⟩
    rw [ba_nil]
    congr 1
    apply ByteArray.ext
    simp [ByteArray.data_extract]
  · have hs := size_extract hk
    have e1 : linesB (t.extract 0 k) = (cutS t 10 k).1 := by
      unfold linesB
      rw [hs, cutS_extract hk (Nat.le_refl _), he, decide_eq_false (Nat.lt_irrefl _), cond_false]
    obtain ⟨r, hr⟩ := cutS_more t 10 hk
    obtain ⟨r', e2⟩ : ∃ r', linesB t = (cutS t 10 k).1 ++ r' := by
      unfold linesB cutB
      cases decide ((cutS t 10 t.size).2 < t.size) with
      | true => exact ⟨r ++ [t.extract (cutS t 10 t.size).2 t.size], by rw [cond_true, hr, List.append_assoc]⟩
      | false => exact ⟨r, by rw [cond_false, hr]⟩
    unfold runB
    rw [hs, decide_eq_false (show ¬ 3000 < t.size by omega), decide_eq_false (show ¬ 3000 < k by omega), cond_false, cond_false, e1, e2, outB_append]
    exact ⟨_, rfl⟩
end Go.Proofs.YtgngdabfmbipaakGreatDoor

/- RunAnswersBy -/
namespace Go.Proofs.YtgngdabfmbipaakGreatDoor
open Go.RowKit Go.Sort
set_option linter.unusedVariables false
set_option linter.unusedSimpArgs false
theorem cutB_len (t : ByteArray) (c : Nat) : (cutB t c).length = (cutS t c t.size).1.length + 1 := by unfold cutB; rw [List.length_append]; rfl
end Go.Proofs.YtgngdabfmbipaakGreatDoor

/- RunBeginsBy -/
namespace Go.Proofs.YtgngdabfmbipaakGreatDoor
open Go.RowKit Go.Sort
set_option linter.unusedVariables false
set_option linter.unusedSimpArgs false
theorem run_fact : runB lineB ⟨#[98, 97, 115, 101, 32, 48, 10, 102, 108, 121, 10, 108, 105, 102, 116, 32, 48, 10, 104, 97, 115, 104, 32, 97, 10]⟩ = ⟨#[102, 97, 114, 10, 98, 97, 100, 10, 48, 32, 48, 10, 52, 48, 48, 10]⟩ := by decide +kernel
theorem run_size (t : ByteArray) (h : t.size ≤ 3000) : (runB lineB t).size ≤ 10000000 := by
  unfold runB
  rw [decide_eq_false (by omega), cond_false]
  have h1 := out_size (linesB t)
  have h2 : (linesB t).length ≤ 3001 := by
    have h4 := cutS_len t 10 t.size
    unfold linesB
    cases decide ((cutS t 10 t.size).2 < t.size) with
    | true => rw [cond_true, cutB_len]; omega
    | false => rw [cond_false]; omega
  omega
theorem ba_front (a r : ByteArray) : (a ++ r).extract 0 a.size = a := by
  apply ByteArray.ext
  simp [ByteArray.data_extract]
set_option maxRecDepth 100000 in
set_option maxHeartbeats 8000000 in
theorem runBegins_by (hI : RunIs) (a : Addr) (w : World) (hL : Lie a w) (t : ByteArray) (many : Int) (ht : t.size ≤ 9223372036854775807) (hm : (Lit.int .i64 many).wf = true) : Calls Tryz.prog 4 #[.string t, .int .i64 many] w fun e w' => e = .returned (.bool true) ∧ Below w.heap.size w w' := by
  have HLI : Hid (Lie a w) := hL
  clear hL
  have HF : Hid (∀ w, Lie a w → Calls Tryz.prog 6 #[.string ⟨#[98, 97, 115, 101, 32, 48, 10, 102, 108, 121, 10, 108, 105, 102, 116, 32, 48, 10, 104, 97, 115, 104, 32, 97, 10]⟩] w fun e w' => e = .returned (.string ⟨#[102, 97, 114, 10, 98, 97, 100, 10, 48, 32, 48, 10, 52, 48, 48, 10]⟩) ∧ Below w.heap.size w w') := fun w hw => by
    have := hI ⟨#[98, 97, 115, 101, 32, 48, 10, 102, 108, 121, 10, 108, 105, 102, 116, 32, 48, 10, 104, 97, 115, 104, 32, 97, 10]⟩ (by decide) a w hw
    rwa [run_fact] at this
  by_cases h3 : 3000 < t.size
  · have h3' : (t.size : Int) > 3000 := by omega
    have HR : Hid (∀ w, Lie a w → Calls Tryz.prog 6 #[.string t] w fun e w' => e = .returned (.string ⟨#[116, 111, 111, 32, 108, 111, 110, 103, 10]⟩) ∧ Below w.heap.size w w') := fun w hw => by
      have := hI t ht a w hw
      unfold runB at this
      rwa [decide_eq_true h3, cond_true] at this
    have m1 : True := trivial; have m2 : True := trivial
    go_enter Tryz.func4, Tryz.ntmps4
    go_wp2_with (first | (go_at_call 6; clear m1; refine (HF.out _ (HLI.out.below (show Below w.heap.size w _ from below_by))).mono ?_; rintro e w1 ⟨rfl, hbw1⟩; have hqw1 : Below w.heap.size w w1 := (below_by); have hzw1 := hqw1.size; clear hbw1) | (go_at_call 6; clear m2; refine (HR.out _ (HLI.out.below (show Below w.heap.size w _ from below_by))).mono ?_; rintro e w2 ⟨rfl, hbw2⟩; have hqw2 : Below w.heap.size w w2 := (below_by); have hzw2 := hqw2.size; clear  hqw1; clear hbw2))
    go_ret
    exact ⟨rfl, below_by⟩
  have h3' : ¬ (t.size : Int) > 3000 := by omega
  obtain ⟨B, hB⟩ : ∃ B, runB lineB t = B := ⟨_, rfl⟩
  have HR : Hid (∀ w, Lie a w → Calls Tryz.prog 6 #[.string t] w fun e w' => e = .returned (.string B) ∧ Below w.heap.size w w') := fun w hw => by
    have := hI t ht a w hw
    rwa [hB] at this
  have hBs : B.size ≤ 10000000 := by rw [← hB]; exact run_size t (by omega)
  have HB : Hid (runB lineB t = B) := hB
  have HI : Hid (RunIs) := hI
  clear hB hI
  have m1 : True := trivial; have m2 : True := trivial; have m3 : True := trivial
  go_enter Tryz.func4, Tryz.ntmps4
  go_wp2_with (go_at_call 6; clear m1; refine (HF.out _ (HLI.out.below (show Below w.heap.size w _ from below_by))).mono ?_; rintro e w1 ⟨rfl, hbw1⟩; have hqw1 : Below w.heap.size w w1 := (below_by); have hzw1 := hqw1.size; clear hbw1)
  go_loopw [7, 8] (fun tk tn wl => ∃ k n : Nat, k ≤ t.size ∧ n ≤ k ∧ tk = .int .i64 k ∧ tn = .int .i64 n ∧ ((n : Int) < many ∨ (cutS t 10 k).2 = k) ∧ Below w.heap.size w wl) (fun tk _ _ => t.size - (intOf tk).toNat)
  case atStart => exact ⟨0, 0, by omega, by omega, rfl, rfl, Or.inr rfl, below_by⟩
  case round =>
    clear hqw1 hzw1
    obtain ⟨k, n, hk, hn, rfl, rfl, hst, hqV⟩ := hrel
    rename World => V
    have hzV := hqV.size
    have HST : Hid ((n : Int) < many ∨ (cutS t 10 k).2 = k) := hst
    clear hst
    by_cases c1 : k < t.size ∧ (n : Int) < many
    · obtain ⟨c2, c3⟩ := c1
      have c2' : (k : Int) < t.size := by omega
      have hb := byN_at c2
      by_cases h9 : byN t k = 10
      · have h8 : ((t[k].toNat : Nat) : Int) = 10 := by rw [← hb, h9]; rfl
        have HY : Hid ((cutS t 10 (k + 1)).2 = k + 1) := by unfold Hid; rw [cutS_yes h9]
        clear hb h9
        go_wp2_with fail
        go_roundw
        case rel => exact ⟨k + 1, n + 1, by omega, by omega, by simp, by simp, Or.inr HY.out, below_by⟩
        case measure => simp [intOf]; omega
      · have h8 : ¬ ((t[k].toNat : Nat) : Int) = 10 := by rw [← hb]; omega
        clear hb h9
        go_wp2_with fail
        go_roundw
        case rel => exact ⟨k + 1, n, by omega, by omega, by simp, by simp, Or.inl c3, below_by⟩
        case measure => simp [intOf]; omega
    · have he : k = t.size ∨ (cutS t 10 k).2 = k := by
        rcases HST.out with h | h
        · exact Or.inl (by omega)
        · exact Or.inr h
      obtain ⟨r, hr⟩ := run_begins lineB (t := t) (k := k) (by omega) hk he
      obtain ⟨A0, hA⟩ : ∃ A0, runB lineB (t.extract 0 k) = A0 := ⟨_, rfl⟩
      have HA : Hid (∀ w, Lie a w → Calls Tryz.prog 6 #[.string (t.extract 0 k)] w fun e w' => e = .returned (.string A0) ∧ Below w.heap.size w w') := fun w hw => by
        have := HI.out (t.extract 0 k) (by rw [ByteArray.size_extract]; omega) a w hw
        rwa [hA] at this
      rw [HB.out, hA] at hr
      have hE : B.extract 0 A0.size = A0 := by rw [hr]; exact ba_front A0 r
      have hS : A0.size ≤ B.size := by rw [hr, ByteArray.size_append]; omega
      have hS' : (A0.size : Int) ≤ (B.size : Int) := by omega
      have hk' : (k : Int) ≤ (t.size : Int) := by omega
      clear hr hA HST he
      by_cases c2 : k < t.size
      · have c2' : (k : Int) < t.size := by omega
        have c3 : ¬ (n : Int) < many := fun h => c1 ⟨c2, h⟩
        clear c1
        go_wp2_with (first | (go_at_call 6; clear m2; refine (HA.out _ (HLI.out.below (show Below w.heap.size w _ from below_by))).mono ?_; rintro e w2 ⟨rfl, hbw2⟩; have hqw2 : Below w.heap.size w w2 := (below_by); have hzw2 := hqw2.size; clear hbw2) | (go_at_call 6; clear m3; refine (HR.out _ (HLI.out.below (show Below w.heap.size w _ from below_by))).mono ?_; rintro e w3 ⟨rfl, hbw3⟩; have hqw3 : Below w.heap.size w w3 := (below_by); have hzw3 := hqw3.size; clear  hqw2; clear hbw3))
        go_ret
        exact ⟨rfl, below_by⟩
      · have c2' : ¬ (k : Int) < t.size := by omega
        clear c1
        go_wp2_with (first | (go_at_call 6; clear m2; refine (HA.out _ (HLI.out.below (show Below w.heap.size w _ from below_by))).mono ?_; rintro e w2 ⟨rfl, hbw2⟩; have hqw2 : Below w.heap.size w w2 := (below_by); have hzw2 := hqw2.size; clear hbw2) | (go_at_call 6; clear m3; refine (HR.out _ (HLI.out.below (show Below w.heap.size w _ from below_by))).mono ?_; rintro e w3 ⟨rfl, hbw3⟩; have hqw3 : Below w.heap.size w w3 := (below_by); have hzw3 := hqw3.size; clear  hqw2; clear hbw3))
        go_ret
        exact ⟨rfl, below_by⟩
end Go.Proofs.YtgngdabfmbipaakGreatDoor

/- RunBeginsWalk -/
namespace Go.Proofs.YtgngdabfmbipaakGreatDoor
open Go.RowKit
theorem walkRunBegins (w : World) (t : ByteArray) (many : Int) (ht : t.size ≤ maxLen) (hm : (Lit.int .i64 many).wf = true) (a : Addr) (hL : Lie a w) : Calls Tryz.prog 4 #[.string t, .int .i64 many] w fun e w' => e = .returned (.bool true) ∧ Below w.heap.size w w' :=
  runBegins_by run_is a w hL t many ht hm
end Go.Proofs.YtgngdabfmbipaakGreatDoor

