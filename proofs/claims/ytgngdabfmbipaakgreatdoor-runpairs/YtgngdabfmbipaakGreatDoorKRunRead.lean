/- What package run reads of a line: a number; what is behind a word. -/
import Derived.Test.YtgngdabfmbipaakGreatDoorKRunLib
import Derived.Test.YtgngdabfmbipaakGreatDoorKG37
import Derived.Lib.QuietBelow
import Derived.Deep.Cut
namespace Go.Proofs.YtgngdabfmbipaakGreatDoor
open Go.RowKit Go.Sort Go.Shelf
set_option linter.unusedVariables false
set_option linter.unusedSimpArgs false
theorem bytes_ext {s t : ByteArray} (h : s.toList = t.toList) : s = t := by
  apply ByteArray.ext
  apply Array.ext'
  rw [← ByteArray.toList_eq, ← ByteArray.toList_eq, h]
theorem str_same (s : ByteArray) : (s.toList == s.toList) = true := beq_self_eq_true _
theorem str_other {s t : ByteArray} (h : s ≠ t) : (s.toList == t.toList) = false := by
  rw [beq_eq_false_iff_ne]
  intro e
  exact h (bytes_ext e)
set_option maxRecDepth 100000 in
set_option maxHeartbeats 4000000 in
theorem number_yes (a : Addr) (n : Nat) (w : World) (h : Lie a w) (hn : n ≤ 9999) : Calls Tryz.prog 124 #[.string (digB n)] w fun e w' => e = .returned (.tuple #[.int .i64 (n : Int), .nilIface]) ∧ Below w.heap.size w w' := by
  have HL : Hid (Lie a w) := h
  have hs := digB_sz n
  have HA : Hid (∀ w, Lie a w → Calls Tryz.prog 146 #[.string (digB n)] w fun e w' => e = .returned (.tuple #[.int .i64 (n : Int), .nilIface]) ∧ Below w.heap.size w w') := fun w h => atoi_ok a (by omega) (atoi_dig hn) w h
  have HI : Hid (∀ w, Lie a w → Calls Tryz.prog 71 #[.int .i64 (n : Int)] w fun e w' => e = .returned (.string (digB n)) ∧ Below w.heap.size w w') := fun w h => itoa_is a (by omega) w h
  have e1 : ¬ (n : Int) < 0 := by omega
  have e2 : ¬ (n : Int) > 9999 := by omega
  clear h hs
  generalize digB n = D at *
  have e3 := str_same D
  have m1 : True := trivial; have m2 : True := trivial
  go_enter Tryz.func124, Tryz.ntmps124
  go_wp2_with (first | (go_at_call 146; clear m1; refine (HA.out _ (HL.out.below (show Below w.heap.size w _ from below_by))).mono ?_; rintro e w1 ⟨rfl, hbw1⟩; have hqw1 : Below w.heap.size w w1 := (below_by); have hzw1 := hqw1.size; clear hbw1) | (go_at_call 71; clear m2; refine (HI.out _ (HL.out.below (show Below w.heap.size w _ from below_by))).mono ?_; rintro e w2 ⟨rfl, hbw2⟩; have hqw2 : Below w.heap.size w w2 := (below_by); have hzw2 := hqw2.size; clear  hqw1; clear hbw2))
  exact bodyPost_ret (v := .tuple #[.int .i64 (n : Int), .nilIface]) (by simp [results, Tryz.results124, go_sem, *]) rfl ⟨rfl, below_by⟩
set_option maxRecDepth 100000 in
set_option maxHeartbeats 4000000 in
theorem number_no (a : Addr) (s : ByteArray) (w : World) (h : Lie a w) (hn : numB s = none) (hs : s.size ≤ 3000) : Calls Tryz.prog 124 #[.string s] w fun e w' => e = .returned (.tuple #[.int .i64 0, badV a]) ∧ Below w.heap.size w w' := by
  have HL : Hid (Lie a w) := h
  have hne := ((num_cases s).resolve_left (by rintro ⟨n, _, _, h⟩; rw [hn] at h; cases h)).2
  clear h
  cases hv : Lib.atoiAll s.data.toList with
  | ok v =>
    have HA : Hid (∀ w, Lie a w → Calls Tryz.prog 146 #[.string s] w fun e w' => e = .returned (.tuple #[.int .i64 v, .nilIface]) ∧ Below w.heap.size w w') := fun w h => atoi_ok a hs hv w h
    clear hv
    by_cases e1 : v < 0
    · have m1 : True := trivial
      go_enter Tryz.func124, Tryz.ntmps124
      go_upto_region 3 with (go_at_call 146; clear m1; refine (HA.out _ (HL.out.below (show Below w.heap.size w _ from below_by))).mono ?_; rintro e w1 ⟨rfl, hbw1⟩; have hqw1 : Below w.heap.size w w1 := (below_by); have hzw1 := hqw1.size; clear hbw1)
      refine wp_gen (fun V => Below w.heap.size w V) (below_by) ?_
      intro V hqV
      have hzV := hqV.size
      have cbad := (HL.out.below hqV).bad
      have hlt := (HL.out.below hqV).lt
      go_quiet (fail)
      go_wp2_with fail
      exact bodyPost_ret (v := .tuple #[.int .i64 0, badV a]) (by simp [results, Tryz.results124, go_sem, *]) rfl ⟨rfl, below_by⟩
    by_cases e2 : v > 9999
    · have m1 : True := trivial
      go_enter Tryz.func124, Tryz.ntmps124
      go_upto_region 3 with (go_at_call 146; clear m1; refine (HA.out _ (HL.out.below (show Below w.heap.size w _ from below_by))).mono ?_; rintro e w1 ⟨rfl, hbw1⟩; have hqw1 : Below w.heap.size w w1 := (below_by); have hzw1 := hqw1.size; clear hbw1)
      refine wp_gen (fun V => Below w.heap.size w V) (below_by) ?_
      intro V hqV
      have hzV := hqV.size
      have cbad := (HL.out.below hqV).bad
      have hlt := (HL.out.below hqV).lt
      go_quiet (fail)
      go_wp2_with fail
      exact bodyPost_ret (v := .tuple #[.int .i64 0, badV a]) (by simp [results, Tryz.results124, go_sem, *]) rfl ⟨rfl, below_by⟩
    obtain ⟨n, rfl⟩ : ∃ n : Nat, v = (n : Int) := ⟨v.toNat, by omega⟩
    have HI : Hid (∀ w, Lie a w → Calls Tryz.prog 71 #[.int .i64 (n : Int)] w fun e w' => e = .returned (.string (digB n)) ∧ Below w.heap.size w w') := fun w h => itoa_is a (by omega) w h
    have e3 := str_other (s := digB n) (t := s) (fun e => hne n (by omega) e.symm)
    clear hne
    generalize digB n = D at *
    have m1 : True := trivial; have m2 : True := trivial
    go_enter Tryz.func124, Tryz.ntmps124
    go_upto_region 3 with (first | (go_at_call 146; clear m1; refine (HA.out _ (HL.out.below (show Below w.heap.size w _ from below_by))).mono ?_; rintro e w1 ⟨rfl, hbw1⟩; have hqw1 : Below w.heap.size w w1 := (below_by); have hzw1 := hqw1.size; clear hbw1) | (go_at_call 71; clear m2; refine (HI.out _ (HL.out.below (show Below w.heap.size w _ from below_by))).mono ?_; rintro e w2 ⟨rfl, hbw2⟩; have hqw2 : Below w.heap.size w w2 := (below_by); have hzw2 := hqw2.size; clear  hqw1; clear hbw2))
    refine wp_gen (fun V => Below w.heap.size w V) (below_by) ?_
    intro V hqV
    have hzV := hqV.size
    have cbad := (HL.out.below hqV).bad
    have hlt := (HL.out.below hqV).lt
    go_quiet (fail)
    go_wp2_with fail
    exact bodyPost_ret (v := .tuple #[.int .i64 0, badV a]) (by simp [results, Tryz.results124, go_sem, *]) rfl ⟨rfl, below_by⟩
  | «syntax» =>
    have HA : Hid (∀ w, Lie a w → Calls Tryz.prog 146 #[.string s] w fun e w' => (∃ (v : Int) (p : Value), e = .returned (.tuple #[.int .i64 v, .iface 199 p])) ∧ Below w.heap.size w w') := fun w h => atoi_no a hs (fun v e => by rw [hv] at e; cases e) w h
    have m1 : True := trivial
    clear hv hne
    go_enter Tryz.func124, Tryz.ntmps124
    go_upto_region 3 with (go_at_call 146; clear m1; refine (HA.out _ (HL.out.below (show Below w.heap.size w _ from below_by))).mono ?_; rintro e w1 ⟨⟨v, p, rfl⟩, hbw1⟩; have hqw1 : Below w.heap.size w w1 := (below_by); have hzw1 := hqw1.size; clear hbw1)
    refine wp_gen (fun V => Below w.heap.size w V) (below_by) ?_
    intro V hqV
    have hzV := hqV.size
    have cbad := (HL.out.below hqV).bad
    have hlt := (HL.out.below hqV).lt
    go_quiet (fail)
    go_wp2_with fail
    exact bodyPost_ret (v := .tuple #[.int .i64 0, badV a]) (by simp [results, Tryz.results124, go_sem, *]) rfl ⟨rfl, below_by⟩
  | range =>
    have HA : Hid (∀ w, Lie a w → Calls Tryz.prog 146 #[.string s] w fun e w' => (∃ (v : Int) (p : Value), e = .returned (.tuple #[.int .i64 v, .iface 199 p])) ∧ Below w.heap.size w w') := fun w h => atoi_no a hs (fun v e => by rw [hv] at e; cases e) w h
    have m1 : True := trivial
    clear hv hne
    go_enter Tryz.func124, Tryz.ntmps124
    go_upto_region 3 with (go_at_call 146; clear m1; refine (HA.out _ (HL.out.below (show Below w.heap.size w _ from below_by))).mono ?_; rintro e w1 ⟨⟨v, p, rfl⟩, hbw1⟩; have hqw1 : Below w.heap.size w w1 := (below_by); have hzw1 := hqw1.size; clear hbw1)
    refine wp_gen (fun V => Below w.heap.size w V) (below_by) ?_
    intro V hqV
    have hzV := hqV.size
    have cbad := (HL.out.below hqV).bad
    have hlt := (HL.out.below hqV).lt
    go_quiet (fail)
    go_wp2_with fail
    exact bodyPost_ret (v := .tuple #[.int .i64 0, badV a]) (by simp [results, Tryz.results124, go_sem, *]) rfl ⟨rfl, below_by⟩
/-- What is read, by its places. -/
theorem readN_some : ∀ (nb : Nat) (tx : Bool) (l : List ByteArray) (K : Nat → Nat), (∀ j, j < nb → numB (l.getD j ⟨#[]⟩) = some (K j)) → l.length = nb + tx.toNat →
    readN nb tx l = some ((List.range nb).map K, bif tx then l.getD nb ⟨#[]⟩ else ⟨#[]⟩)
  | 0, true, l, K, h, hl => by
    match l, hl with
    | [x], _ => rfl
  | 0, false, l, K, h, hl => by
    match l, hl with
    | [], _ => rfl
  | nb + 1, tx, l, K, h, hl => by
    match l, hl with
    | [], hl => (simp at hl; omega)
    | x :: r, hl =>
      have h0 : numB x = some (K 0) := h 0 (by omega)
      have ih := readN_some nb tx r (fun j => K (j + 1)) (fun j hj => h (j + 1) (by omega)) (by simp at hl; omega)
      show (match numB x with | none => none | some n => (readN nb tx r).map fun (q : List Nat × ByteArray) => (n :: q.1, q.2)) = _
      rw [h0, ih, List.range_succ_eq_map, List.map_cons, List.map_map]
      rfl
theorem readN_short : ∀ (nb : Nat) (tx : Bool) (l : List ByteArray), l.length ≠ nb + tx.toNat → readN nb tx l = none
  | 0, true, l, h => by
    match l, h with
    | [], _ => rfl
    | [x], h => exact absurd rfl h
    | x :: y :: r, _ => rfl
  | 0, false, l, h => by
    match l, h with
    | [], h => exact absurd rfl h
    | x :: r, _ => rfl
  | nb + 1, tx, l, h => by
    match l, h with
    | [], _ => rfl
    | x :: r, h =>
      have ih := readN_short nb tx r (by simp at h; omega)
      show (match numB x with | none => none | some n => (readN nb tx r).map fun (q : List Nat × ByteArray) => (n :: q.1, q.2)) = _
      rw [ih]
      cases numB x with
      | none => rfl
      | some n => rfl
theorem readN_no : ∀ (nb : Nat) (tx : Bool) (l : List ByteArray) (j : Nat), j < nb → j < l.length → numB (l.getD j ⟨#[]⟩) = none → readN nb tx l = none
  | nb + 1, tx, l, j, hj, hl, h => by
    match l, hl, h with
    | [], hl, _ => simp at hl
    | x :: r, hl, h =>
      show (match numB x with | none => none | some n => (readN nb tx r).map fun (q : List Nat × ByteArray) => (n :: q.1, q.2)) = _
      cases j with
      | zero =>
        have h0 : numB x = none := h
        rw [h0]
      | succ j =>
        have ih := readN_no nb tx r j (by omega) (by simp at hl; omega) h
        rw [ih]
        cases numB x with
        | none => rfl
        | some n => rfl
end Go.Proofs.YtgngdabfmbipaakGreatDoor
