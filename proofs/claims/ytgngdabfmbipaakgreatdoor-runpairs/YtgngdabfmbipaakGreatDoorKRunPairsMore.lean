/- What RunPairs needs besides. -/
import Derived.Lib.QuietBelow
import Derived.Test.YtgngdabfmbipaakGreatDoorKG0
import Derived.Test.YtgngdabfmbipaakGreatDoorKG1
import Derived.Test.YtgngdabfmbipaakGreatDoorKRunNum
import Derived.Test.YtgngdabfmbipaakGreatDoorKRunSplit
import Derived.Test.YtgngdabfmbipaakGreatDoorKDoor
import Derived.Test.YtgngdabfmbipaakGreatDoorKG3
import Derived.Test.YtgngdabfmbipaakGreatDoorKG2
import Derived.Test.YtgngdabfmbipaakGreatDoorKG23
import Derived.Test.YtgngdabfmbipaakGreatDoorKShelf
import Derived.Test.YtgngdabfmbipaakGreatDoorKBuilder
import Derived.Test.YtgngdabfmbipaakGreatDoorKShell
import Derived.Test.YtgngdabfmbipaakGreatDoorKG18
import Derived.Test.YtgngdabfmbipaakGreatDoorKG19
import Derived.Test.YtgngdabfmbipaakGreatDoorKRunLib
import Derived.Test.YtgngdabfmbipaakGreatDoorKRunLaid
import Derived.Test.YtgngdabfmbipaakGreatDoorKG8
import Derived.Test.YtgngdabfmbipaakGreatDoorKG4
import Derived.Test.YtgngdabfmbipaakGreatDoorKG5
import Derived.Test.YtgngdabfmbipaakGreatDoorKG6
import Derived.Test.YtgngdabfmbipaakGreatDoorKG9
import Derived.Test.YtgngdabfmbipaakGreatDoorKG36
import Derived.Test.YtgngdabfmbipaakGreatDoorKG10
import Derived.Test.YtgngdabfmbipaakGreatDoorKGate
import Derived.Test.YtgngdabfmbipaakGreatDoorKG14
import Derived.Test.YtgngdabfmbipaakGreatDoorKG37
import Derived.Test.YtgngdabfmbipaakGreatDoorKRunRead
import Derived.Test.YtgngdabfmbipaakGreatDoorKRunArgs
import Derived.Test.YtgngdabfmbipaakGreatDoorKG11
import Derived.Test.YtgngdabfmbipaakGreatDoorKPairMany
import Derived.Test.YtgngdabfmbipaakGreatDoorKShort
import Derived.Test.YtgngdabfmbipaakGreatDoorKG21
import Derived.Test.YtgngdabfmbipaakGreatDoorKG38
import Derived.Test.YtgngdabfmbipaakGreatDoorKG42
import Derived.Test.YtgngdabfmbipaakGreatDoorKG43
import Derived.Test.YtgngdabfmbipaakGreatDoorKRunIter
import Derived.Test.YtgngdabfmbipaakGreatDoorKRefRun
import Derived.Test.YtgngdabfmbipaakGreatDoorKRefRunB
import Derived.Test.YtgngdabfmbipaakGreatDoorKRefRunC
import Derived.Test.YtgngdabfmbipaakGreatDoorKG7
import Derived.Test.YtgngdabfmbipaakGreatDoorKRefRunD
import Derived.Test.YtgngdabfmbipaakGreatDoorKRefRunF
import Derived.Test.YtgngdabfmbipaakGreatDoorKRunSize
import Derived.Test.YtgngdabfmbipaakGreatDoorKG46
import Derived.Test.YtgngdabfmbipaakGreatDoorKG20
import Derived.Test.YtgngdabfmbipaakGreatDoorKRefAsk
import Derived.Test.YtgngdabfmbipaakGreatDoorKRefSeal
import Derived.Test.YtgngdabfmbipaakGreatDoorKG33
import Derived.Test.YtgngdabfmbipaakGreatDoorKRunAnswersBy
/- RunCut -/
namespace Go.Proofs.YtgngdabfmbipaakGreatDoor
set_option linter.unusedVariables false
set_option linter.unusedSimpArgs false

theorem lines_nil : linesB ⟨#[]⟩ = [] := rfl
end Go.Proofs.YtgngdabfmbipaakGreatDoor

/- RunDig -/
namespace Go.Proofs.YtgngdabfmbipaakGreatDoor
set_option linter.unusedVariables false
set_option linter.unusedSimpArgs false

theorem dig_no10 {n : Nat} (h : n ≤ 9999) : NoB (digB n) 10 := by
  have := allLT_spec dig_all n (by omega)
  rw [Bool.and_eq_true, Bool.and_eq_true] at this
  exact nobB_no this.2
end Go.Proofs.YtgngdabfmbipaakGreatDoor

/- RunPair -/
namespace Go.Proofs.YtgngdabfmbipaakGreatDoor
set_option linter.unusedVariables false
set_option linter.unusedSimpArgs false

set_option maxRecDepth 100000 in
theorem order_all : allLT (fun n => Nat.beq (gM (4 * (n + 1))) 1013) 90 = true := by decide +kernel
theorem order_n {n : Nat} (h1 : 1 ≤ n) (h2 : n ≤ 90) : gM (4 * n) = 1013 := by
  have := allLT_spec order_all (n - 1) (by omega)
  rw [show n - 1 + 1 = n by omega] at this
  exact Nat.eq_of_beq_eq_true this
theorem no_join {u v : ByteArray} {c : Nat} (hu : NoB u c) (hv : NoB v c) : NoB (u ++ v) c := fun i hi => by
  rcases Nat.lt_or_ge i u.size with h | h
  · rw [byN_ahead h]; exact hu i h
  · have h2 : i - u.size < v.size := by rw [ByteArray.size_append] at hi; omega
    have := byN_shift (x := u) h2
    rw [show u.size + (i - u.size) = i by omega] at this
    rw [this]
    exact hv _ h2
def wPair : ByteArray := ⟨#[112, 97, 105, 114]⟩
def wOrder : ByteArray := ⟨#[111, 114, 100, 101, 114]⟩
/-- A line that pairs. -/
def linP (a b : Nat) : ByteArray := wPair ++ ⟨#[32]⟩ ++ (digB a ++ ⟨#[32]⟩ ++ digB b)
def linO (a : Nat) : ByteArray := wOrder ++ ⟨#[32]⟩ ++ digB a
theorem no_lit {s : ByteArray} {c : Nat} (h : nobB s c = true) : NoB s c := nobB_no h
theorem linP_ans {a b : Nat} (ha : a ≤ 9999) (hb : b ≤ 9999) : lineB (linP a b) = ansB 4 a b 0 ⟨#[]⟩ := by
  obtain ⟨e1, e2, e3⟩ := word_two (u := wPair) (v := digB a ++ ⟨#[32]⟩ ++ digB b) (no_lit (by decide +kernel))
  obtain ⟨f1, f2, f3⟩ := word_two (u := digB a) (v := digB b) (dig_no32 ha)
  obtain ⟨g1, g2, g3⟩ := word_one (dig_no32 hb)
  have hk : kindB wPair = 4 := by decide +kernel
  have hq : argsB 2 (digB a ++ ⟨#[32]⟩ ++ digB b) true = some ([a, b], ⟨#[]⟩, false) := by
    show (match numB (wordA (digB a ++ (⟨#[32]⟩ : ByteArray) ++ digB b)) with | none => none | some x => (argsB 1 (wordR (digB a ++ (⟨#[32]⟩ : ByteArray) ++ digB b)) (wordM (digB a ++ (⟨#[32]⟩ : ByteArray) ++ digB b))).map fun (q : List Nat × ByteArray × Bool) => (x :: q.1, q.2.1, q.2.2)) = _
    rw [f1, f2, f3, dig_num ha]
    show ((match numB (wordA (digB b)) with | none => none | some x => (argsB 0 (wordR (digB b)) (wordM (digB b))).map fun (q : List Nat × ByteArray × Bool) => (x :: q.1, q.2.1, q.2.2))).map _ = _
    rw [g1, g2, g3, dig_num hb]
    rfl
  unfold lineB linP
  rw [e1, e2, e3, hk]
  show (match argsB 2 (digB a ++ ⟨#[32]⟩ ++ digB b) true with | none => badB | some q => bif q.2.2 == textB 4 then ansB 4 (q.1.getD 0 0) (q.1.getD 1 0) (q.1.getD 2 0) q.2.1 else badB) = _
  rw [hq]
  rfl
theorem linO_ans {a : Nat} (ha : a ≤ 9999) : lineB (linO a) = digB (gM (4 * a)) := by
  obtain ⟨e1, e2, e3⟩ := word_two (u := wOrder) (v := digB a) (no_lit (by decide +kernel))
  obtain ⟨g1, g2, g3⟩ := word_one (dig_no32 ha)
  have hk : kindB wOrder = 3 := by decide +kernel
  have hq : argsB 1 (digB a) true = some ([a], ⟨#[]⟩, false) := by
    show (match numB (wordA (digB a)) with | none => none | some x => (argsB 0 (wordR (digB a)) (wordM (digB a))).map fun (q : List Nat × ByteArray × Bool) => (x :: q.1, q.2.1, q.2.2)) = _
    rw [g1, g2, g3, dig_num ha]
    rfl
  unfold lineB linO
  rw [e1, e2, e3, hk]
  show (match argsB 1 (digB a) true with | none => badB | some q => bif q.2.2 == textB 3 then ansB 3 (q.1.getD 0 0) (q.1.getD 1 0) (q.1.getD 2 0) q.2.1 else badB) = _
  rw [hq]
  rfl
theorem linP_no {a b : Nat} (ha : a ≤ 9999) (hb : b ≤ 9999) : NoB (linP a b) 10 :=
  no_join (no_join (no_lit (by decide +kernel)) (no_lit (by decide +kernel))) (no_join (no_join (dig_no10 ha) (no_lit (by decide +kernel))) (dig_no10 hb))
theorem linO_no {a : Nat} (ha : a ≤ 9999) : NoB (linO a) 10 := no_join (no_join (no_lit (by decide +kernel)) (no_lit (by decide +kernel))) (dig_no10 ha)
/-- The session. -/
def sesP (n m : Nat) : ByteArray := linP n m ++ ⟨#[10]⟩ ++ (linP (n * m) 1 ++ ⟨#[10]⟩ ++ (linP m n ++ ⟨#[10]⟩ ++ (linO n ++ ⟨#[10]⟩ ++ ⟨#[]⟩)))
/-- What it tells, three times. -/
def pairP (k : Nat) : ByteArray := pairB (digB (tp gI k).1.toNat) (digB (tp gI k).2.toNat)
theorem ses_lines {n m : Nat} (hn : n ≤ 90) (hm : m ≤ 90) : linesB (sesP n m) = [linP n m, linP (n * m) 1, linP m n, linO n] := by
  have h : n * m ≤ 90 * 90 := Nat.mul_le_mul hn hm
  unfold sesP
  rw [lines_step (linP_no (by omega) (by omega)), lines_step (linP_no (by omega) (by omega)), lines_step (linP_no (by omega) (by omega)), lines_step (linO_no (by omega)), lines_nil]
theorem ses_out {n m : Nat} (n1 : 1 ≤ n) (hn : n ≤ 90) (hm : m ≤ 90) : outB lineB (linesB (sesP n m)) = pairP (n * m) ++ ⟨#[10]⟩ ++ (pairP (n * m) ++ ⟨#[10]⟩ ++ (pairP (n * m) ++ ⟨#[10]⟩ ++ (digB 1013 ++ ⟨#[10]⟩ ++ ⟨#[]⟩))) := by
  have h : n * m ≤ 90 * 90 := Nat.mul_le_mul hn hm
  have p1 : ∀ a b, a ≤ 9999 → b ≤ 9999 → lineB (linP a b) = pairP (a * b) := fun a b ha hb => by rw [linP_ans ha hb]; rfl
  rw [ses_lines hn hm]
  show lineB (linP n m) ++ ⟨#[10]⟩ ++ (lineB (linP (n * m) 1) ++ ⟨#[10]⟩ ++ (lineB (linP m n) ++ ⟨#[10]⟩ ++ (lineB (linO n) ++ ⟨#[10]⟩ ++ ⟨#[]⟩))) = _
  rw [p1 n m (by omega) (by omega), p1 (n * m) 1 (by omega) (by omega), p1 m n (by omega) (by omega), linO_ans (by omega), order_n n1 hn, Nat.mul_one, Nat.mul_comm m n]
theorem pairP_dig (k : Nat) : ∃ x y : Nat, pairP k = digB x ++ ⟨#[32]⟩ ++ digB y ∧ x ≤ 4050 ∧ y ≤ 4050 := by
  have a2 : (tp gI k).1 ≤ 4050 := fm_hi _
  have b2 : (tp gI k).2 ≤ 4050 := fm_hi _
  exact ⟨_, _, rfl, by omega, by omega⟩
theorem pairP_no (k : Nat) : NoB (pairP k) 10 := by
  obtain ⟨x, y, h, hx, hy⟩ := pairP_dig k
  rw [h]
  exact no_join (no_join (dig_no10 (by omega)) (no_lit (by decide +kernel))) (dig_no10 (by omega))
theorem pairP_bad (k : Nat) : pairP k ≠ badB := by
  obtain ⟨x, y, h, hx, hy⟩ := pairP_dig k
  intro e
  have h2 := (word_two (u := digB x) (v := digB y) (dig_no32 (by omega))).2.2
  rw [← h, e] at h2
  have h3 : wordM badB = false := by decide +kernel
  rw [h3] at h2
  cases h2
theorem cutB_ten {u v : ByteArray} (hu : NoB u 10) : cutB (u ++ ⟨#[10]⟩ ++ v) 10 = u :: cutB v 10 := cutB_step (c := 10) hu
/-- Its pieces. -/
theorem ses_cut {n m : Nat} (n1 : 1 ≤ n) (hn : n ≤ 90) (hm : m ≤ 90) : cutB (outB lineB (linesB (sesP n m))) 10 = [pairP (n * m), pairP (n * m), pairP (n * m), ⟨#[49, 48, 49, 51]⟩, ⟨#[]⟩] := by
  have hp := pairP_no (n * m)
  have hd : digB 1013 = ⟨#[49, 48, 49, 51]⟩ := by decide +kernel
  rw [ses_out n1 hn hm, hd]
  rw [cutB_ten hp, cutB_ten hp, cutB_ten hp, cutB_ten (no_lit (by decide +kernel)), cutB_none (no_lit (by decide +kernel))]
theorem ses_is (n m : Nat) : (⟨#[112, 97, 105, 114, 32]⟩ : ByteArray) ++ digB n ++ ⟨#[32]⟩ ++ digB m ++ ⟨#[10, 112, 97, 105, 114, 32]⟩ ++ digB (n * m) ++ ⟨#[32, 49, 10, 112, 97, 105, 114, 32]⟩ ++ digB m ++ ⟨#[32]⟩ ++ digB n ++ ⟨#[10, 111, 114, 100, 101, 114, 32]⟩ ++ digB n ++ ⟨#[10]⟩ = sesP n m := by
  have h1 : digB 1 = ⟨#[49]⟩ := by decide +kernel
  unfold sesP linP linO wPair wOrder
  rw [h1]
  apply ByteArray.ext
  apply Array.ext'
  simp
end Go.Proofs.YtgngdabfmbipaakGreatDoor

/- RunPairsBy -/
namespace Go.Proofs.YtgngdabfmbipaakGreatDoor
open Go.RowKit Go.Sort
set_option linter.unusedVariables false
set_option linter.unusedSimpArgs false
theorem run_fact_far : tM (4 * em 1013) = (0, 0, true) := by decide +kernel
theorem run_far (w : World) : Calls Tryz.prog 9 #[.agg #[.int .i64 ((tM 4).1 : Int), .int .i64 ((tM 4).2.1 : Int), .bool (tM 4).2.2], .int .i64 1013] w fun e w' => e = .returned (.tuple #[.agg #[.int .i64 0, .int .i64 0, .bool true], .nilIface]) ∧ Below w.heap.size w w' := times_eq (i := 4) (n := 1013) (r := (0, 0, true)) run_fact_far w
theorem ses_small (a b : Nat) : (sesP a b).size ≤ 3000 := by
  rw [← ses_is]
  have := digB_size a
  have := digB_size b
  have := digB_size (a * b)
  generalize digB a = A at *
  generalize digB b = B at *
  generalize digB (a * b) = C at *
  simp only [ByteArray.size_append]
  have e1 : (⟨#[112, 97, 105, 114, 32]⟩ : ByteArray).size = 5 := rfl
  have e2 : (⟨#[32]⟩ : ByteArray).size = 1 := rfl
  have e3 : (⟨#[10, 112, 97, 105, 114, 32]⟩ : ByteArray).size = 6 := rfl
  have e4 : (⟨#[32, 49, 10, 112, 97, 105, 114, 32]⟩ : ByteArray).size = 8 := rfl
  have e5 : (⟨#[10, 111, 114, 100, 101, 114, 32]⟩ : ByteArray).size = 7 := rfl
  have e6 : (⟨#[10]⟩ : ByteArray).size = 1 := rfl
  rw [e1, e2, e3, e4, e5, e6]
  omega
theorem ses_size {a b : Nat} (ha : a ≤ 90) (hb : b ≤ 90) : (outB lineB (linesB (sesP a b))).size ≤ 100000 := by
  have h := out_size (linesB (sesP a b))
  have e : (linesB (sesP a b)).length = 4 := by rw [ses_lines ha hb]; rfl
  rw [e] at h
  omega
theorem ses_run (a b : Nat) : runB lineB (sesP a b) = outB lineB (linesB (sesP a b)) := by
  have h := ses_small a b
  unfold runB
  rw [decide_eq_false (by omega), cond_false]
theorem run_ses (hI : RunIs) (ad : Addr) (a b : Nat) : ∀ w, Lie ad w → Calls Tryz.prog 6 #[.string (⟨#[112, 97, 105, 114, 32]⟩ ++ digB a ++ ⟨#[32]⟩ ++ digB b ++ ⟨#[10, 112, 97, 105, 114, 32]⟩ ++ digB (a * b) ++ ⟨#[32, 49, 10, 112, 97, 105, 114, 32]⟩ ++ digB b ++ ⟨#[32]⟩ ++ digB a ++ ⟨#[10, 111, 114, 100, 101, 114, 32]⟩ ++ digB a ++ ⟨#[10]⟩)] w fun e w' => e = .returned (.string (outB lineB (linesB (sesP a b)))) ∧ Below w.heap.size w w' := fun w hw => by
  have h := hI (sesP a b) (Nat.le_trans (ses_small a b) (by decide)) ad w hw
  rw [ses_run] at h
  rw [ses_is]
  exact h
theorem own_cut {w : World} {b : Nat} {e : TypeId} {v : Value} {P Q : ByteArray} (h : w.ownsRow b e 1 v [P, P, P, Q, ⟨#[]⟩].length (zL [P, P, P, Q, ⟨#[]⟩])) :
    ∃ g c : Nat, v = .slice (some ⟨g, 0, none⟩) 5 c ∧ g < w.heap.size ∧ 5 ≤ c ∧ w.cell? ⟨g, 0, none⟩ = some (.string P) ∧ w.cell? ⟨g, 1, none⟩ = some (.string P) ∧ w.cell? ⟨g, 2, none⟩ = some (.string P) ∧ w.cell? ⟨g, 3, none⟩ = some (.string Q) := by
  obtain ⟨g, c, rfl, hg, _, hc, hcell⟩ := own_strs h (by simp)
  exact ⟨g, c, rfl, hg, hc, hcell 0 (by simp), hcell 1 (by simp), hcell 2 (by simp), hcell 3 (by simp)⟩
set_option maxRecDepth 100000 in
set_option maxHeartbeats 8000000 in
theorem runPairs_by (hI : RunIs) (ad : Addr) (w : World) (hL : Lie ad w) (n m : Int) : Calls Tryz.prog 5 #[.int .i64 n, .int .i64 m] w fun e w' => e = .returned (.bool true) ∧ Below w.heap.size w w' := by
  have HLI : Hid (Lie ad w) := hL
  clear hL
  obtain ⟨T4, h4⟩ : ∃ T4, tM 4 = T4 := ⟨_, rfl⟩
  have HBA : Hid (∀ w, Calls Tryz.prog 10 #[] w fun e w' => e = .returned (.agg #[.int .i64 ((T4).1 : Int), .int .i64 ((T4).2.1 : Int), .bool (T4).2.2]) ∧ Below w.heap.size w w') := fun w => by have := base_is w; rwa [h4] at this
  have HT : Hid (∀ w, Calls Tryz.prog 9 #[.agg #[.int .i64 ((T4).1 : Int), .int .i64 ((T4).2.1 : Int), .bool (T4).2.2], .int .i64 1013] w fun e w' => e = .returned (.tuple #[.agg #[.int .i64 0, .int .i64 0, .bool true], .nilIface]) ∧ Below w.heap.size w w') := fun w => by have := run_far w; rwa [h4] at this
  clear h4
  by_cases p1 : n < 1
  · have m1 : True := trivial; have m2 : True := trivial
    go_enter Tryz.func5, Tryz.ntmps5
    go_wp2_with (first | (go_at_call 10; clear m1; with_reducible refine (HBA.out _).mono ?_; rintro e w1 ⟨rfl, hbw1⟩; have hqw1 : Below w.heap.size w w1 := (below_by); have hzw1 := hqw1.size; clear hbw1) | (go_at_call 9; clear m2; with_reducible refine (HT.out _).mono ?_; rintro e w2 ⟨rfl, hbw2⟩; have hqw2 : Below w.heap.size w w2 := (below_by); have hzw2 := hqw2.size; clear  hqw1; clear hbw2))
    go_ret
    exact ⟨rfl, below_by⟩
  by_cases p2 : n > 90
  · have m1 : True := trivial; have m2 : True := trivial
    go_enter Tryz.func5, Tryz.ntmps5
    go_wp2_with (first | (go_at_call 10; clear m1; with_reducible refine (HBA.out _).mono ?_; rintro e w1 ⟨rfl, hbw1⟩; have hqw1 : Below w.heap.size w w1 := (below_by); have hzw1 := hqw1.size; clear hbw1) | (go_at_call 9; clear m2; with_reducible refine (HT.out _).mono ?_; rintro e w2 ⟨rfl, hbw2⟩; have hqw2 : Below w.heap.size w w2 := (below_by); have hzw2 := hqw2.size; clear  hqw1; clear hbw2))
    go_ret
    exact ⟨rfl, below_by⟩
  by_cases p3 : m < 1
  · have m1 : True := trivial; have m2 : True := trivial
    go_enter Tryz.func5, Tryz.ntmps5
    go_wp2_with (first | (go_at_call 10; clear m1; with_reducible refine (HBA.out _).mono ?_; rintro e w1 ⟨rfl, hbw1⟩; have hqw1 : Below w.heap.size w w1 := (below_by); have hzw1 := hqw1.size; clear hbw1) | (go_at_call 9; clear m2; with_reducible refine (HT.out _).mono ?_; rintro e w2 ⟨rfl, hbw2⟩; have hqw2 : Below w.heap.size w w2 := (below_by); have hzw2 := hqw2.size; clear  hqw1; clear hbw2))
    go_ret
    exact ⟨rfl, below_by⟩
  by_cases p4 : m > 90
  · have m1 : True := trivial; have m2 : True := trivial
    go_enter Tryz.func5, Tryz.ntmps5
    go_wp2_with (first | (go_at_call 10; clear m1; with_reducible refine (HBA.out _).mono ?_; rintro e w1 ⟨rfl, hbw1⟩; have hqw1 : Below w.heap.size w w1 := (below_by); have hzw1 := hqw1.size; clear hbw1) | (go_at_call 9; clear m2; with_reducible refine (HT.out _).mono ?_; rintro e w2 ⟨rfl, hbw2⟩; have hqw2 : Below w.heap.size w w2 := (below_by); have hzw2 := hqw2.size; clear  hqw1; clear hbw2))
    go_ret
    exact ⟨rfl, below_by⟩
  obtain ⟨a, rfl⟩ : ∃ a : Nat, n = (a : Int) := ⟨n.toNat, by omega⟩
  obtain ⟨b, rfl⟩ : ∃ b : Nat, m = (b : Int) := ⟨m.toNat, by omega⟩
  have hab : a * b ≤ 90 * 90 := Nat.mul_le_mul (by omega) (by omega)
  obtain ⟨q, hq⟩ : ∃ q, a * b = q := ⟨_, rfl⟩
  have hmul : (a : Int) * (b : Int) = (q : Int) := by rw [← hq, Int.natCast_mul]
  obtain ⟨G, hG⟩ : ∃ G, outB lineB (linesB (sesP a b)) = G := ⟨_, rfl⟩
  have hGs : G.size ≤ 100000 := by rw [← hG]; exact ses_size (by omega) (by omega)
  obtain ⟨P, hP⟩ : ∃ P, pairP (a * b) = P := ⟨_, rfl⟩
  have HCB : Hid (cutB G 10 = [P, P, P, ⟨#[49, 48, 49, 51]⟩, ⟨#[]⟩]) := by unfold Hid; rw [← hG, ← hP]; exact ses_cut (by omega) (by omega) (by omega)
  have hbad0 : ¬ P.toList = [98, 97, 100] := fun h => pairP_bad (a * b) (by rw [hP]; exact list_eq h)
  have hbad : (P.toList == [98, 97, 100]) = false := by simpa using hbad0
  have HRU := run_ses hI ad a b
  rw [hG, hq] at HRU
  obtain ⟨A, hA⟩ : ∃ A, digB a = A := ⟨_, rfl⟩
  obtain ⟨B, hB⟩ : ∃ B, digB b = B := ⟨_, rfl⟩
  obtain ⟨C, hC⟩ : ∃ C, digB q = C := ⟨_, rfl⟩
  rw [hA, hB, hC] at HRU
  have HRN : Hid (∀ w, Lie ad w → Calls Tryz.prog 6 #[.string (⟨#[112, 97, 105, 114, 32]⟩ ++ A ++ ⟨#[32]⟩ ++ B ++ ⟨#[10, 112, 97, 105, 114, 32]⟩ ++ C ++ ⟨#[32, 49, 10, 112, 97, 105, 114, 32]⟩ ++ B ++ ⟨#[32]⟩ ++ A ++ ⟨#[10, 111, 114, 100, 101, 114, 32]⟩ ++ A ++ ⟨#[10]⟩)] w fun e w' => e = .returned (.string G) ∧ Below w.heap.size w w') := HRU
  have HDA : Hid (∀ w, Calls Tryz.prog 11 #[.int .i64 (a : Int)] w fun e w' => e = .returned (.string A) ∧ Below w.heap.size w w') := fun w => by have := rdigits a w (by omega); rwa [hA] at this
  have HDB : Hid (∀ w, Calls Tryz.prog 11 #[.int .i64 (b : Int)] w fun e w' => e = .returned (.string B) ∧ Below w.heap.size w w') := fun w => by have := rdigits b w (by omega); rwa [hB] at this
  have HDC : Hid (∀ w, Calls Tryz.prog 11 #[.int .i64 (q : Int)] w fun e w' => e = .returned (.string C) ∧ Below w.heap.size w w') := fun w => by have := rdigits q w (by omega); rwa [hC] at this
  have sA : A.size ≤ 100 := by rw [← hA]; exact digB_size a
  have sB : B.size ≤ 100 := by rw [← hB]; exact digB_size b
  have sC : C.size ≤ 100 := by rw [← hC]; exact digB_size q
  have q1 : q ≤ 8100 := by omega
  clear HRU hG hP hA hB hC hI HT HBA hab hq
  have m1 : True := trivial; have m2 : True := trivial; have m3 : True := trivial; have m4 : True := trivial; have m5 : True := trivial
  go_enter Tryz.func5, Tryz.ntmps5
  go_upto_region 8 with (first | (go_at_call 11; clear m1; with_reducible refine (HDA.out _).mono ?_; rintro e w1 ⟨rfl, hbw1⟩; have hqw1 : Below w.heap.size w w1 := (below_by); have hzw1 := hqw1.size; clear hbw1) | (go_at_call 11; clear m2; with_reducible refine (HDB.out _).mono ?_; rintro e w2 ⟨rfl, hbw2⟩; have hqw2 : Below w.heap.size w w2 := (below_by); have hzw2 := hqw2.size; clear  hqw1; clear hbw2) | (go_at_call 11; clear m3; with_reducible refine (HDC.out _).mono ?_; rintro e w3 ⟨rfl, hbw3⟩; have hqw3 : Below w.heap.size w w3 := (below_by); have hzw3 := hqw3.size; clear  hqw2; clear hbw3) | (go_at_call 6; clear m4; with_reducible refine (HRN.out _ (HLI.out.below (show Below w.heap.size w _ from below_by))).mono ?_; rintro e w4 ⟨rfl, hbw4⟩; have hqw4 : Below w.heap.size w w4 := (below_by); have hzw4 := hqw4.size; clear  hqw3; clear hbw4) | (go_at_call 7; clear m5; refine (rcut G 10 _ (by omega) (by omega)).mono ?_; rintro e w5 ⟨v5, rfl, ho5, hb5⟩; rw [HCB.out] at ho5; obtain ⟨g, cc, rfl, hg, hcc, d0, d1, d2, d3⟩ := own_cut ho5; have hqw5 : Below w.heap.size w w5 := (below_by); have hzw5 := hqw5.size; clear hb5 ho5))
  refine wp_region_quiet_below (by kernel_rfl) (by kernel_rfl) ?_
  repeat (go_big_quiet_step (first | fail))
  refine wpQuiet_nil ?_
  intro Y hw1
  have hrY := regrown_below hw1
  clear hw1
  have hqY := bl_call hqw5 hrY (by omega)
  have hzY := hqY.size
  clear hrY  hqw5
  go_wp2_with fail
  go_ret
  exact ⟨rfl, below_by⟩
end Go.Proofs.YtgngdabfmbipaakGreatDoor

/- RunPairsWalk -/
namespace Go.Proofs.YtgngdabfmbipaakGreatDoor
open Go.RowKit
set_option linter.unusedVariables false
theorem walkRunPairs (w : World) (n m : Int) (hn : (Lit.int .i64 n).wf = true) (hm : (Lit.int .i64 m).wf = true) (a : Addr) (hL : Lie a w) : Calls Tryz.prog 5 #[.int .i64 n, .int .i64 m] w fun e w' => e = .returned (.bool true) ∧ Below w.heap.size w w' :=
  runPairs_by run_is a w hL n m
end Go.Proofs.YtgngdabfmbipaakGreatDoor

