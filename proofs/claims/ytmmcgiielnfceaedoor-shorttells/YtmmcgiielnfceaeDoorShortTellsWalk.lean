/- Proved: stonelaw2.ShortTells answers true for every number, every text, every two spots, every list of spots and every list of texts: the short seal, whether one is right, what is joined and whether all are right at once are what the plain reckoning says, and the faults are told. No condition stands behind it but the listed variable and the form's own reach (no text of more than 140737488351232 bytes). -/
import Derived.Test.YtmmcgiielnfceaeDoorShortTellsL
import Derived.Test.YtmmcgiielnfceaeDoorShortTellsS
import Derived.Test.YtmmcgiielnfceaeDoorShort
import Derived.Test.YtmmcgiielnfceaeDoorPairIs
import Derived.Test.YtmmcgiielnfceaeDoorRefBytes
import Derived.Test.YtmmcgiielnfceaeDoorRefSeal
import Derived.Test.YtmmcgiielnfceaeDoorOpen
namespace Go.Proofs.YtmmcgiielnfceaeDoor
open Go.RowKit Go.Sort
set_option linter.unusedVariables false
set_option linter.unusedSimpArgs false
theorem rof_u (t : ByteArray) (w : World) (ht : t.size ≤ 140737488351232) : Calls Tryd.prog 6 #[.string t] w fun ex w' => ex = .returned (.agg #[.int .i64 ((tM (4 * uN t)).1 : Int), .int .i64 ((tM (4 * uN t)).2.1 : Int), .bool false]) ∧ Below w.heap.size w w' := by
  have := rof_any t w ht
  rwa [uN_is] at this
theorem sh_sec_no {x : Int} (h : secB x = false) : x < 1 ∨ 1013 ≤ x := by
  have := of_decide_eq_false h
  omega
theorem sh_sec_yes {x : Int} (h : secB x = true) : ∃ k : Nat, x = (k : Int) ∧ 1 ≤ k ∧ k < 1013 := by
  have := of_decide_eq_true h
  exact ⟨x.toNat, by omega, by omega, by omega⟩
theorem sh_one (x : Int) (t : ByteArray) (ht : t.size ≤ 60) : ∃ (wx wy : Int) (wf : Bool) (e1 : Int) (v1 : Value), (secB x = true → e1 = 0 ∧ (∀ w, Calls Tryd.prog 5 #[.agg #[.int .i64 ((tM (4 * uN t)).1 : Int), .int .i64 ((tM (4 * uN t)).2.1 : Int), .bool false], .int .i64 x] w fun ex w' => ex = .returned (.agg #[.int .i64 wx, .int .i64 wy, .bool wf]) ∧ Below w.heap.size w w')) ∧ (secB x = false → e1 = 1 ∧ wx = 0 ∧ wy = 0 ∧ wf = false) ∧
    (∀ w, Calls Tryd.prog 7 #[.int .i64 x, .string t] w fun ex w' => ex = .returned (.tuple #[.agg #[.int .i64 wx, .int .i64 wy, .bool wf], v1]) ∧ Below w.heap.size w w') ∧ IsErr v1 ∧ (toldI v1 == e1) = true := by
  cases h : secB x with
  | false => exact ⟨0, 0, false, 1, errOf 1, fun kk => (by cases kk), fun _ => ⟨rfl, rfl, rfl, rfl⟩, fun w => ssign_x x t w (sh_sec_no h), isErr_err _, rfl⟩
  | true =>
    obtain ⟨k, rfl, k1, k2⟩ := sh_sec_yes h
    refine ⟨_, _, _, 0, .nilIface, fun _ => ⟨rfl, fun w => ?_⟩, fun kk => (by cases kk), fun w => ssign_ok k t w k1 k2 ht, isErr_nil, rfl⟩
    have := rtimes_eq (i := 4 * uN t) (n := (k : Int)) (r := tM (4 * (uN t * k))) (by rw [em_nat k2, Nat.mul_assoc]) w
    rwa [uN_f] at this
theorem sh_one_long (x : Int) (t : ByteArray) (ht : 60 < t.size) (hm : t.size ≤ 9223372036854775807) : ∃ (e1 : Int) (v1 : Value), (secB x = true → e1 = 4) ∧ (secB x = false → e1 = 1) ∧
    (∀ w, Calls Tryd.prog 7 #[.int .i64 x, .string t] w fun ex w' => ex = .returned (.tuple #[.agg #[.int .i64 0, .int .i64 0, .bool false], v1]) ∧ Below w.heap.size w w') ∧ IsErr v1 ∧ (toldI v1 == e1) = true := by
  cases h : secB x with
  | false => exact ⟨1, errOf 1, fun kk => (by cases kk), fun _ => rfl, fun w => ssign_x x t w (sh_sec_no h), isErr_err _, rfl⟩
  | true =>
    obtain ⟨k, rfl, k1, k2⟩ := sh_sec_yes h
    exact ⟨4, errOf 4, fun _ => rfl, fun kk => (by cases kk), fun w => ssign_full k t w k1 k2 ht hm, isErr_err _, rfl⟩
theorem sh_two (x1 y1 x2 y2 : Int) (f1 f2 : Bool) (t : ByteArray) (ht : t.size ≤ 60) : ∃ (ea e2 : Int) (q : Bool) (A B : Int × Int) (v2 : Value), (∀ w, Calls Tryd.prog 10 #[.agg #[.int .i64 x2, .int .i64 y2, .bool f2], .agg #[.int .i64 ((tM 4).1 : Int), .int .i64 ((tM 4).2.1 : Int), .bool false]] w fun ex w' => ex = .returned (.int .i64 ea) ∧ Below w.heap.size w w') ∧ ((ea == 0) = true → ∀ w, Calls Tryd.prog 10 #[.agg #[.int .i64 ((tM (4 * uN t)).1 : Int), .int .i64 ((tM (4 * uN t)).2.1 : Int), .bool false], .agg #[.int .i64 x1, .int .i64 y1, .bool f1]] w fun ex w' => ex = .returned (.int .i64 e2) ∧ Below w.heap.size w w') ∧ ((ea == 0) = false → e2 = ea) ∧ ((e2 == 0) = true → (∀ w, Calls Tryd.prog 11 #[.agg #[.int .i64 x2, .int .i64 y2, .bool f2], .agg #[.int .i64 ((tM 4).1 : Int), .int .i64 ((tM 4).2.1 : Int), .bool false]] w fun ex w' => ex = .returned (.agg #[.int .i64 (A).1, .int .i64 (A).2]) ∧ Below w.heap.size w w') ∧ (∀ w, Calls Tryd.prog 11 #[.agg #[.int .i64 ((tM (4 * uN t)).1 : Int), .int .i64 ((tM (4 * uN t)).2.1 : Int), .bool false], .agg #[.int .i64 x1, .int .i64 y1, .bool f1]] w fun ex w' => ex = .returned (.agg #[.int .i64 (B).1, .int .i64 (B).2]) ∧ Below w.heap.size w w') ∧ ∃ t1 t2 : Bool, (A.1 == B.1) = t1 ∧ (A.2 == B.2) = t2 ∧ q = (t1 && t2)) ∧ ((e2 == 0) = false → q = false) ∧ (∀ w, Calls Tryd.prog 12 #[.agg #[.int .i64 x1, .int .i64 y1, .bool f1], .string t, .agg #[.int .i64 x2, .int .i64 y2, .bool f2]] w fun ex w' => ex = .returned (.tuple #[.bool q, v2]) ∧ Below w.heap.size w w') ∧ (IsErr v2) ∧ (toldI v2 == e2) = true := by
  obtain ⟨ea, A, va, a1, a2, a3⟩ := two_is x2 y2 ((tM 4).1 : Int) ((tM 4).2.1 : Int) f2 false
  obtain ⟨eb, B, vb, b1, b2, b3⟩ := two_is ((tM (4 * uN t)).1 : Int) ((tM (4 * uN t)).2.1 : Int) x1 y1 false f1
  rcases a3 with ⟨rfl, rfl, a4⟩ | ⟨a4, rfl, rfl⟩
  · rcases b3 with ⟨rfl, rfl, b4⟩ | ⟨b4, rfl, rfl⟩
    · exact ⟨0, 0, _, A, B, .nilIface, a1, fun _ => b1, (fun h => by cases h), fun _ => ⟨a4, b4, _, _, rfl, rfl, rfl⟩, (fun h => by cases h), fun w => sverify_by ht (fun w => psame_ok a2 b2 rfl rfl w) w, isErr_nil, rfl⟩
    · exact ⟨0, eb, false, A, (0, 0), errOf eb, a1, fun _ => b1, (fun h => by cases h), (fun h => by rw [b4] at h; cases h), fun _ => rfl, fun w => sverify_by ht (fun w => psame_bad2 a2 b2 w) w, isErr_err _, told_self _⟩
  · exact ⟨ea, ea, false, (0, 0), B, errOf ea, a1, (fun h => by rw [a4] at h; cases h), fun _ => rfl, (fun h => by rw [a4] at h; cases h), fun _ => rfl, fun w => sverify_by ht (fun w => psame_bad1 a2 w) w, isErr_err _, told_self _⟩
theorem sh_three (sa : Option Addr) (n c : Nat) (w : World) (hn : n ≤ 9223372036854775807) (hx : n = 0 ∨ ∃ (b o : Nat) (X Y : Nat → Int) (F : Nat → Bool), sa = some ⟨b, o, none⟩ ∧ RowO w b o n X Y F) :
    ∃ (jx jy : Int) (jf : Bool) (e3 : Int) (v3 : Value), (∀ W, Below w.heap.size w W → Calls Tryd.prog 13 #[.slice sa n c] W fun ex w' => ex = .returned (.int .i64 e3) ∧ Below W.heap.size W w') ∧ ((e3 == 0) = true → ∀ W, Below w.heap.size w W → Calls Tryd.prog 14 #[.slice sa n c] W fun ex w' => ex = .returned (.agg #[.int .i64 jx, .int .i64 jy, .bool jf]) ∧ Below W.heap.size W w') ∧ ((e3 == 0) = false → jx = 0 ∧ jy = 0 ∧ jf = false) ∧ (∀ W, Below w.heap.size w W → Calls Tryd.prog 15 #[.slice sa n c] W fun ex w' => ex = .returned (.tuple #[.agg #[.int .i64 jx, .int .i64 jy, .bool jf], v3]) ∧ Below W.heap.size W w') ∧ (IsErr v3) ∧ (toldI v3 == e3) = true := by
  by_cases h12 : 12 < n
  · exact ⟨0, 0, false, 4, errOf 4, fun W _ => rspots_many sa n c W h12, (fun h => by cases h), fun _ => ⟨rfl, rfl, rfl⟩, fun W _ => sjoin_many sa n c W h12 hn, isErr_err _, rfl⟩
  rcases hx with rfl | ⟨b, o, X, Y, F, rfl, hr⟩
  · exact ⟨0, 0, true, 0, .nilIface, fun W _ => rspots_nil sa c W, fun _ W _ => rjoin_nil sa c W, (fun h => by cases h), fun W _ => sjoin_nil sa c W, isErr_nil, rfl⟩
  have hb := hr.1
  cases he : rowE X Y F n == 0
  · exact ⟨0, 0, false, rowE X Y F n, errOf (rowE X Y F n), fun W k => rspots_row b o n c X Y F W (by omega) (hr.below hb k), (fun h => by rw [he] at h; cases h), fun _ => ⟨rfl, rfl, rfl⟩, fun W k => sjoin_bad b o n c X Y F W (by omega) (hr.below hb k) he, isErr_err _, told_self _⟩
  · have he' : rowE X Y F n = 0 := by simpa using he
    obtain ⟨K, hK⟩ := row_tM he'
    refine ⟨_, _, _, 0, .nilIface, fun W k => ?_, fun _ W k => rjoin_row b o n c X Y F K W (by omega) (hr.below hb k) hK, (fun h => by cases h), fun W k => sjoin_row b o n c X Y F K W (by omega) (hr.below hb k) he' hK, isErr_nil, rfl⟩
    have := rspots_row b o n c X Y F W (by omega) (hr.below hb k)
    rwa [he'] at this
theorem first_long (T : Nat → ByteArray) : ∀ n, ∃ j, j ≤ n ∧ (∀ i, i < j → (T i).size ≤ 60) ∧ (j = n ∨ (j < n ∧ 60 < (T j).size))
  | 0 => ⟨0, Nat.le_refl _, fun k hk => absurd hk (Nat.not_lt_zero _), Or.inl rfl⟩
  | n + 1 => by
    obtain ⟨t, h1, h2, h3⟩ := first_long T n
    rcases h3 with rfl | ⟨h3, h4⟩
    · by_cases h : (T t).size ≤ 60
      · refine ⟨t + 1, by omega, fun k hk => ?_, Or.inl rfl⟩
        rcases Nat.lt_succ_iff_lt_or_eq.1 hk with h5 | rfl
        · exact h2 k h5
        · exact h
      · exact ⟨t, by omega, h2, Or.inr ⟨by omega, by omega⟩⟩
    · exact ⟨t, by omega, h2, Or.inr ⟨by omega, h4⟩⟩
theorem sh_four (sa sb : Option Addr) (n c m d : Nat) (x2 y2 : Int) (f2 : Bool) (w : World) (hn : n ≤ 9223372036854775807) (hm : m ≤ 9223372036854775807) (hx : n = 0 ∨ ∃ (b o : Nat) (X Y : Nat → Int) (F : Nat → Bool), sa = some ⟨b, o, none⟩ ∧ RowO w b o n X Y F) (hz : m = 0 ∨ ∃ (b o : Nat) (T : Nat → ByteArray), sb = some ⟨b, o, none⟩ ∧ RowZ w b o m T ∧ ∀ i, i < m → (T i).size ≤ 140737488351232) : ∃ (q1 q4 : Bool) (ec ed ee ef : Int) (j0 t0 : Nat) (T : Nat → ByteArray) (X Y MX MY : Nat → Int) (F MF : Nat → Bool) (A4 B4 : Int × Int) (v4 : Value), (q1 = (decide (12 < n) || decide (12 < m))) ∧ ((q1 = true ∧ ec = 4) ∨ (q1 = false ∧ n ≠ m ∧ ec = 3) ∨ (q1 = false ∧ n = m ∧ ec = 0)) ∧ ((ec == 0) = true → (m = 0 ∨ ∃ b o : Nat, sb = some ⟨b, o, none⟩ ∧ RowZ w b o m T) ∧ n = m ∧ m ≤ 12 ∧ j0 ≤ m ∧ (∀ i, i < j0 → (T i).size ≤ 60) ∧ (∀ i, i < m → (T i).size ≤ 140737488351232) ∧ ((j0 = m ∧ ed = 0) ∨ (j0 < m ∧ 60 < (T j0).size ∧ ed = 4))) ∧ ((ec == 0) = false → ed = ec) ∧ (∀ i, i < m → ∀ w, (T i).size ≤ 140737488351232 → Calls Tryd.prog 6 #[.string (T i)] w fun ex w' => ex = .returned (.agg #[.int .i64 (MX i), .int .i64 (MY i), .bool (MF i)]) ∧ Below w.heap.size w w') ∧ ((ed == 0) = true → (ec == 0) = true ∧ ∀ w, Calls Tryd.prog 10 #[.agg #[.int .i64 x2, .int .i64 y2, .bool f2], .agg #[.int .i64 ((tM 4).1 : Int), .int .i64 ((tM 4).2.1 : Int), .bool false]] w fun ex w' => ex = .returned (.int .i64 ee) ∧ Below w.heap.size w w') ∧ ((ed == 0) = false → ee = ed) ∧ ((ee == 0) = true → (ed == 0) = true ∧ (n = 0 ∨ ∃ b o : Nat, sa = some ⟨b, o, none⟩ ∧ RowO w b o n X Y F) ∧ t0 ≤ n ∧ (∀ i, i < t0 → ∀ w, Calls Tryd.prog 10 #[.agg #[.int .i64 (MX i), .int .i64 (MY i), .bool (MF i)], .agg #[.int .i64 (X i), .int .i64 (Y i), .bool (F i)]] w fun ex w' => ex = .returned (.int .i64 0) ∧ Below w.heap.size w w') ∧ ((t0 = n ∧ ef = 0) ∨ (t0 < n ∧ (∀ w, Calls Tryd.prog 10 #[.agg #[.int .i64 (MX t0), .int .i64 (MY t0), .bool (MF t0)], .agg #[.int .i64 (X t0), .int .i64 (Y t0), .bool (F t0)]] w fun ex w' => ex = .returned (.int .i64 ef) ∧ Below w.heap.size w w') ∧ (ef == 0) = false))) ∧ ((ee == 0) = false → ef = ee) ∧ ((ef == 0) = true → (ee == 0) = true ∧ (∀ w, Calls Tryd.prog 11 #[.agg #[.int .i64 x2, .int .i64 y2, .bool f2], .agg #[.int .i64 ((tM 4).1 : Int), .int .i64 ((tM 4).2.1 : Int), .bool false]] w fun ex w' => ex = .returned (.agg #[.int .i64 (A4).1, .int .i64 (A4).2]) ∧ Below w.heap.size w w') ∧ (∀ W v, Below w.heap.size w W → W.ownsRow w.heap.size 23 3 v m (cellsT MX MY MF m) → Calls Tryd.prog 16 #[v, .slice sa n c] W fun ex w' => ex = .returned (.agg #[.int .i64 (B4).1, .int .i64 (B4).2]) ∧ Below W.heap.size W w') ∧ ∃ t1 t2 : Bool, (A4.1 == B4.1) = t1 ∧ (A4.2 == B4.2) = t2 ∧ q4 = (t1 && t2)) ∧ ((ef == 0) = false → q4 = false) ∧ (∀ W, Below w.heap.size w W → Calls Tryd.prog 17 #[.slice sa n c, .slice sb m d, .agg #[.int .i64 x2, .int .i64 y2, .bool f2]] W fun ex w' => ex = .returned (.tuple #[.bool q4, v4]) ∧ Below W.heap.size W w') ∧ (IsErr v4) ∧ (toldI v4 == ef) = true := by
  by_cases h12 : 12 < n ∨ 12 < m
  · refine ⟨true, false, 4, 4, 4, 4, 0, 0, fun _ => ⟨#[]⟩, fun _ => 0, fun _ => 0, fun i => _, fun i => _, fun _ => false, fun _ => false, (0, 0), (0, 0), errOf 4, ?_, Or.inl ⟨rfl, rfl⟩, (fun h => by cases h), fun _ => rfl, fun i _ w h => rof_u ⟨#[]⟩ w h, (fun h => by cases h), fun _ => rfl, (fun h => by cases h), fun _ => rfl, (fun h => by cases h), fun _ => rfl, fun W _ => sall_many sa sb n m c d x2 y2 f2 W h12 hn hm, isErr_err _, rfl⟩
    rcases h12 with h | h <;> simp [h]
  have a1 : ¬ 12 < n := fun h => h12 (Or.inl h)
  have a2 : ¬ 12 < m := fun h => h12 (Or.inr h)
  by_cases hnm : n = m
  · subst hnm
    obtain ⟨T, hT, hsz⟩ : ∃ T : Nat → ByteArray, (n = 0 ∨ ∃ b o : Nat, sb = some ⟨b, o, none⟩ ∧ RowZ w b o n T) ∧ ∀ i, i < n → (T i).size ≤ 140737488351232 := by
      rcases hz with h | ⟨b, o, T, h1, h2, h3⟩
      · exact ⟨fun _ => ⟨#[]⟩, Or.inl h, fun i hi => absurd hi (by omega)⟩
      · exact ⟨T, Or.inr ⟨b, o, h1, h2⟩, h3⟩
    obtain ⟨X, Y, F, hX⟩ : ∃ (X Y : Nat → Int) (F : Nat → Bool), n = 0 ∨ ∃ b o : Nat, sa = some ⟨b, o, none⟩ ∧ RowO w b o n X Y F := by
      rcases hx with h | ⟨b, o, X, Y, F, h1, h2⟩
      · exact ⟨fun _ => 0, fun _ => 0, fun _ => false, Or.inl h⟩
      · exact ⟨X, Y, F, Or.inr ⟨b, o, h1, h2⟩⟩
    have hq : false = (decide (12 < n) || decide (12 < n)) := by simp [a1]
    have hsz9 : ∀ i, i < n → (T i).size ≤ 9223372036854775807 := fun i hi => Nat.le_trans (hsz i hi) (by omega)
    obtain ⟨j0, j1, j2, j3⟩ := first_long T n
    rcases j3 with rfl | ⟨j3, j4⟩
    · obtain ⟨ea, A, va, b1, b2, b3⟩ := two_is x2 y2 ((tM 4).1 : Int) ((tM 4).2.1 : Int) f2 false
      rcases b3 with ⟨rfl, rfl, b4⟩ | ⟨b4, rfl, rfl⟩
      · obtain ⟨ef, h⟩ := Classical.axiomOfChoice fun k => two_is ((tM (4 * uN (T k))).1 : Int) ((tM (4 * uN (T k))).2.1 : Int) (X k) (Y k) false (F k)
        obtain ⟨P, h⟩ := Classical.axiomOfChoice h
        obtain ⟨vf, h⟩ := Classical.axiomOfChoice h
        obtain ⟨t0, h1, h2, h3⟩ := first_bad ef j0
        have ht : ∀ k, k < t0 → (∀ w, Calls Tryd.prog 10 #[.agg #[.int .i64 ((tM (4 * uN (T k))).1 : Int), .int .i64 ((tM (4 * uN (T k))).2.1 : Int), .bool false], .agg #[.int .i64 (X k), .int .i64 (Y k), .bool (F k)]] w fun ex w' => ex = .returned (.int .i64 0) ∧ Below w.heap.size w w') ∧ (∀ w, Calls Tryd.prog 11 #[.agg #[.int .i64 ((tM (4 * uN (T k))).1 : Int), .int .i64 ((tM (4 * uN (T k))).2.1 : Int), .bool false], .agg #[.int .i64 (X k), .int .i64 (Y k), .bool (F k)]] w fun ex w' => ex = .returned (.agg #[.int .i64 (P k).1, .int .i64 (P k).2]) ∧ Below w.heap.size w w') ∧ (∀ w, Calls Tryd.prog 35 #[.agg #[.int .i64 ((tM (4 * uN (T k))).1 : Int), .int .i64 ((tM (4 * uN (T k))).2.1 : Int), .bool false], .agg #[.int .i64 (X k), .int .i64 (Y k), .bool (F k)]] w fun ex w' => ex = .returned (.tuple #[.agg #[.int .i64 (P k).1, .int .i64 (P k).2], .nilIface]) ∧ Below w.heap.size w w') := by
          intro k hk
          obtain ⟨g1, g2, g3⟩ := h k
          have e0 := h2 k hk
          rcases g3 with ⟨_, g4, g5⟩ | ⟨g4, _, _⟩
          · rw [e0] at g1
            rw [g4] at g2
            exact ⟨g1, g5, g2⟩
          · rw [e0] at g4; cases g4
        have prod : ∀ (v : Value) (ec : Int), ((t0 = j0 ∧ v = .tuple #[.agg #[.int .i64 (prodN P j0).1, .int .i64 (prodN P j0).2], .nilIface]) ∨ (t0 < j0 ∧ (∀ w, Calls Tryd.prog 35 #[.agg #[.int .i64 ((tM (4 * uN (T t0))).1 : Int), .int .i64 ((tM (4 * uN (T t0))).2.1 : Int), .bool false], .agg #[.int .i64 (X t0), .int .i64 (Y t0), .bool (F t0)]] w fun ex w' => ex = .returned (.tuple #[.agg #[.int .i64 0, .int .i64 0], errOf ec]) ∧ Below w.heap.size w w') ∧ v = .tuple #[.agg #[.int .i64 0, .int .i64 0], errOf ec])) →
            ∀ W s, Below w.heap.size w W → W.ownsRow w.heap.size 23 3 s j0 (cellsT (fun i => ((tM (4 * uN (T i))).1 : Int)) (fun i => ((tM (4 * uN (T i))).2.1 : Int)) (fun _ => false) j0) → Calls Tryd.prog 36 #[s, .slice sa j0 c] W fun ex w' => ex = .returned v ∧ Below W.heap.size W w' := by
          intro v ec hv W s hW hown
          obtain ⟨sm, cm, rfl, hrm⟩ := own_spots hown
          rcases hrm with h0 | ⟨g, rfl, _, _, hrm⟩
          · subst h0
            rcases hv with ⟨_, rfl⟩ | ⟨h5, _⟩
            · exact prod_nil sm sa cm c W
            · omega
          · rcases hX with h0 | ⟨b, o, rfl, hr⟩
            · subst h0
              rcases hv with ⟨_, rfl⟩ | ⟨h5, _⟩
              · exact prod_nil _ sa cm c W
              · omega
            · exact prod_row g 0 b o j0 cm c t0 _ _ X Y _ F P ec W (by omega) hrm (hr.below hr.1 hW) h1 (fun k hk => (ht k hk).2.2) v hv
        rcases h3 with h3 | ⟨h3, h4⟩
        · have prod1 := prod _ 0 (Or.inl ⟨h3, rfl⟩)
          subst h3
          refine ⟨false, _, 0, 0, 0, 0, t0, t0, T, X, Y, _, _, F, (fun _ => false), A, prodN P t0, .nilIface, hq, Or.inr (Or.inr ⟨rfl, rfl, rfl⟩), fun _ => ⟨hT, rfl, by omega, Nat.le_refl _, j2, hsz, Or.inl ⟨rfl, rfl⟩⟩, (fun h => by cases h), fun i _ w h => rof_u (T i) w h, fun _ => ⟨rfl, b1⟩, (fun h => by cases h), fun _ => ⟨rfl, hX, Nat.le_refl _, fun i hi => (ht i hi).1, Or.inl ⟨rfl, rfl⟩⟩, (fun h => by cases h), fun _ => ⟨rfl, b4, ?_, _, _, rfl, rfl, rfl⟩, (fun h => by cases h), fun W hW => ?_, isErr_nil, rfl⟩
          · intro W s hW hown
            obtain ⟨sm, cm, rfl, hrm⟩ := own_spots hown
            rcases hrm with h0 | ⟨g, rfl, _, _, hrm⟩
            · subst h0; exact rpairs_nil sm sa cm c W
            · rcases hX with h0 | ⟨b, o, rfl, hr⟩
              · subst h0; exact rpairs_nil _ sa cm c W
              · exact rpairs_row g 0 b o t0 cm c _ _ X Y _ F P W (by omega) hrm (hr.below hr.1 hW) (fun k hk => (ht k hk).2.1)
          · exact sall_ok sa sb t0 t0 c d T x2 y2 f2 A (prodN P t0) .nilIface .nilIface W rfl (by omega) (Nat.le_refl _) (hT.imp id fun ⟨b, o, e, r⟩ => ⟨b, o, e, r.below r.1 hW⟩) j2 hsz9 b2 (fun V s hV ho => prod1 V s (bl_call hW hV hW.size) (own_base ho hW.size)) _ _ rfl rfl rfl rfl
        · obtain ⟨g1, g2, g3⟩ := h t0
          rcases g3 with ⟨g4, _, _⟩ | ⟨g4, g5, g6⟩
          · rw [g4] at h4; cases h4
          rw [g5, g6] at g2
          have prod1 := prod _ (ef t0) (Or.inr ⟨h3, g2, rfl⟩)
          exact ⟨false, false, 0, 0, 0, ef t0, j0, t0, T, X, Y, _, _, F, (fun _ => false), (0, 0), (0, 0), errOf (ef t0), hq, Or.inr (Or.inr ⟨rfl, rfl, rfl⟩), fun _ => ⟨hT, rfl, by omega, Nat.le_refl _, j2, hsz, Or.inl ⟨rfl, rfl⟩⟩, (fun h => by cases h), fun i _ w h => rof_u (T i) w h, fun _ => ⟨rfl, b1⟩, (fun h => by cases h), fun _ => ⟨rfl, hX, h1, fun i hi => (ht i hi).1, Or.inr ⟨h3, g1, g4⟩⟩, (fun h => by cases h), (fun h => by rw [g4] at h; cases h), fun _ => rfl, fun W hW => sall_key sa sb j0 j0 c d T x2 y2 f2 A (0, 0) .nilIface (errOf (ef t0)) W rfl (by omega) (Nat.le_refl _) (hT.imp id fun ⟨b, o, e, r⟩ => ⟨b, o, e, r.below r.1 hW⟩) j2 hsz9 b2 (fun V s hV ho => prod1 V s (bl_call hW hV hW.size) (own_base ho hW.size)) _ rfl rfl, isErr_err _, told_self _⟩
      · exact ⟨false, false, 0, 0, ea, ea, j0, 0, T, X, Y, _, _, F, (fun _ => false), (0, 0), (0, 0), errOf ea, hq, Or.inr (Or.inr ⟨rfl, rfl, rfl⟩), fun _ => ⟨hT, rfl, by omega, Nat.le_refl _, j2, hsz, Or.inl ⟨rfl, rfl⟩⟩, (fun h => by cases h), fun i _ w h => rof_u (T i) w h, fun _ => ⟨rfl, b1⟩, (fun h => by cases h), (fun h => by rw [b4] at h; cases h), fun _ => rfl, (fun h => by rw [b4] at h; cases h), fun _ => rfl, fun W hW => sall_sig sa sb j0 j0 c d T x2 y2 f2 (0, 0) (0, 0) (errOf ea) .nilIface W rfl (by omega) (Nat.le_refl _) (hT.imp id fun ⟨b, o, e, r⟩ => ⟨b, o, e, r.below r.1 hW⟩) j2 hsz9 b2 _ rfl, isErr_err _, told_self _⟩
    · exact ⟨false, false, 0, 4, 4, 4, j0, 0, T, X, Y, _, _, F, (fun _ => false), (0, 0), (0, 0), errOf 4, hq, Or.inr (Or.inr ⟨rfl, rfl, rfl⟩), fun _ => ⟨hT, rfl, by omega, j1, j2, hsz, Or.inr ⟨j3, j4, rfl⟩⟩, (fun h => by cases h), fun i _ w h => rof_u (T i) w h, (fun h => by cases h), fun _ => rfl, (fun h => by cases h), fun _ => rfl, (fun h => by cases h), fun _ => rfl, fun W hW => sall_long sa sb n n c d j0 T x2 y2 f2 W rfl (by omega) j1 (hT.imp id fun ⟨b, o, e, r⟩ => ⟨b, o, e, r.below r.1 hW⟩) j2 hsz9 j3 j4, isErr_err _, rfl⟩
  · exact ⟨false, false, 3, 3, 3, 3, 0, 0, fun _ => ⟨#[]⟩, fun _ => 0, fun _ => 0, fun i => _, fun i => _, fun _ => false, fun _ => false, (0, 0), (0, 0), errOf 3, by simp [a1, a2], Or.inr (Or.inl ⟨rfl, hnm, rfl⟩), (fun h => by cases h), fun _ => rfl, fun i _ w h => rof_u ⟨#[]⟩ w h, (fun h => by cases h), fun _ => rfl, (fun h => by cases h), fun _ => rfl, (fun h => by cases h), fun _ => rfl, fun W _ => sall_odd sa sb n m c d x2 y2 f2 W a1 a2 hnm, isErr_err _, rfl⟩
theorem walkShortTells (w : World) (x : Int) (t : ByteArray) (key sig : Int × Int × Bool) (sa : Option Addr) (n c : Nat) (sb : Option Addr) (m d : Nat)
    (_ : (Lit.int .i64 x).wf = true) (ht : t.size ≤ maxLen) (_ : t.size ≤ reachBytes) (_ : (Lit.int .i64 key.1).wf = true) (_ : (Lit.int .i64 key.2.1).wf = true) (_ : (Lit.int .i64 sig.1).wf = true) (_ : (Lit.int .i64 sig.2.1).wf = true)
    (hn : n ≤ maxLen) (hx : n = 0 ∨ ∃ (b o : Nat) (X Y : Nat → Int) (F : Nat → Bool), sa = some ⟨b, o, none⟩ ∧ RowO w b o n X Y F) (hm : m ≤ maxLen) (hz : m = 0 ∨ ∃ (b o : Nat) (T : Nat → ByteArray), sb = some ⟨b, o, none⟩ ∧ RowZ w b o m T ∧ ∀ i, i < m → (T i).size ≤ reachBytes) (hd : Door w) :
    Calls Tryd.prog 3 #[.int .i64 x, .string t, .agg #[.int .i64 key.1, .int .i64 key.2.1, .bool key.2.2], .agg #[.int .i64 sig.1, .int .i64 sig.2.1, .bool sig.2.2], .slice sa n c, .slice sb m d] w fun e w' => e = .returned (.bool true) ∧ Below w.heap.size w w' := by
  have ht' : t.size ≤ 9223372036854775807 := ht
  have hn' : n ≤ 9223372036854775807 := hn
  have hm' : m ≤ 9223372036854775807 := hm
  obtain ⟨x1, y1, f1⟩ := key
  obtain ⟨x2, y2, f2⟩ := sig
  simp only
  obtain ⟨jx, jy, jf, e3, v3, hL, hJ, hJ0, hJJ, I3, T3⟩ := sh_three sa n c w hn' hx
  obtain ⟨q1, q4, ec, ed, ee, ef, j0, t0, T, X, Y, MX, MY, F, MF, A4, B4, v4, hQ, hC, hZ, hZ0, hOF, hE, hE0, hW, hW0, hR, hR0, hA, I4, T4⟩ := sh_four sa sb n c m d x2 y2 f2 w hn' hm' hx hz
  by_cases h : t.size ≤ 60
  · obtain ⟨wx, wy, wf, e1, v1, hB, hB0, hS, I1, T1⟩ := sh_one x t h
    obtain ⟨ea, e2, q, A, B, v2, hT, hT2, hT0, hP, hP0, hV, I2, T2⟩ := sh_two x1 y1 x2 y2 f1 f2 t h
    exact shtells_short (hd := hd) (hn9 := hn') (hm9 := hm') (T1 := T1) (T3 := T3) (T4 := T4) (ht := h) (T2 := T2) (hHSX := rsecret x) (hHB0 := hB0) (hHB := hB) (hHS := hS) (hI1 := I1) (hHGB := rbase_f) (hHO := fun w => rof_u t w (by omega)) (hHT := hT) (hHT2 := hT2) (hHT0 := hT0) (hHP := hP) (hHP0 := hP0) (hHV := hV) (hI2 := I2)
      (hHL := hL) (hHJ := hJ) (hHJ0 := hJ0) (hHJJ := hJJ) (hI3 := I3) (hHQ := hQ) (hHC := hC) (hHZ := hZ) (hHZ0 := hZ0) (hHOF := hOF) (hHE := hE) (hHE0 := hE0) (hHW := hW) (hHW0 := hW0) (hHR := hR) (hHR0 := hR0) (hHA := hA) (hI4 := I4)
  · have h' : 60 < t.size := by omega
    obtain ⟨e1, v1, hB, hB0, hS, I1, T1⟩ := sh_one_long x t h' ht'
    exact shtells_long (hd := hd) (hn9 := hn') (hm9 := hm') (T1 := T1) (T3 := T3) (T4 := T4) (ht := h') (ht2 := ht') (ox := 0) (oy := 0) (of_ := false) (hHSX := rsecret x) (hHB0 := fun a => ⟨hB0 a, rfl, rfl, rfl⟩) (hHB := fun a => ⟨hB a, rfl, rfl, rfl⟩) (hHS := hS) (hI1 := I1) (hHGB := rbase_f) (hHV := fun w => sverify_full _ _ _ _ _ _ t w h' ht')
      (hHL := hL) (hHJ := hJ) (hHJ0 := hJ0) (hHJJ := hJJ) (hI3 := I3) (hHQ := hQ) (hHC := hC) (hHZ := hZ) (hHZ0 := hZ0) (hHOF := hOF) (hHE := hE) (hHE0 := hE0) (hHW := hW) (hHW0 := hW0) (hHR := hR) (hHR0 := hR0) (hHA := hA) (hI4 := I4)
end Go.Proofs.YtmmcgiielnfceaeDoor
