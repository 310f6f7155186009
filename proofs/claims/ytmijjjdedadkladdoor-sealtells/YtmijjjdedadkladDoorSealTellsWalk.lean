/- Proved: stonelaw2.SealTells answers true for every two numbers, every text, every two spots and every seal, right ones and wrong ones: the key, the challenge, the seal and whether a seal is right are what the plain reckoning says, and the faults are told. No condition stands behind it but the listed variable. -/
import Derived.Test.YtmijjjdedadkladDoorSealTellsL
import Derived.Test.YtmijjjdedadkladDoorSealTellsS
namespace Go.Proofs.YtmijjjdedadkladDoor
open Go.RowKit Go.Sort
set_option linter.unusedVariables false
set_option linter.unusedSimpArgs false
theorem sec_no {x : Int} (h : secB x = false) : x < 1 ∨ 1013 ≤ x := by
  have := of_decide_eq_false h
  omega
theorem sec_yes {x : Int} (h : secB x = true) : ∃ k : Nat, x = (k : Int) ∧ 1 ≤ k ∧ k < 1013 := by
  have := of_decide_eq_true h
  exact ⟨x.toNat, by omega, by omega, by omega⟩
theorem st_one (x : Int) : ∃ (wx wy : Int) (wf : Bool) (e1 : Int) (v1 : Value), (secB x = true → e1 = 0 ∧ (∀ w, Calls Tryd.prog 15 #[.int .i64 x] w fun ex w' => ex = .returned (.agg #[.int .i64 wx, .int .i64 wy, .bool wf]) ∧ Below w.heap.size w w')) ∧ (secB x = false → e1 = 1 ∧ wx = 0 ∧ wy = 0 ∧ wf = false) ∧
    (∀ w, Calls Tryd.prog 16 #[.int .i64 x] w fun ex w' => ex = .returned (.tuple #[.agg #[.int .i64 wx, .int .i64 wy, .bool wf], v1]) ∧ Below w.heap.size w w') ∧ IsErr v1 ∧ (toldI v1 == e1) = true := by
  cases h : secB x with
  | false => exact ⟨0, 0, false, 1, errOf 1, fun kk => (by cases kk), fun _ => ⟨rfl, rfl, rfl, rfl⟩, fun w => key_no x w (sec_no h), isErr_err _, rfl⟩
  | true =>
    obtain ⟨k, rfl, k1, k2⟩ := sec_yes h
    exact ⟨_, _, _, 0, .nilIface, fun _ => ⟨rfl, fun w => rby_eq (r := tM (4 * k)) (by rw [em_nat k2]) w⟩, fun kk => (by cases kk), fun w => key_yes k w k1 k2, isErr_nil, rfl⟩
theorem st_two (x1 y1 x2 y2 : Int) (f1 f2 : Bool) (t : ByteArray) (ht : t.size ≤ 60) : ∃ (er e2 n : Int) (v2 : Value), (∀ w, Calls Tryd.prog 17 #[.agg #[.int .i64 x1, .int .i64 y1, .bool f1]] w fun ex w' => ex = .returned (.int .i64 er) ∧ Below w.heap.size w w') ∧ ((er == 0) = true → ∀ w, Calls Tryd.prog 17 #[.agg #[.int .i64 x2, .int .i64 y2, .bool f2]] w fun ex w' => ex = .returned (.int .i64 e2) ∧ Below w.heap.size w w') ∧ ((er == 0) = false → e2 = er) ∧
    ((e2 == 0) = true → ∀ w, Calls Tryd.prog 18 #[.agg #[.int .i64 x1, .int .i64 y1, .bool f1], .agg #[.int .i64 x2, .int .i64 y2, .bool f2], .string t] w fun ex w' => ex = .returned (.int .i64 n) ∧ Below w.heap.size w w') ∧ ((e2 == 0) = false → n = 0) ∧ (∀ w, Calls Tryd.prog 19 #[.agg #[.int .i64 x1, .int .i64 y1, .bool f1], .agg #[.int .i64 x2, .int .i64 y2, .bool f2], .string t] w fun ex w' => ex = .returned (.tuple #[.int .i64 n, v2]) ∧ Below w.heap.size w w') ∧ IsErr v2 ∧ (toldI v2 == e2) = true := by
  cases h1 : ckI x1 y1 f1 == 0 with
  | false => exact ⟨_, ckI x1 y1 f1, 0, errOf (ckI x1 y1 f1), fun w => rspot_any x1 y1 f1 w, fun kk => (by rw [h1] at kk; cases kk), fun _ => rfl, fun kk => (by rw [h1] at kk; cases kk), fun _ => rfl, fun w => ask_r _ _ _ _ _ _ t w ht h1, isErr_err _, by rw [toldI_err]; exact beq_self_eq_true _⟩
  | true =>
    obtain ⟨i, _, rfl, rfl, rfl⟩ := ckI_tN (by simpa using h1)
    cases h2 : ckI x2 y2 f2 == 0 with
    | false => exact ⟨_, ckI x2 y2 f2, 0, errOf (ckI x2 y2 f2), fun w => rspot_any _ _ _ w, fun _ w => rspot_any x2 y2 f2 w, fun kk => (by rw [h1] at kk; cases kk), fun kk => (by rw [h2] at kk; cases kk), fun _ => rfl, fun w => ask_k i _ _ _ t w ht h2, isErr_err _, by rw [toldI_err]; exact beq_self_eq_true _⟩
    | true =>
      obtain ⟨j, _, rfl, rfl, rfl⟩ := ckI_tN (by simpa using h2)
      exact ⟨0, 0, (askN i j t : Int), .nilIface, fun w => rspot_yes (ck_tM i) w, fun _ w => rspot_yes (ck_tM j) w, fun kk => (by cases kk), fun _ w => rask_tM i j t w ht, fun kk => (by cases kk), fun w => ask_tM i j t w ht, isErr_nil, rfl⟩
theorem st_three (x k : Int) (t : ByteArray) (ht : t.size ≤ 60) : ∃ (zx zy : Int) (zf : Bool) (zs e3 : Int) (v3 : Value), ((!secB x || !secB k) = true → e3 = 1 ∧ zx = 0 ∧ zy = 0 ∧ zf = false ∧ zs = 0) ∧
    ((!secB x || !secB k) = false → e3 = 0 ∧ (∀ w, Calls Tryd.prog 20 #[.int .i64 x, .int .i64 k, .string t] w fun ex w' => ex = .returned (.agg #[.int .i64 zx, .int .i64 zy, .bool zf, .int .i64 zs]) ∧ Below w.heap.size w w')) ∧ (∀ w, Calls Tryd.prog 21 #[.int .i64 x, .int .i64 k, .string t] w fun ex w' => ex = .returned (.tuple #[.agg #[.int .i64 zx, .int .i64 zy, .bool zf, .int .i64 zs], v3]) ∧ Below w.heap.size w w') ∧ IsErr v3 ∧ (toldI v3 == e3) = true := by
  cases h : secB x with
  | false => exact ⟨0, 0, false, 0, 1, errOf 1, fun _ => ⟨rfl, rfl, rfl, rfl, rfl⟩, fun kk => (by cases kk), fun w => sign_x x k t w (sec_no h), isErr_err _, rfl⟩
  | true =>
    obtain ⟨x, rfl, x1, x2⟩ := sec_yes h
    cases h2 : secB k with
    | false => exact ⟨0, 0, false, 0, 1, errOf 1, fun _ => ⟨rfl, rfl, rfl, rfl, rfl⟩, fun kk => (by cases kk), fun w => sign_k x k t w x1 x2 (sec_no h2), isErr_err _, rfl⟩
    | true =>
      obtain ⟨k, rfl, k1, k2⟩ := sec_yes h2
      exact ⟨_, _, _, _, 0, .nilIface, fun kk => (by cases kk), fun _ => ⟨rfl, fun w => rsign_ok x k t w x2 k2 ht⟩, fun w => sign_ok x k t w x1 x2 k1 k2 ht, isErr_nil, rfl⟩
theorem st_three_long (x k : Int) (t : ByteArray) (ht : 60 < t.size) (hm : t.size ≤ 9223372036854775807) : ∃ (e3 : Int) (v3 : Value), ((!secB x || !secB k) = true → e3 = 1) ∧
    ((!secB x || !secB k) = false → e3 = 4) ∧ (∀ w, Calls Tryd.prog 21 #[.int .i64 x, .int .i64 k, .string t] w fun ex w' => ex = .returned (.tuple #[.agg #[.int .i64 0, .int .i64 0, .bool false, .int .i64 0], v3]) ∧ Below w.heap.size w w') ∧ IsErr v3 ∧ (toldI v3 == e3) = true := by
  cases h : secB x with
  | false => exact ⟨1, errOf 1, fun _ => rfl, fun kk => (by cases kk), fun w => sign_x x k t w (sec_no h), isErr_err _, rfl⟩
  | true =>
    obtain ⟨x, rfl, x1, x2⟩ := sec_yes h
    cases h2 : secB k with
    | false => exact ⟨1, errOf 1, fun _ => rfl, fun kk => (by cases kk), fun w => sign_k x k t w x1 x2 (sec_no h2), isErr_err _, rfl⟩
    | true =>
      obtain ⟨k, rfl, k1, k2⟩ := sec_yes h2
      exact ⟨4, errOf 4, fun kk => (by cases kk), fun _ => rfl, fun w => sign_full x k t w x1 x2 k1 k2 ht hm, isErr_err _, rfl⟩
theorem st_four (x2 y2 x3 y3 s : Int) (f2 f3 : Bool) (t : ByteArray) (ht : t.size ≤ 60) : ∃ (e4 : Int) (q : Bool) (v4 : Value), (∀ w, Calls Tryd.prog 22 #[.agg #[.int .i64 x2, .int .i64 y2, .bool f2], .string t, .agg #[.int .i64 x3, .int .i64 y3, .bool f3, .int .i64 s]] w fun ex w' => ex = .returned (.int .i64 e4) ∧ Below w.heap.size w w') ∧ ((e4 == 0) = true → ∀ w, Calls Tryd.prog 23 #[.agg #[.int .i64 x2, .int .i64 y2, .bool f2], .string t, .agg #[.int .i64 x3, .int .i64 y3, .bool f3, .int .i64 s], .agg #[.int .i64 0, .int .i64 0, .bool true]] w fun ex w' => ex = .returned (.bool q) ∧ Below w.heap.size w w') ∧ ((e4 == 0) = false → q = false) ∧
    (∀ w, Calls Tryd.prog 24 #[.agg #[.int .i64 x2, .int .i64 y2, .bool f2], .string t, .agg #[.int .i64 x3, .int .i64 y3, .bool f3, .int .i64 s]] w fun ex w' => ex = .returned (.tuple #[.bool q, v4]) ∧ Below w.heap.size w w') ∧ IsErr v4 ∧ (toldI v4 == e4) = true := by
  cases h1 : ckI x2 y2 f2 == 0 with
  | false => exact ⟨ckI x2 y2 f2, false, errOf (ckI x2 y2 f2), fun w => rseal_key _ _ _ _ _ _ _ t w ht h1, fun kk => (by rw [h1] at kk; cases kk), fun _ => rfl, fun w => verify_err (fun w => scheck_key _ _ _ _ _ _ _ t w ht h1) w, isErr_err _, by rw [toldI_err]; exact beq_self_eq_true _⟩
  | true =>
    obtain ⟨i, _, rfl, rfl, rfl⟩ := ckI_tN (by simpa using h1)
    cases h2 : ckI x3 y3 f3 == 0 with
    | false => exact ⟨ckI x3 y3 f3, false, errOf (ckI x3 y3 f3), fun w => rseal_r _ _ _ _ _ _ _ t w ht (ck_tM i) h2, fun kk => (by rw [h2] at kk; cases kk), fun _ => rfl, fun w => verify_err (fun w => scheck_r _ _ _ _ _ _ _ t w ht (ck_tM i) h2) w, isErr_err _, by rw [toldI_err]; exact beq_self_eq_true _⟩
    | true =>
      obtain ⟨j, _, rfl, rfl, rfl⟩ := ckI_tN (by simpa using h2)
      cases h3 : resB s with
      | false =>
        have := of_decide_eq_false h3
        exact ⟨1, false, errOf 1, fun w => rseal_s _ _ _ _ _ _ _ t w ht (ck_tM i) (ck_tM j) h3, fun kk => (by cases kk), fun _ => rfl, fun w => verify_err (fun w => scheck_s _ _ _ _ _ _ _ t w ht (ck_tM i) (ck_tM j) (by omega)) w, isErr_err _, rfl⟩
      | true =>
        have := of_decide_eq_true h3
        exact ⟨0, _, .nilIface, fun w => rseal_ok _ _ _ _ _ _ _ t w ht (ck_tM i) (ck_tM j) h3, fun _ w => rright_same ht rfl w, fun kk => (by cases kk), fun w => verify_same ht this.1 this.2 rfl w, isErr_nil, rfl⟩
theorem walkSealTells (w : World) (x k : Int) (t : ByteArray) (r key : Int × Int × Bool) (s : Int × Int × Bool × Int) (_ : (Lit.int .i64 x).wf = true) (_ : (Lit.int .i64 k).wf = true) (ht : t.size ≤ maxLen) (_ : (Lit.int .i64 r.1).wf = true) (_ : (Lit.int .i64 r.2.1).wf = true) (_ : (Lit.int .i64 key.1).wf = true) (_ : (Lit.int .i64 key.2.1).wf = true) (_ : (Lit.int .i64 s.1).wf = true) (_ : (Lit.int .i64 s.2.1).wf = true) (_ : (Lit.int .i64 s.2.2.2).wf = true) (hd : Door w) :
    Calls Tryd.prog 5 #[.int .i64 x, .int .i64 k, .string t, .agg #[.int .i64 r.1, .int .i64 r.2.1, .bool r.2.2], .agg #[.int .i64 key.1, .int .i64 key.2.1, .bool key.2.2], .agg #[.int .i64 s.1, .int .i64 s.2.1, .bool s.2.2.1, .int .i64 s.2.2.2]] w fun e w' => e = .returned (.bool true) ∧ Below w.heap.size w w' := by
  have ht' : t.size ≤ 9223372036854775807 := ht
  obtain ⟨x1, y1, f1⟩ := r
  obtain ⟨x2, y2, f2⟩ := key
  obtain ⟨x3, y3, f3, s⟩ := s
  simp only
  obtain ⟨wx, wy, wf, e1, v1, hB, hB0, hK, I1, T1⟩ := st_one x
  by_cases h : t.size ≤ 60
  · obtain ⟨er, e2, n, v2, hR, hR2, hR0, hN, hN0, hA, I2, T2⟩ := st_two x1 y1 x2 y2 f1 f2 t h
    obtain ⟨zx, zy, zf, zs, e3, v3, hG0, hG, hI, I3, T3⟩ := st_three x k t h
    obtain ⟨e4, q, v4, hF, hQ, hQ0, hV, I4, T4⟩ := st_four x2 y2 x3 y3 s f2 f3 t h
    exact stells_short x k x1 y1 x2 y2 x3 y3 s wx wy zx zy zs e1 e3 f1 f2 f3 wf zf (secB x) (secB k) _ v1 v3 t w hd er e2 n e4 q v2 v4 T1 T3 h T2 T4
      (rsecret x) (rsecret k) hB hB0 hK I1 rfl hG0 hI I3 hR hR2 hR0 hN hN0 hA I2 hG hF hQ hQ0 hV I4
  · have h' : 60 < t.size := by omega
    obtain ⟨e3, v3, hG0, hG, hI, I3, T3⟩ := st_three_long x k t h' ht'
    exact stells_long x k x1 y1 x2 y2 x3 y3 s wx wy 0 0 0 e1 e3 f1 f2 f3 wf false (secB x) (secB k) _ v1 v3 t w hd T1 T3 h' ht'
      (rsecret x) (rsecret k) hB hB0 hK I1 rfl (fun c => ⟨hG0 c, rfl, rfl, rfl, rfl⟩) hI I3 (fun w => ask_full _ _ _ _ _ _ t w h' ht') (fun c => ⟨hG c, rfl, rfl, rfl, rfl⟩) (fun w => rseal_full _ _ _ _ _ _ _ t w h' ht') (fun w => verify_err (fun w => scheck_full _ _ _ _ _ _ _ t w h' ht') w)
end Go.Proofs.YtmijjjdedadkladDoor
