/- Sums of multiples of (3, 156) are multiples: so many and so many are so many together; and each spot of the curve is one. Nothing of the program stands in here. -/
import Derived.Test.YtmijjjdedadklagCurveNat
import Derived.Test.YtmijjjdedadklagCurveFin
namespace Go.Proofs.Ytmijjjdedadklag
set_option linter.unusedVariables false

/-! Numbers below 4051 as numbers of the field. -/
def ph (n : Nat) : Fin 4051 := Fin.ofNat 4051 n
theorem ph_val (n : Nat) : (ph n).val = n % 4051 := rfl
theorem ph_add (a b : Nat) : ph (a + b) = ph a + ph b := by
  apply Fin.ext; rw [Fin.val_add, ph_val, ph_val, ph_val]; omega
theorem ph_mul (a b : Nat) : ph (a * b) = ph a * ph b := by
  apply Fin.ext; rw [Fin.val_mul, ph_val, ph_val, ph_val, Nat.mul_mod]
theorem ph_mod (n : Nat) : ph (n % 4051) = ph n := by
  apply Fin.ext; rw [ph_val, ph_val]; omega
theorem ph_sub (a b : Nat) (h : b ≤ 4051) : ph (a + (4051 - b)) = ph a - ph b := by
  apply Fin.ext; rw [Fin.val_sub, ph_val, ph_val, ph_val]
  omega
theorem ph_inj {a b : Nat} (ha : a < 4051) (hb : b < 4051) (h : ph a = ph b) : a = b := by
  have := congrArg Fin.val h
  rw [ph_val, ph_val] at this; omega
theorem ph_zero {a : Nat} (ha : a < 4051) (h : a ≠ 0) : ph a ≠ 0 := by
  intro h'
  exact h (ph_inj ha (by omega) (h'.trans (rfl : (0 : Fin 4051) = ph 0)))
theorem inv_all : allLT (fun x => Nat.beq x 0 || Nat.beq (x * pw x 4049 % 4051) 1) 4051 = true := by decide +kernel
theorem ph_inv {a : Nat} (ha : a < 4051) (h : a ≠ 0) : ph a * ph (pw a 4049) = 1 := by
  have hh := allLT_spec inv_all a ha
  simp only [Bool.or_eq_true] at hh
  rcases hh with h0 | h1
  · exact absurd (Nat.eq_of_beq_eq_true h0) h
  · rw [← ph_mul, ← ph_mod, Nat.eq_of_beq_eq_true h1]; rfl
theorem g0 (u a b : Fin 4051) (h : a * u = 1) : u * (a * b) = b := by grobner
theorem fcancel {u a b c : Fin 4051} (h : a * u = 1) (e : a * b = a * c) : b = c := by
  rw [← g0 u a b h, e, g0 u a c h]

/-! The sum of three. -/
theorem three {x1 y1 x2 y2 la x4 y4 mu x5 y5 nu x6 y6 xi x7 y7 u1 u2 u3 u4 : Fin 4051} (c1 : y1 * y1 = x1 * x1 * x1 + x1) (c2 : y2 * y2 = x2 * x2 * x2 + x2)
    (hu1 : (x1 - 3) * u1 = 1) (hu2 : (x2 - 3) * u2 = 1) (hu3 : (x4 - x2) * u3 = 1) (hu4 : (x1 - x5) * u4 = 1)
    (hl : la * (x1 - 3) = y1 - 156) (h4 : x4 = la * la - x1 - 3) (h4y : y4 = la * (x1 - x4) - y1)
    (hm : mu * (x2 - 3) = y2 - 156) (h5 : x5 = mu * mu - x2 - 3) (h5y : y5 = mu * (x2 - x5) - y2)
    (hn : nu * (x4 - x2) = y4 - y2) (h6 : x6 = nu * nu - x4 - x2) (h6y : y6 = nu * (x4 - x6) - y4)
    (hx : xi * (x1 - x5) = y1 - y5) (h7 : x7 = xi * xi - x1 - x5) (h7y : y7 = xi * (x1 - x7) - y1) : x6 = x7 ∧ y6 = y7 := by
  have on1 := th_on la x1 y1 hl
  have on2 := th_on mu x2 y2 hm
  have r1 := th_r la x1 y1 u1 c1 hl hu1
  have r2 := th_r mu x2 y2 u2 c2 hm hu2
  have hs := th_1 _ _ _ _ _ _ _ _ _ _ (th_a _ _ _ _ _ _ _ _ _ _ on1 on2 r1 r2 h4 h4y h5 h5y) hn hx hu3 hu4
  have hg := th_2 _ _ _ _ _ _ _ (th_b _ _ _ _ _ _ _ _ on1 on2 r1 r2 h4 h4y) hn hu3
  have e : x6 = x7 := by rw [h6, h7]; exact th_x _ _ _ _ _ _ _ _ h4 h5 hs hg
  refine ⟨e, ?_⟩
  rw [h6y, h7y, ← e]
  exact th_y _ _ _ _ _ _ _ _ _ _ h4 h4y hs hg h6 (th_3 _ _ _ _ hs) on1 r1 (by rw [← on2]; exact hn)

/-! The same over numbers below 4051. -/
theorem ph_sN (a b : Nat) (h : b ≤ 4051) : ph (sN a b) = ph a - ph b := by unfold sN; rw [ph_mod, ph_sub a b h]
theorem sN_lt (a b : Nat) : sN a b < 4051 := by unfold sN; omega
theorem sN_ne {a b : Nat} (ha : a < 4051) (hb : b < 4051) (h : a ≠ b) : sN a b ≠ 0 := by unfold sN; omega
theorem line_x (s x1 y1 x2 : Nat) (h1 : x1 ≤ 4051) (h2 : x2 ≤ 4051) : ph (lineN s x1 y1 x2).1 = ph s * ph s - ph x1 - ph x2 := by
  show ph ((s * s + (4051 - x1) + (4051 - x2)) % 4051) = _
  rw [ph_mod, ph_sub _ _ h2, ph_sub _ _ h1, ph_mul]
theorem line_lt (s x1 y1 x2 : Nat) : (lineN s x1 y1 x2).1 < 4051 ∧ (lineN s x1 y1 x2).2.1 < 4051 := by
  unfold lineN; constructor <;> exact Nat.mod_lt _ (by omega)
theorem line_y (s x1 y1 x2 : Nat) (h1 : y1 ≤ 4051) : ph (lineN s x1 y1 x2).2.1 = ph s * (ph x1 - ph (lineN s x1 y1 x2).1) - ph y1 := by
  have hl := (line_lt s x1 y1 x2).1
  show ph ((s * sN x1 (lineN s x1 y1 x2).1 + (4051 - y1)) % 4051) = _
  rw [ph_mod, ph_sub _ _ h1, ph_mul, ph_sN _ _ (by omega)]
theorem g21 (a i b : Fin 4051) (h : b * i = 1) : a * i * b = a := by grobner
theorem csl (x1 y1 x2 y2 : Nat) (h1 : x1 < 4051) (h2 : x2 < 4051) (k2 : y2 < 4051) (h : x1 ≠ x2) : ph (cslN x1 y1 x2 y2) * (ph x1 - ph x2) = ph y1 - ph y2 := by
  unfold cslN
  rw [ph_mod, ph_mul, ph_sN _ _ (by omega), ← ph_sN x1 x2 (by omega)]
  exact g21 _ _ _ (ph_inv (sN_lt _ _) (sN_ne h1 h2 h))
theorem dif_inv {a b : Nat} (ha : a < 4051) (hb : b < 4051) (h : a ≠ b) : (ph a - ph b) * ph (pw (sN a b) 4049) = 1 := by
  rw [← ph_sN a b (by omega)]; exact ph_inv (sN_lt _ _) (sN_ne ha hb h)
theorem addN_line {a b : Sn} (ha : a.2.2 = false) (hb : b.2.2 = false) (h : a.1 ≠ b.1) : addN a b = lineN (cslN a.1 a.2.1 b.1 b.2.1) a.1 a.2.1 b.1 := by
  unfold addN
  have : Nat.beq a.1 b.1 = false := by
    cases e : Nat.beq a.1 b.1 with
    | false => rfl
    | true => exact absurd (Nat.eq_of_beq_eq_true e) h
  rw [ha, hb, this]; rfl
theorem okS_aff {a : Sn} (h : okS a = true) (hf : a.2.2 = false) : a.1 < 4051 ∧ a.2.1 < 4051 ∧ ph a.2.1 * ph a.2.1 = ph a.1 * ph a.1 * ph a.1 + ph a.1 := by
  unfold okS at h
  rw [hf] at h
  simp only [cond_false, Bool.and_eq_true] at h
  obtain ⟨⟨h1, h2⟩, h3⟩ := h
  rw [Nat.blt_eq] at h1 h2
  refine ⟨h1, h2, ?_⟩
  have := Nat.eq_of_beq_eq_true h3
  rw [← ph_mul, ← ph_mul, ← ph_mul, ← ph_add, ← ph_mod, this, ph_mod]
theorem ph3 : ph 3 = 3 := rfl
theorem ph156 : ph 156 = 156 := rfl
theorem assocG {P Q : Sn} (hP : okS P = true) (hQ : okS Q = true) (fP : P.2.2 = false) (fQ : Q.2.2 = false) (n1 : P.1 ≠ 3) (n2 : Q.1 ≠ 3)
    (n3 : (addN P (3, 156, false)).1 ≠ Q.1) (n4 : P.1 ≠ (addN Q (3, 156, false)).1) :
    addN (addN P (3, 156, false)) Q = addN P (addN Q (3, 156, false)) := by
  obtain ⟨a1, a2, a3⟩ := okS_aff hP fP
  obtain ⟨b1, b2, b3⟩ := okS_aff hQ fQ
  have eA := addN_line (a := P) (b := (3, 156, false)) fP rfl n1
  have eC := addN_line (a := Q) (b := (3, 156, false)) fQ rfl n2
  rw [eA] at n3 ⊢
  rw [eC] at n4 ⊢
  simp only at n3 n4 ⊢
  have lA := line_lt (cslN P.1 P.2.1 3 156) P.1 P.2.1 3
  have lC := line_lt (cslN Q.1 Q.2.1 3 156) Q.1 Q.2.1 3
  have A1 := line_x (cslN P.1 P.2.1 3 156) P.1 P.2.1 3 (by omega) (by omega)
  have A2 := line_y (cslN P.1 P.2.1 3 156) P.1 P.2.1 3 (by omega)
  have C1 := line_x (cslN Q.1 Q.2.1 3 156) Q.1 Q.2.1 3 (by omega) (by omega)
  have C2 := line_y (cslN Q.1 Q.2.1 3 156) Q.1 Q.2.1 3 (by omega)
  have fA : (lineN (cslN P.1 P.2.1 3 156) P.1 P.2.1 3).2.2 = false := rfl
  have fC : (lineN (cslN Q.1 Q.2.1 3 156) Q.1 Q.2.1 3).2.2 = false := rfl
  have S1 := csl P.1 P.2.1 3 156 a1 (by omega) (by omega) n1
  have S2 := csl Q.1 Q.2.1 3 156 b1 (by omega) (by omega) n2
  have U1 := dif_inv a1 (by omega : 3 < 4051) n1
  have U2 := dif_inv b1 (by omega : 3 < 4051) n2
  rw [ph3] at U1 U2 A1 C1 S1 S2
  rw [ph156] at S1 S2
  generalize lineN (cslN P.1 P.2.1 3 156) P.1 P.2.1 3 = A at *
  generalize lineN (cslN Q.1 Q.2.1 3 156) Q.1 Q.2.1 3 = C at *
  rw [addN_line fA fQ n3, addN_line fP fC n4]
  have S3 := csl A.1 A.2.1 Q.1 Q.2.1 lA.1 b1 b2 n3
  have S4 := csl P.1 P.2.1 C.1 C.2.1 a1 lC.1 lC.2 n4
  have lE := line_lt (cslN A.1 A.2.1 Q.1 Q.2.1) A.1 A.2.1 Q.1
  have lF := line_lt (cslN P.1 P.2.1 C.1 C.2.1) P.1 P.2.1 C.1
  have E1 := line_x (cslN A.1 A.2.1 Q.1 Q.2.1) A.1 A.2.1 Q.1 (by omega) (by omega)
  have E2 := line_y (cslN A.1 A.2.1 Q.1 Q.2.1) A.1 A.2.1 Q.1 (by omega)
  have F1 := line_x (cslN P.1 P.2.1 C.1 C.2.1) P.1 P.2.1 C.1 (by omega) (by omega)
  have F2 := line_y (cslN P.1 P.2.1 C.1 C.2.1) P.1 P.2.1 C.1 (by omega)
  have h := three a3 b3 U1 U2 (dif_inv lA.1 b1 n3) (dif_inv a1 lC.1 n4) S1 A1 A2 S2 C1 C2 S3 E1 E2 S4 F1 F2
  exact Prod.ext (ph_inj lE.1 lF.1 h.1) (Prod.ext (ph_inj lE.2 lF.2 h.2) rfl)

/-! So many and so many. -/
theorem tM_mod (k : Nat) : tM (k % 4052) = tM k := by unfold tM; rw [Nat.mod_mod]
theorem tM_lt {k : Nat} (h : k < 4052) : tM k = tN k := by unfold tM; rw [Nat.mod_eq_of_lt h]
theorem tM_congr {j k : Nat} (h : j % 4052 = k % 4052) : tM j = tM k := by unfold tM; rw [h]
theorem tN_one : tN 1 = (3, 156, false) := by decide +kernel
theorem tN_zero : tN 0 = farN := rfl
theorem tN_ok {k : Nat} (h : k < 4052) : okS (tN k) = true := allLT_spec ok_all k h
theorem tN_aff {k : Nat} (h : k ≠ 0) : (tN k).2.2 = false := by
  unfold tN
  have : Nat.beq k 0 = false := by cases k with | zero => omega | succ n => rfl
  rw [this]
  cases Nat.ble k 2026 <;> rfl
/-- Up to turning. -/
def half (k : Nat) : Nat := if k ≤ 2026 then k else 4052 - k
theorem tN_place {k : Nat} (h : k ≠ 0) : (tN k).1 = at12 tabX (half k) := by
  unfold tN half
  have : Nat.beq k 0 = false := by cases k with | zero => omega | succ n => rfl
  rw [this]
  by_cases h2 : k ≤ 2026
  · rw [Nat.ble_eq_true_of_le h2, if_pos h2]; rfl
  · have : Nat.ble k 2026 = false := by
      cases e : Nat.ble k 2026 with
      | false => rfl
      | true => exact absurd (Nat.le_of_ble_eq_true e) h2
    rw [this, if_neg h2]; rfl
theorem place_inj {j k : Nat} (hj : j ≠ 0) (hk : k ≠ 0) (j1 : j < 4052) (k1 : k < 4052) (h : (tN j).1 = (tN k).1) : j = k ∨ j + k = 4052 := by
  rw [tN_place hj, tN_place hk] at h
  have ha : half j ≠ 0 ∧ half j ≤ 2026 := by unfold half; split <;> omega
  have hb : half k ≠ 0 ∧ half k ≤ 2026 := by unfold half; split <;> omega
  have la := allLT_spec log_all (half j) (by omega)
  have lb := allLT_spec log_all (half k) (by omega)
  simp only [Bool.or_eq_true] at la lb
  have ea : at12 tabL (at12 tabX (half j)) = half j := by
    rcases la with h0 | h1
    · exact absurd (Nat.eq_of_beq_eq_true h0) ha.1
    · exact Nat.eq_of_beq_eq_true h1
  have eb : at12 tabL (at12 tabX (half k)) = half k := by
    rcases lb with h0 | h1
    · exact absurd (Nat.eq_of_beq_eq_true h0) hb.1
    · exact Nat.eq_of_beq_eq_true h1
  rw [h, eb] at ea
  unfold half at ea
  split at ea <;> split at ea <;> omega
theorem addN_far_l (b : Sn) : addN farN b = b := rfl
theorem addN_far_r {k : Nat} : addN (tN k) farN = tN k := by
  by_cases h : k = 0
  · subst h; rfl
  · unfold addN; rw [tN_aff h]; rfl
theorem two_of {p q : Nat → Bool} {n : Nat} (h : allLT (fun k => p k && q k) n = true) {k : Nat} (hk : k < n) : p k = true ∧ q k = true := by
  have := allLT_spec h k hk
  simpa using this
theorem add1 {k : Nat} (h : k < 4052) : addN (tN k) (tN 1) = tM (k + 1) := eqS_eq (two_of add1_all h).1
theorem add1' {k : Nat} (h : k < 4052) : addN (tN 1) (tN k) = tM (k + 1) := eqS_eq (two_of add1_all h).2
theorem add2 {k : Nat} (h : k < 4052) : addN (tN k) (tN 2) = tM (k + 2) := eqS_eq (two_of add2_all h).1
theorem add2' {k : Nat} (h : k < 4052) : addN (tN 2) (tN k) = tM (k + 2) := eqS_eq (two_of add2_all h).2
theorem sub1 {k : Nat} (h : k < 4052) : addN (tN k) (tN 4051) = tM (k + 4051) := eqS_eq (two_of sub1_all h).1
theorem sub1' {k : Nat} (h : k < 4052) : addN (tN 4051) (tN k) = tM (k + 4051) := eqS_eq (two_of sub1_all h).2
theorem dbl {k : Nat} (h : k < 4052) : addN (tN k) (tN k) = tM (k + k) := eqS_eq (allLT_spec dbl_all k h)
theorem skip {k : Nat} (h : k < 4052) : addN (tN k) (tM (k + 2)) = tM (k + k + 2) := eqS_eq (two_of skip_all h).1
theorem skip' {k : Nat} (h : k < 4052) : addN (tM (k + 2)) (tN k) = tM (k + k + 2) := eqS_eq (two_of skip_all h).2
theorem neg_tN {k : Nat} (h : k < 4052) : negN (tN k) = tM (4052 - k) := eqS_eq (two_of neg_all h).1
theorem add_neg {k : Nat} (h : k < 4052) : addN (tN k) (tM (4052 - k)) = farN := eqS_eq (two_of neg_all h).2
theorem tM_N (k : Nat) : tM k = tN (k % 4052) := rfl

theorem step {j k : Nat} (hj : j < 4052) (hk : k < 4052) : addN (tM (j + 1)) (tN k) = addN (tN j) (tM (k + 1)) := by
  by_cases j0 : j = 0
  · subst j0; rw [tM_lt (by omega : 0 + 1 < 4052), add1' hk]; rfl
  by_cases k0 : k = 0
  · subst k0; rw [tM_lt (by omega : 0 + 1 < 4052), add1 hj, tN_zero, tM_N, addN_far_r]
  by_cases j1 : j = 4051
  · subst j1
    rw [show tM (4051 + 1) = farN from rfl, addN_far_l, tM_N, sub1' (Nat.mod_lt _ (by omega)), ← tM_lt hk]
    exact tM_congr (by omega)
  by_cases k1 : k = 4051
  · subst k1
    rw [show tM (4051 + 1) = farN from rfl, addN_far_r, tM_N, sub1 (Nat.mod_lt _ (by omega)), ← tM_lt hj]
    exact tM_congr (by omega)
  by_cases j2 : j = 1
  · subst j2
    rw [tM_lt (by omega : 1 + 1 < 4052), add2' hk, tM_N (k + 1), add1' (Nat.mod_lt _ (by omega))]
    exact tM_congr (by omega)
  by_cases k2 : k = 1
  · subst k2
    rw [tM_lt (by omega : 1 + 1 < 4052), add2 hj, tM_N (j + 1), add1 (Nat.mod_lt _ (by omega))]
    exact tM_congr (by omega)
  by_cases e1 : k = j + 1
  · subst e1
    rw [tM_lt hk, dbl hk, show j + 1 + 1 = j + 2 by omega, skip hj]
    exact tM_congr (by omega)
  by_cases e2 : j = k + 1
  · subst e2
    rw [tM_lt hj, dbl hj, show k + 1 + 1 = k + 2 by omega, skip' hk]
    exact tM_congr (by omega)
  by_cases e3 : j + 1 + k = 4052
  · have ek : k = 4052 - (j + 1) := by omega
    have hj1 : j + 1 < 4052 := by omega
    have h1 := add_neg hj1
    have h2 := add_neg hj
    rw [tM_lt hj1, ← tM_lt hk, ek, h1, show 4052 - (j + 1) + 1 = 4052 - j by omega, h2]
  have hj1 : j + 1 < 4052 := by omega
  have hk1 : k + 1 < 4052 := by omega
  have pj : addN (tN j) (3, 156, false) = tN (j + 1) := by rw [← tN_one, add1 hj, tM_lt hj1]
  have pk : addN (tN k) (3, 156, false) = tN (k + 1) := by rw [← tN_one, add1 hk, tM_lt hk1]
  have p1 : (tN 1).1 = 3 := by rw [tN_one]
  have h := assocG (tN_ok hj) (tN_ok hk) (tN_aff j0) (tN_aff k0)
    (fun h => by rcases place_inj j0 (by omega) hj (by omega) (h.trans p1.symm) with h | h <;> omega)
    (fun h => by rcases place_inj k0 (by omega) hk (by omega) (h.trans p1.symm) with h | h <;> omega)
    (by rw [pj]; intro h; rcases place_inj (by omega) k0 hj1 hk h with h | h <;> omega)
    (by rw [pk]; intro h; rcases place_inj j0 (by omega) hj hk1 h with h | h <;> omega)
  rw [pj, pk] at h
  rw [tM_lt hj1, tM_lt hk1]; exact h

/-- So many and so many are so many together. -/
theorem tM_add (j k : Nat) : addN (tM j) (tM k) = tM (j + k) := by
  induction j generalizing k with
  | zero => rw [Nat.zero_add]; rfl
  | succ j ih =>
    have h := step (j := j % 4052) (k := k % 4052) (Nat.mod_lt _ (by omega)) (Nat.mod_lt _ (by omega))
    rw [show tM (j % 4052 + 1) = tM (j + 1) from tM_congr (by omega), show tM (k % 4052 + 1) = tM (k + 1) from tM_congr (by omega)] at h
    have h2 := ih (k + 1)
    rw [tM_N j, ← h, ← tM_N k] at h2
    rw [h2]
    exact tM_congr (by omega)

/-! Each spot is one. -/
theorem sq_all : allLT (fun y => okN (y * y % 4051)) 4051 = true := by decide +kernel
theorem g22 (a b : Fin 4051) (h : a * a = b * b) : (a - b) * (a + b) = 0 := by grobner
theorem g23 (a b u : Fin 4051) (h : a * u = 1) (k : a * b = 0) : b = 0 := by grobner
theorem tN_high {k : Nat} (h0 : k ≠ 0) (h1 : k ≤ 2026) : (tN k).2.1 = at12 tabY k ∧ (tN k).1 = at12 tabX k := by
  unfold tN
  have : Nat.beq k 0 = false := by cases k with | zero => omega | succ n => rfl
  rw [this, Nat.ble_eq_true_of_le h1]; exact ⟨rfl, rfl⟩
theorem is_tN {s : Sn} (h : okS s = true) : ∃ k, k < 4052 ∧ tN k = s := by
  obtain ⟨x, y, f⟩ := s
  cases f with
  | true =>
    have h' : (Nat.beq x 0 && Nat.beq y 0) = true := h
    rw [Bool.and_eq_true] at h'
    have e1 : x = 0 := Nat.eq_of_beq_eq_true h'.1
    have e2 : y = 0 := Nat.eq_of_beq_eq_true h'.2
    subst e1 e2
    exact ⟨0, by omega, rfl⟩
  | false =>
    obtain ⟨hx, hy, hc⟩ := okS_aff h rfl
    simp only at hx hy hc
    have hr : (x * x * x + x) % 4051 = y * y % 4051 := by
      have : ph (x * x * x + x) = ph (y * y) := by rw [ph_add, ph_mul, ph_mul, ph_mul, hc]
      have := congrArg Fin.val this
      simpa [ph_val] using this
    have hs := allLT_spec sq_all y hy
    have hp := allLT_spec place_all x hx
    rw [hr, hs] at hp
    simp only [Bool.not_true, Bool.false_or, Bool.and_eq_true] at hp
    obtain ⟨⟨l1, l2⟩, l3⟩ := hp
    have m1 := Nat.le_of_ble_eq_true l1
    have m2 := Nat.le_of_ble_eq_true l2
    have m3 := Nat.eq_of_beq_eq_true l3
    generalize at12 tabL x = k at *
    obtain ⟨t1, t2⟩ := tN_high (by omega : k ≠ 0) m2
    have ho := okS_aff (tN_ok (by omega : k < 4052)) (tN_aff (by omega))
    rw [t1, t2, m3] at ho
    obtain ⟨_, q2, q3⟩ := ho
    have hz := g22 _ _ (hc.trans q3.symm)
    by_cases e : y = at12 tabY k
    · refine ⟨k, by omega, ?_⟩
      exact Prod.ext (by rw [t2, m3]) (Prod.ext (by rw [t1, e]) (tN_aff (by omega)))
    · have hi := dif_inv hy q2 e
      have h0 := g23 _ _ _ hi hz
      rw [← ph_add] at h0
      have hv := congrArg Fin.val h0
      rw [ph_val] at hv
      have hv' : (y + at12 tabY k) % 4051 = 0 := hv
      have hk2 : k ≠ 2026 := by
        intro hk
        have hh := allLT_spec high_all k (by omega)
        simp only [Bool.or_eq_true] at hh
        rcases hh with h1 | h1
        · exact absurd (Nat.eq_of_beq_eq_true h1) (by omega)
        · rw [hk] at h1
          have h2 : Nat.beq (at12 tabY 2026) 0 = true := by simpa using h1
          have h3 := Nat.eq_of_beq_eq_true h2
          rw [hk] at hv' e
          omega
      refine ⟨4052 - k, by omega, ?_⟩
      have hn := neg_tN (by omega : k < 4052)
      rw [tM_lt (by omega : 4052 - k < 4052)] at hn
      rw [← hn]
      unfold negN
      refine Prod.ext (by rw [t2]; exact m3) (Prod.ext ?_ (tN_aff (by omega)))
      show (4051 - (tN k).2.1) % 4051 = y
      rw [t1]; omega
theorem tN_inj {j k : Nat} (hj : j < 4052) (hk : k < 4052) (h : tN j = tN k) : j = k := by
  by_cases j0 : j = 0
  · by_cases k0 : k = 0
    · omega
    · have := tN_aff k0; rw [← h, j0] at this; exact absurd this (by decide)
  · by_cases k0 : k = 0
    · have := tN_aff j0; rw [h, k0] at this; exact absurd this (by decide)
    · rcases place_inj j0 k0 hj hk (congrArg (·.1) h) with h1 | h1
      · exact h1
      · -- turned: the height is its own negative: only at 2026
        have hd := dbl hj
        have hn := add_neg hj
        rw [show 4052 - j = k by omega, tM_lt hk, ← h, hd] at hn
        rw [tM_N] at hn
        by_cases e : (j + j) % 4052 = 0
        · omega
        · have := tN_aff e; rw [hn] at this; exact absurd this (by decide)
end Go.Proofs.Ytmijjjdedadklag
