/- Lines through multiples of (3, 156), both ways round, in the cases where some stand upright; and all cases together. Nothing of the program stands in here. -/
import Derived.Test.YtmijjjdedadklagPairCoc
namespace Go.Proofs.Ytmijjjdedadklag
set_option linter.unusedVariables false
set_option linter.unusedSimpArgs false

theorem pc_1 (a y : Fin 4051) : -a * y + y * a = 0 := by grobner
theorem pc_2 (a y : Fin 4051) : a * y + y * -a = 0 := by grobner
theorem pc_3 (a y : Fin 4051) : a * -a - y * y = -(a * a + y * y) := by grobner
theorem pc_4 (r : Fin 4051) : r * 1 = 1 * r := by grobner
theorem pc_5 (r : Fin 4051) : r * 0 = 1 * 0 := by grobner
theorem pc_6 (r : Fin 4051) (h : -r = 0) : r = 0 := by grobner
theorem ph1 : ph 1 = 1 := rfl
/-- A number and its turned one: what is below 4051. -/
theorem mirror {l m y : Nat} (hl : l < 4051) (hm : m < 4051) (hy : y < 4051) (h0 : y ≠ 0) (h : ph m = - ph l) : sim (nm (1, 0) (1, 0)) (nm (l, y) (m, y)) ∧ sim (nm (l, y) (m, y)) (nm (1, 0) (1, 0)) := by
  have e1 : ph (nm (l, y) (m, y)).1 = -(ph l * ph l + ph y * ph y) := by
    rw [nm_re _ _ hy hy]; show ph l * ph m - ph y * ph y = _; rw [h, pc_3]
  have e2 : ph (nm (l, y) (m, y)).2 = 0 := by
    rw [nm_im]; show ph l * ph y + ph y * ph m = _; rw [h, pc_2]
  have n0 : (nm (l, y) (m, y)).1 ≠ 0 := by
    intro e
    rw [e] at e1
    have e3 := pc_6 _ e1.symm
    have e4 : ph (l * l + y * y) = 0 := by rw [ph_add, ph_mul, ph_mul]; exact e3
    have e5 := congrArg Fin.val e4
    rw [ph_val] at e5
    have e6 : (l * l + y * y) % 4051 = 0 := e5
    have e7 : fm ((l : Int) * l + (y : Int) * y) = 0 := by
      unfold fm
      have : ((l * l + y * y : Nat) : Int) % 4051 = 0 := by omega
      rwa [Int.natCast_add, Int.natCast_mul, Int.natCast_mul] at this
    have := (norm_zero e7).2
    unfold fm at this
    omega
  have z := nm_lt (l, y) (m, y)
  have one : nm (1, 0) (1, 0) = (1, 0) := rfl
  rw [one]
  generalize nm (l, y) (m, y) = w at *
  have k : nm (w.1, 0) (1, 0) = nm (1, 0) w := by
    refine nm_c (by show 0 < 4051; omega) z.2 ?_ ?_
    · show ph w.1 * ph 1 = ph 1 * ph w.1; rw [ph1, pc_4]
    · show ph w.1 * ph 0 = ph 1 * ph w.2; rw [e2, ph1, ph0, pc_5]
  exact ⟨⟨w.1, 1, by omega, z.1, by omega, by omega, k⟩, ⟨1, w.1, by omega, by omega, by omega, z.1, k.symm⟩⟩

theorem ph_ny {y : Nat} (h : y < 4051) : ph (ny y) = - ph y := by
  unfold ny
  have e : ph (0 + (4051 - y)) = ph 0 - ph y := ph_sub 0 y (by omega)
  rw [Nat.zero_add, ph0] at e
  rw [ph_mod, e]
  generalize ph y = Y
  grobner
theorem turned_is {a b : Nat} (h : (a + b) % 4052 = 0) : tM a = ((tM b).1, ny (tM b).2.1, (tM b).2.2) := by
  have e := neg_tM b
  rw [tM_congr (j := 4052 - b % 4052) (k := a) (by omega)] at e
  rw [← e]; rfl
theorem pc_7 (s3 s4 x2 v y2 yv t : Fin 4051) (h : s4 * (x2 - v) = -y2 - yv) (hy : yv = s3 * (x2 - v) - y2) (ht : (x2 - v) * t = 1) : s4 = -s3 := by
  have e : (s4 + s3) * (x2 - v) = 0 := by grobner
  have e2 : (s4 + s3) * (x2 - v) * t = s4 + s3 := by grobner
  grobner
theorem pc_8 (s3 xq x2 y2 : Fin 4051) : -s3 * (xq + x2) - -y2 = -(s3 * (xq + x2) - y2) := by grobner
/-- The first is the second one turned. -/
theorem coc_3 {a b : Nat} {q : Sn} (hq : okS q = true) (fq : q.2.2 = false) (q0 : q.2.1 ≠ 0) (h0 : (a + b) % 4052 = 0) (hb : b % 4052 ≠ 0) :
    sim (nm (hvN (tM a) (tM b) q) (hvN (tM (a + b)) (tM 1) q)) (nm (hvN (tM b) (tM 1) q) (hvN (tM a) (tM (b + 1)) q)) := by
  obtain ⟨q1, q2, q3⟩ := okS_aff hq fq
  rw [hv_none q (has_no h0), hv_none q (has_far_l h0)]
  by_cases h1 : (b + 1) % 4052 = 0
  · rw [hv_none q (has_no h1), hv_none q (has_far_r h1)]; exact sim_refl _
  have ha : a % 4052 ≠ 0 := by omega
  have l3 := has_yes (i := b) (j := 1) hb (by omega) h1
  have l4 := has_yes (i := a) (j := b + 1) ha h1 (by omega)
  rw [hv_line q l3, hv_line q l4]
  have fb := tM_near hb
  have fa := tM_near ha
  have fv := tM_near h1
  obtain ⟨b1, b2, b3⟩ := okS_aff (tM_ok b) fb
  obtain ⟨a1, a2, a3⟩ := okS_aff (tM_ok a) fa
  have ne : (tM a).1 ≠ (tM (b + 1)).1 := place_ne ha h1 (by omega) (by omega)
  have k4 := sl_eq fa fv ne
  obtain ⟨t, ht⟩ := dif_tM fa fv ne
  have ev := addN_has l3
  rw [tM_add] at ev
  have hyv : ph (tM (b + 1)).2.1 = ph (slN (tM b) (tM 1)) * (ph (tM b).1 - ph (tM (b + 1)).1) - ph (tM b).2.1 := by
    rw [ev]; exact line_y _ _ _ _ (by omega)
  have et := turned_is h0
  have ex : (tM a).1 = (tM b).1 := by rw [et]
  have ey : ph (tM a).2.1 = - ph (tM b).2.1 := by rw [et]; exact ph_ny b2
  rw [ex, ey] at k4
  rw [ex] at ht
  have es := pc_7 _ _ _ _ _ _ t k4 hyv ht
  refine (mirror (lv_lt _ _ _) (lv_lt _ _ _) q2 q0 ?_).1
  rw [lv_ph q a2, lv_ph q b2, es, ex, ey, pc_8]
theorem pc_9 (s1 s2 u yu x1 y1 t : Fin 4051) (h : s2 * (u - 3) = yu - 156) (hy : yu = s1 * (x1 - u) - y1) (on : y1 = -156 + s1 * (x1 - 3)) (ht : (u - 3) * t = 1) : s2 = -s1 := by
  subst hy on
  have e : (s2 + s1) * (u - 3) = 0 := by grobner
  have e2 : (s2 + s1) * (u - 3) * t = s2 + s1 := by grobner
  grobner
theorem pc_10 (s1 xq u yu x1 y1 : Fin 4051) (hy : yu = s1 * (x1 - u) - y1) : -s1 * (xq + u) - yu = -(s1 * (xq + x1) - y1) := by grobner
theorem pc_11 (s2 s1 : Fin 4051) (h : s1 + s2 = 0) : s2 = -s1 := by grobner
theorem two_sl : ph (slN (tM 2) (tM 4051)) + ph (slN (tM 1) (tM 1)) = 0 := by decide +kernel
theorem tM_last : tM 4051 = (3, 3895, false) := by decide +kernel
theorem pc_12 : ph 3895 = -156 := by decide
/-- The second is (3, 156) turned. -/
theorem coc_4 {a b : Nat} {q : Sn} (hq : okS q = true) (fq : q.2.2 = false) (q0 : q.2.1 ≠ 0) (ha : a % 4052 ≠ 0) (h1 : (b + 1) % 4052 = 0) (h0 : (a + b) % 4052 ≠ 0) :
    sim (nm (hvN (tM a) (tM b) q) (hvN (tM (a + b)) (tM 1) q)) (nm (hvN (tM b) (tM 1) q) (hvN (tM a) (tM (b + 1)) q)) := by
  obtain ⟨q1, q2, q3⟩ := okS_aff hq fq
  have hb : b % 4052 = 4051 := by omega
  rw [hv_none (a := tM b) q (has_no h1), hv_none q (has_far_r h1)]
  have l1 := has_yes (i := a) (j := b) ha (by omega) h0
  have l2 := has_yes (i := a + b) (j := 1) h0 (by omega) (by omega)
  rw [hv_line q l1, hv_line q l2]
  have fa := tM_near ha
  have fu := tM_near h0
  obtain ⟨a1, a2, a3⟩ := okS_aff (tM_ok a) fa
  obtain ⟨u1, u2, u3⟩ := okS_aff (tM_ok (a + b)) fu
  have eb : tM b = (3, 3895, false) := by rw [tM_N, hb, ← tM_lt (by omega), tM_last]
  have L1 := line_of (tM_ok a) (tM_ok b) l1
  have eu := addN_has l1
  rw [tM_add] at eu
  have hyu : ph (tM (a + b)).2.1 = ph (slN (tM a) (tM b)) * (ph (tM a).1 - ph (tM (a + b)).1) - ph (tM a).2.1 := by
    rw [eu]; exact line_y _ _ _ _ (by omega)
  have es : ph (slN (tM (a + b)) (tM 1)) = - ph (slN (tM a) (tM b)) := by
    by_cases h2 : a % 4052 = 2
    · rw [tM_congr (j := a) (k := 2) (by omega), tM_congr (j := b) (k := 4051) (by omega), tM_congr (j := a + b) (k := 1) (by omega)]
      exact pc_11 _ _ two_sl
    · have f1 : (tM 1).2.2 = false := tM_near (by omega)
      have ne : (tM (a + b)).1 ≠ (tM 1).1 := place_ne h0 (by omega) (by omega) (by omega)
      have k2 := sl_eq fu f1 ne
      obtain ⟨t, ht⟩ := dif_tM fu f1 ne
      have g1 : ph (tM 1).1 = 3 := by rw [tM_one']; rfl
      have g2 : ph (tM 1).2.1 = 156 := by rw [tM_one']; rfl
      rw [g1, g2] at k2
      rw [g1] at ht
      have on := L1.on
      have c1 : ph (tM b).1 = 3 := by rw [eb]; rfl
      have c2 : ph (tM b).2.1 = -156 := by rw [eb]; exact pc_12
      rw [c1, c2] at on
      exact pc_9 _ _ _ _ _ _ t k2 hyu on ht
  refine (mirror (lv_lt _ _ _) (lv_lt _ _ _) q2 q0 ?_).2
  rw [lv_ph q a2, lv_ph q u2, es]
  exact pc_10 _ _ _ _ _ _ hyu
theorem pc_13 (s1 s3 x1 x2 y2 yv t : Fin 4051) (h : s1 * (x1 - x2) = -yv - y2) (hy : yv = s3 * (x2 - x1) - y2) (ht : (x1 - x2) * t = 1) : s1 = s3 := by
  subst hy
  have e : (s1 - s3) * (x1 - x2) = 0 := by grobner
  have e2 : (s1 - s3) * (x1 - x2) * t = s1 - s3 := by grobner
  grobner
theorem pc_14 (s3 xq x1 x2 y2 yv : Fin 4051) (hy : yv = s3 * (x2 - x1) - y2) : s3 * (xq + x1) - -yv = s3 * (xq + x2) - y2 := by grobner
/-- The three are far together: they lie on one line. -/
theorem coc_5 {a b : Nat} {q : Sn} (hq : okS q = true) (fq : q.2.2 = false) (ha : a % 4052 ≠ 0) (hb : b % 4052 ≠ 0) (h : (a + b + 1) % 4052 = 0) :
    sim (nm (hvN (tM a) (tM b) q) (hvN (tM (a + b)) (tM 1) q)) (nm (hvN (tM b) (tM 1) q) (hvN (tM a) (tM (b + 1)) q)) := by
  have h1 : (b + 1) % 4052 ≠ 0 := by omega
  have h0 : (a + b) % 4052 ≠ 0 := by omega
  rw [hv_none q (has_no h), hv_none (a := tM a) (b := tM (b + 1)) q (has_no (by omega))]
  have l1 := has_yes (i := a) (j := b) ha hb h0
  have l3 := has_yes (i := b) (j := 1) hb (by omega) h1
  rw [hv_line q l1, hv_line q l3]
  have fa := tM_near ha
  have fb := tM_near hb
  obtain ⟨a1, a2, a3⟩ := okS_aff (tM_ok a) fa
  obtain ⟨b1, b2, b3⟩ := okS_aff (tM_ok b) fb
  obtain ⟨v1, v2, v3⟩ := okS_aff (tM_ok (b + 1)) (tM_near h1)
  have ne : (tM a).1 ≠ (tM b).1 := place_ne ha hb (by omega) h0
  have k1 := sl_eq fa fb ne
  obtain ⟨t, ht⟩ := dif_tM fa fb ne
  have ev := addN_has l3
  rw [tM_add] at ev
  have hyv : ph (tM (b + 1)).2.1 = ph (slN (tM b) (tM 1)) * (ph (tM b).1 - ph (tM (b + 1)).1) - ph (tM b).2.1 := by
    rw [ev]; exact line_y _ _ _ _ (by omega)
  have et := turned_is (a := a) (b := b + 1) (by omega)
  have ex : (tM a).1 = (tM (b + 1)).1 := by rw [et]
  have ey : ph (tM a).2.1 = - ph (tM (b + 1)).2.1 := by rw [et]; exact ph_ny v2
  rw [← ex] at hyv
  rw [ey] at k1
  have es := pc_13 _ _ _ _ _ _ t k1 hyv ht
  have e : lvN (tM a) (tM b) q = lvN (tM b) (tM 1) q := by
    refine ph_inj (lv_lt _ _ _) (lv_lt _ _ _) ?_
    rw [lv_ph q a2, lv_ph q b2, es, ey]
    exact pc_14 _ _ _ _ _ _ hyv
  rw [e]; exact sim_refl _
theorem nm_comm (x y : Nat × Nat) : nm x y = nm y x := by
  unfold nm; rw [Nat.mul_comm x.1, Nat.mul_comm x.2 y.2, Nat.mul_comm x.1 y.2, Nat.mul_comm x.2 y.1, Nat.add_comm (y.2 * x.1)]
/-- All cases. -/
theorem coc_raw (a b : Nat) {q : Sn} (hq : okS q = true) (fq : q.2.2 = false) (q0 : q.2.1 ≠ 0) :
    sim (nm (hvN (tM a) (tM b) q) (hvN (tM (a + b)) (tM 1) q)) (nm (hvN (tM b) (tM 1) q) (hvN (tM a) (tM (b + 1)) q)) := by
  by_cases ha : a % 4052 = 0
  · rw [hv_none q (has_far_l ha), hv_none (b := tM (b + 1)) q (has_far_l ha), tM_congr (j := a + b) (k := b) (by omega), nm_comm]; exact sim_refl _
  by_cases hb : b % 4052 = 0
  · rw [hv_none (b := tM b) q (has_far_r hb), hv_none (a := tM b) q (has_far_l hb), tM_congr (j := a + b) (k := a) (by omega), tM_congr (j := b + 1) (k := 1) (by omega)]; exact sim_refl _
  by_cases h0 : (a + b) % 4052 = 0
  · exact coc_3 hq fq q0 h0 hb
  by_cases h1 : (b + 1) % 4052 = 0
  · exact coc_4 hq fq q0 ha h1 h0
  by_cases h2 : (a + b + 1) % 4052 = 0
  · exact coc_5 hq fq ha hb h2
  have l1 := has_yes (i := a) (j := b) ha hb h0
  have l2 := has_yes (i := a + b) (j := 1) h0 (by omega) h2
  have l3 := has_yes (i := b) (j := 1) hb (by omega) h1
  have l4 := has_yes (i := a) (j := b + 1) ha h1 (by omega)
  have key : ph (slN (tM a) (tM b)) + ph (slN (tM (a + b)) (tM 1)) = ph (slN (tM b) (tM 1)) + ph (slN (tM a) (tM (b + 1))) ∧
      (ph (slN (tM a) (tM b)) + ph (slN (tM (a + b)) (tM 1))) * (ph (slN (tM a) (tM b)) - ph (slN (tM b) (tM 1))) = ph (tM a).1 - 3 := by
    have ra : a % 4052 < 4052 := Nat.mod_lt _ (by omega)
    have rb : b % 4052 < 4052 := Nat.mod_lt _ (by omega)
    by_cases h3 : (a + b) % 4052 = 1
    · have h := allLT_spec sigA_all (a % 4052) ra
      have n0 : Nat.beq (a % 4052) 0 = false := by rw [← Bool.not_eq_true]; intro e; exact ha (Nat.eq_of_beq_eq_true e)
      have n1 : Nat.beq (a % 4052) 1 = false := by rw [← Bool.not_eq_true]; intro e; have := Nat.eq_of_beq_eq_true e; omega
      have n2 : Nat.beq (a % 4052) 2 = false := by rw [← Bool.not_eq_true]; intro e; have := Nat.eq_of_beq_eq_true e; omega
      rw [n0, n1, n2] at h
      have := sig_of (show sigB (a % 4052) (4053 - a % 4052) = true by simpa using h)
      rw [tM_congr (j := a) (k := a % 4052) (by omega), tM_congr (j := b) (k := 4053 - a % 4052) (by omega), tM_congr (j := a + b) (k := a % 4052 + (4053 - a % 4052)) (by omega), tM_congr (j := b + 1) (k := 4053 - a % 4052 + 1) (by omega)]
      exact this
    by_cases h4 : a % 4052 = (b + 1) % 4052
    · have h := allLT_spec sigC_all (b % 4052) rb
      have n0 : Nat.beq (b % 4052) 0 = false := by rw [← Bool.not_eq_true]; intro e; exact hb (Nat.eq_of_beq_eq_true e)
      have n1 : Nat.beq (b % 4052) 4051 = false := by rw [← Bool.not_eq_true]; intro e; have := Nat.eq_of_beq_eq_true e; omega
      have n2 : Nat.beq (b % 4052) 2025 = false := by rw [← Bool.not_eq_true]; intro e; have := Nat.eq_of_beq_eq_true e; omega
      rw [n0, n1, n2] at h
      have := sig_of (show sigB (b % 4052 + 1) (b % 4052) = true by simpa using h)
      rw [tM_congr (j := a) (k := b % 4052 + 1) (by omega), tM_congr (j := b) (k := b % 4052) (by omega), tM_congr (j := a + b) (k := b % 4052 + 1 + b % 4052) (by omega), tM_congr (j := b + 1) (k := b % 4052 + 1) (by omega)]
      exact this
    exact sig_gen l1 l3 (tM_near h0) (tM_near h1) (place_ne h0 (by omega) (by omega) h2) (place_ne ha h1 h4 (by omega))
  exact coc_gen hq fq q0 l1 l2 l3 l4 key.1 key.2
end Go.Proofs.Ytmijjjdedadklag
