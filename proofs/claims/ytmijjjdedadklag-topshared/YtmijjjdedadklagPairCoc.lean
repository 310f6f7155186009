/- Lines through multiples of (3, 156), both ways round, in every case. Nothing of the program stands in here. -/
import Derived.Test.YtmijjjdedadklagPairNat
namespace Go.Proofs.Ytmijjjdedadklag
set_option linter.unusedVariables false
set_option linter.unusedSimpArgs false

theorem co_1 (s xq x y : Fin 4051) : s * (xq + x) - y = -(y + s * (-xq - x)) := by grobner
theorem co_2 (xq yq v u l1 l2 l3 l4 : Fin 4051) (cq : yq * yq = xq * xq * xq + xq) (h : (-xq * -xq * -xq + -xq + l1 * l2) * (-xq - v) = (-xq * -xq * -xq + -xq + l3 * l4) * (-xq - u)) :
    (xq + v) * (-l1 * -l2 - yq * yq) = (xq + u) * (-l3 * -l4 - yq * yq) := by grobner
theorem co_3 (xq yq v u l1 l2 l3 l4 : Fin 4051) (h : (l1 + l2) * (-xq - v) = (l3 + l4) * (-xq - u)) :
    (xq + v) * (-l1 * yq + yq * -l2) = (xq + u) * (-l3 * yq + yq * -l4) := by grobner
theorem co_4 (X x1 x2 s3 s4 y2 v yv : Fin 4051) (h : yv = s3 * (x2 - v) - y2) : y2 + s3 * (X - x2) + (yv + s4 * (x1 - v) + s4 * (X - x1)) = (s3 + s4) * (X - v) := by
  subst h; grobner
theorem g_on : (156 : Fin 4051) * 156 = 3 * 3 * 3 + 3 := by decide
theorem co_5 {s x y : Fin 4051} (h : s * s * (x - 3) + 2 * 156 * s = x * x + x * 3 + 3 * 3 + 1) : s * s * (x - 3) + 312 * s = x * x + 3 * x + 10 := by grobner
theorem coc_fin {xq yq x1 y1 x2 y2 u yu v yv s1 s2 s3 s4 : Fin 4051} (cq : yq * yq = xq * xq * xq + xq) (c2 : y2 * y2 = x2 * x2 * x2 + x2)
    (L1 : LineF s1 x1 y1 x2 y2) (L3 : LineF s3 x2 y2 3 156) (L4 : LineF s4 x1 y1 v yv)
    (hu : u = s1 * s1 - x1 - x2) (hyu : yu = s1 * (x1 - u) - y1) (hv : v = s3 * s3 - x2 - 3) (hyv : yv = s3 * (x2 - v) - y2) (hs : s1 + s2 = s3 + s4) (hg : (s1 + s2) * (s1 - s3) = x1 - 3) :
    (xq + v) * ((s1 * (xq + x1) - y1) * (s2 * (xq + u) - yu) - yq * yq) = (xq + u) * ((s3 * (xq + x2) - y2) * (s4 * (xq + x1) - y1) - yq * yq) ∧
    (xq + v) * ((s1 * (xq + x1) - y1) * yq + yq * (s2 * (xq + u) - yu)) = (xq + u) * ((s3 * (xq + x2) - y2) * yq + yq * (s4 * (xq + x1) - y1)) := by
  have v1 := vieta s1 x1 y1 x2 y2 u (-xq) c2 L1.on L1.sl hu
  have v3 := vieta s3 x2 y2 3 156 v (-xq) g_on L3.on L3.sl hv
  have e34 : y2 + s3 * (-xq - x2) + (y1 + s4 * (-xq - x1)) = (s3 + s4) * (-xq - v) := by
    have := co_4 (-xq) x1 x2 s3 s4 y2 v yv hyv
    rw [← L4.on] at this; exact this
  have h := two_re (s4 := s4) hyu rfl rfl rfl e34 L1.on v1 v3 hs (by rw [← hs]; exact hg)
  rw [co_1 s1, co_1 s2, co_1 s3, co_1 s4]
  exact ⟨co_2 xq yq v u _ _ _ _ cq h.1, co_3 xq yq v u _ _ _ _ h.2⟩
theorem co_6 (a b : Fin 4051) : a * b - 0 * b = a * b := by grobner
theorem co_7 (a b c : Fin 4051) : a * b - 0 * c = a * b := by grobner
theorem co_8 (a b c : Fin 4051) : a * b + 0 * c = a * b := by grobner
theorem ph0 : ph 0 = 0 := rfl
/-- A factor. -/
theorem nm_c {c d : Nat} {z w : Nat × Nat} (hz : z.2 < 4051) (hw : w.2 < 4051) (h1 : ph c * ph z.1 = ph d * ph w.1) (h2 : ph c * ph z.2 = ph d * ph w.2) : nm (c, 0) z = nm (d, 0) w := by
  refine nm_ext ?_ ?_
  · rw [nm_re _ _ (show 0 < 4051 by omega) hz, nm_re _ _ (show 0 < 4051 by omega) hw]
    show ph c * ph z.1 - ph 0 * ph z.2 = ph d * ph w.1 - ph 0 * ph w.2
    rw [ph0, co_7, co_7, h1]
  · rw [nm_im, nm_im]
    show ph c * ph z.2 + ph 0 * ph z.1 = ph d * ph w.2 + ph 0 * ph w.1
    rw [ph0, co_8, co_8, h2]
theorem tM_one' : tM 1 = (3, 156, false) := tN_one
/-- All four lines. -/
theorem coc_gen {a b : Nat} {q : Sn} (hq : okS q = true) (fq : q.2.2 = false) (q0 : q.2.1 ≠ 0)
    (h1 : hasL (tM a) (tM b) = true) (h2 : hasL (tM (a + b)) (tM 1) = true) (h3 : hasL (tM b) (tM 1) = true) (h4 : hasL (tM a) (tM (b + 1)) = true)
    (hs : ph (slN (tM a) (tM b)) + ph (slN (tM (a + b)) (tM 1)) = ph (slN (tM b) (tM 1)) + ph (slN (tM a) (tM (b + 1))))
    (hg : (ph (slN (tM a) (tM b)) + ph (slN (tM (a + b)) (tM 1))) * (ph (slN (tM a) (tM b)) - ph (slN (tM b) (tM 1))) = ph (tM a).1 - 3) :
    sim (nm (hvN (tM a) (tM b) q) (hvN (tM (a + b)) (tM 1) q)) (nm (hvN (tM b) (tM 1) q) (hvN (tM a) (tM (b + 1)) q)) := by
  obtain ⟨fa, fb⟩ := has_aff h1
  obtain ⟨fu, _⟩ := has_aff h2
  obtain ⟨_, fv⟩ := has_aff h4
  obtain ⟨a1, a2, a3⟩ := okS_aff (tM_ok a) fa
  obtain ⟨b1, b2, b3⟩ := okS_aff (tM_ok b) fb
  obtain ⟨u1, u2, u3⟩ := okS_aff (tM_ok (a + b)) fu
  obtain ⟨v1, v2, v3⟩ := okS_aff (tM_ok (b + 1)) fv
  obtain ⟨q1, q2, q3⟩ := okS_aff hq fq
  have L1 := line_of (tM_ok a) (tM_ok b) h1
  have L3 := line_of (tM_ok b) (tM_ok 1) h3
  have L4 := line_of (tM_ok a) (tM_ok (b + 1)) h4
  have eu := addN_has h1
  have ev := addN_has h3
  rw [tM_add] at eu ev
  have hu : ph (tM (a + b)).1 = ph (slN (tM a) (tM b)) * ph (slN (tM a) (tM b)) - ph (tM a).1 - ph (tM b).1 := by rw [eu]; exact line_x _ _ _ _ (by omega) (by omega)
  have hyu : ph (tM (a + b)).2.1 = ph (slN (tM a) (tM b)) * (ph (tM a).1 - ph (tM (a + b)).1) - ph (tM a).2.1 := by
    rw [eu]; exact line_y _ _ _ _ (by omega)
  have hv : ph (tM (b + 1)).1 = ph (slN (tM b) (tM 1)) * ph (slN (tM b) (tM 1)) - ph (tM b).1 - ph (tM 1).1 := by rw [ev]; exact line_x _ _ _ _ (by omega) (by rw [tM_one']; show 3 ≤ 4051; omega)
  have hyv : ph (tM (b + 1)).2.1 = ph (slN (tM b) (tM 1)) * (ph (tM b).1 - ph (tM (b + 1)).1) - ph (tM b).2.1 := by
    rw [ev]; exact line_y _ _ _ _ (by omega)
  have nu := q_place (tM_ok (a + b)) fu hq fq q0
  have nv := q_place (tM_ok (b + 1)) fv hq fq q0
  have g1 : ph (tM 1).1 = 3 := by rw [tM_one']; rfl
  have g2 : ph (tM 1).2.1 = 156 := by rw [tM_one']; rfl
  rw [g1, g2] at L3
  rw [g1] at hv
  obtain ⟨r, i⟩ := coc_fin q3 b3 L1 L3 L4 hu hyu hv hyv hs hg
  rw [hv_line q h1, hv_line q h2, hv_line q h3, hv_line q h4]
  refine ⟨(q.1 + (tM (b + 1)).1) % 4051, (q.1 + (tM (a + b)).1) % 4051, by omega, by omega, by omega, by omega, ?_⟩
  refine nm_c (nm_lt _ _).2 (nm_lt _ _).2 ?_ ?_
  · rw [ph_mod, ph_mod, ph_add, ph_add, nm_re _ _ q2 q2, nm_re _ _ q2 q2]
    show (ph q.1 + ph (tM (b + 1)).1) * (ph (lvN (tM a) (tM b) q) * ph (lvN (tM (a + b)) (tM 1) q) - ph q.2.1 * ph q.2.1) = (ph q.1 + ph (tM (a + b)).1) * (ph (lvN (tM b) (tM 1) q) * ph (lvN (tM a) (tM (b + 1)) q) - ph q.2.1 * ph q.2.1)
    rw [lv_ph q a2, lv_ph q u2, lv_ph q b2, lv_ph q a2]
    exact r
  · rw [ph_mod, ph_mod, ph_add, ph_add, nm_im, nm_im]
    show (ph q.1 + ph (tM (b + 1)).1) * (ph (lvN (tM a) (tM b) q) * ph q.2.1 + ph q.2.1 * ph (lvN (tM (a + b)) (tM 1) q)) = (ph q.1 + ph (tM (a + b)).1) * (ph (lvN (tM b) (tM 1) q) * ph q.2.1 + ph q.2.1 * ph (lvN (tM a) (tM (b + 1)) q))
    rw [lv_ph q a2, lv_ph q u2, lv_ph q b2, lv_ph q a2]
    exact i
theorem place_ne {i j : Nat} (hi : i % 4052 ≠ 0) (hj : j % 4052 ≠ 0) (h1 : i % 4052 ≠ j % 4052) (h2 : (i + j) % 4052 ≠ 0) : (tM i).1 ≠ (tM j).1 := by
  intro e
  rw [tM_N, tM_N] at e
  rcases place_inj hi hj (Nat.mod_lt _ (by omega)) (Nat.mod_lt _ (by omega)) e with h | h
  · exact h1 h
  · omega
theorem sl_chord {a b : Sn} (h : a.1 ≠ b.1) : slN a b = cslN a.1 a.2.1 b.1 b.2.1 := by
  unfold slN
  cases hx : Nat.beq a.1 b.1 with
  | true => exact absurd (Nat.eq_of_beq_eq_true hx) h
  | false => rfl
theorem sl_eq {i j : Nat} (fi : (tM i).2.2 = false) (fj : (tM j).2.2 = false) (h : (tM i).1 ≠ (tM j).1) : ph (slN (tM i) (tM j)) * (ph (tM i).1 - ph (tM j).1) = ph (tM i).2.1 - ph (tM j).2.1 := by
  obtain ⟨a1, a2, a3⟩ := okS_aff (tM_ok i) fi
  obtain ⟨b1, b2, b3⟩ := okS_aff (tM_ok j) fj
  rw [sl_chord h]; exact csl _ _ _ _ a1 b1 b2 h
theorem dif_tM {i j : Nat} (fi : (tM i).2.2 = false) (fj : (tM j).2.2 = false) (h : (tM i).1 ≠ (tM j).1) : ∃ t, (ph (tM i).1 - ph (tM j).1) * t = 1 := by
  obtain ⟨a1, a2, a3⟩ := okS_aff (tM_ok i) fi
  obtain ⟨b1, b2, b3⟩ := okS_aff (tM_ok j) fj
  exact ⟨_, dif_inv a1 b1 h⟩
theorem co_9 (s a b c d : Fin 4051) (h : s * (a - b) = c - d) : s * (b - a) = d - c := by grobner
theorem co_10 (a b t : Fin 4051) (h : (a - b) * t = 1) : (b - a) * -t = 1 := by grobner
/-- The sum of the slopes, where no two that are summed up last have one place. -/
theorem sig_gen {a b : Nat} (h1 : hasL (tM a) (tM b) = true) (h3 : hasL (tM b) (tM 1) = true) (fu : (tM (a + b)).2.2 = false) (fv : (tM (b + 1)).2.2 = false)
    (nu : (tM (a + b)).1 ≠ (tM 1).1) (nv : (tM a).1 ≠ (tM (b + 1)).1) :
    ph (slN (tM a) (tM b)) + ph (slN (tM (a + b)) (tM 1)) = ph (slN (tM b) (tM 1)) + ph (slN (tM a) (tM (b + 1))) ∧
    (ph (slN (tM a) (tM b)) + ph (slN (tM (a + b)) (tM 1))) * (ph (slN (tM a) (tM b)) - ph (slN (tM b) (tM 1))) = ph (tM a).1 - 3 := by
  obtain ⟨fa, fb⟩ := has_aff h1
  obtain ⟨_, fg⟩ := has_aff h3
  obtain ⟨a1, a2, a3⟩ := okS_aff (tM_ok a) fa
  obtain ⟨b1, b2, b3⟩ := okS_aff (tM_ok b) fb
  have L1 := line_of (tM_ok a) (tM_ok b) h1
  have L3 := line_of (tM_ok b) (tM_ok 1) h3
  have k2 := sl_eq fu fg nu
  have k4 := co_9 _ _ _ _ _ (sl_eq fa fv nv)
  obtain ⟨i, hi⟩ := dif_tM fu fg nu
  obtain ⟨j, hj⟩ := dif_tM fa fv nv
  have hj := co_10 _ _ _ hj
  have eu := addN_has h1
  have ev := addN_has h3
  rw [tM_add] at eu ev
  have hu : ph (tM (a + b)).1 = ph (slN (tM a) (tM b)) * ph (slN (tM a) (tM b)) - ph (tM a).1 - ph (tM b).1 := by rw [eu]; exact line_x _ _ _ _ (by omega) (by omega)
  have hyu : ph (tM (a + b)).2.1 = ph (slN (tM a) (tM b)) * (ph (tM a).1 - ph (tM (a + b)).1) - ph (tM a).2.1 := by
    rw [eu]; exact line_y _ _ _ _ (by omega)
  have hv : ph (tM (b + 1)).1 = ph (slN (tM b) (tM 1)) * ph (slN (tM b) (tM 1)) - ph (tM b).1 - ph (tM 1).1 := by rw [ev]; exact line_x _ _ _ _ (by omega) (by rw [tM_one']; show 3 ≤ 4051; omega)
  have hyv : ph (tM (b + 1)).2.1 = ph (slN (tM b) (tM 1)) * (ph (tM b).1 - ph (tM (b + 1)).1) - ph (tM b).2.1 := by
    rw [ev]; exact line_y _ _ _ _ (by omega)
  have g1 : ph (tM 1).1 = 3 := by rw [tM_one']; rfl
  have g2 : ph (tM 1).2.1 = 156 := by rw [tM_one']; rfl
  rw [g1, g2] at L3 k2
  rw [g1] at hv hi
  have fa := four_a _ _ _ _ _ _ _ _ _ _ L3.on L1.on (co_5 (y := 0) L3.sl) L1.sl hu hv hyu hyv
  have fb := four_b _ _ _ _ _ _ _ _ L3.on L1.on (co_5 (y := 0) L3.sl) L1.sl hu hyu
  exact ⟨fo_1 _ _ _ _ _ _ _ _ _ _ fa k2 k4 hi hj, fo_2 _ _ _ _ _ _ _ fb k2 hi⟩
/-- The same, by the kernel, where they have: the sum of the first two is (3, 156), or the first is the sum of the others. -/
def sigB (a b : Nat) : Bool :=
  let s1 := slN (tM a) (tM b); let s2 := slN (tM (a + b)) (tM 1); let s3 := slN (tM b) (tM 1); let s4 := slN (tM a) (tM (b + 1))
  Nat.beq ((s1 + s2) % 4051) ((s3 + s4) % 4051) && Nat.beq ((s1 + s2) * (s1 + (4051 - s3)) % 4051) (((tM a).1 + (4051 - 3)) % 4051)
theorem sigA_all : allLT (fun a => Nat.beq a 0 || Nat.beq a 1 || Nat.beq a 2 || sigB a (4053 - a)) 4052 = true := by decide +kernel
theorem sigC_all : allLT (fun b => Nat.beq b 0 || Nat.beq b 4051 || Nat.beq b 2025 || sigB (b + 1) b) 4052 = true := by decide +kernel
theorem sl_le (a b : Sn) : slN a b ≤ 4051 := by
  unfold slN dslN cslN
  cases Nat.beq a.1 b.1
  · exact Nat.le_of_lt (Nat.mod_lt _ (by omega))
  · exact Nat.le_of_lt (Nat.mod_lt _ (by omega))
theorem sig_of {a b : Nat} (h : sigB a b = true) :
    ph (slN (tM a) (tM b)) + ph (slN (tM (a + b)) (tM 1)) = ph (slN (tM b) (tM 1)) + ph (slN (tM a) (tM (b + 1))) ∧
    (ph (slN (tM a) (tM b)) + ph (slN (tM (a + b)) (tM 1))) * (ph (slN (tM a) (tM b)) - ph (slN (tM b) (tM 1))) = ph (tM a).1 - 3 := by
  unfold sigB at h
  simp only [Bool.and_eq_true] at h
  have e1 := Nat.eq_of_beq_eq_true h.1
  have e2 := Nat.eq_of_beq_eq_true h.2
  have f1 := congrArg ph e1
  have f2 := congrArg ph e2
  rw [ph_mod, ph_mod, ph_add, ph_add] at f1
  rw [ph_mod, ph_mod, ph_mul, ph_add, ph_sub _ _ (sl_le _ _), ph_sub _ _ (by omega)] at f2
  exact ⟨f1, f2⟩
end Go.Proofs.Ytmijjjdedadklag
