/- Lines through spots of the curve, over the numbers below 4051: where they meet it, and lines through three spots, the last one (3, 156), both ways round. Nothing of the program stands in here. -/
namespace Go.Proofs.Ytmijjjdedadklag
set_option maxRecDepth 100000
set_option linter.unusedVariables false
/-- A line of slope s through two spots, or what touches, if they are one. -/
structure LineF (s x1 y1 x2 y2 : Fin 4051) : Prop where
  on : y1 = y2 + s * (x1 - x2)
  sl : s * s * (x1 - x2) + 2 * y2 * s = x1 * x1 + x1 * x2 + x2 * x2 + 1
theorem lf_sl (s x1 y1 x2 y2 u : Fin 4051) (c1 : y1 * y1 = x1 * x1 * x1 + x1) (c2 : y2 * y2 = x2 * x2 * x2 + x2) (h : s * (x1 - x2) = y1 - y2) (hu : (x1 - x2) * u = 1) :
    s * s * (x1 - x2) + 2 * y2 * s = x1 * x1 + x1 * x2 + x2 * x2 + 1 := by grobner
theorem lf_on (s x1 y1 x2 y2 : Fin 4051) (h : s * (x1 - x2) = y1 - y2) : y1 = y2 + s * (x1 - x2) := by grobner
theorem lf_chord {s x1 y1 x2 y2 u : Fin 4051} (c1 : y1 * y1 = x1 * x1 * x1 + x1) (c2 : y2 * y2 = x2 * x2 * x2 + x2) (h : s * (x1 - x2) = y1 - y2) (hu : (x1 - x2) * u = 1) : LineF s x1 y1 x2 y2 :=
  ⟨lf_on s x1 y1 x2 y2 h, lf_sl s x1 y1 x2 y2 u c1 c2 h hu⟩
theorem lf_t1 (s x y : Fin 4051) : y = y + s * (x - x) := by grobner
theorem lf_t2 (s x y : Fin 4051) (h : s * (2 * y) = 3 * x * x + 1) : s * s * (x - x) + 2 * y * s = x * x + x * x + x * x + 1 := by grobner
theorem lf_touch {s x y : Fin 4051} (h : s * (2 * y) = 3 * x * x + 1) : LineF s x y x y := ⟨lf_t1 s x y, lf_t2 s x y h⟩
/-- Where a line meets the curve. -/
theorem vieta (s x1 y1 x2 y2 u X : Fin 4051) (c2 : y2 * y2 = x2 * x2 * x2 + x2) (r1 : y1 = y2 + s * (x1 - x2)) (r2 : s * s * (x1 - x2) + 2 * y2 * s = x1 * x1 + x1 * x2 + x2 * x2 + 1) (hu : u = s * s - x1 - x2) :
    X * X * X + X - (y1 + s * (X - x1)) * (y1 + s * (X - x1)) = (X - x1) * (X - x2) * (X - u) := by
  subst r1 hu; grobner
/-- The slopes both ways round have one sum. -/
theorem four_a (x1 x2 s1 s3 y1 y2 v u yu yv : Fin 4051) (h2 : y2 = 156 + s3 * (x2 - 3)) (h1 : y1 = y2 + s1 * (x1 - x2))
    (r3 : s3 * s3 * (x2 - 3) + 312 * s3 = x2 * x2 + 3 * x2 + 10) (r1 : s1 * s1 * (x1 - x2) + 2 * y2 * s1 = x1 * x1 + x1 * x2 + x2 * x2 + 1)
    (hu : u = s1 * s1 - x1 - x2) (hv : v = s3 * s3 - x2 - 3) (hyu : yu = s1 * (x1 - u) - y1) (hyv : yv = s3 * (x2 - v) - y2) :
    (s1 - s3) * (u - 3) * (v - x1) + (yu - 156) * (v - x1) = (yv - y1) * (u - 3) := by
  subst h2 h1 hu hv hyu hyv
  grobner (ringSteps := 10000000)
theorem four_b (x1 x2 s1 s3 y1 y2 u yu : Fin 4051) (h2 : y2 = 156 + s3 * (x2 - 3)) (h1 : y1 = y2 + s1 * (x1 - x2))
    (r3 : s3 * s3 * (x2 - 3) + 312 * s3 = x2 * x2 + 3 * x2 + 10) (r1 : s1 * s1 * (x1 - x2) + 2 * y2 * s1 = x1 * x1 + x1 * x2 + x2 * x2 + 1)
    (hu : u = s1 * s1 - x1 - x2) (hyu : yu = s1 * (x1 - u) - y1) :
    (s1 * (u - 3) + (yu - 156)) * (s1 - s3) = (x1 - 3) * (u - 3) := by
  subst h2 h1 hu hyu
  grobner (ringSteps := 10000000)
theorem fo_1 (s1 s2 s3 s4 d e f g i j : Fin 4051) (h : (s1 - s3) * d * e + f * e = g * d) (k2 : s2 * d = f) (k4 : s4 * e = g) (hd : d * i = 1) (he : e * j = 1) : s1 + s2 = s3 + s4 := by
  have h1 : (s1 + s2 - s3 - s4) * (d * e) = 0 := by grobner
  have h2 : (s1 + s2 - s3 - s4) * (d * e) * (i * j) = s1 + s2 - s3 - s4 := by grobner
  grobner
theorem fo_2 (s1 s2 s3 x d f i : Fin 4051) (h : (s1 * d + f) * (s1 - s3) = (x - 3) * d) (k2 : s2 * d = f) (hd : d * i = 1) : (s1 + s2) * (s1 - s3) = x - 3 := by
  have h1 : ((s1 + s2) * (s1 - s3) - (x - 3)) * d = 0 := by grobner
  have h2 : ((s1 + s2) * (s1 - s3) - (x - 3)) * d * i = (s1 + s2) * (s1 - s3) - (x - 3) := by grobner
  grobner
theorem re_1 (X x1 s1 s2 y1 u : Fin 4051) : y1 + s1 * (X - x1) + (s1 * (x1 - u) - y1 + s2 * (X - u)) = (s1 + s2) * (X - u) := by grobner
theorem re_2 (Z l m A B : Fin 4051) (h : l + m = A) (k : Z - l * l = B) : Z + l * m = A * l + B := by grobner
theorem re_3 (X x1 x2 s1 s3 y2 : Fin 4051) : y2 + s1 * (x1 - x2) + s1 * (X - x1) - (y2 + s3 * (X - x2)) = (s1 - s3) * (X - x2) := by grobner
theorem re_4 (X S x1 x2 l1 l3 t : Fin 4051) (h : l1 - l3 = t * (X - x2)) (hg : S * t = x1 - 3) : S * l1 + (X - x1) * (X - x2) = S * l3 + (X - x2) * (X - 3) := by grobner
theorem re_5 (S p l q : Fin 4051) : S * p * l + q * p = (S * l + q) * p := by grobner
theorem re_6 (T p q : Fin 4051) : T * p * q = T * q * p := by grobner
/-- Both ways round: what the lines are, one times the other, at any place X. -/
theorem two_re {X x1 x2 s1 s2 s3 s4 y1 y2 v u yu l1 l2 l3 l4 S : Fin 4051} (hyu : yu = s1 * (x1 - u) - y1)
    (e1 : l1 = y1 + s1 * (X - x1)) (e2 : l2 = yu + s2 * (X - u)) (e3 : l3 = y2 + s3 * (X - x2)) (e34 : l3 + l4 = S * (X - v)) (on : y1 = y2 + s1 * (x1 - x2))
    (v1 : X * X * X + X - l1 * l1 = (X - x1) * (X - x2) * (X - u)) (v3 : X * X * X + X - l3 * l3 = (X - x2) * (X - 3) * (X - v)) (hs : s1 + s2 = S) (hg : S * (s1 - s3) = x1 - 3) :
    (X * X * X + X + l1 * l2) * (X - v) = (X * X * X + X + l3 * l4) * (X - u) ∧ (l1 + l2) * (X - v) = (l3 + l4) * (X - u) := by
  have a1 : l1 + l2 = S * (X - u) := by rw [e1, e2, hyu, re_1, hs]
  have a2 := re_2 _ _ _ _ _ a1 v1
  have a3 := re_2 _ _ _ _ _ e34 v3
  have a4 : l1 - l3 = (s1 - s3) * (X - x2) := by rw [e1, e3, on, re_3]
  have a5 := re_4 X S x1 x2 l1 l3 _ a4 hg
  rw [re_5] at a2 a3
  rw [a2, a3, a5, a1, e34]
  exact ⟨re_6 _ _ _, re_6 _ _ _⟩
end Go.Proofs.Ytmijjjdedadklag
