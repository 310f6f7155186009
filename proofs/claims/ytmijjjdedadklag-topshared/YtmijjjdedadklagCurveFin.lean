/- The sum of three spots of the curve, the middle one (3, 156), where no two of those that are summed have the same place: small identities, in the letters of places and slopes. Nothing of the program stands in here. -/
namespace Go.Proofs.Ytmijjjdedadklag
set_option maxRecDepth 100000
set_option linter.unusedVariables false
theorem th_r (l x y t : Fin 4051) (c : y * y = x * x * x + x) (h : l * (x - 3) = y - 156) (ht : (x - 3) * t = 1) : l * l * (x - 3) + 312 * l = x * x + 3 * x + 10 := by grobner
theorem th_on (l x y : Fin 4051) (h : l * (x - 3) = y - 156) : y = 156 + l * (x - 3) := by grobner
theorem th_a (x1 x2 la mu y1 y2 x4 y4 x5 y5 : Fin 4051) (h1 : y1 = 156 + la * (x1 - 3)) (h2 : y2 = 156 + mu * (x2 - 3)) (r1 : la * la * (x1 - 3) + 312 * la = x1 * x1 + 3 * x1 + 10) (r2 : mu * mu * (x2 - 3) + 312 * mu = x2 * x2 + 3 * x2 + 10)
    (h4 : x4 = la * la - x1 - 3) (h4y : y4 = la * (x1 - x4) - y1) (h5 : x5 = mu * mu - x2 - 3) (h5y : y5 = mu * (x2 - x5) - y2) :
    (la - mu) * (x4 - x2) * (x1 - x5) + (y4 - y2) * (x1 - x5) = (y1 - y5) * (x4 - x2) := by
  subst h1 h2 h4 h4y h5 h5y
  grobner (ringSteps := 10000000)
theorem th_b (x1 x2 la mu y1 y2 x4 y4 : Fin 4051) (h1 : y1 = 156 + la * (x1 - 3)) (h2 : y2 = 156 + mu * (x2 - 3)) (r1 : la * la * (x1 - 3) + 312 * la = x1 * x1 + 3 * x1 + 10) (r2 : mu * mu * (x2 - 3) + 312 * mu = x2 * x2 + 3 * x2 + 10)
    (h4 : x4 = la * la - x1 - 3) (h4y : y4 = la * (x1 - x4) - y1) :
    (la * (x4 - x2) + (y4 - y2)) * (la - mu) = (x1 - x2) * (x4 - x2) := by
  subst h1 h2 h4 h4y
  grobner (ringSteps := 10000000)
theorem th_1 (s1 s2 s3 s4 d e f g i j : Fin 4051) (h : (s1 - s3) * d * e + f * e = g * d) (k2 : s2 * d = f) (k4 : s4 * e = g) (hd : d * i = 1) (he : e * j = 1) : s1 + s2 = s3 + s4 := by
  have h1 : (s1 + s2 - s3 - s4) * (d * e) = 0 := by grobner
  have h2 : (s1 + s2 - s3 - s4) * (d * e) * (i * j) = s1 + s2 - s3 - s4 := by grobner
  grobner
theorem th_2 (s1 s2 s3 x d f i : Fin 4051) (h : (s1 * d + f) * (s1 - s3) = x * d) (k2 : s2 * d = f) (hd : d * i = 1) : (s1 + s2) * (s1 - s3) = x := by
  have h1 : ((s1 + s2) * (s1 - s3) - x) * d = 0 := by grobner
  have h2 : ((s1 + s2) * (s1 - s3) - x) * d * i = (s1 + s2) * (s1 - s3) - x := by grobner
  grobner
theorem th_x (la mu nu xi x1 x2 x4 x5 : Fin 4051) (h4 : x4 = la * la - x1 - 3) (h5 : x5 = mu * mu - x2 - 3) (hs : la + nu = mu + xi) (hg : (la + nu) * (la - mu) = x1 - x2) : nu * nu - x4 - x2 = xi * xi - x1 - x5 := by
  have e : nu = mu + xi - la := by grobner
  subst e h4 h5
  grobner
theorem th_y (la mu nu xi x1 x2 x4 x6 y1 y4 : Fin 4051) (h4 : x4 = la * la - x1 - 3) (h4y : y4 = la * (x1 - x4) - y1) (hs : la + nu = mu + xi) (hg : (la + nu) * (la - mu) = x1 - x2) (h6 : x6 = nu * nu - x4 - x2) (hn : xi = la + nu - mu)
    (on1 : y1 = 156 + la * (x1 - 3)) (r1 : la * la * (x1 - 3) + 312 * la = x1 * x1 + 3 * x1 + 10) (hy2 : nu * (x4 - x2) = y4 - (156 + mu * (x2 - 3))) : nu * (x4 - x6) - y4 = xi * (x1 - x6) - y1 := by
  subst h4 h4y h6 hn on1
  grobner
theorem th_3 (s1 s2 s3 s4 : Fin 4051) (h : s1 + s2 = s3 + s4) : s4 = s1 + s2 - s3 := by grobner
end Go.Proofs.Ytmijjjdedadklag
