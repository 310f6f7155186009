/- The sum of three spots of the curve, the middle one (3, 156), where no two of those that are summed have the same place: both ways give the same. Nothing of the program stands in here. -/
namespace Go.Proofs.Ytljmfcpighfmoac
set_option maxRecDepth 100000
set_option linter.unusedVariables false
def pX (x1 y1 _x2 _y2 : Fin 4051) : Fin 4051 := ((((3)) * x1 + (10)) * x1 + (3)) + ((3739)) * y1
def pY (x1 y1 _x2 _y2 : Fin 4051) : Fin 4051 := (((((156)) * x1 + (1404)) * x1 + (468)) * x1 + (468)) + (((4023)) * x1 + (4015)) * y1
def pD (x1 y1 x2 y2 : Fin 4051) : Fin 4051 := (((((4050) * x2 + 3)) * x1 + ((6) * x2 + 10)) * x1 + ((4042) * x2 + 3)) + ((3739)) * y1
def pS (x1 y1 x2 y2 : Fin 4051) : Fin 4051 := ((((((((1) * x2 + 4045) * x2 + 9)) * x1 + (((4039) * x2 + 16) * x2 + 180)) * x1 + (((54) * x2 + 60) * x2 + 118)) * x1 + (((3943) * x2 + 3907) * x2 + 180)) * x1 + (((81) * x2 + 3997) * x2 + 9)) + (((((624) * x2 + 2179)) * x1 + ((307) * x2 + 1862)) * x1 + ((1565) * x2 + 2179)) * y1
def pC (x1 y1 x2 y2 : Fin 4051) : Fin 4051 := (((((((((((4050) * x2 + 9) * x2 + 4024) * x2 + 27)) * x1 + ((((18) * x2 + 3973) * x2 + 3673) * x2 + 1350)) * x1 + ((((3916) * x2 + 135) * x2 + 2643) * x2 + 530)) * x1 + ((((540) * x2 + 540) * x2 + 775) * x2 + 3700)) * x1 + ((((2836) * x2 + 2026) * x2 + 27) * x2 + 530)) * x1 + ((((1458) * x2 + 1458) * x2 + 3404) * x2 + 1350)) * x1 + ((((3322) * x2 + 729) * x2 + 3808) * x2 + 27)) + ((((((((3115) * x2 + 1565) * x2 + 3729)) * x1 + (((3130) * x2 + 1228) * x2 + 3624)) * x1 + (((2119) * x2 + 554) * x2 + 2980)) * x1 + (((3864) * x2 + 1101) * x2 + 3624)) * x1 + (((1153) * x2 + 1932) * x2 + 3729)) * y1
def pM (x1 y1 x2 y2 : Fin 4051) : Fin 4051 := ((((((((3) * x2 + 10) * x2 + 3)) * x1 + (((4043) * x2 + 168) * x2 + 4043)) * x1 + (((4021) * x2 + 172) * x2 + 4021)) * x1 + (((72) * x2 + 72) * x2 + 72)) * x1 + (((27) * x2 + 90) * x2 + 27)) + ((((((3739) * x2 + 2179) * x2 + 3739)) * x1 + (((1872) * x2 + 1862) * x2 + 1872)) * x1 + (((1243) * x2 + 2179) * x2 + 1243)) * y1 + ((((((3739)) * x1 + (2179)) * x1 + (3437)) * x1 + (1872)) * x1 + (2808)) * y2 + ((((56)) * x1 + (3955)) * x1 + (3835)) * (y1 * y2)
def pN (x1 y1 x2 y2 : Fin 4051) : Fin 4051 := (((((((((((3895) * x2 + 2647) * x2 + 3583) * x2 + 3583)) * x1 + (((1198) * x2) * x2 + 3100)) * x1 + ((((3905) * x2 + 528) * x2 + 3613) * x2 + 176)) * x1 + ((((2456) * x2 + 854) * x2 + 3317) * x2 + 1635)) * x1 + ((((1127) * x2 + 1861) * x2 + 3381) * x2 + 3321)) * x1 + (((1745) * x2) * x2 + 1932)) * x1 + ((((483) * x2 + 483) * x2 + 1449) * x2 + 161)) + (((((((((28) * x2 + 432) * x2 + 84) * x2 + 144)) * x1 + ((((3835) * x2 + 1488) * x2 + 3403) * x2 + 496)) * x1 + ((((432) * x2 + 1622) * x2 + 1296) * x2 + 1891)) * x1 + ((((216) * x2 + 3350) * x2 + 648) * x2 + 2467)) * x1 + ((((3079) * x2 + 1459) * x2 + 1135) * x2 + 3187)) * y1 + (((((((((28) * x2 + 36)) * x1 + ((360) * x2 + 1272)) * x1 + ((1543) * x2 + 665)) * x1 + ((2736) * x2 + 189)) * x1 + ((1188) * x2 + 2556)) * x1 + ((3240) * x2 + 2808)) * x1 + ((972) * x2 + 756)) * y2 + (((((((2486) * x2 + 2793)) * x1 + ((2823) * x2 + 2703)) * x1 + ((3497) * x2 + 1048)) * x1 + ((2950) * x2 + 3437)) * x1 + ((2119) * x2 + 831)) * (y1 * y2)

set_option maxHeartbeats 4000000 in
theorem pS_eq (x1 y1 x2 y2 : Fin 4051) (c1 : y1 * y1 = x1 * x1 * x1 + x1) (c2 : y2 * y2 = x2 * x2 * x2 + x2) : pD x1 y1 x2 y2 * pD x1 y1 x2 y2 = pS x1 y1 x2 y2 := by
  unfold pD pS; grobner (ringSteps := 10000000)
set_option maxHeartbeats 4000000 in
theorem pC_eq (x1 y1 x2 y2 : Fin 4051) (c1 : y1 * y1 = x1 * x1 * x1 + x1) (c2 : y2 * y2 = x2 * x2 * x2 + x2) : pS x1 y1 x2 y2 * pD x1 y1 x2 y2 = pC x1 y1 x2 y2 := by
  unfold pS pD pC; grobner (ringSteps := 10000000)
set_option maxHeartbeats 4000000 in
theorem pM_eq (x1 y1 x2 y2 : Fin 4051) (c1 : y1 * y1 = x1 * x1 * x1 + x1) (c2 : y2 * y2 = x2 * x2 * x2 + x2) :
    (pY x1 y1 x2 y2 - y2 * ((x1 - 3) * (x1 - 3) * (x1 - 3))) * (pY x1 y1 x2 y2 - y2 * ((x1 - 3) * (x1 - 3) * (x1 - 3))) - (pX x1 y1 x2 y2 + x2 * ((x1 - 3) * (x1 - 3))) * pS x1 y1 x2 y2 = (x1 - 3) * (x1 - 3) * pM x1 y1 x2 y2 := by
  unfold pY pX pS pM; grobner (ringSteps := 10000000)
set_option maxHeartbeats 4000000 in
theorem pN_eq (x1 y1 x2 y2 : Fin 4051) (c1 : y1 * y1 = x1 * x1 * x1 + x1) (c2 : y2 * y2 = x2 * x2 * x2 + x2) :
    (pY x1 y1 x2 y2 - y2 * ((x1 - 3) * (x1 - 3) * (x1 - 3))) * (x2 * pS x1 y1 x2 y2 - pM x1 y1 x2 y2) - y2 * (x1 - 3) * pC x1 y1 x2 y2 = (x1 - 3) * pN x1 y1 x2 y2 := by
  unfold pY pS pM pC pN; grobner (ringSteps := 10000000)
set_option maxHeartbeats 4000000 in
theorem both_x (x1 y1 x2 y2 : Fin 4051) (c1 : y1 * y1 = x1 * x1 * x1 + x1) (c2 : y2 * y2 = x2 * x2 * x2 + x2) : pM x1 y1 x2 y2 * pS x2 y2 x1 y1 = pM x2 y2 x1 y1 * pS x1 y1 x2 y2 := by
  unfold pM pS; grobner (ringSteps := 10000000)
set_option maxHeartbeats 4000000 in
theorem both_y (x1 y1 x2 y2 : Fin 4051) (c1 : y1 * y1 = x1 * x1 * x1 + x1) (c2 : y2 * y2 = x2 * x2 * x2 + x2) : pN x1 y1 x2 y2 * pC x2 y2 x1 y1 = pN x2 y2 x1 y1 * pC x1 y1 x2 y2 := by
  unfold pN pC; grobner (ringSteps := 10000000)
end Go.Proofs.Ytljmfcpighfmoac
