/- Proved: stonelaw1.CurveTells answers true for every two spots and every place: what is wrong with any spot, the one at any place, any turned, and the sum of any two. No condition stands behind it but the listed variable. -/
import Derived.Test.YteihkfgkpedhbabDoorCurveTellsF
import Derived.Test.YteihkfgkpedhbabDoorCurveTellsB
import Derived.Test.YteihkfgkpedhbabDoorCurveTellsG
namespace Go.Proofs.YteihkfgkpedhbabDoor
open Go.RowKit Go.Sort
set_option linter.unusedVariables false
set_option linter.unusedSimpArgs false

theorem walkCurveTells (a b : Int × Int × Bool) (x : Int) (w0 : (Lit.int .i64 a.1).wf = true) (u0 : (Lit.int .i64 a.2.1).wf = true) (w1 : (Lit.int .i64 b.1).wf = true) (u1 : (Lit.int .i64 b.2.1).wf = true) (w2 : (Lit.int .i64 x).wf = true) (w : World) (hd : Door w) :
    Calls Tryd.prog 3 #[.agg #[.int .i64 a.1, .int .i64 a.2.1, .bool a.2.2], .agg #[.int .i64 b.1, .int .i64 b.2.1, .bool b.2.2], .int .i64 x] w fun e w' => e = .returned (.bool true) ∧ Kp w w' := by
  obtain ⟨x1, y1, f1⟩ := a
  obtain ⟨x2, y2, f2⟩ := b
  simp only
  cases h1 : ckI x1 y1 f1 == 0
  · by_cases a1 : x < 0
    · exact tellsF_lo x1 y1 f1 x2 y2 f2 x h1 a1 w hd
    by_cases a2 : 4051 ≤ x
    · exact tellsF_hi x1 y1 f1 x2 y2 f2 x h1 (by omega) a2 w hd
    cases hr : rtOk (sqI x)
    · exact tellsF_no x1 y1 f1 x2 y2 f2 x h1 (by omega) (by omega) hr w hd
    · exact tellsF_yes x1 y1 f1 x2 y2 f2 x h1 (by omega) (by omega) hr w hd
  have h1' : ckI x1 y1 f1 = 0 := by simpa using h1
  obtain ⟨i, _, rfl, rfl, rfl⟩ := ckI_tN h1'
  cases h2 : ckI x2 y2 f2 == 0
  · by_cases a1 : x < 0
    · exact tellsB_lo i x2 y2 f2 x h2 a1 w hd
    by_cases a2 : 4051 ≤ x
    · exact tellsB_hi i x2 y2 f2 x h2 (by omega) a2 w hd
    cases hr : rtOk (sqI x)
    · exact tellsB_no i x2 y2 f2 x h2 (by omega) (by omega) hr w hd
    · exact tellsB_yes i x2 y2 f2 x h2 (by omega) (by omega) hr w hd
  have h2' : ckI x2 y2 f2 = 0 := by simpa using h2
  obtain ⟨j, _, rfl, rfl, rfl⟩ := ckI_tN h2'
  by_cases a1 : x < 0
  · exact tellsG_lo i j x a1 w hd
  by_cases a2 : 4051 ≤ x
  · exact tellsG_hi i j x (by omega) a2 w hd
  cases hr : rtOk (sqI x)
  · exact tellsG_no i j x (by omega) (by omega) hr w hd
  · exact tellsG_yes i j x (by omega) (by omega) hr w hd
end Go.Proofs.YteihkfgkpedhbabDoor
