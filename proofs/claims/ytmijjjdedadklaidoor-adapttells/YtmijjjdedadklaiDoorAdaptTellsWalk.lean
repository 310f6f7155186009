/- Proved: stonelaw3.AdaptTells answers true for every three numbers, every two spots, every text and every two seals: any seal that lacks a secret, whether any is right, any filled, and the secret of any two, as the document says. No condition stands behind it but the listed variable. -/
import Derived.Test.YtmijjjdedadklaiDoorAdaptTellsBy
import Derived.Test.YtmijjjdedadklaiDoorAdapt
namespace Go.Proofs.YtmijjjdedadklaiDoor
open Go.RowKit Go.Sort
set_option linter.unusedVariables false
theorem walkAdaptTells (w : World) (x k : Int) (tt : Int × Int × Bool) (t : ByteArray) (kk : Int × Int × Bool) (p s : Int × Int × Bool × Int) (n : Int)
    (_ : (Lit.int .i64 x).wf = true) (_ : (Lit.int .i64 k).wf = true) (_ : (Lit.int .i64 tt.1).wf = true) (_ : (Lit.int .i64 tt.2.1).wf = true) (ht : t.size ≤ maxLen) (_ : (Lit.int .i64 kk.1).wf = true) (_ : (Lit.int .i64 kk.2.1).wf = true) (_ : (Lit.int .i64 p.1).wf = true) (_ : (Lit.int .i64 p.2.1).wf = true) (wp : (Lit.int .i64 p.2.2.2).wf = true) (_ : (Lit.int .i64 s.1).wf = true) (_ : (Lit.int .i64 s.2.1).wf = true) (ws : (Lit.int .i64 s.2.2.2).wf = true) (wn : (Lit.int .i64 n).wf = true) (hd : Door w) :
    Calls Tryd.prog 4 #[.int .i64 x, .int .i64 k, .agg #[.int .i64 tt.1, .int .i64 tt.2.1, .bool tt.2.2], .string t, .agg #[.int .i64 kk.1, .int .i64 kk.2.1, .bool kk.2.2], .agg #[.int .i64 p.1, .int .i64 p.2.1, .bool p.2.2.1, .int .i64 p.2.2.2], .agg #[.int .i64 s.1, .int .i64 s.2.1, .bool s.2.2.1, .int .i64 s.2.2.2], .int .i64 n] w fun e w' => e = .returned (.bool true) ∧ Below w.heap.size w w' :=
  adaptTells_by apre_is acheck_is afill_is afind_is w x k tt t kk p s n ht wp ws wn hd
end Go.Proofs.YtmijjjdedadklaiDoor
