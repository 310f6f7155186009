/- Proved: stonelaw2.EqualTells answers true for every two numbers, every five spots and every proof: any challenge, any proof that a number is the same, and whether any holds, as the document says. No condition stands behind it. -/
import Derived.Test.YtjdlfkjeblcahahDoorEqualTellsBy
import Derived.Test.YtjdlfkjeblcahahDoorEqual
namespace Go.Proofs.YtjdlfkjeblcahahDoor
open Go.RowKit Go.Sort
set_option linter.unusedVariables false
theorem walkEqualTells (w : World) (x k : Int) (a b c r s : Int × Int × Bool) (p : Int × Int) (hx : (Lit.int .i64 x).wf = true) (hk : (Lit.int .i64 k).wf = true) (_ : (Lit.int .i64 a.1).wf = true) (_ : (Lit.int .i64 a.2.1).wf = true) (_ : (Lit.int .i64 b.1).wf = true) (_ : (Lit.int .i64 b.2.1).wf = true) (_ : (Lit.int .i64 c.1).wf = true) (_ : (Lit.int .i64 c.2.1).wf = true) (_ : (Lit.int .i64 r.1).wf = true) (_ : (Lit.int .i64 r.2.1).wf = true) (_ : (Lit.int .i64 s.1).wf = true) (_ : (Lit.int .i64 s.2.1).wf = true) (hc : (Lit.int .i64 p.1).wf = true) (hs : (Lit.int .i64 p.2).wf = true) (hd : Door w) :
    Calls Tryd.prog 3 #[.int .i64 x, .int .i64 k, .agg #[.int .i64 a.1, .int .i64 a.2.1, .bool a.2.2], .agg #[.int .i64 b.1, .int .i64 b.2.1, .bool b.2.2], .agg #[.int .i64 c.1, .int .i64 c.2.1, .bool c.2.2], .agg #[.int .i64 r.1, .int .i64 r.2.1, .bool r.2.2], .agg #[.int .i64 s.1, .int .i64 s.2.1, .bool s.2.2], .agg #[.int .i64 p.1, .int .i64 p.2]] w fun e w' => e = .returned (.bool true) ∧ Below w.heap.size w w' :=
  equalTells_by eask_is prove_is everify_is w x k a b c r s p hx hk hc hs hd
end Go.Proofs.YtjdlfkjeblcahahDoor
