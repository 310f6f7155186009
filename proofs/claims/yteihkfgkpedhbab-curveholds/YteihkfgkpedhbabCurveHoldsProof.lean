/- Proved: stonelaw1.CurveHolds answers true for every three spots, right ones and wrong ones: sums are on the curve, either way round, one over the other; what is far adds nothing; one and its turned one are far. No condition stands behind it. -/
import Derived.Test.YteihkfgkpedhbabRows
import Derived.Test.YteihkfgkpedhbabCurveHoldsWalk
import Derived.Test.YteihkfgkpedhbabShell
namespace Go.Proofs.Yteihkfgkpedhbab.curveHolds
open Go.ChangeShapes Go.WideShapes Go.ChangeAt Go.RowKit
set_option linter.unusedVariables false
theorem own : ownKnob Try.prog.godebug = none := by kernel_rfl
set_option maxRecDepth 100000 in
theorem lifted (os : Os) (started : os.Started) (H : Type) (enc : TypeId × Value → H) :
    ReturnsInHanded {} Try.checked os 4 .any (Rows.curveHoldsSpec.pre6 enc Try.prog Try.f4 Rows.curveHoldsRow.domain false) (Rows.curveHoldsSpec.post enc Try.prog Try.f4 false true false false) := by
  refine returnsInHanded_of_change (C := Try.checked) own started (by kernel_rfl) Try.func4
    (ChangeSpec.witness6 (enc := enc) (C := Try.checked) false ⟨#[], #[.agg #[.int .i64 0, .int .i64 0, .bool false], .agg #[.int .i64 0, .int .i64 0, .bool false], .agg #[.int .i64 0, .int .i64 0, .bool false]], []⟩ 8 (by kernel_rfl) (by kernel_rfl) (by kernel_rfl) (by kernel_rfl)) ?_
  intro W base args ds gs before hval0 hW hcnd _
  have hval : ∀ (j : Nat) t v, Try.f4.params[j]? = some t → args[j]? = some v → Value.okWide Try.prog W .any base t v := hval0
  have hW' := hW
  obtain ⟨p, q, hA0, hV, rfl, hfz, hnd⟩ := hW
  have hA : DataW.TrodAll enc Try.prog W 0 (fun _ => true) true Try.f4.params.toList args.toList ds p := hA0
  rw [Try.params4] at hA hval
  obtain ⟨v0, vs0, d0, ds0, p0, q0, hargs, rfl, rfl, h0, r0⟩ := trodAll_cons hA
  obtain ⟨v1, vs1, d1, ds1, p1, q1, rfl, rfl, rfl, h1, r1⟩ := trodAll_cons r0
  obtain ⟨v2, vs2, d2, ds2, p2, q2, rfl, rfl, rfl, h2, r2⟩ := trodAll_cons r1
  obtain ⟨rfl, rfl, rfl⟩ := trodAll_nil r2
  obtain rfl : args = #[v0, v1, v2] := by cases args; simp_all
  obtain ⟨rfl, rfl⟩ := trodVars_none hV
  obtain ⟨a0, b0, c0, rfl, rfl, rfl, w0, u0⟩ := open_iib Try.underlying31 (by kernel_rfl) (by kernel_rfl) Try.underlying3 Try.underlying4 rfl rfl rfl (hval 0 31 v0 rfl rfl) h0
  obtain ⟨a1, b1, c1, rfl, rfl, rfl, w1, u1⟩ := open_iib Try.underlying31 (by kernel_rfl) (by kernel_rfl) Try.underlying3 Try.underlying4 rfl rfl rfl (hval 1 31 v1 rfl rfl) h1
  obtain ⟨a2, b2, c2, rfl, rfl, rfl, w2, u2⟩ := open_iib Try.underlying31 (by kernel_rfl) (by kernel_rfl) Try.underlying3 Try.underlying4 rfl rfl rfl (hval 2 31 v2 rfl rfl) h2
  clear hA0 hval0
  simp only [List.append_nil] at hW'
  refine (walkCurveHolds ⟨a0, b0, c0⟩ ⟨a1, b1, c1⟩ ⟨a2, b2, c2⟩ w0 u0 w1 u1 w2 u2 W).mono fun e W' ⟨he, hg⟩ => ?_
  subst he
  exact ⟨_, rfl, post_of_kp (pa := []) (pv := []) hW' (fun _ _ _ => (trodAll_cons_mk (shut_bool Try.underlying4 _) trodAll_mk0)) (fun sp _ => (trodAll_cons_mk (shut_iib Try.underlying31 (by kernel_rfl) (by kernel_rfl) Try.underlying3 Try.underlying4 rfl rfl rfl w0 u0) (trodAll_cons_mk (shut_iib Try.underlying31 (by kernel_rfl) (by kernel_rfl) Try.underlying3 Try.underlying4 rfl rfl rfl w1 u1) (trodAll_cons_mk (shut_iib Try.underlying31 (by kernel_rfl) (by kernel_rfl) Try.underlying3 Try.underlying4 rfl rfl rfl w2 u2) trodAll_mk0)))) (fun _ _ => rfl) rfl
    hg (ok_one (by kernel_rfl) rfl (okWide_bool_mk Try.underlying4 _))⟩
theorem over : Rows.curveHoldsRow.holds Try.pinned (OpenSpec.ofChange Rows.curveHoldsSpec) :=
  OpenClaim.holds_of_wide 4 Try.f4 rfl rfl rfl rfl rfl rfl rfl ⟨rfl, rfl, rfl, rfl, rfl⟩ rfl rfl rfl rfl rfl (by kernel_rfl) Try.func4 (by kernel_rfl)
    (of_decide_eq_true (by kernel_rfl)) (by unfold Func.isWrapper; first | (rw [if_pos (by decide +kernel)]; kernel_rfl) | (rw [if_neg (by decide +kernel)]; exact ⟨rfl, rfl⟩))
    (fun os started H enc _ => lifted os started H enc)
end Go.Proofs.Yteihkfgkpedhbab.curveHolds
namespace Go.Proofs.Yteihkfgkpedhbab
theorem curveHolds_holds : Rows.CurveHoldsSaid := curveHolds.over
end Go.Proofs.Yteihkfgkpedhbab
