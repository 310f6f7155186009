/- Proved: stonelaw3.LogKeeps answers true for every list of spots, every list of deals and every three lists of numbers: behind a crash there is the book of as many deals as are whole among the bytes that are left; what stopped did nothing. No condition stands behind it but the listed variables. -/
import Derived.Test.YtpkkclcjiobgoajGreatDoorRows
import Derived.Test.YtpkkclcjiobgoajGreatDoorCards
import Derived.Test.YtpkkclcjiobgoajGreatDoorTie
import Derived.Test.YtpkkclcjiobgoajGreatDoorKA
import Derived.Test.YtpkkclcjiobgoajGreatDoorKN
import Derived.SevenTiedAt
import Derived.Test.YtpkkclcjiobgoajGreatDoorKG
namespace Go.Proofs.YtpkkclcjiobgoajGreatDoor.logKeeps
open Go.ChangeShapes Go.WideShapes Go.ChangeAt Go.RowKit
set_option linter.unusedVariables false
set_option maxRecDepth 100000 in
theorem lifted (os : Os) (started : os.Started) (H : Type) (enc : TypeId × Value → H) :
    ReturnsInHanded {} Tryz.checked os 5 .any (fun w args => (Rows.logKeepsSpec.pre enc Tryz.prog Tryz.f5 [] false w args ∧ laidMetH Tryz.prog laidList w) ∧ sizedMet enc Tryz.prog Tryz.f5 (OpenSpec.ofChange Rows.logKeepsSpec) false w args)
      (Rows.logKeepsSpec.post enc Tryz.prog Tryz.f5 false true false false) := by
  refine returnsInHanded_of_change_and (C := Tryz.checked) (X := fun w _ => laidMetH Tryz.prog laidList w) (fun _ _ _ hh h => h.of_heap hh) Tryz.own started (by kernel_rfl) Tryz.func5
    (ChangeSpec.witness_at (enc := enc) (C := Tryz.checked) (os := os) (X := fun w _ => laidMetH Tryz.prog laidList w) false (let w0 := World.holding Tryz.prog os ⟨#[], #[], []⟩
  { w0 with heap := w0.heap.modify 0 fun
      | .cells _ t frozen => .cells #[.iface 153 (.agg #[.pointer (some ⟨1, 29, none⟩)])] t frozen
      | o => o }) #[.slice none 0 0, .slice none 0 0, .slice none 0 0, .slice none 0 0, .slice none 0 0] 8 rfl (by kernel_rfl) (by kernel_rfl) (by kernel_rfl) (by kernel_rfl) (by kernel_rfl) (laid_met os _)) ?_
  intro W base args ds gs before hval0 hW _ _ hL _
  have hval : ∀ (j : Nat) t v, Tryz.f5.params[j]? = some t → args[j]? = some v → Value.okWide Tryz.prog W .any base t v := hval0
  have hW' := hW
  have hlt := hW.lt
  obtain ⟨p, q, hA0, hV, rfl, hfz, hnd⟩ := hW
  have hA : DataW.TrodAll enc Tryz.prog W 0 (fun _ => true) true Tryz.f5.params.toList args.toList ds p := hA0
  rw [Tryz.params5] at hA hval
  obtain ⟨v0, vs0, d0, ds0, p0, q0, hargs, rfl, rfl, h0, r0⟩ := trodAll_cons hA
  obtain ⟨v1, vs1, d1, ds1, p1, q1, rfl, rfl, rfl, h1, r1⟩ := trodAll_cons r0
  obtain ⟨v2, vs2, d2, ds2, p2, q2, rfl, rfl, rfl, h2, r2⟩ := trodAll_cons r1
  obtain ⟨v3, vs3, d3, ds3, p3, q3, rfl, rfl, rfl, h3, r3⟩ := trodAll_cons r2
  obtain ⟨v4, vs4, d4, ds4, p4, q4, rfl, rfl, rfl, h4, r4⟩ := trodAll_cons r3
  obtain ⟨rfl, rfl, rfl⟩ := trodAll_nil r4
  obtain rfl : args = #[v0, v1, v2, v3, v4] := by cases args; simp_all
  obtain ⟨rfl, rfl⟩ : gs = [] ∧ q = [] := by
    have hV1 : DataW.TrodVars enc Tryz.prog W (fun _ => true) [] gs q := hV
    cases gs with
    | nil => exact ⟨rfl, hV1⟩
    | cons g r => exact absurd hV1 (by intro h; cases h)
  obtain ⟨a0, n0, c0, rfl, w0, u0⟩ := open_spots Tryz.underlying22 Tryz.underlying25 (by kernel_rfl) rfl rfl rfl (by kernel_rfl) (by kernel_rfl) (by kernel_rfl) (by kernel_rfl) (by kernel_rfl) (by kernel_rfl) (hval 0 22 v0 rfl rfl) h0
  have k0 : n0 ≤ c0 := room_slice Tryz.underlying22 h0
  have q0 : a0 = none → c0 = 0 := nil_slice Tryz.underlying22 h0
  obtain ⟨a1, n1, c1, rfl, w1, u1⟩ := open_deals Tryz.underlying23 (by kernel_rfl) Tryz.underlying50 rfl rfl rfl (by kernel_rfl) (by kernel_rfl) (by kernel_rfl) Tryz.underlying48 Tryz.underlying3 (by kernel_rfl) Tryz.underlying22 Tryz.underlying25 (by kernel_rfl) rfl rfl rfl (by kernel_rfl) (by kernel_rfl) (by kernel_rfl) Tryz.underlying3 Tryz.underlying3 Tryz.underlying4 Tryz.underlying35 rfl rfl (by kernel_rfl) (by kernel_rfl) Tryz.underlying25 Tryz.underlying3 (hval 1 23 v1 rfl rfl) h1
  obtain ⟨a2, n2, c2, rfl, w2, u2⟩ := open_nums Tryz.underlying48 Tryz.underlying3 (by kernel_rfl) (hval 2 48 v2 rfl rfl) h2
  have k2 : n2 ≤ c2 := room_slice Tryz.underlying48 h2
  obtain ⟨a3, n3, c3, rfl, w3, u3⟩ := open_nums Tryz.underlying48 Tryz.underlying3 (by kernel_rfl) (hval 3 48 v3 rfl rfl) h3
  have k3 : n3 ≤ c3 := room_slice Tryz.underlying48 h3
  obtain ⟨a4, n4, c4, rfl, w4, u4⟩ := open_nums Tryz.underlying48 Tryz.underlying3 (by kernel_rfl) (hval 4 48 v4 rfl rfl) h4
  have k4 : n4 ≤ c4 := room_slice Tryz.underlying48 h4
  clear hval0
  have hd := door_of_laid hL
  refine (walkLogKeeps W a0 n0 c0 a1 n1 c1 a2 n2 c2 a3 n3 c3 a4 n4 c4 w0 u0 k0 q0 w1 u1 w2 u2 k2 w3 u3 k3 w4 u4 k4 hd).mono fun e W' ⟨he, hg⟩ => ?_
  subst he
  exact ⟨_, rfl, post_of_kp (pv := []) hW' (fun _ _ _ => (trodAll_cons_mk (shut_bool Tryz.underlying4 _) trodAll_mk0))
    (fun sp hsp => args_stay (show laidOutB Tryz.prog = true by kernel_rfl) hg (by kernel_rfl) hA0 (fun x hx => hlt x (List.mem_append_left _ hx)) (fun x hx => hsp x (List.mem_append_left _ hx))) (fun _ _ => rfl) rfl
    (Kp.of_below hg) (ok_one (by kernel_rfl) rfl (okWide_bool_mk Tryz.underlying4 _))⟩
theorem over : Rows.logKeepsRow.holds Tryz.pinned (OpenSpec.ofChange Rows.logKeepsSpec) :=
  OpenClaim.holds_of_wide 5 Tryz.f5 rfl rfl rfl rfl rfl rfl rfl ⟨rfl, rfl, rfl, rfl, rfl⟩ rfl rfl rfl rfl rfl (by kernel_rfl) Tryz.func5 (by kernel_rfl)
    (of_decide_eq_true (by kernel_rfl)) (by unfold Func.isWrapper; first | (rw [if_pos (by decide +kernel)]; kernel_rfl) | (rw [if_neg (by decide +kernel)]; exact ⟨rfl, rfl⟩))
    (fun os started H enc _ => lifted os started H enc)
theorem card : Claim7.holds Tryz.pinned (.plain (OpenSpec.ofChange Rows.logKeepsSpec)) Rows.logKeepsCard :=
  Claim7.holds_tied_plain_at .later [] [.handle] true Rows.logKeepsCard.stood.harness true
    over (fun _ h => by cases h) (by kernel_rfl) (fun _ h => by cases h) logKeeps_row_tie rfl ⟨rfl, rfl⟩ (by kernel_rfl) rfl
    (fun f fn hf hfn => by
      obtain rfl : f = 5 := Option.some.inj ((show Tryz.prog.funcNamed Rows.logKeepsRow.func = some 5 by kernel_rfl).symm.trans hf) |>.symm
      obtain rfl : fn = Tryz.f5 := (Option.some.inj (Tryz.func5.symm.trans hfn)).symm
      exact ⟨by kernel_rfl, fun j t ht => by
        rw [Tryz.params5] at ht
        rcases j with _ | _ | _ | _ | _ | j
        · obtain rfl : 22 = t := by simpa using ht
          exact (show Tryz.prog.wantsStandIn 22 = false by kernel_rfl)
        · obtain rfl : 23 = t := by simpa using ht
          exact (show Tryz.prog.wantsStandIn 23 = false by kernel_rfl)
        · obtain rfl : 48 = t := by simpa using ht
          exact (show Tryz.prog.wantsStandIn 48 = false by kernel_rfl)
        · obtain rfl : 48 = t := by simpa using ht
          exact (show Tryz.prog.wantsStandIn 48 = false by kernel_rfl)
        · obtain rfl : 48 = t := by simpa using ht
          exact (show Tryz.prog.wantsStandIn 48 = false by kernel_rfl)
        · simp at ht⟩)
    (by kernel_rfl)
end Go.Proofs.YtpkkclcjiobgoajGreatDoor.logKeeps
namespace Go.Proofs.YtpkkclcjiobgoajGreatDoor
theorem logKeeps_holds : Rows.LogKeepsCardSaid := logKeeps.card
end Go.Proofs.YtpkkclcjiobgoajGreatDoor
