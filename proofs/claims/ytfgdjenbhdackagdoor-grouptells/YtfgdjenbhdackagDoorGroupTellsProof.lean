/- Proved: stonelaw2.GroupTells answers true for every list of spots, every two lists of numbers and every text: the coefficients of any keys, their joint key, and the seal of any that sign together, as the document says. No condition stands behind it. -/
import Derived.Test.YtfgdjenbhdackagDoorRows
import Derived.Test.YtfgdjenbhdackagDoorCards
import Derived.Test.YtfgdjenbhdackagDoorTie
import Derived.Test.YtfgdjenbhdackagDoorLaid
import Derived.Test.YtfgdjenbhdackagDoorGL
import Derived.Test.YtfgdjenbhdackagDoorShell
import Derived.Test.YtfgdjenbhdackagDoorStay
import Derived.SevenTiedAt
import Derived.SizedLaws
import Derived.Test.YtfgdjenbhdackagDoorOpen
namespace Go.Proofs.YtfgdjenbhdackagDoor.groupTells
open Go.ChangeShapes Go.WideShapes Go.ChangeAt Go.RowKit
set_option linter.unusedVariables false
set_option maxRecDepth 100000 in
theorem lifted (os : Os) (started : os.Started) (H : Type) (enc : TypeId × Value → H) :
    ReturnsInHanded {} Tryd.checked os 3 .any (fun w args => (Rows.groupTellsSpec.pre enc Tryd.prog Tryd.f3 [] false w args ∧ laidMetH Tryd.prog laidList w) ∧ sizedMet enc Tryd.prog Tryd.f3 (OpenSpec.ofChange Rows.groupTellsSpec) false w args)
      (Rows.groupTellsSpec.post enc Tryd.prog Tryd.f3 false true false false) := by
  refine returnsInHanded_of_change_and (C := Tryd.checked) (X := fun w _ => laidMetH Tryd.prog laidList w) (fun _ _ _ hh h => h.of_heap hh) Tryd.own started (by kernel_rfl) Tryd.func3
    (ChangeSpec.witness_at (enc := enc) (C := Tryd.checked) (os := os) (X := fun w _ => laidMetH Tryd.prog laidList w) false (let w0 := World.holding Tryd.prog os ⟨#[], #[], []⟩
  { w0 with heap := w0.heap.modify 0 fun
      | .cells _ t frozen => .cells #[.iface 111 (.agg #[.pointer (some ⟨1, 30, none⟩)])] t frozen
      | o => o }) #[.slice none 0 0, .slice none 0 0, .slice none 0 0, .string ⟨#[]⟩] 8 rfl (by kernel_rfl) (by kernel_rfl) (by kernel_rfl) (by kernel_rfl) (by kernel_rfl) (laid_met os _)) ?_
  intro W base args ds gs before hval0 hW _ hsz hL _
  have hval : ∀ (j : Nat) t v, Tryd.f3.params[j]? = some t → args[j]? = some v → Value.okWide Tryd.prog W .any base t v := hval0
  have hW' := hW
  have hlt := hW.lt
  obtain ⟨p, q, hA0, hV, rfl, hfz, hnd⟩ := hW
  have hA : DataW.TrodAll enc Tryd.prog W 0 (fun _ => true) true Tryd.f3.params.toList args.toList ds p := hA0
  rw [Tryd.params3] at hA hval
  obtain ⟨v0, vs0, d0, ds0, p0, q0, hargs, rfl, rfl, h0, r0⟩ := trodAll_cons hA
  obtain ⟨v1, vs1, d1, ds1, p1, q1, rfl, rfl, rfl, h1, r1⟩ := trodAll_cons r0
  obtain ⟨v2, vs2, d2, ds2, p2, q2, rfl, rfl, rfl, h2, r2⟩ := trodAll_cons r1
  obtain ⟨v3, vs3, d3, ds3, p3, q3, rfl, rfl, rfl, h3, r3⟩ := trodAll_cons r2
  obtain ⟨rfl, rfl, rfl⟩ := trodAll_nil r3
  obtain rfl : args = #[v0, v1, v2, v3] := by cases args; simp_all
  obtain ⟨rfl, rfl⟩ : gs = [] ∧ q = [] := by
    have hV1 : DataW.TrodVars enc Tryd.prog W (fun _ => true) [] gs q := hV
    cases gs with
    | nil => exact ⟨rfl, hV1⟩
    | cons g r => exact absurd hV1 (by intro h; cases h)
  obtain ⟨a0, n0, c0, rfl, w0, u0⟩ := open_spots Tryd.underlying22 Tryd.underlying26 (by kernel_rfl) rfl rfl rfl (by kernel_rfl) (by kernel_rfl) (by kernel_rfl) (by kernel_rfl) (by kernel_rfl) (by kernel_rfl) (hval 0 22 v0 rfl rfl) h0
  have k0 : n0 ≤ c0 := room_slice Tryd.underlying22 h0
  obtain ⟨a1, n1, c1, rfl, w1, u1⟩ := open_nums Tryd.underlying23 Tryd.underlying3 (by kernel_rfl) (hval 1 23 v1 rfl rfl) h1
  have z1 : n1 * 8 ≤ reachBytes := by have := len_slice (n := n1) Tryd.underlying23 h1 (fun x hx => by have := List.all_eq_true.1 hsz x (DataW.weights_mem_each (j := 1) (t := 23) (by rw [Tryd.params3]; rfl) rfl x hx); simpa using this); rwa [show Tryd.prog.bytesOf 3 = 8 by kernel_rfl] at this
  have k1 : n1 ≤ c1 := room_slice Tryd.underlying23 h1
  obtain ⟨a2, n2, c2, rfl, w2, u2⟩ := open_nums Tryd.underlying23 Tryd.underlying3 (by kernel_rfl) (hval 2 23 v2 rfl rfl) h2
  have z2 : n2 * 8 ≤ reachBytes := by have := len_slice (n := n2) Tryd.underlying23 h2 (fun x hx => by have := List.all_eq_true.1 hsz x (DataW.weights_mem_each (j := 2) (t := 23) (by rw [Tryd.params3]; rfl) rfl x hx); simpa using this); rwa [show Tryd.prog.bytesOf 3 = 8 by kernel_rfl] at this
  have k2 : n2 ≤ c2 := room_slice Tryd.underlying23 h2
  obtain ⟨a3, rfl, rfl, rfl, w3⟩ := Go.ChangeMaps.open_string Tryd.underlying9 (hval 3 9 v3 rfl rfl) h3
  have z3 : a3.size ≤ reachBytes := by simpa using sized_string hsz (j := 3) (t := 9) (by rw [Tryd.params3]; rfl) rfl
  clear hval0
  have hd := door_of_laid hL
  refine (walkGroupTells W a0 n0 c0 a1 n1 c1 a2 n2 c2 a3 w0 u0 k0 w1 u1 z1 k1 w2 u2 z2 k2 w3 z3 hd).mono fun e W' ⟨he, hg⟩ => ?_
  subst he
  exact ⟨_, rfl, post_of_kp (pv := []) hW' (fun _ _ _ => (trodAll_cons_mk (shut_bool Tryd.underlying4 _) trodAll_mk0))
    (fun sp hsp => args_stay (show laidOutB Tryd.prog = true by kernel_rfl) hg (by kernel_rfl) hA0 (fun x hx => hlt x (List.mem_append_left _ hx)) (fun x hx => hsp x (List.mem_append_left _ hx))) (fun _ _ => rfl) rfl
    (Kp.of_below hg) (ok_one (by kernel_rfl) rfl (okWide_bool_mk Tryd.underlying4 _))⟩
theorem over : Rows.groupTellsRow.holds Tryd.pinned (OpenSpec.ofChange Rows.groupTellsSpec) :=
  OpenClaim.holds_of_wide 3 Tryd.f3 rfl rfl rfl rfl rfl rfl rfl ⟨rfl, rfl, rfl, rfl, rfl⟩ rfl rfl rfl rfl rfl (by kernel_rfl) Tryd.func3 (by kernel_rfl)
    (of_decide_eq_true (by kernel_rfl)) (by unfold Func.isWrapper; first | (rw [if_pos (by decide +kernel)]; kernel_rfl) | (rw [if_neg (by decide +kernel)]; exact ⟨rfl, rfl⟩))
    (fun os started H enc _ => lifted os started H enc)
theorem card : Claim7.holds Tryd.pinned (.plain (OpenSpec.ofChange Rows.groupTellsSpec)) Rows.groupTellsCard :=
  Claim7.holds_tied_plain_at .later [] [.handle] true Rows.groupTellsCard.stood.harness true
    over (fun _ h => by cases h) (by kernel_rfl) (fun _ h => by cases h) groupTells_row_tie rfl ⟨rfl, rfl⟩ (by kernel_rfl) rfl
    (fun f fn hf hfn => by
      obtain rfl : f = 3 := Option.some.inj ((show Tryd.prog.funcNamed Rows.groupTellsRow.func = some 3 by kernel_rfl).symm.trans hf) |>.symm
      obtain rfl : fn = Tryd.f3 := (Option.some.inj (Tryd.func3.symm.trans hfn)).symm
      exact ⟨by kernel_rfl, fun j t ht => by
        rw [Tryd.params3] at ht
        rcases j with _ | _ | _ | _ | j
        · obtain rfl : 22 = t := by simpa using ht
          exact (show Tryd.prog.wantsStandIn 22 = false by kernel_rfl)
        · obtain rfl : 23 = t := by simpa using ht
          exact (show Tryd.prog.wantsStandIn 23 = false by kernel_rfl)
        · obtain rfl : 23 = t := by simpa using ht
          exact (show Tryd.prog.wantsStandIn 23 = false by kernel_rfl)
        · obtain rfl : 9 = t := by simpa using ht
          exact (show Tryd.prog.wantsStandIn 9 = false by kernel_rfl)
        · simp at ht⟩)
    (by kernel_rfl)
end Go.Proofs.YtfgdjenbhdackagDoor.groupTells
namespace Go.Proofs.YtfgdjenbhdackagDoor
theorem groupTells_holds : Rows.GroupTellsCardSaid := groupTells.card
end Go.Proofs.YtfgdjenbhdackagDoor
