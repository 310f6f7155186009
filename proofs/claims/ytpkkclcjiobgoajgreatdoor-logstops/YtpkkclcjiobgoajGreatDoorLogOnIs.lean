/- Methods of a log beside two blocks of the law's own. -/
import Derived.Test.YtpkkclcjiobgoajGreatDoorLogOn
import Derived.Test.YtpkkclcjiobgoajGreatDoorLogIs
namespace Go.Proofs.YtpkkclcjiobgoajGreatDoor
open Go.RowKit Go.Sort
set_option linter.unusedVariables false
set_option linter.unusedSimpArgs false
section
variable (PL : World → Value → (Nat → Prop) → LogS → Prop)
theorem onj_done {S' : World → Value → (Nat → Prop) → Prop} {W w' : World} {v : Value} {Q : Nat → Prop} {A bz bd : Nat} {s' : LogS} (hO : PLok PL) (hA : ∀ j, Q j → A ≤ j ∧ j < W.heap.size) (n1 : ¬ Q bz) (n2 : ¬ Q bd) (hw : A ≤ W.heap.size) (l1 : bz < W.heap.size) (l2 : bd < W.heap.size) (h : PLdone PL W w' v Q s') (hS : ∀ Q', PL w' v Q' s' → S' w' v Q') : OnJ S' w' v A bz bd ∧ Keep A bz bd W w' := by
  obtain ⟨hb, Q', hp, hq⟩ := h
  have hs := hb.size
  refine ⟨⟨Q', hS Q' hp, fun j hj => ⟨?_, hO.lt hp j hj⟩, ?_, ?_, by omega, by omega, by omega⟩, hb.os, hb.tape, hb.output, hs, fun k hk => hb.block k (by omega) (fun e => by have := hA k e; omega), hb.block bz l1 n1, hb.block bd l2 n2⟩
  · rcases hq j hj with e | e
    · exact (hA j e).1
    · omega
  · intro e
    rcases hq _ e with e | e
    · exact n1 e
    · omega
  · intro e
    rcases hq _ e with e | e
    · exact n2 e
    · omega
theorem onj_read {S : World → Value → (Nat → Prop) → Prop} {W w' : World} {v : Value} {A bz bd : Nat} (hst : ∀ Q, S W v Q → S w' v Q) (h : OnJ S W v A bz bd) (hb : Below W.heap.size W w') : OnJ S w' v A bz bd ∧ Keep A bz bd W w' := by
  obtain ⟨Q, hp, hA, n1, n2, hw, l1, l2⟩ := h
  have hs := hb.size
  exact ⟨⟨Q, hst Q hp, fun j hj => ⟨(hA j hj).1, by have := (hA j hj).2; omega⟩, n1, n2, by omega, by omega, by omega⟩, hb.os, hb.tape, hb.output, hs, fun k hk => hb.block k (by omega), hb.block bz l1, hb.block bd l2⟩
theorem pl_up (hO : PLok PL) {W W' : World} {v : Value} {Q : Nat → Prop} {s : LogS} (h : PL W v Q s) (hb : Below W.heap.size W W') : PL W' v Q s := hO.stay h (But.of_below (fun _ => False) hb) fun _ _ e => e
theorem lwf {v : Int} (h0 : 0 ≤ v) (h1 : v < 10000) : (Lit.int .i64 v).wf = true := by
  show (decide (_ ≤ v) && decide (v ≤ _)) = true
  rw [Bool.and_eq_true, decide_eq_true_eq, decide_eq_true_eq]
  exact ⟨Int.le_trans (by decide) h0, Int.le_trans (Int.le_of_lt h1) (by decide)⟩
theorem t_wf {T : Sn} (h : okS T = true) : (Lit.int .i64 (T.1 : Int)).wf = true ∧ (Lit.int .i64 (T.2.1 : Int)).wf = true := by
  obtain ⟨h1, h2⟩ := ok_small h
  exact ⟨lwf (by omega) (by omega), lwf (by omega) (by omega)⟩
theorem tz_wf {T : Sn} {z : Nat} (hT : T = tM (4 * clR 1)) (hz : z = clS 0 1 0) : (Lit.int .i64 (T.1 : Int)).wf = true ∧ (Lit.int .i64 (T.2.1 : Int)).wf = true ∧ (Lit.int .i64 (z : Int)).wf = true := by
  have h1 := tM_ok (4 * clR 1)
  rw [← hT] at h1
  have h2 := clS_lt 0 1 0
  rw [← hz] at h2
  exact ⟨(t_wf h1).1, (t_wf h1).2, lwf (by omega) (by omega)⟩
end
end Go.Proofs.YtpkkclcjiobgoajGreatDoor
