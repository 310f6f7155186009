/- A thing's state in a memory, apart from two blocks of the law's own; what a method leaves of them. Of whatever program. -/
import Derived.Test.YtpkkclcjiobgoajGreatDoorStay
import Derived.Test.YtpkkclcjiobgoajGreatDoorOwn
import Derived.Test.YtpkkclcjiobgoajGreatDoorBookRows
namespace Go.Proofs.YtpkkclcjiobgoajGreatDoor
open Go.RowKit Go.Sort
set_option linter.unusedVariables false
set_option linter.unusedSimpArgs false
/-- A thing's state in a memory, apart from two blocks. -/
def OnJ (S : World → Value → (Nat → Prop) → Prop) (W : World) (v : Value) (A bz bd : Nat) : Prop := ∃ Q, S W v Q ∧ (∀ j, Q j → A ≤ j ∧ j < W.heap.size) ∧ ¬ Q bz ∧ ¬ Q bd ∧ A ≤ W.heap.size ∧ bz < W.heap.size ∧ bd < W.heap.size
/-- These two blocks, and what is below, are as they were. -/
structure Keep (A bz bd : Nat) (W w' : World) : Prop where
  os : w'.os = W.os
  tape : w'.tape = W.tape
  output : w'.output = W.output
  size : W.heap.size ≤ w'.heap.size
  low : ∀ k, k < A → w'.heap[k]? = W.heap[k]?
  z : w'.heap[bz]? = W.heap[bz]?
  d : w'.heap[bd]? = W.heap[bd]?
theorem Keep.below {A bz bd : Nat} {w W w' : World} (h : Keep A bz bd W w') (k : Below A w W) : Below A w w' := k.trans ⟨h.os, h.tape, h.output, h.size, h.low⟩
theorem at_same {W w' : World} {b : Nat} {vs : List Value} (k : At W b vs) (h : w'.heap[b]? = W.heap[b]?) (hs : W.heap.size ≤ w'.heap.size) : At w' b vs :=
  ⟨Nat.lt_of_lt_of_le k.1 hs, fun i hi => (World.cell?_of_block (a := ⟨b, i, none⟩) h).trans (k.2.1 i hi), fun i hi => (World.frozen?_of_block (a := ⟨b, i, none⟩) h).trans (k.2.2 i hi)⟩
theorem Keep.atz {A bz bd : Nat} {W w' : World} {vs : List Value} (h : Keep A bz bd W w') (k : At W bz vs) : At w' bz vs := at_same k h.z h.size
theorem Keep.atd {A bz bd : Nat} {W w' : World} {vs : List Value} (h : Keep A bz bd W w') (k : At W bd vs) : At w' bd vs := at_same k h.d h.size
theorem lnew_int {W : World} {b : Nat} {t : TypeId} (h : W.heap.size = b) : RowI (W.alloc (.cells #[.int .i64 0] t)) b 0 1 (fun _ => 0) := by
  subst h
  refine ⟨by simp, fun i hi => ?_⟩
  obtain rfl : i = 0 := by omega
  simp
theorem onj_new {S : World → Value → (Nat → Prop) → Prop} {W W' : World} {v : Value} {Q : Nat → Prop} {A B bz bd : Nat} (h : S W' v Q) (hQ : ∀ i, Q i → B ≤ i ∧ i < bd) (hz : bz < B) (hd : bd < W'.heap.size) (hA : A ≤ B) (hzd : bz < bd) (hB : B ≤ bd) : OnJ S W' v A bz bd :=
  ⟨Q, h, fun j hj => ⟨Nat.le_trans hA (hQ j hj).1, Nat.lt_trans (hQ j hj).2 hd⟩, (fun e => by have := hQ _ e; omega), (fun e => by have := hQ _ e; omega), by omega, by omega, hd⟩
end Go.Proofs.YtpkkclcjiobgoajGreatDoor
