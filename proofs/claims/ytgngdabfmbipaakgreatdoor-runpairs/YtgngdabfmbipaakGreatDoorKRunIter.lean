/- The lines of a text, as package run goes over them (a range over a function). -/
import Derived.Test.YtgngdabfmbipaakGreatDoorKRunLib
import Derived.RangeFuncBox
import Derived.RangeFuncLeaves
import Derived.RangeFuncCalls
import Derived.RangeFuncWrites
import Derived.Shelf.Abstract
import Derived.WalkKit
import Derived.OwnWalkIn
import Derived.TacticsInMore
import Derived.LoopNIn
import Derived.LoopIn
namespace Go.Proofs.YtgngdabfmbipaakGreatDoor
open Go.RowKit Go.Sort Go.Shelf
set_option linter.unusedVariables false
set_option linter.unusedSimpArgs false
attribute [local go_sem] Oper.semAt_some
/-- Whatever is so anywhere is so inside this fence. -/
def RWideF (F : Fence) : Prop := ∀ (n : Nat) (f : FuncId) (args : Array Value) (w : World) (R : Ending → World → Prop), Calls Tryz.prog f args w R → CallsIn F n Tryz.prog f args w R
/-- A line. -/
abbrev LineT := { x : ByteArray // x.size ≤ 3000 }
def strLen (v : Value) : Nat := match v with
  | .string s => s.size
  | _ => 0
theorem strLen_is (s : ByteArray) : strLen (.string s) = s.size := rfl
theorem abides_below {β : Type} {B : Nat} {J : β → World → Prop} (h : AbidesFrom B J) {s : β} {W W' : World} (hs : J s W) (k : Below W.heap.size W W') : J s W' :=
  h s W W' none hs ⟨k.os, k.tape, k.output, k.size, fun i hi _ => k.block i hi⟩ (fun r e => by cases e)
theorem size_zero {s : ByteArray} (h : s.size = 0) : s = ⟨#[]⟩ := by
  apply ByteArray.ext
  exact Array.eq_empty_of_size_eq_zero h
theorem list_full {s : ByteArray} (h : 0 < s.size) : s.toList.isEmpty = false := by
  rw [ByteArray.toList_eq]
  have hl : s.data.toList.length = s.size := Array.length_toList
  cases hd : s.data.toList with
  | nil => rw [hd] at hl; simp at hl; omega
  | cons a r => rfl
set_option maxRecDepth 100000 in
set_option maxHeartbeats 4000000 in
theorem lines_in (F : Fence) (n : Nat) (hf : F.fn 44) (hcu : F.fn 45) (hro : F.round = none) (hn : 1 ≤ n) (hF : RWideF F) (l Bs : Nat) (a : Addr) (t : ByteArray) (ht : t.size ≤ 3000) (J Jx : List LineT → World → Prop) (w0 W : World) (hL : Lie a w0) (hb : Below w0.heap.size w0 W) (hJab : AbidesFrom W.heap.size J)
    (hY : ∀ pre x W1, J pre W1 → pre.length < t.size + 1 → YieldAt F (n - 1) Tryz.prog l #[Value.string x.1] W1 fun e W' =>
      (e = .returned (.bool true) ∧ J (pre ++ [x]) W' ∧ Below w0.heap.size W1 W') ∨ (e = .returned (.bool false) ∧ Jx (pre ++ [x]) W'))
    (hBs : W.cell? ⟨Bs, 0, none⟩ = some (.string t)) (h0 : J [] W) :
    CallsIn F n Tryz.prog 44 #[.func (.yield l) #[] #[], .pointer (some ⟨Bs, 0, none⟩)] W fun e W' => (∃ v, e = .returned v) ∧
      ((∃ xs : List LineT, xs.map (·.1) = linesB t ∧ J xs W') ∨ (∃ pre : List LineT, True ∧ Jx pre W')) := by
  have HF : Hid (RWideF F) := hF
  have HL : Hid (Lie a w0) := hL
  have HJab : Hid (AbidesFrom W.heap.size J) := hJab
  have HY : Hid (∀ pre x W1, J pre W1 → pre.length < t.size + 1 → YieldAt F (n - 1) Tryz.prog l #[Value.string x.1] W1 fun e W' =>
      (e = .returned (.bool true) ∧ J (pre ++ [x]) W' ∧ Below w0.heap.size W1 W') ∨ (e = .returned (.bool false) ∧ Jx (pre ++ [x]) W')) := hY
  clear hF hL hJab hY
  refine callsIn_of_wp Tryz.func44 rfl hf ?_ hro
  simp only [Tryz.ntmps44, List.size_toArray, List.length_cons, List.length_nil, Nat.reduceAdd, Nat.reduceSub, Array.replicate_succ, Array.replicate_zero, List.push_toArray, List.append_toArray, List.nil_append, List.cons_append]
  gi_wp2
  gi_loopw [3] (fun v wr => ∃ (pre : List LineT) (rest : ByteArray), v = .string rest ∧ pre.map (·.1) ++ linesB rest = linesB t ∧ pre.length + rest.size ≤ t.size ∧ J pre wr ∧ Below w0.heap.size w0 wr) (fun v _ => strLen v)
  case atStart => exact ⟨[], t, rfl, rfl, by simp, h0, hb⟩
  case round =>
    obtain ⟨pre, rest, rfl, hlin, hlen, hJs, hbr⟩ := hrel
    have HJs : Hid (J pre wr) := hJs
    have HLN : Hid (pre.map (·.1) ++ linesB rest = linesB t) := hlin
    clear hJs hlin h0
    by_cases hz : rest.size = 0
    · obtain rfl := size_zero hz
      gi_wp2
      go_end0
      exact ⟨⟨_, rfl⟩, .inl ⟨pre, by have := HLN.out; rwa [show linesB ⟨#[]⟩ = [] from rfl, List.append_nil] at this, HJs.out⟩⟩
    · obtain ⟨u, v, h1, h2, h3, h4, h5⟩ := cut_lines (s := rest) (by omega)
      have hne := list_full (s := rest) (by omega)
      have HU : Hid (linesB rest = u :: linesB v) := h3
      have hu : u.size ≤ 3000 := by omega
      have HC : Hid (Calls Tryz.prog 45 #[.string rest, .string ⟨#[10]⟩] wr fun e w' => (∃ b, e = .returned (.tuple #[.string u, .string v, .bool b])) ∧ Below wr.heap.size wr w') := cut_line h1 h2 a wr (HL.out.below hbr) (by omega)
      clear h1 h2 h3
      gi_wp2_with (gi_at_call 45; refine (HF.out _ _ _ _ _ HC.out).mono ?_; rintro e w1 ⟨⟨bb, rfl⟩, hb1⟩; have hJ1 := abides_below HJab.out HJs.out hb1; have hbr1 : Below w0.heap.size w0 w1 := bl_call hbr hb1 hbr.size; obtain ⟨fn, tmps, assign, body, hy, hR⟩ := HY.out pre ⟨u, hu⟩ w1 hJ1 (by omega); dsimp only at hy; clear hb1 hJ1)
      refine hR.mono ?_
      rintro e W3 (⟨rfl, hJ3, hk3⟩ | ⟨rfl, hJx3⟩)
      · gi_wp2
        go_roundw
        case rel => exact ⟨pre ++ [⟨u, hu⟩], v, rfl, by rw [List.map_append, ← HLN.out, HU.out, List.append_assoc]; rfl, by rw [List.length_append]; show pre.length + 1 + _ ≤ _; omega, hJ3, hbr1.trans hk3⟩
        case measure => simp [strLen_is]; omega
      · gi_wp2
        refine bodyPost_ret (results_none rfl _ _ _) rfl ?_
        exact ⟨⟨_, rfl⟩, .inr ⟨_, trivial, hJx3⟩⟩
theorem lines_stops (F : Fence) (n : Nat) (hf : F.fn 44) (hcu : F.fn 45) (hro : F.round = none) (hn : 1 ≤ n) (hF : RWideF F) (Bs : Nat) (a : Addr) (t : ByteArray) (ht : t.size ≤ 3000) (w0 w : World) (hL : Lie a w0) (hb : Below w0.heap.size w0 w) (hBs : Bs < w.heap.size) (hc : w.cell? ⟨Bs, 0, none⟩ = some (.string t)) :
    SeqStopsK F n Tryz.prog 44 #[.pointer (some ⟨Bs, 0, none⟩)] (fun x : LineT => #[Value.string x.1]) (Below w0.heap.size) (fun xs => xs.map (·.1) = linesB t) (fun _ => True) (t.size + 1) w := fun l J Jx W hW hJ _ hY h0 =>
  lines_in F n hf hcu hro hn hF l Bs a t ht J Jx w0 W hL (bl_call hb hW hb.size) hJ hY ((hW.cell (p := ⟨Bs, 0, none⟩) hBs).trans hc) h0
set_option maxRecDepth 100000 in
set_option maxHeartbeats 4000000 in
theorem lines_is (F : Fence) (n : Nat) (hf : F.fn 13) (hro : F.round = none) (t : ByteArray) (w : World) :
    CallsIn F n Tryz.prog 13 #[.string t] w fun e w' => e = .returned (.func (.func 44) #[] #[.pointer (some ⟨w.heap.size, 0, none⟩)]) ∧ w' = w.alloc (.cells #[.string t] 9) := by
  refine callsIn_of_wp Tryz.func13 rfl hf ?_ hro
  simp only [Tryz.ntmps13, List.size_toArray, List.length_cons, List.length_nil, Nat.reduceAdd, Nat.reduceSub, Array.replicate_succ, Array.replicate_zero, List.push_toArray, List.append_toArray, List.nil_append, List.cons_append]
  gi_wp2
  go_ret
  exact ⟨rfl, rfl⟩
end Go.Proofs.YtgngdabfmbipaakGreatDoor
