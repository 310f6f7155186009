/- Between a row's reading and a walk, for arguments of whatever type: behind a call that turned nothing of what was there they read as they did; slices of spots, opened at every place. -/
import Derived.Test.YtgngdabfmbipaakGreatDoorKShell
import Derived.Test.YtgngdabfmbipaakGreatDoorKG2
import Derived.Deep.Slices
import Derived.Carry
import Derived.Test.YtgngdabfmbipaakGreatDoorKG5
import Derived.Test.YtgngdabfmbipaakGreatDoorKG4
namespace Go.Proofs.YtgngdabfmbipaakGreatDoor
open Go.ChangeShapes Go.WideShapes Go.ChangeAt Go.RowKit Go.Joins Go.Deep Go.WideElems

/-- In block b, from o on, lie so many spots in a row. -/
def RowO (w : World) (b o n : Nat) (X Y : Nat → Int) (F : Nat → Bool) : Prop :=
  b < w.heap.size ∧ ∀ i, i < n → w.cell? ⟨b, o + i * 3, none⟩ = some (.int .i64 (X i)) ∧ w.cell? ⟨b, o + i * 3 + 1, none⟩ = some (.int .i64 (Y i)) ∧ w.cell? ⟨b, o + i * 3 + 2, none⟩ = some (.bool (F i))
theorem RowO.below {w w' : World} {b o n B : Nat} {X Y : Nat → Int} {F : Nat → Bool} (h : RowO w b o n X Y F) (hB : b < B) (k : Below B w w') : RowO w' b o n X Y F :=
  ⟨Nat.lt_of_lt_of_le h.1 k.size, fun i hi => by
    obtain ⟨h1, h2, h3⟩ := h.2 i hi
    exact ⟨(k.cell (p := ⟨b, o + i * 3, none⟩) hB).trans h1, (k.cell (p := ⟨b, o + i * 3 + 1, none⟩) hB).trans h2, (k.cell (p := ⟨b, o + i * 3 + 2, none⟩) hB).trans h3⟩⟩

section
variable {H : Type} {enc : TypeId × Value → H} {P : Program} {w : World} {base : Nat} {spare : Nat → Bool} {held : Bool}

theorem args_stay {W W' : World} {sp : Nat → Bool} (hl : laidOutB P = true) (hb : Below W.heap.size W W') :
    ∀ {ts : List TypeId} {vs : List Value} {ds : List (DataW H)} {p : List MemPlace}, (ts.all fun t => P.readableRec t && decide (t < P.types.size)) = true → DataW.TrodAll enc P W 0 (fun _ => true) true ts vs ds p →
      (∀ x ∈ p, x.block < W.heap.size) → (∀ x ∈ p, sp x.block = true) → DataW.TrodAll enc P W' 0 sp true ts vs ds p
  | [], _, _, _, _, h, _, _ => by
    obtain ⟨rfl, rfl, rfl⟩ := trodAll_nil h
    exact trodAll_mk0
  | t :: ts, _, _, _, ht, h, hlt, hsp => by
    obtain ⟨v, vs1, d, ds1, a, b, rfl, rfl, rfl, h1, h2⟩ := trodAll_cons h
    simp only [List.all_cons, Bool.and_eq_true, decide_eq_true_eq] at ht
    exact ⟨a, b, Trod_stays hl ht.1.1 ht.1.2 h1 (fun x hx => hb.same (hlt x (List.mem_append_left _ hx))) (fun x hx => hsp x (List.mem_append_left _ hx)),
      args_stay hl hb ht.2 h2 (fun x hx => hlt x (List.mem_append_right _ hx)) (fun x hx => hsp x (List.mem_append_right _ hx)), rfl⟩

end
end Go.Proofs.YtgngdabfmbipaakGreatDoor

/- What is wrong with a row of spots; curve.CheckAll over one. -/
namespace Go.Proofs.YtgngdabfmbipaakGreatDoor
open Go.RowKit Go.Sort
set_option linter.unusedVariables false
set_option linter.unusedSimpArgs false
/-- What is wrong with a row of spots: that of the first that is wrong. -/
def rowE (X Y : Nat → Int) (F : Nat → Bool) (n : Nat) : Int :=
  match n with
  | 0 => 0
  | n + 1 => bif rowE X Y F n == 0 then ckI (X n) (Y n) (F n) else rowE X Y F n
end Go.Proofs.YtgngdabfmbipaakGreatDoor
