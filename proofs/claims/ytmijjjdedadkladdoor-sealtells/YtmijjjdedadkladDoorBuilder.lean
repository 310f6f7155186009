/- The library's contracts on a strings.Builder that the call has made itself, at this program's numbers; and that it stays one where nothing that was there is turned. -/
import Derived.Shelf.Strings.BuilderK
import Derived.Test.YtmijjjdedadkladDoorMem
import Derived.Test.YtmijjjdedadkladDoorChecked
namespace Go.Proofs.YtmijjjdedadkladDoor
open Go.RowKit Go.Sort Go.Shelf
set_option linter.unusedVariables false

theorem atf_below {T e B b : Nat} {p : Value} {bs : List Value} {w w' : World} (h : Lib.BuilderAtF T e B b p bs w) (k : Below w.heap.size w w') : Lib.BuilderAtF T e B b p bs w' := by
  obtain ⟨hB, v, hb, hown, hne⟩ := h
  have lt : ∀ {i : Nat} {o : Obj}, w.heap[i]? = some o → i < w.heap.size := fun h => (Array.getElem?_eq_some_iff.1 h).1
  refine ⟨hB, v, (k.block b (lt hb)).trans hb, ⟨hown.1, ?_⟩, hne⟩
  rcases hown.2 with hn | ⟨g, cap, cur, fz, hv, hbg, hg, rest⟩
  · exact .inl hn
  · exact .inr ⟨g, cap, cur, fz, hv, hbg, (k.block g (lt hg)).trans hg, rest⟩
theorem bld_below {T e B b : Nat} {bs : List Value} {w w' : World} (h : Lib.IsBuilderF T e B b bs w) (k : Below w.heap.size w w') : Lib.IsBuilderF T e B b bs w' :=
  h.elim (fun x => .inl (atf_below x k)) (fun x => .inr (atf_below x k))
end Go.Proofs.YtmijjjdedadkladDoor
