/- The library's contracts on a strings.Builder that the call has made itself, at this program's numbers; and that it stays one where nothing that was there is turned. -/
import Derived.Shelf.Strings.BuilderK
import Derived.Test.YtgngdabfmbipaakGreatDoorKG2
import Derived.Test.YtgngdabfmbipaakGreatDoorChecked
namespace Go.Proofs.YtgngdabfmbipaakGreatDoor
open Go.RowKit Go.Sort Go.Shelf
set_option linter.unusedVariables false

theorem atf_below {T e B b : Nat} {p : Value} {bs : List Value} {w w' : World} (h : Lib.BuilderAtF T e B b p bs w) (k : Below w.heap.size w w') : Lib.BuilderAtF T e B b p bs w' := by
  obtain ⟨hB, v, hb, hown, hne⟩ := h
  have lt : ∀ {i : Nat} {o : Obj}, w.heap[i]? = some o → i < w.heap.size := fun h => (Array.getElem?_eq_some_iff.1 h).1
  refine ⟨hB, v, (k.block b (lt hb)).trans hb, ⟨hown.1, ?_⟩, hne⟩
  rcases hown.2 with hn | ⟨g, cap, cur, fz, hv, hbg, hg, rest⟩
  · exact .inl hn
  · exact .inr ⟨g, cap, cur, fz, hv, hbg, (k.block g (lt hg)).trans hg, rest⟩
theorem bld_below {T e B b : Nat} {bs : List Value} {w w' : World} (h : Lib.IsBuilderF T e B b bs w) (k : Below w.heap.size w w') : Lib.IsBuilderF T e B b bs w' :=
  h.elim (fun x => .inl (atf_below x k)) (fun x => .inr (atf_below x k))
def bren : Ren := ⟨fun | 166 => 14 | 167 => 0 | 169 => 16 | 240 => 46 | 276 => 86 | n => n, fun | 0 => 0 | 3 => 3 | 4 => 4 | 5 => 5 | 9 => 9 | 20 => 20 | 37 => 37 | 70 => 36 | 72 => 39 | 75 => 30 | 80 => 48 | 127 => 85 | 164 => 114 | n => n, fun n => n⟩
theorem lays166 : Lays.n166 Tryz.prog bren :=
  { mixed := by kernel_rfl
    f166 := Tryz.func14.trans (congrArg some (by kernel_rfl))
    f240 := Tryz.func46.trans (congrArg some (by kernel_rfl))
    f276 := Tryz.func86.trans (congrArg some (by kernel_rfl))
    t0 := Tryz.underlying0
    a0 := Tryz.isAgg0
    z0 := Tryz.sizeOf0
    v0 := Tryz.zeroValue0
    t3 := Tryz.underlying3
    a3 := Tryz.isAgg3
    z3 := Tryz.sizeOf3
    v3 := Tryz.zeroValue3
    t4 := Tryz.underlying4
    a4 := Tryz.isAgg4
    z4 := Tryz.sizeOf4
    v4 := Tryz.zeroValue4
    t9 := Tryz.underlying9
    a9 := Tryz.isAgg9
    z9 := Tryz.sizeOf9
    v9 := Tryz.zeroValue9
    t20 := Tryz.underlying20
    a20 := Tryz.isAgg20
    z20 := Tryz.sizeOf20
    v20 := Tryz.zeroValue20
    t37 := Tryz.underlying37
    a37 := Tryz.isAgg37
    z37 := Tryz.sizeOf37
    v37 := Tryz.zeroValue37
    t70 := Tryz.underlying36
    a70 := Tryz.isAgg36
    z70 := Tryz.sizeOf36
    v70 := Tryz.zeroValue36
    t72 := Tryz.underlying39
    a72 := Tryz.isAgg39
    z72 := Tryz.sizeOf39
    v72 := Tryz.zeroValue39
    t75 := Tryz.underlying30
    a75 := Tryz.isAgg30
    z75 := Tryz.sizeOf30
    v75 := Tryz.zeroValue30
    t164 := Tryz.underlying114
    a164 := Tryz.isAgg114
    z164 := Tryz.sizeOf114
    v164 := Tryz.zeroValue114 }
theorem lays169 : Lays.n169 Tryz.prog bren :=
  { mixed := by kernel_rfl
    f169 := Tryz.func16.trans (congrArg some (by kernel_rfl))
    t0 := Tryz.underlying0
    a0 := Tryz.isAgg0
    z0 := Tryz.sizeOf0
    v0 := Tryz.zeroValue0
    t3 := Tryz.underlying3
    a3 := Tryz.isAgg3
    z3 := Tryz.sizeOf3
    v3 := Tryz.zeroValue3
    t9 := Tryz.underlying9
    a9 := Tryz.isAgg9
    z9 := Tryz.sizeOf9
    v9 := Tryz.zeroValue9
    t37 := Tryz.underlying37
    a37 := Tryz.isAgg37
    z37 := Tryz.sizeOf37
    v37 := Tryz.zeroValue37
    t70 := Tryz.underlying36
    a70 := Tryz.isAgg36
    z70 := Tryz.sizeOf36
    v70 := Tryz.zeroValue36
    t72 := Tryz.underlying39
    a72 := Tryz.isAgg39
    z72 := Tryz.sizeOf39
    v72 := Tryz.zeroValue39
    t127 := Tryz.underlying85
    a127 := Tryz.isAgg85
    z127 := Tryz.sizeOf85
    v127 := Tryz.zeroValue85 }
theorem bextra : Builder.Extra Tryz.prog bren :=
  { sizeBuilder := by kernel_rfl
    liesBuilder := by kernel_rfl
    t5 := Tryz.underlying5
    a5 := Tryz.isAgg5
    z5 := Tryz.sizeOf5
    v5 := Tryz.zeroValue5
    infoByte := by kernel_rfl
    cellsByte := by kernel_rfl
    sizeByte := by kernel_rfl
    neB5 := by decide }
/-- A builder of the call's own that holds these bytes. -/
def Bld (B b : Nat) (l : List UInt8) (w : World) : Prop := Lib.IsBuilderF 39 5 B b (Lib.byteCells l) w
theorem Bld.below {B b : Nat} {l : List UInt8} {w w' : World} (h : Bld B b l w) (k : Below w.heap.size w w') : Bld B b l w' := bld_below h k
theorem bld_new (w : World) : Bld w.heap.size w.heap.size [] (w.alloc (.cells #[.pointer none, .slice none 0 0] 39)) := Lib.IsBuilderF.of (Lib.fresh_isBuilder _ _ w)
end Go.Proofs.YtgngdabfmbipaakGreatDoor
