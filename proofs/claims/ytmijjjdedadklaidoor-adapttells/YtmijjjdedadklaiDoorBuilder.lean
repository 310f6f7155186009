/- The library's contracts on a strings.Builder that the call has made itself, at this program's numbers; and that it stays one where nothing that was there is turned. -/
import Derived.Shelf.Strings.BuilderK
import Derived.Test.YtmijjjdedadklaiDoorMem
import Derived.Test.YtmijjjdedadklaiDoorChecked
namespace Go.Proofs.YtmijjjdedadklaiDoor
open Go.RowKit Go.Sort Go.Shelf
set_option linter.unusedVariables false

theorem atf_below {T e B b : Nat} {p : Value} {bs : List Value} {w w' : World} (h : Lib.BuilderAtF T e B b p bs w) (k : Below w.heap.size w w') : Lib.BuilderAtF T e B b p bs w' := by
  obtain ⟨hB, v, hb, hown, hne⟩ := h
  have lt : ∀ {i : Nat} {o : Obj}, w.heap[i]? = some o → i < w.heap.size := fun h => (Array.getElem?_eq_some_iff.1 h).1
  refine ⟨hB, v, (k.block b (lt hb)).trans hb, ⟨hown.1, ?_⟩, hne⟩
  rcases hown.2 with hn | ⟨g, cap, cur, fz, hv, hbg, hg, rest⟩
  · exact .inl hn
  · exact .inr ⟨g, cap, cur, fz, hv, hbg, (k.block g (lt hg)).trans hg, rest⟩
theorem bld_below {T e B b : Nat} {bs : List Value} {w w' : World} (h : Lib.IsBuilderF T e B b bs w) (k : Below w.heap.size w w') : Lib.IsBuilderF T e B b bs w' :=
  h.elim (fun x => .inl (atf_below x k)) (fun x => .inr (atf_below x k))
def bren : Ren := ⟨fun | 166 => 92 | 167 => 91 | 169 => 94 | 240 => 111 | 276 => 118 | n => n, fun | 0 => 0 | 3 => 3 | 4 => 4 | 5 => 5 | 9 => 9 | 20 => 20 | 37 => 115 | 70 => 122 | 72 => 124 | 75 => 25 | 80 => 127 | 127 => 146 | 164 => 132 | n => n, fun n => n⟩
theorem lays166 : Lays.n166 Tryd.prog bren :=
  { mixed := by kernel_rfl
    f166 := Tryd.func92.trans (congrArg some (by kernel_rfl))
    f240 := Tryd.func111.trans (congrArg some (by kernel_rfl))
    f276 := Tryd.func118.trans (congrArg some (by kernel_rfl))
    t0 := Tryd.underlying0
    a0 := Tryd.isAgg0
    z0 := Tryd.sizeOf0
    v0 := Tryd.zeroValue0
    t3 := Tryd.underlying3
    a3 := Tryd.isAgg3
    z3 := Tryd.sizeOf3
    v3 := Tryd.zeroValue3
    t4 := Tryd.underlying4
    a4 := Tryd.isAgg4
    z4 := Tryd.sizeOf4
    v4 := Tryd.zeroValue4
    t9 := Tryd.underlying9
    a9 := Tryd.isAgg9
    z9 := Tryd.sizeOf9
    v9 := Tryd.zeroValue9
    t20 := Tryd.underlying20
    a20 := Tryd.isAgg20
    z20 := Tryd.sizeOf20
    v20 := Tryd.zeroValue20
    t37 := Tryd.underlying115
    a37 := Tryd.isAgg115
    z37 := Tryd.sizeOf115
    v37 := Tryd.zeroValue115
    t70 := Tryd.underlying122
    a70 := Tryd.isAgg122
    z70 := Tryd.sizeOf122
    v70 := Tryd.zeroValue122
    t72 := Tryd.underlying124
    a72 := Tryd.isAgg124
    z72 := Tryd.sizeOf124
    v72 := Tryd.zeroValue124
    t75 := Tryd.underlying25
    a75 := Tryd.isAgg25
    z75 := Tryd.sizeOf25
    v75 := Tryd.zeroValue25
    t164 := Tryd.underlying132
    a164 := Tryd.isAgg132
    z164 := Tryd.sizeOf132
    v164 := Tryd.zeroValue132 }
theorem lays167 : Lays.n167 Tryd.prog bren :=
  { mixed := by kernel_rfl
    f167 := Tryd.func91.trans (congrArg some (by kernel_rfl))
    f240 := Tryd.func111.trans (congrArg some (by kernel_rfl))
    f276 := Tryd.func118.trans (congrArg some (by kernel_rfl))
    t0 := Tryd.underlying0
    a0 := Tryd.isAgg0
    z0 := Tryd.sizeOf0
    v0 := Tryd.zeroValue0
    t4 := Tryd.underlying4
    a4 := Tryd.isAgg4
    z4 := Tryd.sizeOf4
    v4 := Tryd.zeroValue4
    t5 := Tryd.underlying5
    a5 := Tryd.isAgg5
    z5 := Tryd.sizeOf5
    v5 := Tryd.zeroValue5
    t9 := Tryd.underlying9
    a9 := Tryd.isAgg9
    z9 := Tryd.sizeOf9
    v9 := Tryd.zeroValue9
    t20 := Tryd.underlying20
    a20 := Tryd.isAgg20
    z20 := Tryd.sizeOf20
    v20 := Tryd.zeroValue20
    t37 := Tryd.underlying115
    a37 := Tryd.isAgg115
    z37 := Tryd.sizeOf115
    v37 := Tryd.zeroValue115
    t70 := Tryd.underlying122
    a70 := Tryd.isAgg122
    z70 := Tryd.sizeOf122
    v70 := Tryd.zeroValue122
    t72 := Tryd.underlying124
    a72 := Tryd.isAgg124
    z72 := Tryd.sizeOf124
    v72 := Tryd.zeroValue124
    t75 := Tryd.underlying25
    a75 := Tryd.isAgg25
    z75 := Tryd.sizeOf25
    v75 := Tryd.zeroValue25
    t164 := Tryd.underlying132
    a164 := Tryd.isAgg132
    z164 := Tryd.sizeOf132
    v164 := Tryd.zeroValue132 }
theorem lays169 : Lays.n169 Tryd.prog bren :=
  { mixed := by kernel_rfl
    f169 := Tryd.func94.trans (congrArg some (by kernel_rfl))
    t0 := Tryd.underlying0
    a0 := Tryd.isAgg0
    z0 := Tryd.sizeOf0
    v0 := Tryd.zeroValue0
    t3 := Tryd.underlying3
    a3 := Tryd.isAgg3
    z3 := Tryd.sizeOf3
    v3 := Tryd.zeroValue3
    t9 := Tryd.underlying9
    a9 := Tryd.isAgg9
    z9 := Tryd.sizeOf9
    v9 := Tryd.zeroValue9
    t37 := Tryd.underlying115
    a37 := Tryd.isAgg115
    z37 := Tryd.sizeOf115
    v37 := Tryd.zeroValue115
    t70 := Tryd.underlying122
    a70 := Tryd.isAgg122
    z70 := Tryd.sizeOf122
    v70 := Tryd.zeroValue122
    t72 := Tryd.underlying124
    a72 := Tryd.isAgg124
    z72 := Tryd.sizeOf124
    v72 := Tryd.zeroValue124
    t127 := Tryd.underlying146
    a127 := Tryd.isAgg146
    z127 := Tryd.sizeOf146
    v127 := Tryd.zeroValue146 }
theorem bextra : Builder.Extra Tryd.prog bren :=
  { sizeBuilder := by kernel_rfl
    liesBuilder := by kernel_rfl
    t5 := Tryd.underlying5
    a5 := Tryd.isAgg5
    z5 := Tryd.sizeOf5
    v5 := Tryd.zeroValue5
    infoByte := by kernel_rfl
    cellsByte := by kernel_rfl
    sizeByte := by kernel_rfl
    neB5 := by decide }
/-- A builder of the call's own that holds these bytes. -/
def Bld (B b : Nat) (l : List UInt8) (w : World) : Prop := Lib.IsBuilderF 124 5 B b (Lib.byteCells l) w
theorem Bld.below {B b : Nat} {l : List UInt8} {w w' : World} (h : Bld B b l w) (k : Below w.heap.size w w') : Bld B b l w' := bld_below h k
theorem bld_new (w : World) : Bld w.heap.size w.heap.size [] (w.alloc (.cells #[.pointer none, .slice none 0 0] 124)) := Lib.IsBuilderF.of (Lib.fresh_isBuilder _ _ w)
theorem writeByte_bld (B b : Nat) (l : List UInt8) (c : UInt8) (w : World) (h : Bld B b l w) (hl : l.length ≤ 1000000) (hB : B ≤ w.heap.size) :
    Calls Tryd.prog 91 #[.pointer (some ⟨b, 0, none⟩), .int .u8 (c.toNat : Int)] w fun e w' => e = .returned .nilIface ∧ Bld B b (l ++ [c]) w' ∧ Below B w w' ∧ Lib.OthersKept 5 (some b) w w' := by
  refine (Any.Builder_WriteByte_k lays167 bextra B b (Lib.byteCells l) (c.toNat : Int) w h (by rw [Lib.byteCells_length]; omega) hB).mono ?_
  rintro e w' ⟨he, h1, h2, h3⟩
  refine ⟨he, ?_, h2, h3⟩
  unfold Bld
  rw [Lib.byteCells_append]
  exact Or.inr h1
theorem writeString_bld (B b : Nat) (l : List UInt8) (s : List UInt8) (w : World) (h : Bld B b l w) (hl : l.length ≤ 1000000) (hs : s.length ≤ 1000000) (hB : B ≤ w.heap.size) :
    Calls Tryd.prog 92 #[.pointer (some ⟨b, 0, none⟩), .string ⟨s.toArray⟩] w fun e w' => e = .returned (.tuple #[.int .i64 s.length, .nilIface]) ∧ Bld B b (l ++ s) w' ∧ Below B w w' ∧ Lib.OthersKept 5 (some b) w w' := by
  refine (Any.Builder_WriteString_k lays166 bextra B b (Lib.byteCells l) ⟨s.toArray⟩ w h (by rw [Lib.byteCells_length]; show l.length + s.toArray.size ≤ _; simp only [List.size_toArray]; omega) hB).mono ?_
  rintro e w' ⟨he, h1, h2, h3⟩
  refine ⟨he, ?_, h2, h3⟩
  unfold Bld
  rw [Lib.byteCells_append]
  exact Or.inr h1
theorem string_bld (B b : Nat) (l : List UInt8) (w : World) (h : Bld B b l w) (hB : B ≤ w.heap.size) :
    Calls Tryd.prog 94 #[.pointer (some ⟨b, 0, none⟩)] w fun e w' => e = .returned (.string ⟨l.toArray⟩) ∧ Below B w w' :=
  (Any.Builder_String_any_k lays169 bextra B b l w h hB).mono fun _ _ ⟨he, _, h2, _⟩ => ⟨he, h2⟩
end Go.Proofs.YtmijjjdedadklaiDoor
