/- The library's contracts on a strings.Builder that the call has made itself, at this program's numbers; and that it stays one where nothing that was there is turned. -/
import Derived.Shelf.Strings.BuilderK
import Derived.Test.YtmijjjdedadklagMem
import Derived.Test.YtmijjjdedadklagChecked
namespace Go.Proofs.Ytmijjjdedadklag
open Go.RowKit Go.Sort Go.Shelf
set_option linter.unusedVariables false

theorem atf_below {T e B b : Nat} {p : Value} {bs : List Value} {w w' : World} (h : Lib.BuilderAtF T e B b p bs w) (k : Below w.heap.size w w') : Lib.BuilderAtF T e B b p bs w' := by
  obtain ⟨hB, v, hb, hown, hne⟩ := h
  have lt : ∀ {i : Nat} {o : Obj}, w.heap[i]? = some o → i < w.heap.size := fun h => (Array.getElem?_eq_some_iff.1 h).1
  refine ⟨hB, v, (k.block b (lt hb)).trans hb, ⟨hown.1, ?_⟩, hne⟩
  rcases hown.2 with hn | ⟨g, cap, cur, fz, hv, hbg, hg, rest⟩
  · exact .inl hn
  · exact .inr ⟨g, cap, cur, fz, hv, hbg, (k.block g (lt hg)).trans hg, rest⟩
theorem bld_below {T e B b : Nat} {bs : List Value} {w w' : World} (h : Lib.IsBuilderF T e B b bs w) (k : Below w.heap.size w w') : Lib.IsBuilderF T e B b bs w' :=
  h.elim (fun x => .inl (atf_below x k)) (fun x => .inr (atf_below x k))
def bren : Ren := ⟨fun | 166 => 77 | 167 => 76 | 169 => 78 | 240 => 91 | 276 => 99 | n => n, fun | 0 => 0 | 3 => 3 | 4 => 4 | 5 => 5 | 9 => 9 | 20 => 20 | 37 => 99 | 70 => 109 | 72 => 111 | 75 => 26 | 80 => 114 | 127 => 121 | 164 => 130 | n => n, fun n => n⟩
theorem lays166 : Lays.n166 Try.prog bren :=
  { mixed := by kernel_rfl
    f166 := Try.func77.trans (congrArg some (by kernel_rfl))
    f240 := Try.func91.trans (congrArg some (by kernel_rfl))
    f276 := Try.func99.trans (congrArg some (by kernel_rfl))
    t0 := Try.underlying0
    a0 := Try.isAgg0
    z0 := Try.sizeOf0
    v0 := Try.zeroValue0
    t3 := Try.underlying3
    a3 := Try.isAgg3
    z3 := Try.sizeOf3
    v3 := Try.zeroValue3
    t4 := Try.underlying4
    a4 := Try.isAgg4
    z4 := Try.sizeOf4
    v4 := Try.zeroValue4
    t9 := Try.underlying9
    a9 := Try.isAgg9
    z9 := Try.sizeOf9
    v9 := Try.zeroValue9
    t20 := Try.underlying20
    a20 := Try.isAgg20
    z20 := Try.sizeOf20
    v20 := Try.zeroValue20
    t37 := Try.underlying99
    a37 := Try.isAgg99
    z37 := Try.sizeOf99
    v37 := Try.zeroValue99
    t70 := Try.underlying109
    a70 := Try.isAgg109
    z70 := Try.sizeOf109
    v70 := Try.zeroValue109
    t72 := Try.underlying111
    a72 := Try.isAgg111
    z72 := Try.sizeOf111
    v72 := Try.zeroValue111
    t75 := Try.underlying26
    a75 := Try.isAgg26
    z75 := Try.sizeOf26
    v75 := Try.zeroValue26
    t164 := Try.underlying130
    a164 := Try.isAgg130
    z164 := Try.sizeOf130
    v164 := Try.zeroValue130 }
theorem lays167 : Lays.n167 Try.prog bren :=
  { mixed := by kernel_rfl
    f167 := Try.func76.trans (congrArg some (by kernel_rfl))
    f240 := Try.func91.trans (congrArg some (by kernel_rfl))
    f276 := Try.func99.trans (congrArg some (by kernel_rfl))
    t0 := Try.underlying0
    a0 := Try.isAgg0
    z0 := Try.sizeOf0
    v0 := Try.zeroValue0
    t4 := Try.underlying4
    a4 := Try.isAgg4
    z4 := Try.sizeOf4
    v4 := Try.zeroValue4
    t5 := Try.underlying5
    a5 := Try.isAgg5
    z5 := Try.sizeOf5
    v5 := Try.zeroValue5
    t9 := Try.underlying9
    a9 := Try.isAgg9
    z9 := Try.sizeOf9
    v9 := Try.zeroValue9
    t20 := Try.underlying20
    a20 := Try.isAgg20
    z20 := Try.sizeOf20
    v20 := Try.zeroValue20
    t37 := Try.underlying99
    a37 := Try.isAgg99
    z37 := Try.sizeOf99
    v37 := Try.zeroValue99
    t70 := Try.underlying109
    a70 := Try.isAgg109
    z70 := Try.sizeOf109
    v70 := Try.zeroValue109
    t72 := Try.underlying111
    a72 := Try.isAgg111
    z72 := Try.sizeOf111
    v72 := Try.zeroValue111
    t75 := Try.underlying26
    a75 := Try.isAgg26
    z75 := Try.sizeOf26
    v75 := Try.zeroValue26
    t164 := Try.underlying130
    a164 := Try.isAgg130
    z164 := Try.sizeOf130
    v164 := Try.zeroValue130 }
theorem lays169 : Lays.n169 Try.prog bren :=
  { mixed := by kernel_rfl
    f169 := Try.func78.trans (congrArg some (by kernel_rfl))
    t0 := Try.underlying0
    a0 := Try.isAgg0
    z0 := Try.sizeOf0
    v0 := Try.zeroValue0
    t3 := Try.underlying3
    a3 := Try.isAgg3
    z3 := Try.sizeOf3
    v3 := Try.zeroValue3
    t9 := Try.underlying9
    a9 := Try.isAgg9
    z9 := Try.sizeOf9
    v9 := Try.zeroValue9
    t37 := Try.underlying99
    a37 := Try.isAgg99
    z37 := Try.sizeOf99
    v37 := Try.zeroValue99
    t70 := Try.underlying109
    a70 := Try.isAgg109
    z70 := Try.sizeOf109
    v70 := Try.zeroValue109
    t72 := Try.underlying111
    a72 := Try.isAgg111
    z72 := Try.sizeOf111
    v72 := Try.zeroValue111
    t127 := Try.underlying121
    a127 := Try.isAgg121
    z127 := Try.sizeOf121
    v127 := Try.zeroValue121 }
theorem bextra : Builder.Extra Try.prog bren :=
  { sizeBuilder := by kernel_rfl
    liesBuilder := by kernel_rfl
    t5 := Try.underlying5
    a5 := Try.isAgg5
    z5 := Try.sizeOf5
    v5 := Try.zeroValue5
    infoByte := by kernel_rfl
    cellsByte := by kernel_rfl
    sizeByte := by kernel_rfl
    neB5 := by decide }
/-- A builder of the call's own that holds these bytes. -/
def Bld (B b : Nat) (l : List UInt8) (w : World) : Prop := Lib.IsBuilderF 111 5 B b (Lib.byteCells l) w
theorem Bld.below {B b : Nat} {l : List UInt8} {w w' : World} (h : Bld B b l w) (k : Below w.heap.size w w') : Bld B b l w' := bld_below h k
theorem bld_new (w : World) : Bld w.heap.size w.heap.size [] (w.alloc (.cells #[.pointer none, .slice none 0 0] 111)) := Lib.IsBuilderF.of (Lib.fresh_isBuilder _ _ w)
theorem writeByte_bld (B b : Nat) (l : List UInt8) (c : UInt8) (w : World) (h : Bld B b l w) (hl : l.length ≤ 1000000) (hB : B ≤ w.heap.size) :
    Calls Try.prog 76 #[.pointer (some ⟨b, 0, none⟩), .int .u8 (c.toNat : Int)] w fun e w' => e = .returned .nilIface ∧ Bld B b (l ++ [c]) w' ∧ Below B w w' ∧ Lib.OthersKept 5 (some b) w w' := by
  refine (Any.Builder_WriteByte_k lays167 bextra B b (Lib.byteCells l) (c.toNat : Int) w h (by rw [Lib.byteCells_length]; omega) hB).mono ?_
  rintro e w' ⟨he, h1, h2, h3⟩
  refine ⟨he, ?_, h2, h3⟩
  unfold Bld
  rw [Lib.byteCells_append]
  exact Or.inr h1
theorem writeString_bld (B b : Nat) (l : List UInt8) (s : List UInt8) (w : World) (h : Bld B b l w) (hl : l.length ≤ 1000000) (hs : s.length ≤ 1000000) (hB : B ≤ w.heap.size) :
    Calls Try.prog 77 #[.pointer (some ⟨b, 0, none⟩), .string ⟨s.toArray⟩] w fun e w' => e = .returned (.tuple #[.int .i64 s.length, .nilIface]) ∧ Bld B b (l ++ s) w' ∧ Below B w w' ∧ Lib.OthersKept 5 (some b) w w' := by
  refine (Any.Builder_WriteString_k lays166 bextra B b (Lib.byteCells l) ⟨s.toArray⟩ w h (by rw [Lib.byteCells_length]; show l.length + s.toArray.size ≤ _; simp only [List.size_toArray]; omega) hB).mono ?_
  rintro e w' ⟨he, h1, h2, h3⟩
  refine ⟨he, ?_, h2, h3⟩
  unfold Bld
  rw [Lib.byteCells_append]
  exact Or.inr h1
theorem string_bld (B b : Nat) (l : List UInt8) (w : World) (h : Bld B b l w) (hB : B ≤ w.heap.size) :
    Calls Try.prog 78 #[.pointer (some ⟨b, 0, none⟩)] w fun e w' => e = .returned (.string ⟨l.toArray⟩) ∧ Below B w w' :=
  (Any.Builder_String_any_k lays169 bextra B b l w h hB).mono fun _ _ ⟨he, _, h2, _⟩ => ⟨he, h2⟩
end Go.Proofs.Ytmijjjdedadklag
