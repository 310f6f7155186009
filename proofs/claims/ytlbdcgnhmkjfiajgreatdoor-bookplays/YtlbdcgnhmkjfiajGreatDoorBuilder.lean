/- The library's contracts on a strings.Builder that the call has made itself, at this program's numbers; and that it stays one where nothing that was there is turned. -/
import Derived.Shelf.Strings.BuilderK
import Derived.Test.YtlbdcgnhmkjfiajGreatDoorMem
import Derived.Test.YtlbdcgnhmkjfiajGreatDoorChecked
namespace Go.Proofs.YtlbdcgnhmkjfiajGreatDoor
open Go.RowKit Go.Sort Go.Shelf
set_option linter.unusedVariables false

theorem atf_below {T e B b : Nat} {p : Value} {bs : List Value} {w w' : World} (h : Lib.BuilderAtF T e B b p bs w) (k : Below w.heap.size w w') : Lib.BuilderAtF T e B b p bs w' := by
  obtain ⟨hB, v, hb, hown, hne⟩ := h
  have lt : ∀ {i : Nat} {o : Obj}, w.heap[i]? = some o → i < w.heap.size := fun h => (Array.getElem?_eq_some_iff.1 h).1
  refine ⟨hB, v, (k.block b (lt hb)).trans hb, ⟨hown.1, ?_⟩, hne⟩
  rcases hown.2 with hn | ⟨g, cap, cur, fz, hv, hbg, hg, rest⟩
  · exact .inl hn
  · exact .inr ⟨g, cap, cur, fz, hv, hbg, (k.block g (lt hg)).trans hg, rest⟩
theorem bld_below {T e B b : Nat} {bs : List Value} {w w' : World} (h : Lib.IsBuilderF T e B b bs w) (k : Below w.heap.size w w') : Lib.IsBuilderF T e B b bs w' :=
  h.elim (fun x => .inl (atf_below x k)) (fun x => .inr (atf_below x k))
def bren : Ren := ⟨fun | 166 => 53 | 167 => 52 | 169 => 55 | 240 => 70 | 276 => 88 | n => n, fun | 0 => 0 | 3 => 3 | 4 => 4 | 5 => 5 | 9 => 9 | 20 => 20 | 37 => 89 | 70 => 91 | 72 => 93 | 75 => 29 | 80 => 96 | 127 => 109 | 164 => 111 | n => n, fun n => n⟩
theorem lays166 : Lays.n166 Tryz.prog bren :=
  { mixed := by kernel_rfl
    f166 := Tryz.func53.trans (congrArg some (by kernel_rfl))
    f240 := Tryz.func70.trans (congrArg some (by kernel_rfl))
    f276 := Tryz.func88.trans (congrArg some (by kernel_rfl))
    t0 := Tryz.underlying0
    a0 := Tryz.isAgg0
    z0 := Tryz.sizeOf0
    v0 := Tryz.zeroValue0
    t3 := Tryz.underlying3
    a3 := Tryz.isAgg3
    z3 := Tryz.sizeOf3
    v3 := Tryz.zeroValue3
    t4 := Tryz.underlying4
    a4 := Tryz.isAgg4
    z4 := Tryz.sizeOf4
    v4 := Tryz.zeroValue4
    t9 := Tryz.underlying9
    a9 := Tryz.isAgg9
    z9 := Tryz.sizeOf9
    v9 := Tryz.zeroValue9
    t20 := Tryz.underlying20
    a20 := Tryz.isAgg20
    z20 := Tryz.sizeOf20
    v20 := Tryz.zeroValue20
    t37 := Tryz.underlying89
    a37 := Tryz.isAgg89
    z37 := Tryz.sizeOf89
    v37 := Tryz.zeroValue89
    t70 := Tryz.underlying91
    a70 := Tryz.isAgg91
    z70 := Tryz.sizeOf91
    v70 := Tryz.zeroValue91
    t72 := Tryz.underlying93
    a72 := Tryz.isAgg93
    z72 := Tryz.sizeOf93
    v72 := Tryz.zeroValue93
    t75 := Tryz.underlying29
    a75 := Tryz.isAgg29
    z75 := Tryz.sizeOf29
    v75 := Tryz.zeroValue29
    t164 := Tryz.underlying111
    a164 := Tryz.isAgg111
    z164 := Tryz.sizeOf111
    v164 := Tryz.zeroValue111 }
theorem lays167 : Lays.n167 Tryz.prog bren :=
  { mixed := by kernel_rfl
    f167 := Tryz.func52.trans (congrArg some (by kernel_rfl))
    f240 := Tryz.func70.trans (congrArg some (by kernel_rfl))
    f276 := Tryz.func88.trans (congrArg some (by kernel_rfl))
    t0 := Tryz.underlying0
    a0 := Tryz.isAgg0
    z0 := Tryz.sizeOf0
    v0 := Tryz.zeroValue0
    t4 := Tryz.underlying4
    a4 := Tryz.isAgg4
    z4 := Tryz.sizeOf4
    v4 := Tryz.zeroValue4
    t5 := Tryz.underlying5
    a5 := Tryz.isAgg5
    z5 := Tryz.sizeOf5
    v5 := Tryz.zeroValue5
    t9 := Tryz.underlying9
    a9 := Tryz.isAgg9
    z9 := Tryz.sizeOf9
    v9 := Tryz.zeroValue9
    t20 := Tryz.underlying20
    a20 := Tryz.isAgg20
    z20 := Tryz.sizeOf20
    v20 := Tryz.zeroValue20
    t37 := Tryz.underlying89
    a37 := Tryz.isAgg89
    z37 := Tryz.sizeOf89
    v37 := Tryz.zeroValue89
    t70 := Tryz.underlying91
    a70 := Tryz.isAgg91
    z70 := Tryz.sizeOf91
    v70 := Tryz.zeroValue91
    t72 := Tryz.underlying93
    a72 := Tryz.isAgg93
    z72 := Tryz.sizeOf93
    v72 := Tryz.zeroValue93
    t75 := Tryz.underlying29
    a75 := Tryz.isAgg29
    z75 := Tryz.sizeOf29
    v75 := Tryz.zeroValue29
    t164 := Tryz.underlying111
    a164 := Tryz.isAgg111
    z164 := Tryz.sizeOf111
    v164 := Tryz.zeroValue111 }
theorem lays169 : Lays.n169 Tryz.prog bren :=
  { mixed := by kernel_rfl
    f169 := Tryz.func55.trans (congrArg some (by kernel_rfl))
    t0 := Tryz.underlying0
    a0 := Tryz.isAgg0
    z0 := Tryz.sizeOf0
    v0 := Tryz.zeroValue0
    t3 := Tryz.underlying3
    a3 := Tryz.isAgg3
    z3 := Tryz.sizeOf3
    v3 := Tryz.zeroValue3
    t9 := Tryz.underlying9
    a9 := Tryz.isAgg9
    z9 := Tryz.sizeOf9
    v9 := Tryz.zeroValue9
    t37 := Tryz.underlying89
    a37 := Tryz.isAgg89
    z37 := Tryz.sizeOf89
    v37 := Tryz.zeroValue89
    t70 := Tryz.underlying91
    a70 := Tryz.isAgg91
    z70 := Tryz.sizeOf91
    v70 := Tryz.zeroValue91
    t72 := Tryz.underlying93
    a72 := Tryz.isAgg93
    z72 := Tryz.sizeOf93
    v72 := Tryz.zeroValue93
    t127 := Tryz.underlying109
    a127 := Tryz.isAgg109
    z127 := Tryz.sizeOf109
    v127 := Tryz.zeroValue109 }
theorem bextra : Builder.Extra Tryz.prog bren :=
  { sizeBuilder := by kernel_rfl
    liesBuilder := by kernel_rfl
    t5 := Tryz.underlying5
    a5 := Tryz.isAgg5
    z5 := Tryz.sizeOf5
    v5 := Tryz.zeroValue5
    infoByte := by kernel_rfl
    cellsByte := by kernel_rfl
    sizeByte := by kernel_rfl
    neB5 := by decide }
/-- A builder of the call's own that holds these bytes. -/
def Bld (B b : Nat) (l : List UInt8) (w : World) : Prop := Lib.IsBuilderF 93 5 B b (Lib.byteCells l) w
theorem Bld.below {B b : Nat} {l : List UInt8} {w w' : World} (h : Bld B b l w) (k : Below w.heap.size w w') : Bld B b l w' := bld_below h k
theorem bld_new (w : World) : Bld w.heap.size w.heap.size [] (w.alloc (.cells #[.pointer none, .slice none 0 0] 93)) := Lib.IsBuilderF.of (Lib.fresh_isBuilder _ _ w)
theorem writeByte_bld (B b : Nat) (l : List UInt8) (c : UInt8) (w : World) (h : Bld B b l w) (hl : l.length ≤ 1000000) (hB : B ≤ w.heap.size) :
    Calls Tryz.prog 52 #[.pointer (some ⟨b, 0, none⟩), .int .u8 (c.toNat : Int)] w fun e w' => e = .returned .nilIface ∧ Bld B b (l ++ [c]) w' ∧ Below B w w' ∧ Lib.OthersKept 5 (some b) w w' := by
  refine (Any.Builder_WriteByte_k lays167 bextra B b (Lib.byteCells l) (c.toNat : Int) w h (by rw [Lib.byteCells_length]; omega) hB).mono ?_
  rintro e w' ⟨he, h1, h2, h3⟩
  refine ⟨he, ?_, h2, h3⟩
  unfold Bld
  rw [Lib.byteCells_append]
  exact Or.inr h1
theorem writeString_bld (B b : Nat) (l : List UInt8) (s : List UInt8) (w : World) (h : Bld B b l w) (hl : l.length ≤ 1000000) (hs : s.length ≤ 1000000) (hB : B ≤ w.heap.size) :
    Calls Tryz.prog 53 #[.pointer (some ⟨b, 0, none⟩), .string ⟨s.toArray⟩] w fun e w' => e = .returned (.tuple #[.int .i64 s.length, .nilIface]) ∧ Bld B b (l ++ s) w' ∧ Below B w w' ∧ Lib.OthersKept 5 (some b) w w' := by
  refine (Any.Builder_WriteString_k lays166 bextra B b (Lib.byteCells l) ⟨s.toArray⟩ w h (by rw [Lib.byteCells_length]; show l.length + s.toArray.size ≤ _; simp only [List.size_toArray]; omega) hB).mono ?_
  rintro e w' ⟨he, h1, h2, h3⟩
  refine ⟨he, ?_, h2, h3⟩
  unfold Bld
  rw [Lib.byteCells_append]
  exact Or.inr h1
theorem string_bld (B b : Nat) (l : List UInt8) (w : World) (h : Bld B b l w) (hB : B ≤ w.heap.size) :
    Calls Tryz.prog 55 #[.pointer (some ⟨b, 0, none⟩)] w fun e w' => e = .returned (.string ⟨l.toArray⟩) ∧ Below B w w' :=
  (Any.Builder_String_any_k lays169 bextra B b l w h hB).mono fun _ _ ⟨he, _, h2, _⟩ => ⟨he, h2⟩
end Go.Proofs.YtlbdcgnhmkjfiajGreatDoor
