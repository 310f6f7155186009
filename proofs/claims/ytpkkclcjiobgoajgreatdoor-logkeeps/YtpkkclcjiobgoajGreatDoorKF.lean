/- The library's contracts on a strings.Builder that the call has made itself, at this program's numbers; and that it stays one where nothing that was there is turned. -/
import Derived.Shelf.Strings.BuilderK
import Derived.Test.YtpkkclcjiobgoajGreatDoorKA
import Derived.Test.YtpkkclcjiobgoajGreatDoorChecked
import Derived.Test.YtpkkclcjiobgoajGreatDoorKBytes
import Derived.Test.YtpkkclcjiobgoajGreatDoorKE
namespace Go.Proofs.YtpkkclcjiobgoajGreatDoor
open Go.RowKit Go.Sort Go.Shelf
set_option linter.unusedVariables false

theorem atf_below {T e B b : Nat} {p : Value} {bs : List Value} {w w' : World} (h : Lib.BuilderAtF T e B b p bs w) (k : Below w.heap.size w w') : Lib.BuilderAtF T e B b p bs w' := by
  obtain ⟨hB, v, hb, hown, hne⟩ := h
  have lt : ∀ {i : Nat} {o : Obj}, w.heap[i]? = some o → i < w.heap.size := fun h => (Array.getElem?_eq_some_iff.1 h).1
  refine ⟨hB, v, (k.block b (lt hb)).trans hb, ⟨hown.1, ?_⟩, hne⟩
  rcases hown.2 with hn | ⟨g, cap, cur, fz, hv, hbg, hg, rest⟩
  · exact .inl hn
  · exact .inr ⟨g, cap, cur, fz, hv, hbg, (k.block g (lt hg)).trans hg, rest⟩
theorem bld_below {T e B b : Nat} {bs : List Value} {w w' : World} (h : Lib.IsBuilderF T e B b bs w) (k : Below w.heap.size w w') : Lib.IsBuilderF T e B b bs w' :=
  h.elim (fun x => .inl (atf_below x k)) (fun x => .inr (atf_below x k))
def bren : Ren := ⟨fun | 166 => 69 | 167 => 68 | 169 => 71 | 240 => 89 | 276 => 111 | n => n, fun | 0 => 0 | 3 => 3 | 4 => 4 | 5 => 5 | 9 => 9 | 20 => 20 | 37 => 100 | 70 => 107 | 72 => 109 | 75 => 29 | 80 => 112 | 127 => 130 | 164 => 132 | n => n, fun n => n⟩
theorem lays166 : Lays.n166 Tryz.prog bren :=
  { mixed := by kernel_rfl
    f166 := Tryz.func69.trans (congrArg some (by kernel_rfl))
    f240 := Tryz.func89.trans (congrArg some (by kernel_rfl))
    f276 := Tryz.func111.trans (congrArg some (by kernel_rfl))
    t0 := Tryz.underlying0
    a0 := Tryz.isAgg0
    z0 := Tryz.sizeOf0
    v0 := Tryz.zeroValue0
    t3 := Tryz.underlying3
    a3 := Tryz.isAgg3
    z3 := Tryz.sizeOf3
    v3 := Tryz.zeroValue3
    t4 := Tryz.underlying4
    a4 := Tryz.isAgg4
    z4 := Tryz.sizeOf4
    v4 := Tryz.zeroValue4
    t9 := Tryz.underlying9
    a9 := Tryz.isAgg9
    z9 := Tryz.sizeOf9
    v9 := Tryz.zeroValue9
    t20 := Tryz.underlying20
    a20 := Tryz.isAgg20
    z20 := Tryz.sizeOf20
    v20 := Tryz.zeroValue20
    t37 := Tryz.underlying100
    a37 := Tryz.isAgg100
    z37 := Tryz.sizeOf100
    v37 := Tryz.zeroValue100
    t70 := Tryz.underlying107
    a70 := Tryz.isAgg107
    z70 := Tryz.sizeOf107
    v70 := Tryz.zeroValue107
    t72 := Tryz.underlying109
    a72 := Tryz.isAgg109
    z72 := Tryz.sizeOf109
    v72 := Tryz.zeroValue109
    t75 := Tryz.underlying29
    a75 := Tryz.isAgg29
    z75 := Tryz.sizeOf29
    v75 := Tryz.zeroValue29
    t164 := Tryz.underlying132
    a164 := Tryz.isAgg132
    z164 := Tryz.sizeOf132
    v164 := Tryz.zeroValue132 }
theorem lays167 : Lays.n167 Tryz.prog bren :=
  { mixed := by kernel_rfl
    f167 := Tryz.func68.trans (congrArg some (by kernel_rfl))
    f240 := Tryz.func89.trans (congrArg some (by kernel_rfl))
    f276 := Tryz.func111.trans (congrArg some (by kernel_rfl))
    t0 := Tryz.underlying0
    a0 := Tryz.isAgg0
    z0 := Tryz.sizeOf0
    v0 := Tryz.zeroValue0
    t4 := Tryz.underlying4
    a4 := Tryz.isAgg4
    z4 := Tryz.sizeOf4
    v4 := Tryz.zeroValue4
    t5 := Tryz.underlying5
    a5 := Tryz.isAgg5
    z5 := Tryz.sizeOf5
    v5 := Tryz.zeroValue5
    t9 := Tryz.underlying9
    a9 := Tryz.isAgg9
    z9 := Tryz.sizeOf9
    v9 := Tryz.zeroValue9
    t20 := Tryz.underlying20
    a20 := Tryz.isAgg20
    z20 := Tryz.sizeOf20
    v20 := Tryz.zeroValue20
    t37 := Tryz.underlying100
    a37 := Tryz.isAgg100
    z37 := Tryz.sizeOf100
    v37 := Tryz.zeroValue100
    t70 := Tryz.underlying107
    a70 := Tryz.isAgg107
    z70 := Tryz.sizeOf107
    v70 := Tryz.zeroValue107
    t72 := Tryz.underlying109
    a72 := Tryz.isAgg109
    z72 := Tryz.sizeOf109
    v72 := Tryz.zeroValue109
    t75 := Tryz.underlying29
    a75 := Tryz.isAgg29
    z75 := Tryz.sizeOf29
    v75 := Tryz.zeroValue29
    t164 := Tryz.underlying132
    a164 := Tryz.isAgg132
    z164 := Tryz.sizeOf132
    v164 := Tryz.zeroValue132 }
theorem lays169 : Lays.n169 Tryz.prog bren :=
  { mixed := by kernel_rfl
    f169 := Tryz.func71.trans (congrArg some (by kernel_rfl))
    t0 := Tryz.underlying0
    a0 := Tryz.isAgg0
    z0 := Tryz.sizeOf0
    v0 := Tryz.zeroValue0
    t3 := Tryz.underlying3
    a3 := Tryz.isAgg3
    z3 := Tryz.sizeOf3
    v3 := Tryz.zeroValue3
    t9 := Tryz.underlying9
    a9 := Tryz.isAgg9
    z9 := Tryz.sizeOf9
    v9 := Tryz.zeroValue9
    t37 := Tryz.underlying100
    a37 := Tryz.isAgg100
    z37 := Tryz.sizeOf100
    v37 := Tryz.zeroValue100
    t70 := Tryz.underlying107
    a70 := Tryz.isAgg107
    z70 := Tryz.sizeOf107
    v70 := Tryz.zeroValue107
    t72 := Tryz.underlying109
    a72 := Tryz.isAgg109
    z72 := Tryz.sizeOf109
    v72 := Tryz.zeroValue109
    t127 := Tryz.underlying130
    a127 := Tryz.isAgg130
    z127 := Tryz.sizeOf130
    v127 := Tryz.zeroValue130 }
theorem bextra : Builder.Extra Tryz.prog bren :=
  { sizeBuilder := by kernel_rfl
    liesBuilder := by kernel_rfl
    t5 := Tryz.underlying5
    a5 := Tryz.isAgg5
    z5 := Tryz.sizeOf5
    v5 := Tryz.zeroValue5
    infoByte := by kernel_rfl
    cellsByte := by kernel_rfl
    sizeByte := by kernel_rfl
    neB5 := by decide }
/-- A builder of the call's own that holds these bytes. -/
def Bld (B b : Nat) (l : List UInt8) (w : World) : Prop := Lib.IsBuilderF 109 5 B b (Lib.byteCells l) w
theorem Bld.below {B b : Nat} {l : List UInt8} {w w' : World} (h : Bld B b l w) (k : Below w.heap.size w w') : Bld B b l w' := bld_below h k
theorem bld_new (w : World) : Bld w.heap.size w.heap.size [] (w.alloc (.cells #[.pointer none, .slice none 0 0] 109)) := Lib.IsBuilderF.of (Lib.fresh_isBuilder _ _ w)
theorem writeByte_bld (B b : Nat) (l : List UInt8) (c : UInt8) (w : World) (h : Bld B b l w) (hl : l.length ≤ 1000000) (hB : B ≤ w.heap.size) :
    Calls Tryz.prog 68 #[.pointer (some ⟨b, 0, none⟩), .int .u8 (c.toNat : Int)] w fun e w' => e = .returned .nilIface ∧ Bld B b (l ++ [c]) w' ∧ Below B w w' ∧ Lib.OthersKept 5 (some b) w w' := by
  refine (Any.Builder_WriteByte_k lays167 bextra B b (Lib.byteCells l) (c.toNat : Int) w h (by rw [Lib.byteCells_length]; omega) hB).mono ?_
  rintro e w' ⟨he, h1, h2, h3⟩
  refine ⟨he, ?_, h2, h3⟩
  unfold Bld
  rw [Lib.byteCells_append]
  exact Or.inr h1
theorem writeString_bld (B b : Nat) (l : List UInt8) (s : List UInt8) (w : World) (h : Bld B b l w) (hl : l.length ≤ 1000000) (hs : s.length ≤ 1000000) (hB : B ≤ w.heap.size) :
    Calls Tryz.prog 69 #[.pointer (some ⟨b, 0, none⟩), .string ⟨s.toArray⟩] w fun e w' => e = .returned (.tuple #[.int .i64 s.length, .nilIface]) ∧ Bld B b (l ++ s) w' ∧ Below B w w' ∧ Lib.OthersKept 5 (some b) w w' := by
  refine (Any.Builder_WriteString_k lays166 bextra B b (Lib.byteCells l) ⟨s.toArray⟩ w h (by rw [Lib.byteCells_length]; show l.length + s.toArray.size ≤ _; simp only [List.size_toArray]; omega) hB).mono ?_
  rintro e w' ⟨he, h1, h2, h3⟩
  refine ⟨he, ?_, h2, h3⟩
  unfold Bld
  rw [Lib.byteCells_append]
  exact Or.inr h1
theorem string_bld (B b : Nat) (l : List UInt8) (w : World) (h : Bld B b l w) (hB : B ≤ w.heap.size) :
    Calls Tryz.prog 71 #[.pointer (some ⟨b, 0, none⟩)] w fun e w' => e = .returned (.string ⟨l.toArray⟩) ∧ Below B w w' :=
  (Any.Builder_String_any_k lays169 bextra B b l w h hB).mono fun _ _ ⟨he, _, h2, _⟩ => ⟨he, h2⟩
end Go.Proofs.YtpkkclcjiobgoajGreatDoor

/- What curve.CheckAll and bytes.List answer of so many spots that lie in a row, from whatever place on. -/
namespace Go.Proofs.YtpkkclcjiobgoajGreatDoor
open Go.RowKit Go.Sort
set_option linter.unusedVariables false
set_option linter.unusedSimpArgs false
theorem list_no (b o n c : Nat) (X Y : Nat → Int) (F : Nat → Bool) (w : World) (hn : n ≤ 12) (hr : RowO w b o n X Y F) (h : (rowE X Y F n == 0) = false) :
    Calls Tryz.prog 41 #[.slice (some ⟨b, o, none⟩) n c] w fun e w' => e = .returned (.tuple #[.string ⟨#[]⟩, errOf (rowE X Y F n)]) ∧ Below w.heap.size w w' := by
  have h1 : ¬ (12 < (n : Int)) := by omega
  have HR : Hid (RowO w b o n X Y F) := hr
  have HE : Hid ((rowE X Y F n == 0) = false) := h
  clear hr h
  have m1 : True := trivial
  go_enter Tryz.func41, Tryz.ntmps41
  go_wp2_with (first | (go_at_call 67; clear m1; refine (checkAll_bad _ _ _ _ _ _ _ _ (by omega) HR.out HE.out).mono ?_; rintro e w1 ⟨rfl, hbw1⟩; have hqw1 : Below w.heap.size w w1 := (by repeat (first | (with_reducible first | exact Below.refl _ _ | assumption | refine Below.setCell ?_ (by first | simp <;> omega | omega) _ | refine Below.alloc ?_ (by first | simp <;> omega | omega) _) | refine bl_call ?_ (by assumption) (by first | simp <;> omega | omega) | (with_reducible first | refine bl_drewN ?_ | refine Below.drew ?_ | refine bl_grow ?_ (by first | simp <;> omega | omega)))); have hzw1 := hqw1.size; clear hbw1))
  exact bodyPost_ret (v := .tuple #[.string ⟨#[]⟩, errOf (rowE X Y F n)]) (by simp [results, Tryz.results41, go_sem, *]) rfl ⟨rfl, by repeat (first | (with_reducible first | exact Below.refl _ _ | assumption | refine Below.setCell ?_ (by first | simp <;> omega | omega) _ | refine Below.alloc ?_ (by first | simp <;> omega | omega) _) | refine bl_call ?_ (by assumption) (by first | simp <;> omega | omega) | (with_reducible first | refine bl_drewN ?_ | refine Below.drew ?_ | refine bl_grow ?_ (by first | simp <;> omega | omega)))⟩
theorem u8_nat {n : Nat} (h : n ≤ 12) : ((UInt8.ofNat n).toNat : Int) = (n : Int) := by rw [UInt8.toNat_ofNat']; omega
theorem writeByte_n (B b n : Nat) (w : World) (hn : n ≤ 12) (h : Bld B b [] w) (hB : B ≤ w.heap.size) :
    Calls Tryz.prog 68 #[.pointer (some ⟨b, 0, none⟩), .int .u8 (n : Int)] w fun e w' => e = .returned .nilIface ∧ Bld B b [UInt8.ofNat n] w' ∧ Below B w w' := by
  rw [← u8_nat hn]
  exact (writeByte_bld B b [] (UInt8.ofNat n) w h (by simp) hB).mono fun _ _ ⟨h1, h2, h3, _⟩ => ⟨h1, h2, h3⟩
theorem writeString_pk (B b : Nat) (l : List UInt8) (s : Sn) (w : World) (h : Bld B b l w) (hl : l.length ≤ 1000000) (hB : B ≤ w.heap.size) :
    Calls Tryz.prog 69 #[.pointer (some ⟨b, 0, none⟩), .string (pkB s)] w fun e w' => e = .returned (.tuple #[.int .i64 (pkL s).length, .nilIface]) ∧ Bld B b (l ++ pkL s) w' ∧ Below B w w' :=
  (writeString_bld B b l (pkL s) w h hl (by have := pkL_le s; omega) hB).mono fun _ _ ⟨h1, h2, h3, _⟩ => ⟨h1, h2, h3⟩
set_option maxRecDepth 100000 in
set_option maxHeartbeats 2000000 in
theorem list_row (b o n c : Nat) (X Y : Nat → Int) (F : Nat → Bool) (K : Nat → Nat) (w : World) (hn : n ≤ 12) (hr : RowO w b o n X Y F) (h : rowE X Y F n = 0) (hK : ∀ i, i < n → X i = ((tM (K i)).1 : Int) ∧ Y i = ((tM (K i)).2.1 : Int) ∧ F i = (tM (K i)).2.2) :
    Calls Tryz.prog 41 #[.slice (some ⟨b, o, none⟩) n c] w fun e w' => e = .returned (.tuple #[.string ⟨(lsL K n).toArray⟩, .nilIface]) ∧ Below w.heap.size w w' := by
  have h1 : ¬ (12 < (n : Int)) := by omega
  have HR : Hid (RowO w b o n X Y F) := hr
  have HE : Hid (rowE X Y F n = 0) := h
  have HK : Hid (∀ i, i < n → X i = ((tM (K i)).1 : Int) ∧ Y i = ((tM (K i)).2.1 : Int) ∧ F i = (tM (K i)).2.2) := hK
  have hb := hr.1
  clear hr h hK
  have m1 : True := trivial
  go_enter Tryz.func41, Tryz.ntmps41
  go_wp2_with (first | (go_at_call 67; clear m1; refine (checkAll_all _ _ _ _ _ _ _ _ (by omega) HR.out HE.out).mono ?_; rintro e w1 ⟨rfl, hbw1⟩; have hqw1 : Below w.heap.size w w1 := (by repeat (first | (with_reducible first | exact Below.refl _ _ | assumption | refine Below.setCell ?_ (by first | simp <;> omega | omega) _ | refine Below.alloc ?_ (by first | simp <;> omega | omega) _) | refine bl_call ?_ (by assumption) (by first | simp <;> omega | omega) | (with_reducible first | refine bl_drewN ?_ | refine Below.drew ?_ | refine bl_grow ?_ (by first | simp <;> omega | omega)))); have hzw1 := hqw1.size; clear hbw1) | (go_at_call 68; refine (writeByte_n w1.heap.size w1.heap.size n _ hn (bld_new w1) (by simp)).mono ?_; rintro e w2 ⟨rfl, hB2, hb2⟩))
  have hq2 : Below w1.heap.size w1 w2 := ((Below.refl _ _).alloc (Nat.le_refl _) _).trans hb2
  clear hb2
  go_loopw [23] (fun ti wr => ∃ k : Nat, k ≤ n ∧ ti = .int .i64 k ∧ Bld w1.heap.size w1.heap.size (UInt8.ofNat n :: rowL K k) wr ∧ Below w1.heap.size w1 wr) (fun ti _ => n - (intOf ti).toNat)
  case atStart => exact ⟨0, by omega, rfl, hB2, hq2⟩
  case round =>
    clear hB2 hq2
    obtain ⟨k, hk, rfl, hB, hbl⟩ := hrel
    have hz := hbl.size
    by_cases hlt : k < n
    · have hlt' : (k : Int) < n := by omega
      obtain ⟨c0, c1, c2⟩ := ((HR.out.below hb hqw1).below (by omega) hbl).2 k hlt
      obtain ⟨e0, e1, e2⟩ := HK.out k hlt
      rw [e0] at c0; rw [e1] at c1; rw [e2] at c2
      clear e0 e1 e2
      have HL : Hid ((UInt8.ofNat n :: rowL K k).length ≤ 1000000) := by
        have := rowL_le K k
        unfold Hid; simp only [List.length_cons]; omega
      have HB : Hid (Bld w1.heap.size w1.heap.size (UInt8.ofNat n :: rowL K k) wr) := hB
      clear hB
      go_wp2_with (first | (go_at_call 70; refine (packed_tM (K k) _).mono ?_; rintro e w3 ⟨rfl, hb3⟩; have hq3 : Below wr.heap.size wr w3 := (by repeat (first | (with_reducible first | exact Below.refl _ _ | assumption | refine Below.setCell ?_ (by first | simp <;> omega | omega) _ | refine Below.alloc ?_ (by first | simp <;> omega | omega) _) | refine bl_call ?_ (by assumption) (by first | simp <;> omega | omega) | (with_reducible first | refine bl_drewN ?_ | refine Below.drew ?_ | refine bl_grow ?_ (by first | simp <;> omega | omega)))); have hz3 := hq3.size; clear hb3) | (go_at_call 69; refine (writeString_pk _ _ _ _ _ (HB.out.below hq3) HL.out (by omega)).mono ?_; rintro e w4 ⟨rfl, hB4, hb4⟩))
      go_roundw
      case rel =>
        refine ⟨k + 1, by omega, by simp, ?_, (hbl.trans (hq3.mono (by omega))).trans hb4⟩
        rw [rowL_succ]
        exact hB4
      case measure => simp [intOf]; omega
    · have hlt' : ¬ (k : Int) < n := by omega
      obtain rfl : k = n := by omega
      go_wp2_with (go_at_call 71; refine (string_bld _ _ _ _ hB (by omega)).mono ?_; rintro e w3 ⟨rfl, hb3⟩)
      have hq3 : Below w.heap.size w w3 := hqw1.trans ((hbl.trans hb3).mono hzw1)
      exact bodyPost_ret (v := .tuple #[.string ⟨(lsL K k).toArray⟩, .nilIface]) (by simp [results, Tryz.results41, go_sem, lsL]) rfl ⟨rfl, hq3⟩
end Go.Proofs.YtpkkclcjiobgoajGreatDoor
