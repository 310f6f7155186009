/- What package run leans on: the listed variables lie as they are laid; the library's contracts in the session's own words; run.number. -/
import Derived.Test.YtgngdabfmbipaakGreatDoorKRunSplit
import Derived.Test.YtgngdabfmbipaakGreatDoorKG23
import Derived.Test.YtgngdabfmbipaakGreatDoorKShelf
import Derived.Test.YtgngdabfmbipaakGreatDoorKBuilder
import Derived.Test.YtgngdabfmbipaakGreatDoorKG19
import Derived.Test.YtgngdabfmbipaakGreatDoorKG0
import Derived.Lib.SmallJoins
namespace Go.Proofs.YtgngdabfmbipaakGreatDoor
open Go.RowKit Go.Sort Go.Shelf Go.Joins
set_option linter.unusedVariables false
set_option linter.unusedSimpArgs false

theorem cell_lt {w : World} {a : Addr} {v : Value} (h : w.cell? a = some v) : a.block < w.heap.size := by
  rcases Nat.lt_or_ge a.block w.heap.size with h1 | h1
  · exact h1
  · simp [World.cell?, Array.getElem?_eq_none h1] at h
theorem cell_stays {w w' : World} {a : Addr} {v : Value} (h : w.cell? a = some v) (k : Below w.heap.size w w') : w'.cell? a = some v := (k.cell (p := a) (cell_lt h)).trans h
/-- The listed variables lie as they are laid (a: where the text of what is bad lies). -/
def Lie (a : Addr) (w : World) : Prop :=
  Door w ∧ Lib.TabIs Tryz.prog w "internal/strconv.uint64pow10" .u64 Lib.pow10Tab ∧ (∃ te pe, w.cell? ⟨4, 0, none⟩ = some (.iface te pe)) ∧ (∃ te pe, w.cell? ⟨5, 0, none⟩ = some (.iface te pe)) ∧
  (w.cell? ⟨0, 0, none⟩ = some (.iface 214 (.pointer (some a))) ∧ w.cell? a = some (.string ⟨#[98, 97, 100]⟩)) ∧ ∃ m, w.cell? ⟨2, 0, none⟩ = some (.int .i64 m)
theorem Tryz.gPow : Tryz.prog.globalNamed "internal/strconv.uint64pow10" = some 3 := by kernel_rfl
theorem Lie.below {a : Addr} {w w' : World} (h : Lie a w) (k : Below w.heap.size w w') : Lie a w' := by
  obtain ⟨h1, h2, ⟨t1, p1, h3⟩, ⟨t2, p2, h4⟩, ⟨h5, h6⟩, m, h7⟩ := h
  exact ⟨h1.under k, tab_stays Tryz.gPow h2 k (Nat.le_refl _), ⟨t1, p1, cell_stays h3 k⟩, ⟨t2, p2, cell_stays h4 k⟩, ⟨cell_stays h5 k, cell_stays h6 k⟩, m, cell_stays h7 k⟩
/-- What is bad. -/
def badV (a : Addr) : Value := .iface 214 (.pointer (some a))
theorem Lie.bad {a : Addr} {w : World} (h : Lie a w) : w.cell? ⟨0, 0, none⟩ = some (badV a) := h.2.2.2.2.1.1
theorem Lie.text {a : Addr} {w : World} (h : Lie a w) : w.cell? a = some (.string ⟨#[98, 97, 100]⟩) := h.2.2.2.2.1.2
theorem Lie.lt {a : Addr} {w : World} (h : Lie a w) : 0 < w.heap.size := cell_lt h.bad
theorem below_drewN (w : World) (n : Nat) : Below w.heap.size w (w.drewN n) := bl_drewN (Below.refl _ _)

theorem cut_is (a : Addr) (s : ByteArray) (c : UInt8) (w : World) (h : Lie a w) (hs : s.size ≤ 3000) :
    Calls Tryz.prog 45 #[.string s, .string ⟨#[c]⟩] w fun e w' => e = .returned (.tuple #[.string ⟨(Lib.cut s.data.toList [c]).1.toArray⟩, .string ⟨(Lib.cut s.data.toList [c]).2.1.toArray⟩, .bool (Lib.cut s.data.toList [c]).2.2]) ∧ Below w.heap.size w w' := by
  obtain ⟨m, hm⟩ := h.2.2.2.2.2
  refine (Any.strings_Cut Tryz.lays145 s ⟨#[c]⟩ m w (by omega) hm).mono ?_
  rintro e w' ⟨rfl, n, rfl⟩
  exact ⟨rfl, below_drewN _ _⟩
/-- The first line, and what is behind it. -/
theorem cut_line {s u v : ByteArray} (h1 : (⟨(Lib.cut s.data.toList [10]).1.toArray⟩ : ByteArray) = u) (h2 : (⟨(Lib.cut s.data.toList [10]).2.1.toArray⟩ : ByteArray) = v) (a : Addr) (w : World) (h : Lie a w) (hs : s.size ≤ 3000) :
    Calls Tryz.prog 45 #[.string s, .string ⟨#[10]⟩] w fun e w' => (∃ b, e = .returned (.tuple #[.string u, .string v, .bool b])) ∧ Below w.heap.size w w' := by
  refine (cut_is a s 10 w h hs).mono ?_
  rintro e w' ⟨rfl, k⟩
  rw [h1, h2]
  exact ⟨⟨_, rfl⟩, k⟩
theorem cut_first (a : Addr) (s : ByteArray) (w : World) (h : Lie a w) (hs : s.size ≤ 3000) :
    Calls Tryz.prog 45 #[.string s, .string ⟨#[32]⟩] w fun e w' => (∃ v b, e = .returned (.tuple #[.string (wordA s), .string v, .bool b])) ∧ Below w.heap.size w w' := by
  refine (cut_is a s 32 w h hs).mono ?_
  rintro e w' ⟨rfl, k⟩
  rw [cut_word]
  exact ⟨⟨_, _, rfl⟩, k⟩
/-- So many texts in a row. -/
def RowT (w : World) (g n : Nat) (l : List ByteArray) : Prop := g < w.heap.size ∧ ∀ i, i < n → w.cell? ⟨g, i, none⟩ = some (.string (l.getD i ⟨#[]⟩))
theorem RowT.below {w w' : World} {g n : Nat} {l : List ByteArray} (h : RowT w g n l) (k : Below w.heap.size w w') : RowT w' g n l :=
  ⟨Nat.lt_of_lt_of_le h.1 k.size, fun i hi => (k.cell (p := ⟨g, i, none⟩) h.1).trans (h.2 i hi)⟩
theorem cellsOf_at {l : List ByteArray} {N i : Nat} (h : i < l.length) : (Lib.cellsOf l N)[i]? = some (.string (l.getD i ⟨#[]⟩)) := by
  unfold Lib.cellsOf
  rw [List.getElem?_toArray, List.getElem?_append_left (by rw [List.length_map]; exact h), List.getElem?_map, List.getD_eq_getElem?_getD, List.getElem?_eq_getElem h]
  rfl
theorem splitn_is (a : Addr) (s : ByteArray) (n : Nat) (w : World) (h : Lie a w) (hs : s.size ≤ 3000) (h1 : 1 ≤ n) (h2 : n ≤ 10) :
    Calls Tryz.prog 123 #[.string s, .string ⟨#[32]⟩, .int .i64 (n : Int)] w fun e w' => ∃ b c : Nat, e = .returned (.slice (some ⟨b, 0, none⟩) (splitW (n - 1) s).length c) ∧ (splitW (n - 1) s).length ≤ c ∧ RowT w' b (splitW (n - 1) s).length (splitW (n - 1) s) ∧ w.heap.size ≤ b ∧ Below w.heap.size w w' := by
  obtain ⟨m, hm⟩ := h.2.2.2.2.2
  refine (Any.strings_SplitN Tryz.lays147 (by kernel_rfl) s ⟨#[32]⟩ n m w (by omega) hm (by decide) h1 (by omega)).mono ?_
  rintro e w' ⟨rfl, rfl⟩
  rw [split_n n h1]
  have hl := (splitW_len (n - 1) s).2
  have hm2 := split_min (n - 1) s
  have hl2 := (splitW_len (min (n - 1) s.size) s).2
  rw [hm2] at hl2
  refine ⟨w.heap.size, _, rfl, by omega, ⟨by simp, fun i hi => ?_⟩, Nat.le_refl _, (Below.refl _ _).alloc (Nat.le_refl _) _⟩
  unfold World.cell?
  rw [heap_new]
  simp only [Option.bind_some]
  have := cellsOf_at (N := min n (s.size + 1)) hi
  simpa using this
theorem itoa_is (a : Addr) {n : Nat} (hn : n < 1000000000000000000) (w : World) (h : Lie a w) :
    Calls Tryz.prog 71 #[.int .i64 (n : Int)] w fun e w' => e = .returned (.string (digB n)) ∧ Below w.heap.size w w' := by
  refine (Any.strconv_Itoa Tryz.laysM171 (n : Int) (by omega) (by omega) w h.2.1).mono ?_
  rintro e w' ⟨rfl, k, os, rfl⟩
  rw [itoa_dig hn]
  refine ⟨rfl, ⟨rfl, rfl, rfl, by simp [grow, World.drewN], fun k hk => by simp [grow, World.drewN, Array.getElem?_append, hk]⟩⟩
theorem atoi_ok (a : Addr) {s : ByteArray} {v : Int} (hs : s.size ≤ 3000) (hv : Lib.atoiAll s.data.toList = .ok v) (w : World) (h : Lie a w) :
    Calls Tryz.prog 146 #[.string s] w fun e w' => e = .returned (.tuple #[.int .i64 v, .nilIface]) ∧ Below w.heap.size w w' := by
  refine (Any.strconv_Atoi_ok Tryz.laysC172 s (by omega) v hv w).mono ?_
  rintro e w' ⟨rfl, rfl | ⟨t, rfl⟩⟩
  · exact ⟨rfl, Below.refl _ _⟩
  · refine ⟨rfl, ?_⟩
    exact Lib.bytesWorld_below _ _ _
theorem atoi_no (a : Addr) {s : ByteArray} (hs : s.size ≤ 3000) (hv : ∀ v, Lib.atoiAll s.data.toList ≠ .ok v) (w : World) (h : Lie a w) :
    Calls Tryz.prog 146 #[.string s] w fun e w' => (∃ (v : Int) (p : Value), e = .returned (.tuple #[.int .i64 v, .iface 199 p])) ∧ Below w.heap.size w w' := by
  obtain ⟨t1, p1, h3⟩ := h.2.2.1
  obtain ⟨t2, p2, h4⟩ := h.2.2.2.1
  cases hc : Lib.atoiAll s.data.toList with
  | ok v => exact absurd hc (hv v)
  | «syntax» =>
    refine (Any.strconv_Atoi_syntax Tryz.laysC172 s (by omega) hc _ w h3 (Or.inr ⟨t1, p1, rfl⟩)).mono ?_
    rintro e w' ⟨N, rfl, _, _, k⟩
    exact ⟨⟨_, _, rfl⟩, k⟩
  | range =>
    refine (Any.strconv_Atoi_range Tryz.laysC172 s (by omega) hc _ w h4 (Or.inr ⟨t2, p2, rfl⟩)).mono ?_
    rintro e w' ⟨N, rfl, _, _, k⟩
    exact ⟨⟨_, _, rfl⟩, k⟩
end Go.Proofs.YtgngdabfmbipaakGreatDoor
