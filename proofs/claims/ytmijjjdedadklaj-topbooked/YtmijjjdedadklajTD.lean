/- Texts joined: LogBytes LogMem LogRec LogRead LogSeen LogPlay. Records of deals as bytes, one behind the other; which of them are whole; a row of bytes of one's own. Apart from the program's code. Bytes appended to a row of one's own: those of a string, two of them; what such a row leaves as it was. Of whatever program. What package log's records are made of: putNumber, putSpot, numberAt, a reader's number and spot. What package log reads back: read, the deal of a record's body. A range over a function whose body reads memory that the function has laid for it in that very round (a struct with slices, read anew): what each round is handed is told of the memory in which it is handed. The body never leaves the loop. Of whatever program. What package log replays: deals (a range over a function), replay. -/
import Derived.Test.YtmijjjdedadklajLogMath
import Derived.Test.YtmijjjdedadklajBytesMath
import Derived.Deep.AppendSrc
import Derived.Maps.AppendAt
import Derived.Test.YtmijjjdedadklajTA
import Derived.Test.YtmijjjdedadklajBookRows
import Derived.Test.YtmijjjdedadklajTB
import Derived.Deep.RegionHeld3
import Derived.Deep.CutRange
import Derived.BigQuiet
import Derived.Test.YtmijjjdedadklajLogIs
import Derived.Test.YtmijjjdedadklajTC
import Derived.Test.YtmijjjdedadklajBookMem
import Derived.RangeFuncWrites
import Derived.RangeFuncBox
import Derived.RangeFuncLeaves
import Derived.RangeFuncCalls
import Derived.Shelf.Abstract
import Derived.WalkKit
import Derived.OwnWalkIn
import Derived.TacticsInMore
import Derived.LoopNIn
import Derived.LoopIn
/- LogBytes -/
namespace Go.Proofs.Ytmijjjdedadklaj
open Go.RowKit Go.Sort
set_option linter.unusedVariables false
set_option linter.unusedSimpArgs false

/-- Cells of so many bytes. -/
def cellsU (l : List Nat) : List Value := l.map fun (b : Nat) => .int .u8 (b : Int)
theorem cellsU_app (l m : List Nat) : cellsU (l ++ m) = cellsU l ++ cellsU m := List.map_append
theorem cellsU_len (l : List Nat) : (cellsU l).length = l.length := by unfold cellsU; simp
theorem cellsU_at {l : List Nat} {i b : Nat} (h : l[i]? = some b) : (cellsU l)[i]? = some (.int .u8 (b : Int)) := by unfold cellsU; simp [h]
theorem cellsU_one (l : List Nat) : ∀ u ∈ cellsU l, u.oneCell' = true := by
  intro u hu
  obtain ⟨b, _, rfl⟩ := List.mem_map.1 hu
  rfl
theorem cellsU_take (l : List Nat) (n : Nat) : cellsU (l.take n) = (cellsU l).take n := by unfold cellsU; rw [List.map_take]
/-- In block b, from o on, lie these bytes. -/
def RowU (w : World) (b o : Nat) (l : List Nat) : Prop := b < w.heap.size ∧ ∀ (i x : Nat), l[i]? = some x → w.cell? ⟨b, o + i, none⟩ = some (.int .u8 (x : Int))
theorem RowU.below {w w' : World} {b o B : Nat} {l : List Nat} (h : RowU w b o l) (hB : b < B) (k : Below B w w') : RowU w' b o l :=
  ⟨Nat.lt_of_lt_of_le h.1 k.size, fun i x hi => (k.cell (p := ⟨b, o + i, none⟩) hB).trans (h.2 i x hi)⟩
theorem RowU.but {F : Nat → Prop} {w w' : World} {b o : Nat} {l : List Nat} (h : RowU w b o l) (k : But F w w') (hp : ¬ F b) : RowU w' b o l := by
  have hb := k.block b h.1 hp
  exact ⟨Nat.lt_of_lt_of_le h.1 k.size, fun i x hi => (World.cell?_of_block (a := ⟨b, o + i, none⟩) hb).trans (h.2 i x hi)⟩
theorem RowU.part {w : World} {b o : Nat} {l m n : List Nat} (h : RowU w b o (l ++ (m ++ n))) : RowU w b (o + l.length) m := by
  refine ⟨h.1, fun i x hi => ?_⟩
  rw [Nat.add_assoc]
  refine h.2 (l.length + i) x ?_
  rw [List.getElem?_append_right (by omega), show l.length + i - l.length = i by omega, List.getElem?_append_left (List.getElem?_eq_some_iff.1 hi).1]
  exact hi
theorem RowU.drop {w : World} {b o : Nat} {l m : List Nat} (h : RowU w b o (l ++ m)) : RowU w b (o + l.length) m := by
  have : RowU w b o (l ++ (m ++ [])) := by rw [List.append_nil]; exact h
  exact this.part
theorem RowU.left {w : World} {b o : Nat} {l m : List Nat} (h : RowU w b o (l ++ m)) : RowU w b o l :=
  (show RowU w b o ([] ++ (l ++ m)) from h).part
theorem own_bytes {w : World} {B : Nat} {e : TypeId} {v : Value} {l : List Nat} {n : Nat} (h : w.ownsRow B e 1 v n (cellsU l)) : ∃ (sa : Option Addr) (c : Nat), v = .slice sa n c ∧ n = l.length ∧ n ≤ c ∧ ((sa = none ∧ n = 0 ∧ c = 0) ∨ ∃ g, sa = some ⟨g, 0, none⟩ ∧ v.ownBlock = some g ∧ B ≤ g ∧ RowU w g 0 l) := by
  have hl := h.1
  rw [cellsU_len, Nat.mul_one] at hl
  rcases h.2 with ⟨rfl, rfl⟩ | ⟨g, cap, cur, rfl, hb, hg, hc, _⟩
  · exact ⟨none, 0, rfl, hl.symm, Nat.le_refl _, Or.inl ⟨rfl, rfl, rfl⟩⟩
  · refine ⟨_, cap, rfl, hl.symm, hc, Or.inr ⟨g, rfl, rfl, hb, (Array.getElem?_eq_some_iff.1 hg).1, fun i x hi => ?_⟩⟩
    have := h.cells (g := g) rfl i _ (cellsU_at hi)
    rw [addr_add] at this
    rw [Nat.zero_add]; exact this
/-- The first ones of a row of one's own. -/
theorem own_first {w : World} {B : Nat} {e : TypeId} {sa : Option Addr} {n c k : Nat} {l : List Nat} (h : w.ownsRow B e 1 (.slice sa n c) n (cellsU l)) (hk : k ≤ n) : w.ownsRow B e 1 (.slice sa k c) k (cellsU (l.take k)) := by
  have hl := h.1
  rw [cellsU_len, Nat.mul_one] at hl
  refine ⟨by rw [cellsU_len, List.length_take]; omega, ?_⟩
  rcases h.2 with ⟨h1, h2⟩ | ⟨g, cap, cur, h1, hb, hg, hc, hm, hs, ht⟩
  · injection h1 with h1 h3 h4
    subst h1 h4
    obtain rfl : k = 0 := by omega
    exact Or.inl ⟨rfl, rfl⟩
  · injection h1 with h1 h3 h4
    subst h1 h4
    refine Or.inr ⟨g, c, cur, rfl, hb, hg, by omega, hm, hs, ?_⟩
    rw [cellsU_take, ← ht, List.take_take]
    congr 1
    omega

/-- A number as two bytes. -/
def nbL (n : Nat) : List Nat := [n / 256, n % 256]
theorem nbL_len (n : Nat) : (nbL n).length = 2 := rfl
/-- The bytes of a right spot. -/
def spL (k : Nat) : List Nat := (pkL (tM k)).map UInt8.toNat
theorem spL_cells (k : Nat) : byteCells (pkB (tM k)) = cellsU (spL k) := by unfold byteCells pkB cellsU spL; simp
theorem spL_le (k : Nat) : (spL k).length ≤ 3 := by unfold spL; rw [List.length_map]; exact pkL_le _
theorem spL_ge (k : Nat) : 1 ≤ (spL k).length := by unfold spL; rw [List.length_map, pkL_len]; cases (tM k).2.2 <;> decide
theorem spL_size (k : Nat) : (pkB (tM k)).size = (spL k).length := by unfold pkB spL; simp [ByteArray.size]
/-- A deal that a book did: which go, which come, the seal. -/
structure Rec where
  m : Nat
  Z : Nat → Int
  c : Nat
  J : Nat → Nat
  a : Nat
  s : Nat
def bodyZ (Z : Nat → Int) : Nat → List Nat
  | 0 => []
  | k + 1 => bodyZ Z k ++ nbL (Z k).toNat
def bodyK (J : Nat → Nat) : Nat → List Nat
  | 0 => []
  | k + 1 => bodyK J k ++ spL (4 * J k)
theorem bodyZ_len (Z : Nat → Int) : ∀ k, (bodyZ Z k).length = 2 * k
  | 0 => rfl
  | k + 1 => by show (bodyZ Z k ++ nbL _).length = _; rw [List.length_append, bodyZ_len Z k, nbL_len]; omega
theorem bodyK_le (J : Nat → Nat) : ∀ k, (bodyK J k).length ≤ 3 * k
  | 0 => Nat.le_refl _
  | k + 1 => by show (bodyK J k ++ spL _).length ≤ _; rw [List.length_append]; have := bodyK_le J k; have := spL_le (4 * J k); omega
/-- What is left of them. -/
def restZ (Z : Nat → Int) (m : Nat) : Nat → List Nat
  | 0 => []
  | k + 1 => nbL (Z (m - (k + 1))).toNat ++ restZ Z m k
def restK (J : Nat → Nat) (m : Nat) : Nat → List Nat
  | 0 => []
  | k + 1 => spL (4 * J (m - (k + 1))) ++ restK J m k
theorem restZ_at (Z : Nat → Int) {m k : Nat} (h : k < m) : restZ Z m (m - k) = nbL (Z k).toNat ++ restZ Z m (m - (k + 1)) := by
  obtain ⟨j, hj⟩ : ∃ j, m - k = j + 1 := ⟨m - k - 1, by omega⟩
  rw [hj, show m - (k + 1) = j by omega]
  show nbL (Z (m - (j + 1))).toNat ++ _ = _
  rw [show m - (j + 1) = k by omega]
theorem restK_at (J : Nat → Nat) {m k : Nat} (h : k < m) : restK J m (m - k) = spL (4 * J k) ++ restK J m (m - (k + 1)) := by
  obtain ⟨j, hj⟩ : ∃ j, m - k = j + 1 := ⟨m - k - 1, by omega⟩
  rw [hj, show m - (k + 1) = j by omega]
  show spL (4 * J (m - (j + 1))) ++ _ = _
  rw [show m - (j + 1) = k by omega]
theorem bodyZ_rest (Z : Nat → Int) (m : Nat) : ∀ k, k ≤ m → bodyZ Z m = bodyZ Z (m - k) ++ restZ Z m k
  | 0, _ => by rw [Nat.sub_zero]; exact (List.append_nil _).symm
  | k + 1, h => by
    rw [bodyZ_rest Z m k (by omega)]
    obtain ⟨j, hj⟩ : ∃ j, m - k = j + 1 := ⟨m - k - 1, by omega⟩
    rw [hj, show m - (k + 1) = j by omega]
    show (bodyZ Z j ++ nbL (Z j).toNat) ++ _ = bodyZ Z j ++ (nbL (Z (m - (k + 1))).toNat ++ restZ Z m k)
    rw [show m - (k + 1) = j by omega, List.append_assoc]
theorem bodyK_rest (J : Nat → Nat) (m : Nat) : ∀ k, k ≤ m → bodyK J m = bodyK J (m - k) ++ restK J m k
  | 0, _ => by rw [Nat.sub_zero]; exact (List.append_nil _).symm
  | k + 1, h => by
    rw [bodyK_rest J m k (by omega)]
    obtain ⟨j, hj⟩ : ∃ j, m - k = j + 1 := ⟨m - k - 1, by omega⟩
    rw [hj, show m - (k + 1) = j by omega]
    show (bodyK J j ++ spL (4 * J j)) ++ _ = bodyK J j ++ (spL (4 * J (m - (k + 1))) ++ restK J m k)
    rw [show m - (k + 1) = j by omega, List.append_assoc]
theorem bodyZ_all (Z : Nat → Int) (m : Nat) : bodyZ Z m = restZ Z m m := by have := bodyZ_rest Z m m (Nat.le_refl _); rwa [Nat.sub_self] at this
theorem bodyK_all (J : Nat → Nat) (m : Nat) : bodyK J m = restK J m m := by have := bodyK_rest J m m (Nat.le_refl _); rwa [Nat.sub_self] at this
/-- The bytes of a deal. -/
def bodyL (d : Rec) : List Nat := nbL d.m ++ (bodyZ d.Z d.m ++ (nbL d.c ++ (bodyK d.J d.c ++ (spL d.a ++ nbL d.s))))
/-- A record. -/
def recL (d : Rec) : List Nat := nbL (bodyL d).length ++ bodyL d
/-- What holds of each that a book did. -/
structure RecIn (d : Rec) : Prop where
  m : d.m ≤ 1000
  z : ∀ i, i < d.m → 0 ≤ d.Z i ∧ d.Z i < 1000
  c : d.c ≤ 12
  s : d.s < 1013
theorem bodyL_len (d : Rec) : (bodyL d).length = 6 + 2 * d.m + (bodyK d.J d.c).length + (spL d.a).length := by
  unfold bodyL
  simp only [List.length_append, nbL_len, bodyZ_len]
  omega
theorem bodyL_le {d : Rec} (h : RecIn d) : (bodyL d).length ≤ 2045 := by
  rw [bodyL_len]
  have h1 := bodyK_le d.J d.c
  have h2 := spL_le d.a
  have h3 := h.m
  have h4 := h.c
  omega
theorem recL_len (d : Rec) : (recL d).length = (bodyL d).length + 2 := by unfold recL; rw [List.length_append, nbL_len]; omega
theorem recL_ge (d : Rec) : 9 ≤ (recL d).length := by rw [recL_len, bodyL_len]; have := spL_ge d.a; omega
/-- So many records. -/
def catL (d : Nat → Rec) : Nat → List Nat
  | 0 => []
  | k + 1 => catL d k ++ recL (d k)
def catN (d : Nat → Rec) (k : Nat) : Nat := (catL d k).length
theorem catN_succ (d : Nat → Rec) (k : Nat) : catN d (k + 1) = catN d k + 2 + (bodyL (d k)).length := by
  unfold catN
  show (catL d k ++ recL (d k)).length = _
  rw [List.length_append, recL_len]; omega
theorem catN_mono (d : Nat → Rec) {i j : Nat} (h : i ≤ j) : catN d i ≤ catN d j := by
  induction j with
  | zero => obtain rfl : i = 0 := by omega
            exact Nat.le_refl _
  | succ j ih =>
    rcases Nat.lt_succ_iff_lt_or_eq.1 (Nat.lt_succ_of_le h) with h1 | rfl
    · have := ih (by omega)
      rw [catN_succ]; omega
    · exact Nat.le_refl _
theorem catN_le {d : Nat → Rec} : ∀ {k : Nat}, (∀ i, i < k → RecIn (d i)) → catN d k ≤ k * 2047
  | 0, _ => Nat.le_refl _
  | k + 1, h => by
    rw [catN_succ]
    have h1 := catN_le (d := d) (k := k) fun i hi => h i (by omega)
    have h2 := bodyL_le (h k (by omega))
    omega
theorem catL_congr {d e : Nat → Rec} : ∀ {k : Nat}, (∀ i, i < k → d i = e i) → catL d k = catL e k
  | 0, _ => rfl
  | k + 1, h => by
    show catL d k ++ recL (d k) = catL e k ++ recL (e k)
    rw [catL_congr fun i hi => h i (by omega), h k (by omega)]
/-- What is there: so many records, and of another one its first bytes, not all of them. -/
def Whole (d : Nat → Rec) (r : Nat) (L : List Nat) : Prop := ∃ e t, RecIn e ∧ t < (recL e).length ∧ L = catL d r ++ (recL e).take t
def nilR : Rec := ⟨0, fun _ => 0, 0, fun _ => 0, 0, 0⟩
theorem nilR_in : RecIn nilR := ⟨Nat.zero_le _, fun i hi => absurd hi (Nat.not_lt_zero _), Nat.zero_le _, by decide⟩
theorem whole_all (d : Nat → Rec) (r : Nat) : Whole d r (catL d r) := ⟨nilR, 0, nilR_in, by have := recL_ge nilR; omega, by simp⟩
theorem whole_half (d : Nat → Rec) (r : Nat) {e : Rec} (h : RecIn e) : Whole d r (catL d r ++ (recL e).take ((recL e).length / 2)) := ⟨e, _, h, by have := recL_ge e; omega, rfl⟩
/-- The k-th record, if it is whole. -/
theorem catL_part (d : Nat → Rec) : ∀ {r k : Nat}, k < r → ∃ post, catL d r = catL d k ++ (recL (d k) ++ post)
  | r + 1, k, h => by
    rcases Nat.lt_succ_iff_lt_or_eq.1 h with h1 | rfl
    · obtain ⟨post, hp⟩ := catL_part d h1
      refine ⟨post ++ recL (d r), ?_⟩
      show catL d r ++ recL (d r) = _
      rw [hp, List.append_assoc, List.append_assoc]
    · exact ⟨[], by show catL d k ++ recL (d k) = _; rw [List.append_nil]⟩
theorem whole_part {d : Nat → Rec} {r k : Nat} {L : List Nat} (h : Whole d r L) (hk : k < r) : ∃ post, L = catL d k ++ (recL (d k) ++ post) := by
  obtain ⟨e, t, _, _, rfl⟩ := h
  obtain ⟨post, hp⟩ := catL_part d hk
  exact ⟨post ++ (recL e).take t, by rw [hp, List.append_assoc, List.append_assoc]⟩
/-- Behind the last one: there is no number, or one that goes beyond the end. -/
theorem whole_end {d : Nat → Rec} {r : Nat} {L : List Nat} (h : Whole d r L) : L.length < catN d r + 2 ∨ ∃ n post, n < 65536 ∧ L = catL d r ++ (nbL n ++ post) ∧ L.length < catN d r + 2 + n := by
  obtain ⟨e, t, he, ht, rfl⟩ := h
  unfold catN
  rw [List.length_append, List.length_take]
  by_cases h2 : t < 2
  · exact Or.inl (by omega)
  · refine Or.inr ⟨(bodyL e).length, (bodyL e).take (t - 2), by have := bodyL_le he; omega, ?_, by rw [recL_len] at ht; omega⟩
    congr 1
    unfold recL
    rw [List.take_append, nbL_len, List.take_of_length_le (by rw [nbL_len]; omega)]
theorem whole_len {d : Nat → Rec} {r : Nat} {L : List Nat} (h : Whole d r L) : catN d r ≤ L.length ∧ L.length ≤ catN d r + 2047 := by
  obtain ⟨e, t, he, ht, rfl⟩ := h
  have h1 := bodyL_le he
  rw [recL_len] at ht
  unfold catN
  rw [List.length_append, List.length_take]
  omega
/-- What a cut leaves. -/
theorem whole_cut {d : Nat → Rec} {L : List Nat} {h : Nat} : ∀ {r : Nat}, (∀ i, i < r → RecIn (d i)) → Whole d r L → Whole d (lastM (catN d) h r) (L.take h)
  | 0, _, hw => by
    obtain ⟨e, t, he, ht, rfl⟩ := hw
    exact ⟨e, min h t, he, by omega, by show (([] : List Nat) ++ _).take h = [] ++ _; rw [List.nil_append, List.nil_append, List.take_take]⟩
  | r + 1, hd, hw => by
    by_cases hk : catN d (r + 1) ≤ h
    · rw [lastM_yes hk]
      obtain ⟨e, t, he, ht, rfl⟩ := hw
      refine ⟨e, min (h - catN d (r + 1)) t, he, by omega, ?_⟩
      rw [List.take_append, List.take_of_length_le hk, List.take_take]
      rfl
    · rw [lastM_no hk]
      have hr := hd r (by omega)
      have : Whole d r (L.take h) ∨ h < catN d r := by
        by_cases h2 : h < catN d r
        · exact Or.inr h2
        · refine Or.inl ⟨d r, h - catN d r, hr, by rw [catN_succ] at hk; rw [recL_len]; omega, ?_⟩
          obtain ⟨post, hp⟩ := whole_part hw (Nat.lt_succ_self r)
          rw [hp, List.take_append, List.take_of_length_le (by show catN d r ≤ h; omega), List.take_append]
          congr 1
          rw [show h - (catL d r).length - (recL (d r)).length = 0 by rw [catN_succ] at hk; rw [recL_len]; unfold catN at hk; omega, List.take_zero, List.append_nil]
          rfl
      rcases this with h1 | h1
      · have h2 := whole_cut (h := h) (fun i hi => hd i (by omega)) h1
        rwa [List.take_take, Nat.min_self] at h2
      · have h3 : Whole d r (catL d r) := whole_all d r
        have h2 := whole_cut (h := h) (fun i hi => hd i (by omega)) h3
        obtain ⟨post, hp⟩ := whole_part hw (Nat.lt_succ_self r)
        rw [hp, List.take_append, show h - (catL d r).length = 0 by unfold catN at h1; omega, List.take_zero, List.append_nil]
        exact h2
end Go.Proofs.Ytmijjjdedadklaj
/- LogMem -/
namespace Go.Proofs.Ytmijjjdedadklaj
open Go.RowKit Go.Sort
set_option linter.unusedVariables false
set_option linter.unusedSimpArgs false

theorem grown_cells (b : Nat) : ∀ (vs : List Value) (o : Nat) (w : World), w.grownBy (w.setCells b o vs) (some b)
  | [], _, w => ⟨rfl, rfl, rfl, Nat.le_refl _, fun _ _ _ => rfl⟩
  | v :: vs, o, w => by
    have h1 : w.grownBy (w.setCell ⟨b, o, none⟩ v) (some b) := ⟨rfl, rfl, rfl, by simp [World.setCell], fun k hk hn => Below.heap_setCell w ⟨b, o, none⟩ v k (fun e => hn (by rw [e]))⟩
    exact h1.trans (grown_cells b vs (o + 1) _)
/-- Cells of a row of one's own are written anew. -/
theorem own_cells {B : Nat} {e : TypeId} {g N c : Nat} : ∀ (vs : List Value) (o : Nat) (w : World) (ys : List Value), w.ownsRow B e 1 (.slice (some ⟨g, 0, none⟩) N c) N ys → o + vs.length ≤ ys.length →
    (w.setCells g o vs).ownsRow B e 1 (.slice (some ⟨g, 0, none⟩) N c) N (ys.take o ++ (vs ++ ys.drop (o + vs.length)))
  | [], o, w, ys, h, _ => by simpa [World.setCells] using h
  | v :: vs, o, w, ys, h, hl => by
    have h1 := (h.stored o v).1
    simp only [List.length_cons] at hl
    have h2 := own_cells vs (o + 1) _ _ h1 (by simp; omega)
    have e : (ys.set o v).take (o + 1) ++ (vs ++ (ys.set o v).drop (o + 1 + vs.length)) = ys.take o ++ (v :: vs ++ ys.drop (o + (v :: vs).length)) := by
      rw [List.drop_set, if_pos (by omega), List.take_set, List.take_add_one, List.getElem?_eq_getElem (by omega), List.set_append_right _ _ (by simp; omega)]
      simp only [List.length_take, show min o ys.length = o by omega, Nat.sub_self, List.length_cons, List.cons_append]
      rw [show o + 1 + vs.length = o + (vs.length + 1) by omega]
      simp
    rw [e] at h2
    exact h2
section
variable {P : Program} (w : World)
/-- A string's bytes behind a row of one's own. -/
theorem run_append_text (base : Nat) (t tx ty e : TypeId) (i : TypeInfo) (z : Value) (ht : P.underlying t = some (.slice e)) (hx : P.underlying tx = some .string) (hi : P.info? e = some i) (hz : i.zero = some z) (hsize : i.size = 1) (hby : i.bytes = 1) (hzs : z.cells.size = 1)
    (v : Value) (n : Nat) (xs : List Value) (hown : w.ownsRow base e 1 v n xs) (s : ByteArray) (hs : 0 < s.size) (h63 : n + s.size ≤ 1000000000) (hbase : base ≤ w.heap.size) :
    ∃ v' w', (Builtin.append_ #[t, tx] ty #[v, .string s]).run P w = .ok v' w' ∧ w'.ownsRow base e 1 v' (n + s.size) (xs ++ byteCells s) ∧ w.grownBy w' v.ownBlock ∧ (v'.ownBlock = v.ownBlock ∨ v'.ownBlock = some w.heap.size) := by
  have hmax : n + s.size ≤ maxLen := by unfold maxLen; omega
  have hsrc : Src P i.size tx (.string s) s.size (byteCells s) w := by rw [hsize]; exact Src.ofString w hx s
  have hxl : xs.length = n := by have := hown.1; omega
  have hbl := byteCells_length s
  have new : ∀ (so : Option Addr) (cap : Nat), cap < n + s.size → (Builtin.firstCells i.size n (.slice so n cap)).run P w.drew = .ok xs.toArray w.drew → ∃ v' w', (Builtin.append_ #[t, tx] ty #[.slice so n cap, .string s]).run P w = .ok v' w' ∧ w'.ownsRow base e 1 v' (n + s.size) (xs ++ byteCells s) ∧ w.grownBy w' (Value.slice so n cap).ownBlock ∧ (v'.ownBlock = (Value.slice so n cap).ownBlock ∨ v'.ownBlock = some w.heap.size) := by
    intro so cap hc hold
    have hr := run_append_grow_src (P := P) w t tx ty e i z ht hi hz so n cap xs hold (.string s) s.size (byteCells s) hsrc hc (by omega) (growslice_fits hc (by rw [hby]; omega))
    refine ⟨_, _, hr, ⟨by rw [List.length_append, hxl, hbl]; omega, Or.inr ⟨w.heap.size, _, _, rfl, hbase, heap_alloc_new w.drew _, grownCap_ge _ _ _ _, grownCap_le_maxLen _ _ _ _ hmax, ?_, ?_⟩⟩, ⟨rfl, rfl, rfl, by simp, fun k hk _ => Below.heap_alloc w.drew _ k hk⟩, Or.inr rfl⟩
    · have := grownCap_ge w (n + s.size) cap e
      simp only [Array.size_append, List.size_toArray, size_zeroCells, hzs, List.length_append, hxl, hbl]
      omega
    · simp only [Array.toList_append, Nat.mul_one]
      rw [show n + s.size = (xs ++ byteCells s).length by rw [List.length_append, hxl, hbl]]
      exact List.take_left
  rcases hown.2 with ⟨rfl, rfl⟩ | ⟨g, cap, cur, rfl, hbg, hg, hnc, hcm, hcs, htake⟩
  · obtain rfl : xs = [] := List.eq_nil_of_length_eq_zero hxl
    exact new none 0 (by omega) (run_firstCells_none w.drew i.size 0 0 0)
  · by_cases hroom : n + s.size ≤ cap
    · rw [Nat.mul_one] at hcs htake
      have hsz : cur.toList.length = cap := by rw [Array.length_toList]; exact hcs
      have hr := run_append_room_src (P := P) w t tx ty e i ht hi g 0 n cap (.string s) s.size (byteCells s) hsrc hroom
        (fun j hj => by rw [hbl] at hj; rw [hsize, Nat.mul_one, Nat.zero_add]; simp [World.cell?, hg, show n + j < cur.size by omega])
        (fun j hj => by rw [hsize, Nat.mul_one, Nat.zero_add]; simp [World.frozen?, hg])
      rw [hsize, Nat.mul_one, Nat.zero_add] at hr
      have hbig : w.ownsRow base e 1 (.slice (some ⟨g, 0, none⟩) (n + s.size) cap) (n + s.size) (cur.toList.take (n + s.size)) := ⟨by rw [List.length_take, hsz]; omega, Or.inr ⟨g, cap, cur, rfl, hbg, hg, hroom, hcm, by omega, by rw [Nat.mul_one]⟩⟩
      have hset := own_cells (byteCells s) n w _ hbig (by rw [hbl, List.length_take, hsz]; omega)
      refine ⟨_, _, hr, ?_, grown_cells g _ _ _, Or.inl rfl⟩
      rw [List.take_take, show min n (n + s.size) = n by omega, htake, List.drop_eq_nil_of_le (by rw [hbl, List.length_take]; omega), List.append_nil] at hset
      exact hset
    · exact new (some ⟨g, 0, none⟩) cap (by omega) (run_firstCells_some w.drew i.size n ⟨g, 0, none⟩ n cap xs (by rw [hxl, hsize, Nat.mul_one]) (by simpa using hown.cells (g := g) rfl))
theorem wpList_append_text {ops : Array Oper} {rest : List Oper} {o : Oper} {a : Act} {Q : Exit → Act → World → Prop} (hgd : o.guard = none) (so x : Operand) (t tx : TypeId)
    (ho : o.op = .call { callee := .builtin .append, args := #[so, x], argTypes := #[t, tx] }) (base : Nat) (e : TypeId) (i : TypeInfo) (z : Value) (ht : P.underlying t = some (.slice e)) (hxt : P.underlying tx = some .string) (hi : P.info? e = some i) (hz : i.zero = some z) (hsize : i.size = 1) (hby : i.bytes = 1) (hzs : z.cells.size = 1)
    (v : Value) (n : Nat) (xs : List Value) (hv : a.eval so = v) (hown : w.ownsRow base e 1 v n xs) (s : ByteArray) (hx : a.eval x = .string s) (hs : 0 < s.size) (h63 : n + s.size ≤ 1000000000) (hbase : base ≤ w.heap.size)
    (h : ∀ v' w', w'.ownsRow base e 1 v' (n + s.size) (xs ++ byteCells s) → w.grownBy w' v.ownBlock → (v'.ownBlock = v.ownBlock ∨ v'.ownBlock = some w.heap.size) → wpList P ops Q rest (a.put o.dst v') w') : wpList P ops Q (o :: rest) a w := by
  refine wpList_plain hgd fun K hK => ?_
  obtain ⟨v', w', hr, h2, h3, h4⟩ := run_append_text (P := P) w base t tx o.type e i z ht hxt hi hz hsize hby hzs v n xs hown s hs h63 hbase
  unfold Oper.wp execOp
  simp only [ho, resolve, invoke, builtin, Sem.run_bind, Sem.run_pure, Result.andThen_ok, List.map_toArray, List.map_cons, List.map_nil, hv, hx, hr]
  exact hK _ _ (h v' w' h2 h3 h4)
end
/-- A row of bytes has become these; but for its own block all is as it was. -/
structure Grew (U : TypeId) (B : Nat) (w w' : World) (v v' : Value) (L : List Nat) : Prop where
  own : w'.ownsRow B U 1 v' L.length (cellsU L)
  but : But (fun i => v.ownBlock = some i) w w'
  at' : ∀ i, v'.ownBlock = some i → v.ownBlock = some i ∨ w.heap.size ≤ i
theorem Grew.of {U : TypeId} {B n : Nat} {w w1 w' : World} {v v' : Value} {L : List Nat} {xs : List Value} (h0 : Below w.heap.size w w1) (ho : w'.ownsRow B U 1 v' n xs) (hn : n = L.length) (hx : xs = cellsU L) (hg : w1.grownBy w' v.ownBlock) (hat : v'.ownBlock = v.ownBlock ∨ v'.ownBlock = some w1.heap.size) : Grew U B w w' v v' L := by
  subst hn hx
  refine ⟨ho, (But.of_below _ h0).grown hg fun k hk => Or.inl hk, fun i hi => ?_⟩
  rcases hat with e | e
  · exact Or.inl (e.symm.trans hi)
  · rw [e] at hi; injection hi with hi; have := h0.size; exact Or.inr (by omega)
theorem two_at {w : World} {b : Nat} (h : w.heap.size = b) (x y : Value) (t : TypeId) : ∀ j u, [x, y][j]? = some u → (w.alloc (.cells #[x, y] t)).cell? ((⟨b, 0, none⟩ : Addr).add j) = some u := by
  subst h
  intro j u hj
  rw [addr_add]
  match j, hj with
  | 0, hj => simp at hj; subst hj; simp
  | 1, hj => simp at hj; subst hj; simp
end Go.Proofs.Ytmijjjdedadklaj
/- LogRec -/
namespace Go.Proofs.Ytmijjjdedadklaj
open Go.RowKit Go.Sort
set_option linter.unusedVariables false
set_option linter.unusedSimpArgs false
theorem luinfo : (Try.prog.info? 5).map (fun i => (i.zero, i.size, i.bytes)) = some (some (.int .u8 0), 1, 1) := by kernel_rfl
theorem or_nat {x y : Nat} (hx : x < 256) (hy : y < 256) : bits BinOp.or IntKind.i64 ((x : Int) * 256) (y : Int) = ((x * 256 + y : Nat) : Int) := by
  have h := or_pl (UInt8.ofNat x) (UInt8.ofNat y)
  unfold plN at h
  rw [UInt8.toNat_ofNat', UInt8.toNat_ofNat', Nat.mod_eq_of_lt hx, Nat.mod_eq_of_lt hy] at h
  exact h
set_option maxRecDepth 100000 in
set_option maxHeartbeats 1000000 in
theorem lput_number (B : Nat) (v : Value) (l : List Nat) (n : Nat) (w : World) (hn : n < 65536) (hl : l.length ≤ 1000000) (hB : B ≤ w.heap.size) (h : w.ownsRow B 5 1 v l.length (cellsU l)) :
    Calls Try.prog 64 #[v, .int .i64 (n : Int)] w fun ex w' => ∃ v', ex = .returned v' ∧ Grew 5 B w w' v v' (l ++ nbL n) := by
  have H : Hid (w.ownsRow B 5 1 v l.length (cellsU l)) := h
  clear h
  obtain ⟨i0, hi, hv0, hv1, hv2⟩ := info_parts luinfo
  go_enter Try.func64, Try.ntmps64
  go_wp2_with (at_builtin; refine wpList_append_own_at _ rfl _ _ 72 rfl B 5 i0 (.int .u8 0) 1 1 Try.underlying72 hi hv0 hv1 hv2 rfl (by decide) _ _ _ rfl (own_stay H.out (by repeat (first | (with_reducible exact Below.refl _ _) | (with_reducible assumption) | (with_reducible refine Below.setCell ?_ (by first | (simp; done) | (simp; omega) | omega) _) | (with_reducible refine Below.alloc ?_ (by first | (simp; done) | (simp; omega) | omega) _) | (refine bl_call ?_ (by assumption) (by first | (simp; done) | (simp; omega) | omega)) | (with_reducible refine bl_drewN ?_) | (with_reducible refine Below.drew ?_) | (with_reducible refine bl_grow ?_ (by first | (simp; done) | (simp; omega) | omega))))) ⟨_, 0, none⟩ 2 2 [.int .u8 ((n : Int) / 256), .int .u8 ((n : Int) % 256)] rfl rfl ?c1 ?c2 ?c3 ?c4 ?c5 ?_)
  
  case c1 => exact two_at (by simp) _ _ _
  case c2 => intro u hu; simp at hu; rcases hu with rfl | rfl <;> rfl
  case c3 => unfold maxLen; omega
  case c4 => omega
  case c5 => simp; omega
  intro v' w1 hown hgrow _ hat
  have hG : Grew 5 B w w1 v v' (l ++ nbL n) := Grew.of (by repeat (first | (with_reducible exact Below.refl _ _) | (with_reducible assumption) | (with_reducible refine Below.setCell ?_ (by first | (simp; done) | (simp; omega) | omega) _) | (with_reducible refine Below.alloc ?_ (by first | (simp; done) | (simp; omega) | omega) _) | (refine bl_call ?_ (by assumption) (by first | (simp; done) | (simp; omega) | omega)) | (with_reducible refine bl_drewN ?_) | (with_reducible refine Below.drew ?_) | (with_reducible refine bl_grow ?_ (by first | (simp; done) | (simp; omega) | omega)))) hown (by rw [List.length_append, nbL_len]) (by rw [cellsU_app]; simp [cellsU, nbL]) hgrow (by simpa using hat)
  clear hown hgrow hat
  go_wp2_with fail
  go_ret
  exact ⟨_, rfl, hG⟩
set_option maxRecDepth 100000 in
set_option maxHeartbeats 1000000 in
theorem lput_spot (B : Nat) (v : Value) (l : List Nat) (k : Nat) (w : World) (hl : l.length ≤ 1000000) (hB : B ≤ w.heap.size) (h : w.ownsRow B 5 1 v l.length (cellsU l)) :
    Calls Try.prog 65 #[v, .agg #[.int .i64 ((tM k).1 : Int), .int .i64 ((tM k).2.1 : Int), .bool (tM k).2.2]] w fun ex w' => ∃ v', ex = .returned v' ∧ Grew 5 B w w' v v' (l ++ spL k) := by
  have H : Hid (w.ownsRow B 5 1 v l.length (cellsU l)) := h
  clear h
  obtain ⟨i0, hi, hv0, hv1, hv2⟩ := info_parts luinfo
  have hs1 := spL_ge k
  have hs2 := spL_le k
  have hs3 := spL_size k
  have m1 : True := trivial
  go_enter Try.func65, Try.ntmps65
  go_wp2_with (first | (go_at_call 70; clear m1; refine (pack_tM k _).mono ?_; rintro e w1 ⟨rfl, hbw1⟩; have hqw1 : Below w.heap.size w w1 := (by repeat (first | (with_reducible exact Below.refl _ _) | (with_reducible assumption) | (with_reducible refine Below.setCell ?_ (by first | (simp; done) | (simp; omega) | omega) _) | (with_reducible refine Below.alloc ?_ (by first | (simp; done) | (simp; omega) | omega) _) | (refine bl_call ?_ (by assumption) (by first | (simp; done) | (simp; omega) | omega)) | (with_reducible refine bl_drewN ?_) | (with_reducible refine Below.drew ?_) | (with_reducible refine bl_grow ?_ (by first | (simp; done) | (simp; omega) | omega)))); have hzw1 := hqw1.size; clear hbw1) | (at_builtin; refine wpList_append_text _ rfl _ _ 72 9 rfl B 5 i0 (.int .u8 0) Try.underlying72 Try.underlying9 hi hv0 hv1 hv2 rfl _ _ _ rfl (own_stay H.out hqw1) _ rfl (by omega) (by omega) (by omega) ?_))
  intro v' w2 hown hgrow hat
  have hG : Grew 5 B w w2 v v' (l ++ spL k) := Grew.of hqw1 hown (by rw [List.length_append]) (by rw [cellsU_app, spL_cells]) hgrow hat
  clear hown hgrow hat
  go_wp2_with fail
  go_ret
  exact ⟨_, rfl, hG⟩
set_option maxRecDepth 100000 in
set_option maxHeartbeats 1000000 in
theorem lnum_at (b o n c i x y : Nat) (w : World) (hi : i + 1 < n) (hn : n ≤ 1000000000) (hx : x < 256) (hy : y < 256) (c0 : w.cell? ⟨b, o + i, none⟩ = some (.int .u8 (x : Int))) (c1 : w.cell? ⟨b, o + (i + 1), none⟩ = some (.int .u8 (y : Int))) :
    Calls Try.prog 85 #[.slice (some ⟨b, o, none⟩) n c, .int .i64 (i : Int)] w fun e w' => e = .returned (.int .i64 ((x * 256 + y : Nat) : Int)) ∧ Below w.heap.size w w' := by
  have HO : Hid (bits BinOp.or IntKind.i64 ((x : Int) * 256) (y : Int) = ((x * 256 + y : Nat) : Int)) := or_nat hx hy
  have hb := World.block_lt_of_cell? w ⟨b, o + i, none⟩ c0
  have c1' : w.cell? ⟨b, o + i + 1, none⟩ = some (.int .u8 (y : Int)) := c1
  go_enter Try.func85, Try.ntmps85
  go_wp2_with fail
  go_quiet (fail)
  
  go_wp2_with fail
  go_ret
  refine ⟨ret_int ?_, by repeat (first | (with_reducible exact Below.refl _ _) | (with_reducible assumption) | (with_reducible refine Below.setCell ?_ (by first | (simp; done) | (simp; omega) | omega) _) | (with_reducible refine Below.alloc ?_ (by first | (simp; done) | (simp; omega) | omega) _) | (refine bl_call ?_ (by assumption) (by first | (simp; done) | (simp; omega) | omega)) | (with_reducible refine bl_drewN ?_) | (with_reducible refine Below.drew ?_) | (with_reducible refine bl_grow ?_ (by first | (simp; done) | (simp; omega) | omega)))⟩
  rw [← HO.out]
/-- A reader, in block p: what is left of its bytes, in a block below N. -/
def Reads (N : Nat) (w : World) (p : Nat) (L : List Nat) : Prop := N ≤ p ∧ ∃ (sa : Option Addr) (c : Nat), At w p [.slice sa L.length c] ∧ L.length ≤ c ∧ (L = [] ∨ ∃ b o, sa = some ⟨b, o, none⟩ ∧ b < N ∧ RowU w b o L)
theorem Reads.below {N : Nat} {w w' : World} {p : Nat} {L : List Nat} (h : Reads N w p L) (k : Below w.heap.size w w') : Reads N w' p L := by
  obtain ⟨h0, sa, c, h1, h2, h3⟩ := h
  exact ⟨h0, sa, c, h1.below k, h2, h3.imp_right fun ⟨b, o, e, hne, r⟩ => ⟨b, o, e, hne, r.below r.1 k⟩⟩
theorem Reads.but {N : Nat} {F : Nat → Prop} {w w' : World} {p : Nat} {L : List Nat} (h : Reads N w p L) (k : But F w w') (hF : ∀ i, F i → N ≤ i ∧ i ≠ p) : Reads N w' p L := by
  obtain ⟨h0, sa, c, h1, h2, h3⟩ := h
  exact ⟨h0, sa, c, h1.but k fun e => (hF p e).2 rfl, h2, h3.imp_right fun ⟨b, o, e, hb, r⟩ => ⟨b, o, e, hb, r.but k fun e => by have := (hF b e).1; omega⟩⟩
/-- So many bytes are taken off. -/
theorem Reads.took {N : Nat} {V : World} {p b o c : Nat} {H L : List Nat} (h0 : N ≤ p) (hp : At V p [.slice (some ⟨b, o, none⟩) (H ++ L).length c]) (hc : (H ++ L).length ≤ c) (hbN : b < N) (hr : RowU V b o (H ++ L)) (so : Option Addr) (hso : ¬ c = H.length → so = some ⟨b, o + H.length, none⟩) (n' c' : Nat) (hn : n' = L.length) (hc' : c' = c - H.length) :
    Reads N (V.setCell ⟨p, 0, none⟩ (.slice so n' c')) p L := by
  have hne : b ≠ p := by omega
  subst hn hc'
  rw [List.length_append] at hc
  refine ⟨h0, so, c - H.length, At.only hp, by omega, ?_⟩
  cases L with
  | nil => exact Or.inl rfl
  | cons x L =>
    refine Or.inr ⟨b, o + H.length, hso (by simp at hc; omega), hbN, ?_⟩
    have h1 := hr.drop
    have hb := Below.heap_setCell V ⟨p, 0, none⟩ (.slice so (x :: L).length (c - H.length)) b hne
    exact ⟨by simpa [World.setCell] using h1.1, fun i y hi => (World.cell?_of_block (a := ⟨b, o + H.length + i, none⟩) hb).trans (h1.2 i y hi)⟩
set_option maxRecDepth 100000 in
set_option maxHeartbeats 1000000 in
theorem lnumber (N p n : Nat) (L : List Nat) (w : World) (hn : n < 65536) (hL : L.length ≤ 1000000) (h : Reads N w p (nbL n ++ L)) :
    Calls Try.prog 91 #[.pointer (some ⟨p, 0, none⟩)] w fun e w' => e = .returned (.int .i64 (n : Int)) ∧ Reads N w' p L ∧ But (fun i => i = p) w w' := by
  obtain ⟨h0, sa, c, hp, hc, hr⟩ := h
  obtain ⟨b, o, rfl, hbN, hr⟩ := hr.resolve_left (by intro e; simp [nbL] at e)
  have c0 := hr.2 0 (n / 256) rfl
  have c1 := hr.2 1 (n % 256) rfl
  have HP : Hid (At w p [.slice (some ⟨b, o, none⟩) (nbL n ++ L).length c]) := hp
  have HR : Hid (RowU w b o (nbL n ++ L)) := hr
  have hl : (nbL n ++ L).length = L.length + 2 := by rw [List.length_append, nbL_len]; omega
  rw [hl] at hp
  have hc2 : L.length + 2 ≤ c := by omega
  have E : Hid ((((n / 256) * 256 + n % 256 : Nat) : Int) = (n : Int)) := by unfold Hid; omega
  have HN : Hid (Calls Try.prog 85 #[.slice (some ⟨b, o, none⟩) (L.length + 2) c, .int .i64 0] w fun e w' => e = .returned (.int .i64 (n : Int)) ∧ Below w.heap.size w w') := by
    have h1 := lnum_at b o (L.length + 2) c 0 (n / 256) (n % 256) w (by omega) (by omega) (by omega) (by omega) c0 c1
    rw [E.out] at h1
    exact h1
  clear c0 c1 hr
  obtain ⟨zpw, cp0w, fp0w⟩ := hp.one
  have m1 : True := trivial
  go_enter Try.func91, Try.ntmps91
  go_wp2_with (go_at_call 85; clear m1; refine (HN.out).mono ?_; rintro e V ⟨rfl, hb⟩; have kpV : At V p [.slice (some ⟨b, o, none⟩) (L.length + 2) c] := hp.below hb; obtain ⟨zpV, cp0V, fp0V⟩ := kpV.one)
  
  all_goals (
  go_ret
  refine ⟨rfl, Reads.took (H := nbL n) (c := c) (b := b) (o := o) h0 (HP.out.below hb) hc hbN (HR.out.below HR.out.1 hb) _ ?_ _ _ ?_ ?_, (But.of_below (fun i => i = p) hb).setCell (Or.inl rfl) _⟩
  · intro hcc; rw [nbL_len] at hcc; first | exact absurd (by assumption) hcc | rfl
  · rfl
  · (rw [nbL_len]; try omega))
theorem post_gen {P : Program} {f : Func} {R : Ending → World → Prop} {x : Exit} {a : Act} {w : World} (S : World → Prop) (h : S w) (k : ∀ W, S W → bodyPost P f R x a W) : bodyPost P f R x a w := k w h
/-- What is left behind a spot. -/
theorem spot_end {N p b o c n' c' : Nat} {w V : World} {H L : List Nat} {so : Option Addr} (h0 : N ≤ p) (hp : At w p [.slice (some ⟨b, o, none⟩) (H ++ L).length c]) (hc : (H ++ L).length ≤ c) (hbN : b < N) (hr : RowU w b o (H ++ L)) (hso : ¬ c = H.length → so = some ⟨b, o + H.length, none⟩) (hn : n' = L.length) (hc' : c' = c - H.length) (hb : Below w.heap.size w V) (ob : Obj) (u0 u1 u2 : Value) :
    Reads N (((((V.setCell ⟨p, 0, none⟩ (.slice so n' c')).setCell ⟨w.heap.size, 0, none⟩ u0).setCell ⟨w.heap.size, 1, none⟩ u1).setCell ⟨w.heap.size, 2, none⟩ u2).alloc ob) p L ∧ But (fun i => i = p) w (((((V.setCell ⟨p, 0, none⟩ (.slice so n' c')).setCell ⟨w.heap.size, 0, none⟩ u0).setCell ⟨w.heap.size, 1, none⟩ u1).setCell ⟨w.heap.size, 2, none⟩ u2).alloc ob) := by
  have hz := hb.size
  have hpw := hp.1
  have h1 : Reads N (V.setCell ⟨p, 0, none⟩ (.slice so n' c')) p L := Reads.took h0 (hp.below hb) hc hbN (hr.below hr.1 hb) so hso n' c' hn hc'
  have hb1 : But (fun i => i = p) w (V.setCell ⟨p, 0, none⟩ (.slice so n' c')) := (But.of_below (fun i => i = p) hb).setCell (Or.inl rfl) _
  generalize V.setCell ⟨p, 0, none⟩ (.slice so n' c') = X at h1 hb1
  exact ⟨(h1.but ((((But.refl (fun i => i = w.heap.size) X).setCell (Or.inl rfl) _).setCell (Or.inl rfl) _).setCell (Or.inl rfl) _) (by rintro i rfl; exact ⟨by omega, by omega⟩)).below ((Below.refl _ _).alloc (Nat.le_refl _) _), (((hb1.setCell (Or.inr (Nat.le_refl _)) _).setCell (Or.inr (Nat.le_refl _)) _).setCell (Or.inr (Nat.le_refl _)) _).alloc _⟩
set_option maxRecDepth 100000 in
set_option maxHeartbeats 1000000 in
theorem lspot_one (N p b o c : Nat) (T : Sn) (L : List Nat) (w : World) (hL : L.length ≤ 1000000) (h0 : N ≤ p) (hp : At w p [.slice (some ⟨b, o, none⟩) ([0] ++ L).length c]) (hc : ([0] ++ L).length ≤ c) (hbN : b < N) (hr : RowU w b o ([0] ++ L)) (hU : ∀ w, Calls Try.prog 94 #[.string ⟨#[0]⟩] w fun e w' => e = .returned (.tuple #[.agg #[.int .i64 ((T).1 : Int), .int .i64 ((T).2.1 : Int), .bool (T).2.2], .nilIface]) ∧ Below w.heap.size w w') :
    Calls Try.prog 92 #[.pointer (some ⟨p, 0, none⟩)] w fun e w' => e = .returned (.agg #[.int .i64 ((T).1 : Int), .int .i64 ((T).2.1 : Int), .bool (T).2.2]) ∧ Reads N w' p L ∧ But (fun i => i = p) w w' := by
  have c0 : w.cell? ⟨b, o, none⟩ = some (.int .u8 0) := hr.2 0 0 rfl
  have bc0 : ∀ ob, (w.alloc ob).cell? ⟨b, o, none⟩ = some (.int .u8 0) := fun ob => ((((Below.refl w.heap.size w).alloc (Nat.le_refl _) ob)).cell (p := ⟨b, o, none⟩) hr.1).trans c0
  have hcv : ∀ ob, (convert 72 9 (.slice (some ⟨b, o, none⟩) 1 c)).run Try.prog (w.alloc ob) = .ok (.string ⟨#[0]⟩) (w.alloc ob) := fun ob =>
    run_convert_bytes_back (P := Try.prog) _ _ _ 5 _ 1 [0] Try.underlying72 Try.underlying5 Try.underlying9 (fun j hj => by
      match j, hj with
      | 0, _ => simpa [go_sem] using bc0 ob)
  have HP : Hid (At w p [.slice (some ⟨b, o, none⟩) ([0] ++ L).length c]) := hp
  have HR : Hid (RowU w b o ([0] ++ L)) := hr
  have hl : ([0] ++ L).length = L.length + 1 := by rw [List.length_append]; simp; omega
  rw [hl] at hp
  have hc2 : L.length + 1 ≤ c := by omega
  clear hr
  obtain ⟨zpw, cp0w, fp0w⟩ := hp.one
  have m1 : True := trivial
  go_enter Try.func92, Try.ntmps92
  go_wp2_with (go_at_call 94; clear m1; refine (hU _).mono ?_; rintro e V ⟨rfl, hb⟩; have krV : At V (w.heap.size) [.int .i64 0, .int .i64 0, .bool false] := (by repeat (first | (with_reducible assumption) | ((with_reducible refine at_new' _ _ _ _ ?_); (first | rfl | (simp; done))) | (with_reducible refine At.alloc ?_ _) | (with_reducible refine At.drew ?_) | (with_reducible refine At.drewN ?_) | (with_reducible refine At.set ?_ (by omega)) | (with_reducible apply At.store4) | (with_reducible apply At.store3) | (with_reducible apply At.store2) | (with_reducible apply At.put43) | (refine At.below ?_ (by with_reducible assumption)))); have hbV : Below w.heap.size w V := (by repeat (first | (with_reducible exact Below.refl _ _) | (with_reducible assumption) | (with_reducible refine Below.setCell ?_ (by first | (simp; done) | (simp; omega) | omega) _) | (with_reducible refine Below.alloc ?_ (by first | (simp; done) | (simp; omega) | omega) _) | (refine bl_call ?_ (by assumption) (by first | (simp; done) | (simp; omega) | omega)) | (with_reducible refine bl_drewN ?_) | (with_reducible refine Below.drew ?_) | (with_reducible refine bl_grow ?_ (by first | (simp; done) | (simp; omega) | omega)))); have kpV : At V p [.slice (some ⟨b, o, none⟩) (L.length + 1) c] := hp.below hbV; have hzV := hbV.size; obtain ⟨zpV, cp0V, fp0V⟩ := kpV.one; obtain ⟨zrV, cr0V, cr1V, cr2V, fr0V, fr1V, fr2V⟩ := krV.three)
  
  all_goals (
  clear hcv hU hp
  refine post_gen (fun W => At W (w.heap.size) [.int .i64 ((T).1 : Int), .int .i64 ((T).2.1 : Int), .bool (T).2.2] ∧ (Reads N W p L ∧ But (fun i => i = p) w W)) ⟨?_, ?_⟩ ?_
  · exact At.alloc (At.store3 (At.set krV (by omega))) _
  · refine spot_end (H := [0]) (c := c) (b := b) (o := o) h0 HP.out hc hbN HR.out ?_ ?_ ?_ hbV _ _ _ _
    · intro hcc; first | exact absurd (by assumption) hcc | rfl
    · rfl
    · (simp only [List.length_cons, List.length_nil]; try omega)
  · rintro X ⟨kX, hX⟩
    obtain ⟨zX, cX0, cX1, cX2, fX0, fX1, fX2⟩ := kX.three
    exact bodyPost_ret (v := .agg #[.int .i64 ((T).1 : Int), .int .i64 ((T).2.1 : Int), .bool (T).2.2]) (by simp [results, Try.results92, go_sem, cX0, cX1, cX2]) rfl ⟨rfl, hX⟩)
set_option maxRecDepth 100000 in
set_option maxHeartbeats 1000000 in
theorem lspot_three (N p b o c : Nat) (x y z : UInt8) (T : Sn) (L : List Nat) (w : World) (hx : x ≠ 0) (hL : L.length ≤ 1000000) (h0 : N ≤ p) (hp : At w p [.slice (some ⟨b, o, none⟩) ([x.toNat, y.toNat, z.toNat] ++ L).length c]) (hc : ([x.toNat, y.toNat, z.toNat] ++ L).length ≤ c) (hbN : b < N) (hr : RowU w b o ([x.toNat, y.toNat, z.toNat] ++ L)) (hU : ∀ w, Calls Try.prog 94 #[.string ⟨#[x, y, z]⟩] w fun e w' => e = .returned (.tuple #[.agg #[.int .i64 ((T).1 : Int), .int .i64 ((T).2.1 : Int), .bool (T).2.2], .nilIface]) ∧ Below w.heap.size w w') :
    Calls Try.prog 92 #[.pointer (some ⟨p, 0, none⟩)] w fun e w' => e = .returned (.agg #[.int .i64 ((T).1 : Int), .int .i64 ((T).2.1 : Int), .bool (T).2.2]) ∧ Reads N w' p L ∧ But (fun i => i = p) w w' := by
  have c0 : w.cell? ⟨b, o, none⟩ = some (.int .u8 (x.toNat : Int)) := hr.2 0 _ rfl
  have c1 : w.cell? ⟨b, o + 1, none⟩ = some (.int .u8 (y.toNat : Int)) := hr.2 1 _ rfl
  have c2 : w.cell? ⟨b, o + 2, none⟩ = some (.int .u8 (z.toNat : Int)) := hr.2 2 _ rfl
  have bc0 : ∀ ob, (w.alloc ob).cell? ⟨b, o, none⟩ = some (.int .u8 (x.toNat : Int)) := fun ob => ((((Below.refl w.heap.size w).alloc (Nat.le_refl _) ob)).cell (p := ⟨b, o, none⟩) hr.1).trans c0
  have bc1 : ∀ ob, (w.alloc ob).cell? ⟨b, o + 1, none⟩ = some (.int .u8 (y.toNat : Int)) := fun ob => ((((Below.refl w.heap.size w).alloc (Nat.le_refl _) ob)).cell (p := ⟨b, o + 1, none⟩) hr.1).trans c1
  have bc2 : ∀ ob, (w.alloc ob).cell? ⟨b, o + 2, none⟩ = some (.int .u8 (z.toNat : Int)) := fun ob => ((((Below.refl w.heap.size w).alloc (Nat.le_refl _) ob)).cell (p := ⟨b, o + 2, none⟩) hr.1).trans c2
  have hx0 : ((x.toNat : Int) == 0) = false := by
    rw [beq_eq_false_iff_ne]; intro h; exact hx (UInt8.toNat_inj.1 (by show x.toNat = 0; omega))
  have hcv : ∀ ob, (convert 72 9 (.slice (some ⟨b, o, none⟩) 3 c)).run Try.prog (w.alloc ob) = .ok (.string ⟨#[x, y, z]⟩) (w.alloc ob) := fun ob =>
    run_convert_bytes_back (P := Try.prog) _ _ _ 5 _ 3 [x, y, z] Try.underlying72 Try.underlying5 Try.underlying9 (fun j hj => by
      match j, hj with
      | 0, _ => simpa [go_sem] using bc0 ob
      | 1, _ => simpa [go_sem] using bc1 ob
      | 2, _ => simpa [go_sem] using bc2 ob)
  have HP : Hid (At w p [.slice (some ⟨b, o, none⟩) ([x.toNat, y.toNat, z.toNat] ++ L).length c]) := hp
  have HR : Hid (RowU w b o ([x.toNat, y.toNat, z.toNat] ++ L)) := hr
  have hl : ([x.toNat, y.toNat, z.toNat] ++ L).length = L.length + 3 := by rw [List.length_append]; simp; omega
  rw [hl] at hp
  have hc2 : L.length + 3 ≤ c := by omega
  clear hr
  obtain ⟨zpw, cp0w, fp0w⟩ := hp.one
  have m1 : True := trivial
  go_enter Try.func92, Try.ntmps92
  go_wp2_with (go_at_call 94; clear m1; refine (hU _).mono ?_; rintro e V ⟨rfl, hb⟩; have krV : At V (w.heap.size) [.int .i64 0, .int .i64 0, .bool false] := (by repeat (first | (with_reducible assumption) | ((with_reducible refine at_new' _ _ _ _ ?_); (first | rfl | (simp; done))) | (with_reducible refine At.alloc ?_ _) | (with_reducible refine At.drew ?_) | (with_reducible refine At.drewN ?_) | (with_reducible refine At.set ?_ (by omega)) | (with_reducible apply At.store4) | (with_reducible apply At.store3) | (with_reducible apply At.store2) | (with_reducible apply At.put43) | (refine At.below ?_ (by with_reducible assumption)))); have hbV : Below w.heap.size w V := (by repeat (first | (with_reducible exact Below.refl _ _) | (with_reducible assumption) | (with_reducible refine Below.setCell ?_ (by first | (simp; done) | (simp; omega) | omega) _) | (with_reducible refine Below.alloc ?_ (by first | (simp; done) | (simp; omega) | omega) _) | (refine bl_call ?_ (by assumption) (by first | (simp; done) | (simp; omega) | omega)) | (with_reducible refine bl_drewN ?_) | (with_reducible refine Below.drew ?_) | (with_reducible refine bl_grow ?_ (by first | (simp; done) | (simp; omega) | omega)))); have kpV : At V p [.slice (some ⟨b, o, none⟩) (L.length + 3) c] := hp.below hbV; have hzV := hbV.size; obtain ⟨zpV, cp0V, fp0V⟩ := kpV.one; obtain ⟨zrV, cr0V, cr1V, cr2V, fr0V, fr1V, fr2V⟩ := krV.three)
  
  all_goals (
  clear hcv hU hp
  refine post_gen (fun W => At W (w.heap.size) [.int .i64 ((T).1 : Int), .int .i64 ((T).2.1 : Int), .bool (T).2.2] ∧ (Reads N W p L ∧ But (fun i => i = p) w W)) ⟨?_, ?_⟩ ?_
  · exact At.alloc (At.store3 (At.set krV (by omega))) _
  · refine spot_end (H := [x.toNat, y.toNat, z.toNat]) (c := c) (b := b) (o := o) h0 HP.out hc hbN HR.out ?_ ?_ ?_ hbV _ _ _ _
    · intro hcc; first | exact absurd (by assumption) hcc | rfl
    · rfl
    · (simp only [List.length_cons, List.length_nil]; try omega)
  · rintro X ⟨kX, hX⟩
    obtain ⟨zX, cX0, cX1, cX2, fX0, fX1, fX2⟩ := kX.three
    exact bodyPost_ret (v := .agg #[.int .i64 ((T).1 : Int), .int .i64 ((T).2.1 : Int), .bool (T).2.2]) (by simp [results, Try.results92, go_sem, cX0, cX1, cX2]) rfl ⟨rfl, hX⟩)
theorem lspot (N p k : Nat) (L : List Nat) (w : World) (hL : L.length ≤ 1000000) (h : Reads N w p (spL k ++ L)) :
    Calls Try.prog 92 #[.pointer (some ⟨p, 0, none⟩)] w fun e w' => e = .returned (.agg #[.int .i64 ((tM k).1 : Int), .int .i64 ((tM k).2.1 : Int), .bool (tM k).2.2]) ∧ Reads N w' p L ∧ But (fun i => i = p) w w' := by
  have hU := fun w => unpack_tM k w
  obtain ⟨h0, sa, c, hp, hc, hr⟩ := h
  have hge := spL_ge k
  obtain ⟨b, o, rfl, hbN, hr⟩ := hr.resolve_left (by intro e; have := congrArg List.length e; rw [List.length_append] at this; simp only [List.length_nil] at this; omega)
  unfold spL at hp hc hr
  unfold pkB at hU
  generalize tM k = s at *
  obtain ⟨X, Y, f⟩ := s
  cases f with
  | true => exact lspot_one N p b o c (X, Y, true) L w hL h0 hp hc hbN hr hU
  | false =>
    refine lspot_three N p b o c (whB Y) (hiB X) (loB X) (X, Y, false) L w ?_ hL h0 hp hc hbN hr hU
    unfold whB
    cases Nat.blt 2025 Y
    · show (1 : UInt8) ≠ 0; decide
    · show (2 : UInt8) ≠ 0; decide
end Go.Proofs.Ytmijjjdedadklaj
/- LogRead -/
namespace Go.Proofs.Ytmijjjdedadklaj
open Go.RowKit Go.Sort
set_option linter.unusedVariables false
set_option linter.unusedSimpArgs false
theorem At.at {w : World} {b i : Nat} {u : Value} {vs : List Value} (h : At w b vs) (hi : i < vs.length) : At (w.setCell ⟨b, i, none⟩ u) b (vs.set i u) := by
  refine ⟨by simpa [World.setCell] using h.1, fun j hj => ?_, fun j hj => ?_⟩
  · rw [List.length_set] at hj
    have a0 := h.2.1 j hj
    rw [List.getElem?_eq_getElem hj] at a0
    rw [List.getElem?_set]
    by_cases e : i = j
    · subst e
      rw [if_pos rfl, if_pos hj]
      simp [a0, go_sem]
    · rw [if_neg e, List.getElem?_eq_getElem hj]
      simp [a0, go_sem, e]
      try (intro e2; exact absurd e2.symm e)
  · rw [World.frozen?_setCell]; exact h.2.2 j (by simpa using hj)
theorem inb_gen {i : Nat} {Q : Exit → Act → World → Prop} {x : Exit} {a : Act} {w : World} (S : World → Prop) (h : S w) (k : ∀ W, S W → Exit.inBlock i Q x a W) : Exit.inBlock i Q x a w := k w h
theorem lriinfo : (Try.prog.info? 3).map (fun i => (i.zero, i.size, i.bytes)) = some (some (.int .i64 0), 1, 8) := by kernel_rfl
theorem lrsinfo : (Try.prog.info? 26).map (fun i => (i.zero, i.size, i.bytes)) = some (some (.agg #[.int .i64 0, .int .i64 0, .bool false]), 3, 24) := by kernel_rfl
/-- A deal that is read: its reader, its own block, what is answered. -/
structure Rd (IT ET : TypeId) (w : World) (Z : Nat → Int) (J : Nat → Nat) (V : World) (v u : Value) (k j : Nat) (L : List Nat) : Prop where
  reads : Reads w.heap.size V (w.heap.size + 1) L
  res : At V w.heap.size [.slice none 0 0, .slice none 0 0, .int .i64 0, .int .i64 0, .bool false, .int .i64 0]
  box : At V (w.heap.size + 2) [v, u, .int .i64 0, .int .i64 0, .bool false, .int .i64 0]
  ints : V.ownsRow (w.heap.size + 3) IT 1 v k (cellsI Z k)
  spots : V.ownsRow (w.heap.size + 3) ET 3 u j (cellsK J j)
  ap : ∀ g, v.ownBlock = some g → u.ownBlock ≠ some g
  below : Below w.heap.size w V
section
variable {IT ET : TypeId} {w V C w7 : World} {Z : Nat → Int} {J : Nat → Nat} {v u v7 : Value} {k j k' j' : Nat} {L L' : List Nat} {ob : Obj} {g7 : Nat}
theorem Rd.turn (h : Rd IT ET w Z J V v u k j L) (e : L = L') : Rd IT ET w Z J V v u k j L' := e ▸ h
/-- A reader's step. -/
theorem Rd.read (h : Rd IT ET w Z J V v u k j L) (hb : But (fun i => i = w.heap.size + 1) V C) (hR : Reads w.heap.size C (w.heap.size + 1) L') : Rd IT ET w Z J C v u k j L' :=
  ⟨hR, h.res.but hb (by show ¬ (_ = _); omega), h.box.but hb (by show ¬ (_ = _); omega), own_but h.ints hb (fun g hg => by have := (h.ints.lt g hg).1; show ¬ (_ = _); omega), own_but h.spots hb (fun g hg => by have := (h.spots.lt g hg).1; show ¬ (_ = _); omega), h.ap, But.under h.below hb (by rintro i rfl; omega) (by have := h.below.size; omega)⟩
theorem Rd.drew (h : Rd IT ET w Z J V v u k j L) : Rd IT ET w Z J V.drew v u k j L :=
  ⟨h.reads.below (Below.drew (Below.refl _ _)), h.res.drew, h.box.drew, own_drew h.ints, own_drew h.spots, h.ap, h.below.trans ((Below.drew (Below.refl V.heap.size V)).mono h.below.size)⟩
theorem Rd.alloc (h : Rd IT ET w Z J V v u k j L) (ob : Obj) : Rd IT ET w Z J (V.alloc ob) v u k j L :=
  have hb : Below V.heap.size V (V.alloc ob) := (Below.refl _ _).alloc (Nat.le_refl _) ob
  ⟨h.reads.below hb, h.res.alloc ob, h.box.alloc ob, own_stay h.ints hb, own_stay h.spots hb, h.ap, h.below.trans (hb.mono h.below.size)⟩
/-- The one row grows, and is stored. -/
theorem Rd.one (h : Rd IT ET w Z J C v u k j L) (hg : C.grownBy w7 v.ownBlock) (ho : w7.ownsRow (w.heap.size + 3) IT 1 v7 k' (cellsI Z k')) (hat : v7.ownBlock = v.ownBlock ∨ v7.ownBlock = some C.heap.size) : Rd IT ET w Z J (w7.setCell ⟨w.heap.size + 2, 0, none⟩ v7) v7 u k' j L := by
  have hb7 : But (fun i => v.ownBlock = some i) C w7 := (But.refl _ C).grown hg fun i hi => Or.inl hi
  have hv : ∀ i, v.ownBlock = some i → w.heap.size + 3 ≤ i := fun i hi => (h.ints.lt i hi).1
  have hb8 : But (fun i => v.ownBlock = some i ∨ i = w.heap.size + 2) C (w7.setCell ⟨w.heap.size + 2, 0, none⟩ v7) := But.setCell (F := fun i => v.ownBlock = some i ∨ i = w.heap.size + 2) (hb7.mono fun i _ hi => Or.inl hi) (Or.inl (Or.inr rfl)) v7
  have hbs : But (fun i => i = w.heap.size + 2) w7 (w7.setCell ⟨w.heap.size + 2, 0, none⟩ v7) := (But.refl (fun i => i = w.heap.size + 2) w7).setCell (Or.inl rfl) v7
  have hu : ∀ i, u.ownBlock = some i → ¬ (v.ownBlock = some i ∨ i = w.heap.size + 2) := fun i hi => by
    rintro (e | e)
    · exact h.ap i e hi
    · have := (h.spots.lt i hi).1; omega
  refine ⟨h.reads.but hb8 ?_, h.res.but hb8 ?_, ?_, own_but ho hbs ?_, own_but h.spots hb8 hu, ?_, But.under h.below hb8 ?_ h.below.size⟩
  · rintro i (e | e)
    · have := hv i e; omega
    · omega
  · rintro (e | e)
    · have := hv _ e; omega
    · omega
  · exact (h.box.but hb7 fun e => by have := hv _ e; omega).at (by simp)
  · intro g hg; have := (ho.lt g hg).1; show ¬ (_ = _); omega
  · intro g hg hu2
    rcases hat with e | e
    · exact h.ap g (e ▸ hg) hu2
    · rw [e] at hg; injection hg with hg; have := (h.spots.lt g hu2).2; omega
  · rintro i (e | e)
    · have := hv i e; omega
    · omega
/-- The other one. -/
theorem Rd.two (h : Rd IT ET w Z J C v u k j L) (hg : C.grownBy w7 u.ownBlock) (ho : w7.ownsRow (w.heap.size + 3) ET 3 v7 j' (cellsK J j')) (hat : v7.ownBlock = u.ownBlock ∨ v7.ownBlock = some C.heap.size) : Rd IT ET w Z J (w7.setCell ⟨w.heap.size + 2, 1, none⟩ v7) v v7 k j' L := by
  have hb7 : But (fun i => u.ownBlock = some i) C w7 := (But.refl _ C).grown hg fun i hi => Or.inl hi
  have hv : ∀ i, u.ownBlock = some i → w.heap.size + 3 ≤ i := fun i hi => (h.spots.lt i hi).1
  have hb8 : But (fun i => u.ownBlock = some i ∨ i = w.heap.size + 2) C (w7.setCell ⟨w.heap.size + 2, 1, none⟩ v7) := But.setCell (F := fun i => u.ownBlock = some i ∨ i = w.heap.size + 2) (hb7.mono fun i _ hi => Or.inl hi) (Or.inl (Or.inr rfl)) v7
  have hbs : But (fun i => i = w.heap.size + 2) w7 (w7.setCell ⟨w.heap.size + 2, 1, none⟩ v7) := (But.refl (fun i => i = w.heap.size + 2) w7).setCell (Or.inl rfl) v7
  have hu : ∀ i, v.ownBlock = some i → ¬ (u.ownBlock = some i ∨ i = w.heap.size + 2) := fun i hi => by
    rintro (e | e)
    · exact h.ap i hi e
    · have := (h.ints.lt i hi).1; omega
  refine ⟨h.reads.but hb8 ?_, h.res.but hb8 ?_, ?_, own_but h.ints hb8 hu, own_but ho hbs ?_, ?_, But.under h.below hb8 ?_ h.below.size⟩
  · rintro i (e | e)
    · have := hv i e; omega
    · omega
  · rintro (e | e)
    · have := hv _ e; omega
    · omega
  · exact (h.box.but hb7 fun e => by have := hv _ e; omega).at (by simp)
  · intro g hg; have := (ho.lt g hg).1; show ¬ (_ = _); omega
  · intro g hg hu2
    rcases hat with e | e
    · exact h.ap g hg (e ▸ hu2)
    · rw [e] at hu2; injection hu2 with hu2; have := (h.ints.lt g hg).2; omega
  · rintro i (e | e)
    · have := hv i e; omega
    · omega
end
set_option maxRecDepth 100000 in
set_option maxHeartbeats 4000000 in
theorem lread (b o n cc m c a s : Nat) (Z : Nat → Int) (J : Nat → Nat) (w : World) (hI : RecIn ⟨m, Z, c, J, a, s⟩) (hn : n = (bodyL ⟨m, Z, c, J, a, s⟩).length) (hcc : n ≤ cc) (hr : RowU w b o (bodyL ⟨m, Z, c, J, a, s⟩)) :
    Calls Try.prog 86 #[.slice (some ⟨b, o, none⟩) n cc] w fun ex w' => ∃ (sz sl : Option Addr) (dz dl : Nat), ex = .returned (.agg #[.slice sz m dz, .slice sl c dl, .int .i64 ((tM a).1 : Int), .int .i64 ((tM a).2.1 : Int), .bool (tM a).2.2, .int .i64 (s : Int)]) ∧ w'.ownsRow w.heap.size 3 1 (.slice sz m dz) m (cellsI Z m) ∧ w'.ownsRow w.heap.size 26 3 (.slice sl c dl) c (cellsK J c) ∧ Below w.heap.size w w' := by
  have hm : m ≤ 1000 := hI.m
  have hZ : ∀ i, i < m → 0 ≤ Z i ∧ Z i < 1000 := hI.z
  have hc : c ≤ 12 := hI.c
  have hs : s < 1013 := hI.s
  clear hI
  have HZi : Hid (∀ i, i < m → 0 ≤ Z i ∧ Z i < 1000) := hZ
  have HLZ : Hid (∀ k, (bodyZ Z k).length = 2 * k) := bodyZ_len Z
  have HLK : Hid (∀ k, (bodyK J k).length ≤ 3 * k) := bodyK_le J
  have HLa : Hid ((spL a).length ≤ 3) := spL_le a
  have HLR : Hid (∀ k, k ≤ m → (restZ Z m (m - k)).length ≤ 2000) := fun k hk => by
    have e := congrArg List.length (bodyZ_rest Z m (m - k) (by omega))
    rw [List.length_append, bodyZ_len] at e; omega
  have HLS : Hid (∀ k, k ≤ c → (restK J c (c - k)).length ≤ 36) := fun k hk => by
    have e := congrArg List.length (bodyK_rest J c (c - k) (by omega))
    have := bodyK_le J c
    rw [List.length_append] at e; omega
  have HT2 : Hid ((nbL c ++ (bodyK J c ++ (spL a ++ nbL s))).length ≤ 100) := by
    have h1 := bodyK_le J c; have h2 := spL_le a
    unfold Hid; simp only [List.length_append, nbL_len]; omega
  have HT1 : Hid ((spL a ++ nbL s).length ≤ 5) := by
    have h2 := spL_le a
    unfold Hid; simp only [List.length_append, nbL_len]; omega
  have hL1 : (bodyZ Z m ++ (nbL c ++ (bodyK J c ++ (spL a ++ nbL s)))).length ≤ 1000000 := by have := HT2.out; rw [List.length_append, HLZ.out]; omega
  have HRW : Hid (RowU w b o (nbL m ++ (bodyZ Z m ++ (nbL c ++ (bodyK J c ++ (spL a ++ nbL s)))))) := hr
  have hbw := hr.1
  have HN : Hid ((nbL m ++ (bodyZ Z m ++ (nbL c ++ (bodyK J c ++ (spL a ++ nbL s))))).length = n) := hn.symm
  clear hZ hr hn
  have m1 : True := trivial; have m2 : True := trivial; have m3 : True := trivial; have m4 : True := trivial; have m5 : True := trivial; have m6 : True := trivial
  go_enter Try.func86, Try.ntmps86
  go_wp2_with (go_at_call 91; clear m1; refine (lnumber w.heap.size (w.heap.size + 1) m (bodyZ Z m ++ (nbL c ++ (bodyK J c ++ (spL a ++ nbL s)))) _ (by omega) hL1 ⟨by omega, _, cc, (by rw [HN.out]; exact (by repeat (first | (with_reducible assumption) | ((with_reducible refine at_new' _ _ _ _ ?_); (first | rfl | (simp; done))) | (with_reducible refine At.alloc ?_ _) | (with_reducible refine At.drew ?_) | (with_reducible refine At.drewN ?_) | (with_reducible refine At.set ?_ (by omega)) | (with_reducible apply At.store4) | (with_reducible apply At.store3) | (with_reducible apply At.store2) | (with_reducible apply At.put43) | (refine At.below ?_ (by with_reducible assumption))))), (by rw [HN.out]; exact hcc), Or.inr ⟨b, o, rfl, hbw, HRW.out.below hbw (by repeat (first | (with_reducible exact Below.refl _ _) | (with_reducible assumption) | (with_reducible refine Below.setCell ?_ (by first | (simp; done) | (simp; omega) | omega) _) | (with_reducible refine Below.alloc ?_ (by first | (simp; done) | (simp; omega) | omega) _) | (refine bl_call ?_ (by assumption) (by first | (simp; done) | (simp; omega) | omega)) | (with_reducible refine bl_drewN ?_) | (with_reducible refine Below.drew ?_) | (with_reducible refine bl_grow ?_ (by first | (simp; done) | (simp; omega) | omega))))⟩⟩).mono ?_; rintro e A ⟨rfl, hRA, hbA⟩; have HA : Rd 3 26 w Z J A (.slice none 0 0) (.slice none 0 0) (0) (0) (bodyZ Z m ++ (nbL c ++ (bodyK J c ++ (spL a ++ nbL s)))) := ⟨hRA, At.but (by repeat (first | (with_reducible assumption) | ((with_reducible refine at_new' _ _ _ _ ?_); (first | rfl | (simp; done))) | (with_reducible refine At.alloc ?_ _) | (with_reducible refine At.drew ?_) | (with_reducible refine At.drewN ?_) | (with_reducible refine At.set ?_ (by omega)) | (with_reducible apply At.store4) | (with_reducible apply At.store3) | (with_reducible apply At.store2) | (with_reducible apply At.put43) | (refine At.below ?_ (by with_reducible assumption)))) hbA (by show ¬ (_ = _); omega), At.but (by repeat (first | (with_reducible assumption) | ((with_reducible refine at_new' _ _ _ _ ?_); (first | rfl | (simp; done))) | (with_reducible refine At.alloc ?_ _) | (with_reducible refine At.drew ?_) | (with_reducible refine At.drewN ?_) | (with_reducible refine At.set ?_ (by omega)) | (with_reducible apply At.store4) | (with_reducible apply At.store3) | (with_reducible apply At.store2) | (with_reducible apply At.put43) | (refine At.below ?_ (by with_reducible assumption)))) hbA (by show ¬ (_ = _); omega), World.ownsRow_nil _ _ _ _, World.ownsRow_nil _ _ _ _, (fun g hg => by simp [Value.ownBlock] at hg), But.under (by repeat (first | (with_reducible exact Below.refl _ _) | (with_reducible assumption) | (with_reducible refine Below.setCell ?_ (by first | (simp; done) | (simp; omega) | omega) _) | (with_reducible refine Below.alloc ?_ (by first | (simp; done) | (simp; omega) | omega) _) | (refine bl_call ?_ (by assumption) (by first | (simp; done) | (simp; omega) | omega)) | (with_reducible refine bl_drewN ?_) | (with_reducible refine Below.drew ?_) | (with_reducible refine bl_grow ?_ (by first | (simp; done) | (simp; omega) | omega)))) hbA (by rintro i rfl; omega) (by simp; omega)⟩; clear hRA hbA; have kbA := HA.box; have krA := HA.res; have hzA := HA.below.size; obtain ⟨zbA, cb0A, cb1A, cb2A, cb3A, cb4A, cb5A, fb0A, fb1A, fb2A, fb3A, fb4A, fb5A⟩ := kbA.six)
  go_loopw [8] (fun ti wl => ∃ (k : Nat) (v : Value), k ≤ m ∧ ti = .int .i64 k ∧ Rd 3 26 w Z J wl v (.slice none 0 0) (k) (0) (restZ Z m (m - k) ++ (nbL c ++ (bodyK J c ++ (spL a ++ nbL s))))) (fun ti _ => m - (intOf ti).toNat)
  case atStart => exact ⟨0, _, by omega, rfl, HA.turn (by rw [Nat.sub_zero, bodyZ_all])⟩
  case round =>
    clear kbA krA zbA cb0A cb1A cb2A cb3A cb4A cb5A fb0A fb1A fb2A fb3A fb4A fb5A
    clear HA hzA HN hL1
    obtain ⟨k, v, hk, rfl, HV⟩ := hrel
    rename World => V
    obtain ⟨sv, cv, rfl, _⟩ := own_slice HV.ints
    have kbV := HV.box; have krV := HV.res; have hzV := HV.below.size; obtain ⟨zbV, cb0V, cb1V, cb2V, cb3V, cb4V, cb5V, fb0V, fb1V, fb2V, fb3V, fb4V, fb5V⟩ := kbV.six
    by_cases hlt : k < m
    · have hlt' : (k : Int) < m := by omega
      obtain ⟨i0, hi, hv0, hv1, hv2⟩ := info_parts lriinfo
      obtain ⟨z, hz⟩ : ∃ z : Nat, Z k = (z : Int) := ⟨(Z k).toNat, by have := (HZi.out k hlt).1; omega⟩
      have hzl : z < 65536 := by have := (HZi.out k hlt).2; omega
      have HRk : Hid (Reads w.heap.size V.drew (w.heap.size + 1) (nbL z ++ (restZ Z m (m - (k + 1)) ++ (nbL c ++ (bodyK J c ++ (spL a ++ nbL s)))))) := by
        have h1 := HV.drew.reads
        rw [restZ_at Z hlt, hz, Int.toNat_natCast, List.append_assoc] at h1
        exact h1
      have HCe : Hid (cellsI Z k ++ [.int .i64 (z : Int)] = cellsI Z (k + 1)) := by unfold Hid; rw [cellsI_succ, hz]
      have hLk : (restZ Z m (m - (k + 1)) ++ (nbL c ++ (bodyK J c ++ (spL a ++ nbL s)))).length ≤ 1000000 := by have := HT2.out; have := HLR.out (k + 1) (by omega); rw [List.length_append]; omega
      clear hz
      go_upto_region 5 with fail
      go_region_law (first | ((refine step_append_lies _ (by rfl) _ _ 22 (by rfl) (w.heap.size + 3) 3 i0 (.int .i64 0) 1 8 Try.underlying22 hi hv0 hv1 hv2 (by rfl) (by decide) _ k _ (by rfl) (HC.alloc _).ints ⟨C.heap.size, 0, none⟩ 1 1 [.int .i64 (z : Int)] (by rfl) (by rfl) (one_at rfl _ _) (by simp [Value.oneCell']) (by omega) (by unfold maxLen; omega) (by omega) (by simp; omega) (C.heap.size + 1) (by simp) ?_); (intro g7 cap7 w7 hown7 hgrow7 hat7 hlt7); (have kb7 := At.grown (HC.alloc _).box hgrow7 (fun e => by have := (HC.ints.lt _ e).1; omega)); (obtain ⟨zb7, cb07, cb17, cb27, cb37, cb47, cb57, fb07, fb17, fb27, fb37, fb47, fb57⟩ := kb7.six)) | ((go_simp); (go_at_call 91; refine (lnumber w.heap.size (w.heap.size + 1) z _ _ hzl hLk HRk.out).mono ?_; rintro e C ⟨rfl, hRC, hbC⟩; have HC : Rd 3 26 w Z J C (.slice sv k cv) (.slice none 0 0) (k) (0) (restZ Z m (m - (k + 1)) ++ (nbL c ++ (bodyK J c ++ (spL a ++ nbL s)))) := HV.drew.read hbC hRC; clear hRC hbC; clear kbV krV zbV cb0V cb1V cb2V cb3V cb4V cb5V fb0V fb1V fb2V fb3V fb4V fb5V; have kbC := HC.box; have krC := HC.res; have hzC := HC.below.size; obtain ⟨zbC, cb0C, cb1C, cb2C, cb3C, cb4C, cb5C, fb0C, fb1C, fb2C, fb3C, fb4C, fb5C⟩ := kbC.six); (go_wp2_with fail)))
      
      all_goals (
      rw [HCe.out] at hown7
      have hat8 : (Value.slice (some ⟨g7, 0, none⟩) (k + 1) cap7).ownBlock = (Value.slice sv k cv).ownBlock ∨ (Value.slice (some ⟨g7, 0, none⟩) (k + 1) cap7).ownBlock = some (C.alloc (.cells #[.int .i64 (z : Int)] 3)).heap.size := by
        rcases hat7 with e | e
        · exact Or.inl e.symm
        · exact Or.inr (by rw [e]; simp [Value.ownBlock])
      have hD := (HC.alloc _).one hgrow7 hown7 hat8
      refine inb_gen (fun O => Rd 3 26 w Z J O (.slice (some ⟨g7, 0, none⟩) (k + 1) cap7) (.slice none 0 0) (k + 1) (0) (restZ Z m (m - (k + 1)) ++ (nbL c ++ (bodyK J c ++ (spL a ++ nbL s))))) hD ?_
      intro O hO
      go_wp2_with fail
      go_roundw
      case rel => exact ⟨k + 1, _, by omega, by simp, hO⟩
      case measure => simp [intOf]; omega)
    · have hlt' : ¬ (k : Int) < m := by omega
      obtain rfl : k = m := by omega
      have HVr : Hid (Reads w.heap.size V (w.heap.size + 1) (nbL c ++ (bodyK J c ++ (spL a ++ nbL s)))) := by
        have h1 := HV.reads
        rw [Nat.sub_self] at h1
        exact h1
      have hLc : (bodyK J c ++ (spL a ++ nbL s)).length ≤ 1000000 := by have := HT1.out; have := HLK.out c; rw [List.length_append]; omega
      go_wp2_with (go_at_call 91; clear m2; refine (lnumber w.heap.size (w.heap.size + 1) c _ _ (by omega) hLc HVr.out).mono ?_; rintro e A ⟨rfl, hRA, hbA⟩; have HA : Rd 3 26 w Z J A (.slice sv k cv) (.slice none 0 0) (k) (0) (bodyK J c ++ (spL a ++ nbL s)) := HV.read hbA hRA; clear hRA hbA; clear kbV krV zbV cb0V cb1V cb2V cb3V cb4V cb5V fb0V fb1V fb2V fb3V fb4V fb5V; clear HV hzV HVr; have kbA := HA.box; have krA := HA.res; have hzA := HA.below.size; obtain ⟨zbA, cb0A, cb1A, cb2A, cb3A, cb4A, cb5A, fb0A, fb1A, fb2A, fb3A, fb4A, fb5A⟩ := kbA.six)
      go_loopw [18] (fun ti wl => ∃ (j : Nat) (u : Value), j ≤ c ∧ ti = .int .i64 j ∧ Rd 3 26 w Z J wl (.slice sv k cv) u (k) (j) (restK J c (c - j) ++ (spL a ++ nbL s))) (fun ti _ => c - (intOf ti).toNat)
      case atStart => exact ⟨0, _, by omega, rfl, HA.turn (by rw [Nat.sub_zero, bodyK_all])⟩
      case round =>
        clear kbA krA zbA cb0A cb1A cb2A cb3A cb4A cb5A fb0A fb1A fb2A fb3A fb4A fb5A
        clear HA hzA hLc
        obtain ⟨j, u, hj, rfl, HW⟩ := hrel
        rename World => W
        obtain ⟨su, cu, rfl, _⟩ := own_slice HW.spots
        have kbW := HW.box; have krW := HW.res; have hzW := HW.below.size; obtain ⟨zbW, cb0W, cb1W, cb2W, cb3W, cb4W, cb5W, fb0W, fb1W, fb2W, fb3W, fb4W, fb5W⟩ := kbW.six
        by_cases hltj : j < c
        · have hltj' : (j : Int) < c := by omega
          obtain ⟨i0, hi, hv0, hv1, hv2⟩ := info_parts lrsinfo
          have HRk : Hid (Reads w.heap.size W.drew (w.heap.size + 1) (spL (4 * J j) ++ (restK J c (c - (j + 1)) ++ (spL a ++ nbL s)))) := by
            have h1 := HW.drew.reads
            rw [restK_at J hltj, List.append_assoc] at h1
            exact h1
          have HCe : Hid (cellsK J j ++ [.int .i64 ((tM (4 * J j)).1 : Int), .int .i64 ((tM (4 * J j)).2.1 : Int), .bool (tM (4 * J j)).2.2] = cellsK J (j + 1)) := (cellsK_succ J j).symm
          have hLk : (restK J c (c - (j + 1)) ++ (spL a ++ nbL s)).length ≤ 1000000 := by have := HT1.out; have := HLS.out (j + 1) (by omega); rw [List.length_append]; omega
          go_upto_region 9 with fail
          go_region_law (first | ((refine step_append_lies _ (by rfl) _ _ 24 (by rfl) (w.heap.size + 3) 26 i0 (.agg #[.int .i64 0, .int .i64 0, .bool false]) 3 24 Try.underlying24 hi hv0 hv1 hv2 (by rfl) (by decide) _ j _ (by rfl) (HE.alloc _).spots ⟨E.heap.size, 0, none⟩ 1 1 [.int .i64 ((tM (4 * J j)).1 : Int), .int .i64 ((tM (4 * J j)).2.1 : Int), .bool (tM (4 * J j)).2.2] (by rfl) (by rfl) (three_at rfl _ _ _ _) (by simp [Value.oneCell']) (by omega) (by unfold maxLen; omega) (by omega) (by simp; omega) (E.heap.size + 1) (by simp) ?_); (intro g7 cap7 w7 hown7 hgrow7 hat7 hlt7); (have kb7 := At.grown (HE.alloc _).box hgrow7 (fun e => by have := (HE.spots.lt _ e).1; omega)); (obtain ⟨zb7, cb07, cb17, cb27, cb37, cb47, cb57, fb07, fb17, fb27, fb37, fb47, fb57⟩ := kb7.six)) | ((go_simp); (go_at_call 92; refine (lspot w.heap.size (w.heap.size + 1) (4 * J j) _ _ hLk HRk.out).mono ?_; rintro e E ⟨rfl, hRE, hbE⟩; have HE : Rd 3 26 w Z J E (.slice sv k cv) (.slice su j cu) (k) (j) (restK J c (c - (j + 1)) ++ (spL a ++ nbL s)) := HW.drew.read hbE hRE; clear hRE hbE; clear kbW krW zbW cb0W cb1W cb2W cb3W cb4W cb5W fb0W fb1W fb2W fb3W fb4W fb5W; have kbE := HE.box; have krE := HE.res; have hzE := HE.below.size; obtain ⟨zbE, cb0E, cb1E, cb2E, cb3E, cb4E, cb5E, fb0E, fb1E, fb2E, fb3E, fb4E, fb5E⟩ := kbE.six); (go_wp2_with fail)))
          
          all_goals (
          rw [HCe.out] at hown7
          have hat8 : (Value.slice (some ⟨g7, 0, none⟩) (j + 1) cap7).ownBlock = (Value.slice su j cu).ownBlock ∨ (Value.slice (some ⟨g7, 0, none⟩) (j + 1) cap7).ownBlock = some (E.alloc (.cells #[.int .i64 ((tM (4 * J j)).1 : Int), .int .i64 ((tM (4 * J j)).2.1 : Int), .bool (tM (4 * J j)).2.2] 26)).heap.size := by
            rcases hat7 with e | e
            · exact Or.inl e.symm
            · exact Or.inr (by rw [e]; simp [Value.ownBlock])
          have hD := (HE.alloc _).two hgrow7 hown7 hat8
          refine inb_gen (fun O => Rd 3 26 w Z J O (.slice sv k cv) (.slice (some ⟨g7, 0, none⟩) (j + 1) cap7) (k) (j + 1) (restK J c (c - (j + 1)) ++ (spL a ++ nbL s))) hD ?_
          intro O hO
          go_wp2_with fail
          go_roundw
          case rel => exact ⟨j + 1, _, by omega, by simp, hO⟩
          case measure => simp [intOf]; omega)
        · have hltj' : ¬ (j : Int) < c := by omega
          obtain rfl : j = c := by omega
          have HWr : Hid (Reads w.heap.size W (w.heap.size + 1) (spL a ++ nbL s)) := by
            have h1 := HW.reads
            rw [Nat.sub_self] at h1
            exact h1
          go_upto_region 12 with (go_at_call 92; clear m3; refine (lspot w.heap.size (w.heap.size + 1) a (nbL s) _ (by rw [nbL_len]; omega) HWr.out).mono ?_; rintro e A ⟨rfl, hRA, hbA⟩; have HA : Rd 3 26 w Z J A (.slice sv k cv) (.slice su j cu) (k) (j) (nbL s) := HW.read hbA hRA; clear hRA hbA; clear kbW krW zbW cb0W cb1W cb2W cb3W cb4W cb5W fb0W fb1W fb2W fb3W fb4W fb5W; clear HW hzW HWr; have kbA := HA.box; have krA := HA.res; have hzA := HA.below.size; obtain ⟨zbA, cb0A, cb1A, cb2A, cb3A, cb4A, cb5A, fb0A, fb1A, fb2A, fb3A, fb4A, fb5A⟩ := kbA.six)
          
          refine wp_gen (fun X => Reads w.heap.size X (w.heap.size + 1) (nbL s ++ []) ∧ At X w.heap.size [.slice none 0 0, .slice none 0 0, .int .i64 0, .int .i64 0, .bool false, .int .i64 0] ∧ At X (w.heap.size + 2) [.slice sv k cv, .slice su j cu, .int .i64 ((tM a).1 : Int), .int .i64 ((tM a).2.1 : Int), .bool (tM a).2.2, .int .i64 0] ∧ But (fun i => i = w.heap.size + 2) A X) ⟨?x1, ?x2, ?x3, ?x4⟩ ?_
          case x4 => exact (((But.refl (fun i => i = w.heap.size + 2) A).setCell (Or.inl rfl) _).setCell (Or.inl rfl) _).setCell (Or.inl rfl) _
          case x1 => rw [List.append_nil]; exact HA.reads.but ((((But.refl (fun i => i = w.heap.size + 2) A).setCell (Or.inl rfl) _).setCell (Or.inl rfl) _).setCell (Or.inl rfl) _) (by rintro i rfl; exact ⟨by omega, by omega⟩)
          case x2 => exact At.set (At.set (At.set krA (by omega)) (by omega)) (by omega)
          case x3 => exact ((kbA.at (i := 2) (by simp)).at (i := 3) (by simp)).at (i := 4) (by simp)
          rintro X ⟨hRX, krX, kbX, hbX⟩
          obtain ⟨zrX, cr0X, cr1X, cr2X, cr3X, cr4X, cr5X, fr0X, fr1X, fr2X, fr3X, fr4X, fr5X⟩ := krX.six
          clear kbA krA zbA cb0A cb1A cb2A cb3A cb4A cb5A fb0A fb1A fb2A fb3A fb4A fb5A
          go_upto_region 13 with (go_at_call 91; clear m4; refine (lnumber w.heap.size (w.heap.size + 1) s [] _ (by omega) (by simp) hRX).mono ?_; rintro e Y ⟨rfl, hRY, hbY⟩; have krY := krX.but hbY (by show ¬ (_ = _); omega); have kbY := kbX.but hbY (by show ¬ (_ = _); omega); clear krX kbX cr0X cr1X cr2X cr3X cr4X cr5X fr0X fr1X fr2X fr3X fr4X fr5X; obtain ⟨zrY, cr0Y, cr1Y, cr2Y, cr3Y, cr4Y, cr5Y, fr0Y, fr1Y, fr2Y, fr3Y, fr4Y, fr5Y⟩ := krY.six; obtain ⟨zbY, cb0Y, cb1Y, cb2Y, cb3Y, cb4Y, cb5Y, fb0Y, fb1Y, fb2Y, fb3Y, fb4Y, fb5Y⟩ := kbY.six)
          
          have hbXY : But (fun i => i = w.heap.size + 1 ∨ i = w.heap.size + 2) A Y := (hbX.mono (F' := fun i => i = w.heap.size + 1 ∨ i = w.heap.size + 2) fun i _ e => Or.inr e).trans hbY (fun i _ e => Or.inl e)
          refine wp_gen (fun X => At X w.heap.size [.slice none 0 0, .slice none 0 0, .int .i64 0, .int .i64 0, .bool false, .int .i64 0] ∧ At X (w.heap.size + 2) [.slice sv k cv, .slice su j cu, .int .i64 ((tM a).1 : Int), .int .i64 ((tM a).2.1 : Int), .bool (tM a).2.2, .int .i64 (s : Int)] ∧ But (fun i => i = w.heap.size + 1 ∨ i = w.heap.size + 2) A X) ⟨?x2, ?x3, ?x4⟩ ?_
          case x4 => exact hbXY.setCell (Or.inl (Or.inr rfl)) _
          case x2 => exact At.set krY (by omega)
          case x3 => exact kbY.at (i := 5) (by simp)
          clear cr0Y cr1Y cr2Y cr3Y cr4Y cr5Y fr0Y fr1Y fr2Y fr3Y fr4Y fr5Y cb0Y cb1Y cb2Y cb3Y cb4Y cb5Y fb0Y fb1Y fb2Y fb3Y fb4Y fb5Y
          rintro U ⟨krU, kbU, hbU⟩
          obtain ⟨zrU, cr0U, cr1U, cr2U, cr3U, cr4U, cr5U, fr0U, fr1U, fr2U, fr3U, fr4U, fr5U⟩ := krU.six
          obtain ⟨zbU, cb0U, cb1U, cb2U, cb3U, cb4U, cb5U, fb0U, fb1U, fb2U, fb3U, fb4U, fb5U⟩ := kbU.six
          go_wp2_with fail
          
          refine post_gen (fun X => At X w.heap.size [.slice sv k cv, .slice su j cu, .int .i64 ((tM a).1 : Int), .int .i64 ((tM a).2.1 : Int), .bool (tM a).2.2, .int .i64 (s : Int)] ∧ But (fun i => w.heap.size ≤ i ∧ i < w.heap.size + 3) A X) ⟨?x1, ?x2⟩ ?_
          case x1 => exact (((((krU.at (i := 0) (by simp)).at (i := 1) (by simp)).at (i := 2) (by simp)).at (i := 3) (by simp)).at (i := 4) (by simp)).at (i := 5) (by simp)
          case x2 =>
            have h0 : But (fun i => w.heap.size ≤ i ∧ i < w.heap.size + 3) A U := hbU.mono fun i _ e => by omega
            have hh : (fun i => w.heap.size ≤ i ∧ i < w.heap.size + 3) w.heap.size := ⟨Nat.le_refl _, by omega⟩
            exact (((((h0.setCell (Or.inl hh) _).setCell (Or.inl hh) _).setCell (Or.inl hh) _).setCell (Or.inl hh) _).setCell (Or.inl hh) _).setCell (Or.inl hh) _
          rintro X ⟨kX, hbX⟩
          obtain ⟨zX, cX0, cX1, cX2, cX3, cX4, cX5, fX0, fX1, fX2, fX3, fX4, fX5⟩ := kX.six
          have hO1 : X.ownsRow w.heap.size 3 1 (.slice sv k cv) k (cellsI Z k) := own_base (own_but HA.ints hbX fun g hg => by have := (HA.ints.lt g hg).1; omega) (by omega)
          have hO2 : X.ownsRow w.heap.size 26 3 (.slice su j cu) j (cellsK J j) := own_base (own_but HA.spots hbX fun g hg => by have := (HA.spots.lt g hg).1; omega) (by omega)
          have hB : Below w.heap.size w X := But.under HA.below hbX (fun i e => e.1) HA.below.size
          exact bodyPost_ret (v := .agg #[.slice sv k cv, .slice su j cu, .int .i64 ((tM a).1 : Int), .int .i64 ((tM a).2.1 : Int), .bool (tM a).2.2, .int .i64 (s : Int)]) (by simp [results, Try.results86, go_sem, cX0, cX1, cX2, cX3, cX4, cX5]) rfl ⟨_, _, _, _, rfl, hO1, hO2, hB⟩
end Go.Proofs.Ytmijjjdedadklaj
/- LogSeen -/
namespace Go.Proofs.Ytmijjjdedadklaj
open Go.RowKit
set_option linter.unusedVariables false
set_option linter.unusedSimpArgs false

/-- A function that hands over r things, one by one; the k-th one is as R says, its memory from so many blocks on; it reads the blocks of G between two rounds, and writes none that was there. -/
def SeqSeen (F : Fence) (n : Nat) (P : Program) (g : Nat) (lb : Array Value) (G : Nat → Prop) (R : Nat → Nat → Array Value → World → Prop) (r : Nat) (w : World) : Prop :=
  ∀ (l : Nat) (J : Nat → World → Prop) (W : World), Below w.heap.size w W → (∀ k A B, J k A → Below A.heap.size A B → J k B) →
    (∀ k A0 A args, k < r → J k A0 → Below A0.heap.size A0 A → R k A0.heap.size args A → YieldAt F (n - 1) P l args A fun e B => e = .returned (.bool true) ∧ J (k + 1) B ∧ But (fun i => ¬ G i) A0 B) →
    J 0 W → CallsIn F n P g (#[.func (.yield l) #[] #[]] ++ lb) W fun e B => (∃ v, e = .returned v) ∧ J r B
/-- A block that is none of cells is put anew: whatever lay in others lies there. -/
theorem But.put {F : Nat → Prop} {a w : World} (h : But F a w) {l : Nat} (hl : F l ∨ a.heap.size ≤ l) (o : Obj) : But F a (w.putObj l o) :=
  ⟨h.os, h.tape, h.output, by rw [World.putObj_size]; exact h.size, fun k hk hn => (World.putObj_heap_other (fun e => by
    subst e
    rcases hl with hl | hl
    · exact hn hl
    · omega)).trans (h.block k hk hn)⟩
variable {F : Fence} {n : Nat} {P : Program}
/-- How a round's body must end: off its end; records and marks lie as they lay. -/
def SeenPost (B : Nat) (G : Nat → Prop) (I : Nat → World → Prop) (k : Nat) (A : World) : Exit → Act → World → Prop
  | .normal, _, W => KeepsFrom B A W ∧ I (k + 1) W ∧ But (fun i => ¬ G i) A W
  | _, _, _ => False
theorem wpIn_seen {g : Operand} {ps : Array Tmp} {assign body : Code} {Q : Exit → Act → World → Prop} {a : Act} {w : World}
    (hro : F.round = none) (h1 : 1 ≤ n) {gf : Nat} {lb : Array Value} (hg : a.eval g = .func (.func gf) #[] lb) (hFg : F.fn gf) (eg : ∀ args w, (callFunc gf args).run P w = .ok (.enter gf args) w)
    {G : Nat → Prop} {R : Nat → Nat → Array Value → World → Prop} {r : Nat} {w0 : World} (hseq : SeqSeen F (n - 1) P gf lb G R r w0) (hb0 : Below w0.heap.size w0 w) (hG : ∀ i, G i → i < w.heap.size)
    (hps : ∀ {k h args A}, R k h args A → args.size = ps.size)
    (I : Nat → World → Prop) (hIb : ∀ {k A B}, I k A → Below A.heap.size A B → I k B) (hIp : ∀ {k A l o o'}, I k A → w.heap.size ≤ l → A.heap[l]? = some o → o.isCells = false → I k (A.putObj l o')) (h0 : I 0 w)
    (Mid : Nat → Act → World → Prop) (hMp : ∀ {k b A l o o'}, Mid k b A → w.heap.size ≤ l → A.heap[l]? = some o → o.isCells = false → Mid k b (A.putObj l o'))
    (hassign : ∀ (l k : Nat) (A0 A : World) (args : Array Value) (K : Act → World → Prop), k < r → I k A0 → Below A0.heap.size A0 A → R k A0.heap.size args A → (∀ b A1, Mid k b A1 → Below A.heap.size A A1 → K b A1) →
      assign.wpIn (F.inRound l) (n - 1 - 1) P (Exit.then K (fun _ _ _ => False)) { tmps := (ps.zip args).foldl (fun t (p, v) => t.setIfInBounds p v) a.tmps, defers := [] } A)
    (hbody : ∀ (l k : Nat) (b : Act) (A : World), k < r → Mid k b A → body.wpIn (F.inRound l) (n - 1 - 1) P (SeenPost w.heap.size G I k A) b A)
    (hdone : ∀ (D : Nat) (W : World), w.heap.size ≤ D → I r W → W.heap[D]? = some (.deferred (some [])) → Q .normal { a with defers := { target := .collected D, args := #[] } :: a.defers } W) :
    (Code.rangeFunc g ps assign body).wpIn F n P Q a w := by
  refine wpIn_rangeFunc fun fn hfn => ?_
  rw [hro]
  have hent := run_enterLoop_outer (P := P) (w := w) fn a.tmps ps assign body
  obtain ⟨rd, hrd⟩ : ∃ rd : Loop, rd = { state := .ready, pending := none, fn, tmps := a.tmps, params := ps, assign, body, defers := w.heap.size } := ⟨_, rfl⟩
  rw [← hrd] at hent
  have hst : rd.state = .ready := by rw [hrd]
  have hpe : rd.pending = none := by rw [hrd]
  have hpar : rd.params = ps := by rw [hrd]
  have hback : ({ { rd with state := .busy } with state := .ready, pending := none } : Loop) = rd := by rw [hrd]
  obtain ⟨V, hV⟩ : ∃ V, (w.alloc (.deferred (some []))).alloc (.loop rd) = V := ⟨_, rfl⟩
  rw [hV] at hent
  have hwV : Below w.heap.size w V := by rw [← hV]; exact ((Below.refl _ w).alloc (Nat.le_refl _) _).alloc (by simp) _
  have hl : V.heap[w.heap.size + 1]? = some (.loop rd) := by
    rw [← hV]
    have := World.alloc_heap_new (w.alloc (.deferred (some []))) (.loop rd)
    rwa [World.size_alloc] at this
  have hd : V.heap[w.heap.size]? = some (.deferred (some [])) := by rw [← hV]; exact (Below.heap_alloc _ _ _ (by simp)).trans (World.alloc_heap_new w _)
  refine ⟨_, _, V, { target := .fn (.func gf) lb, args := #[.func (.yield (w.heap.size + 1)) #[] #[]] }, V, gf, #[.func (.yield (w.heap.size + 1)) #[] #[]] ++ lb, V, hent, ?_, ?_, ?_, fun _ => h1, ?_⟩
  · simp only [resolve, hg]; simp [go_sem]
  · intro f' hf'; simp [Target.leads] at hf'; subst hf'; exact hFg
  · simp [invoke, go_sem, eg]
  have hw1 : ∀ {X : World} {o : Obj}, X.heap[w.heap.size + 1]? = some o → w.heap.size + 1 < X.heap.size := fun h => (Array.getElem?_eq_some_iff.1 h).1
  refine (hseq (w.heap.size + 1) (fun k A => I k A ∧ A.heap[w.heap.size + 1]? = some (.loop rd) ∧ A.heap[w.heap.size]? = some (.deferred (some []))) V (hb0.trans (hwV.mono hb0.size)) ?_ ?_ ⟨hIb h0 hwV, hl, hd⟩).mono ?_
  · rintro k A B ⟨i1, i2, i3⟩ hb
    have s1 := hw1 i2
    exact ⟨hIb i1 hb, (hb.block _ s1).trans i2, (hb.block _ (by omega)).trans i3⟩
  · rintro k A0 A args hk ⟨i1, i2, i3⟩ hb hR
    have s1 := hw1 i2
    have j2 := (hb.block _ s1).trans i2
    have j3 := (hb.block _ (show w.heap.size < A0.heap.size by omega)).trans i3
    have hy := run_yield (P := P) (args := args) j2 (by rw [hpar]; exact hps hR)
    rw [show rd.fn = fn by rw [hrd], show rd.params = ps from hpar, show rd.tmps = a.tmps by rw [hrd], show rd.assign = assign by rw [hrd], show rd.body = body by rw [hrd]] at hy
    refine ⟨fn, _, assign, body, hy, roundIn_of_wpIn hfn (hassign _ k A0 A args _ hk i1 hb hR fun b A1 hM hA1 => ?_)⟩
    have t1 := hw1 j2
    have q2 := (hA1.block _ t1).trans j2
    have q3 := (hA1.block _ (show w.heap.size < A.heap.size by omega)).trans j3
    refine ⟨_, run_beginRound q2 hst, ?_⟩
    obtain ⟨A2, hA2⟩ : ∃ A2, A1.putObj (w.heap.size + 1) (.loop { rd with state := .busy }) = A2 := ⟨_, rfl⟩
    rw [hA2]
    have u1 := hw1 q2
    have p2 : A2.heap[w.heap.size + 1]? = some (.loop { rd with state := .busy }) := by rw [← hA2]; exact World.putObj_heap_same u1
    have p3 : A2.heap[w.heap.size]? = some (.deferred (some [])) := by rw [← hA2]; exact (World.putObj_heap_other (by omega)).trans q3
    have hM2 : Mid k b A2 := by rw [← hA2]; exact hMp hM (by omega) q2 rfl
    have hB2 : But (fun i => ¬ G i) A0 A2 := by
      rw [← hA2]
      exact (((But.of_below _ hb).call hA1)).put (Or.inl fun e => by have := hG _ e; omega) _
    refine wpIn_mono (hbody _ k b A2 hk hM2) ?_
    intro e b3 W3 hp
    cases e with
    | normal =>
      obtain ⟨k3, i4, b4⟩ := hp
      have m2 := k3.same _ _ (by omega) p2 rfl
      have m3 := k3.same _ _ (Nat.le_refl _) p3 rfl
      have hr := run_endRound (P := P) none m2
      simp only [Option.isNone_none, if_true] at hr
      rw [hback] at hr
      refine ⟨_, _, hr, rfl, ⟨hIp i4 (by omega) m2 rfl, World.putObj_heap_same (hw1 m2), (World.putObj_heap_other (by omega)).trans m3⟩, ?_⟩
      exact (hB2.trans b4 fun _ _ e => e).put (Or.inl fun e => by have := hG _ e; omega) _
    | ret => exact hp.elim
    | exit id => exact hp.elim
    | goto t => exact hp.elim
    | panic ch => exact hp.elim
    | outgrown => exact hp.elim
  · rintro e W ⟨⟨v, rfl⟩, i1, i2, i3⟩
    have hr := run_endLoop (P := P) i2 (by rw [hst]; intro h; cases h)
    rw [hpe] at hr
    exact ⟨none, _, hr, hdone _ _ (Nat.le_refl _) (hIp i1 (by omega) i2 rfl) ((World.putObj_heap_other (by omega)).trans i3)⟩
end Go.Proofs.Ytmijjjdedadklaj
/- LogPlay -/
namespace Go.Proofs.Ytmijjjdedadklaj
open Go.RowKit Go.Sort Go.Shelf
set_option linter.unusedVariables false
set_option linter.unusedSimpArgs false
attribute [local go_sem] Oper.semAt_some
/-- A block of cells. -/
def IsCells (W : World) (i : Nat) : Prop := ∃ o, W.heap[i]? = some o ∧ o.isCells = true
theorem cells_of_cell {W : World} {b i : Nat} {v : Value} (h : W.cell? ⟨b, i, none⟩ = some v) : IsCells W b := by
  unfold World.cell? at h
  unfold IsCells
  cases hb : W.heap[b]? with
  | none => simp only [hb] at h; cases h
  | some o =>
    refine ⟨o, rfl, ?_⟩
    cases o with
    | cells c t f => rfl
    | _ => simp only [hb] at h; cases h
theorem At.isCells {W : World} {b : Nat} {v : Value} {vs : List Value} (h : At W b (v :: vs)) : IsCells W b := cells_of_cell (i := 0) (v := v) (h.2.1 0 (by simp))
theorem own_isCells {W : World} {B : Nat} {e : TypeId} {size : Nat} {v : Value} {n : Nat} {xs : List Value} (h : W.ownsRow B e size v n xs) {g : Nat} (hg : v.ownBlock = some g) : IsCells W g := by
  rcases h.2 with ⟨rfl, _⟩ | ⟨g', cap, cur, rfl, _, h3, _⟩
  · cases hg
  · injection hg with hg
    rw [← hg]
    exact ⟨_, h3, rfl⟩
theorem IsCells.ne {W : World} {i l : Nat} {o : Obj} (h : IsCells W i) (hl : W.heap[l]? = some o) (ho : o.isCells = false) : i ≠ l := by
  rintro rfl
  obtain ⟨o', h1, h2⟩ := h
  rw [hl] at h1
  injection h1 with h1
  rw [← h1, ho] at h2
  cases h2
theorem but_put (W : World) (l : Nat) (o : Obj) : But (fun i => i = l) W (W.putObj l o) := (But.refl (fun i => i = l) W).put (Or.inl rfl) o
theorem keeps_but {F : Nat → Prop} {B : Nat} {A W : World} (h : But F A W) (hF : ∀ i, F i → i < A.heap.size → IsCells A i) : KeepsFrom B A W :=
  ⟨h.size, fun k o _ hk ho => (h.block k (Array.getElem?_eq_some_iff.1 hk).1 fun e => (hF k e (Array.getElem?_eq_some_iff.1 hk).1).ne hk ho rfl).trans hk⟩
theorem own_nil_cap {W : World} {B : Nat} {e : TypeId} {size q : Nat} {sa : Option Addr} {n c : Nat} {xs : List Value} (h : W.ownsRow B e size (.slice sa q c) n xs) (hs : sa = none) : c = 0 := by
  subst hs
  rcases h.2 with ⟨h1, _⟩ | ⟨g, cap, cur, h1, _⟩
  · injection h1
  · injection h1 with h1; cases h1
theorem wpIn_gen {F : Fence} {m : Nat} {P : Program} {c : Code} {Q : Exit → Act → World → Prop} {a : Act} {w : World} (S : World → Prop) (h : S w) (k : ∀ W, S W → c.wpIn F m P Q a W) : c.wpIn F m P Q a w := k w h
theorem book_cells {W : World} {v : Value} {Q : Nat → Prop} {n : Nat} {K : Nat → Nat} {G : Nat → Bool} (h : bookP W v Q n K G) {i : Nat} (hi : Q i) : IsCells W i := by
  obtain ⟨p, u, rfl, rfl, h⟩ := h
  rcases hi with rfl | hi
  · exact h.cells.isCells
  · exact own_isCells h.coins hi
/-- What is handed over: the place behind a record, its deal. -/
def dealR (d : Nat → Rec) (k h : Nat) (args : Array Value) (A : World) : Prop := ∃ (sz sl : Option Addr) (dz dl : Nat), args = #[.int .i64 ((catN d (k + 1) : Nat) : Int), .agg #[.slice sz (d k).m dz, .slice sl (d k).c dl, .int .i64 ((tM (d k).a).1 : Int), .int .i64 ((tM (d k).a).2.1 : Int), .bool (tM (d k).a).2.2, .int .i64 ((d k).s : Int)]] ∧ A.ownsRow h 3 1 (.slice sz (d k).m dz) (d k).m (cellsI (d k).Z (d k).m) ∧ A.ownsRow h 26 3 (.slice sl (d k).c dl) (d k).c (cellsK (d k).J (d k).c)
/-- The fence holds nothing out. -/
def WideF (F : Fence) : Prop := ∀ (n : Nat) (f : FuncId) (args : Array Value) (w : World) (R : Ending → World → Prop), Calls Try.prog f args w R → CallsIn F n Try.prog f args w R
set_option maxRecDepth 100000 in
set_option maxHeartbeats 4000000 in
theorem deals_seen (F : Fence) (n : Nat) (h1 : F.fn 84) (h2 : F.fn 85) (h3 : F.fn 86) (hro : F.round = none) (hn : 1 ≤ n) (hF : WideF F) (Bs n₀ cap r : Nat) (sa : Option Addr) (d : Nat → Rec) (L : List Nat) (w : World) (hBs : Bs < w.heap.size) (hn₀ : n₀ ≤ w.heap.size) (hc : w.cell? ⟨Bs, 0, none⟩ = some (.slice sa L.length cap)) (hcap : L.length ≤ cap) (hcm : cap ≤ maxLen) (hL : L.length ≤ 1000000000) (hrow : L = [] ∨ ∃ bL, sa = some ⟨bL, 0, none⟩ ∧ bL < n₀ ∧ RowU w bL 0 L) (hWh : Whole d r L) (hin : ∀ i, i < r → RecIn (d i)) :
    SeqSeen F n Try.prog 84 #[.pointer (some ⟨Bs, 0, none⟩)] (fun i => i < n₀ ∨ i = Bs) (dealR d) r w := by
  intro l J W hW hJb hY h0
  have HWh : Hid (Whole d r L) := hWh
  have HIn : Hid (∀ i, i < r → RecIn (d i)) := hin
  have HY : Hid (∀ k A0 A args, k < r → J k A0 → Below A0.heap.size A0 A → dealR d k A0.heap.size args A → YieldAt F (n - 1) Try.prog l args A fun e B => e = .returned (.bool true) ∧ J (k + 1) B ∧ But (fun i => ¬ (i < n₀ ∨ i = Bs)) A0 B) := hY
  have HJb : Hid (∀ k A B, J k A → Below A.heap.size A B → J k B) := hJb
  have HF : Hid (WideF F) := hF
  have hcW := (hW.cell (p := ⟨Bs, 0, none⟩) hBs).trans hc
  have HRW : Hid (L = [] ∨ ∃ bL, sa = some ⟨bL, 0, none⟩ ∧ bL < n₀ ∧ RowU W bL 0 L) := hrow.imp_right fun ⟨b, e, hb, hr⟩ => ⟨b, e, hb, hr.below hr.1 hW⟩
  have hzW := hW.size
  unfold maxLen at hcm
  clear hrow hWh hin hY hJb hF hc
  refine callsIn_of_wp Try.func84 rfl h1 ?_ hro
  simp only [Try.ntmps84, List.size_toArray, List.length_cons, List.length_nil, Nat.reduceAdd, Nat.reduceSub, Array.replicate_succ, Array.replicate_zero, List.push_toArray, List.append_toArray, List.nil_append, List.cons_append]
  gi_wp2
  gi_loopw [3] (fun ti wl => ∃ k : Nat, k ≤ r ∧ ti = .int .i64 ((catN d k : Nat) : Int) ∧ J k wl ∧ But (fun i => ¬ (i < n₀ ∨ i = Bs)) W wl) (fun ti _ => L.length + 1 - (intOf ti).toNat)
  case atStart => exact ⟨0, by omega, rfl, h0, But.refl _ _⟩
  case round =>
    obtain ⟨k, hk, rfl, hJk, hbk⟩ := hrel
    have hBx : wr.cell? ⟨Bs, 0, none⟩ = some (.slice sa L.length cap) := (World.cell?_of_block (a := ⟨Bs, 0, none⟩) (hbk.block Bs (by omega) (fun e => e (Or.inr rfl)))).trans hcW
    have HJk : Hid (J k wr) := hJk
    have hzk := hbk.size
    have HRk : Hid (∀ {bL o : Nat} {l : List Nat}, bL < n₀ → RowU W bL o l → RowU wr bL o l) := fun hb hr => hr.but hbk (fun e => e (Or.inl hb))
    clear hJk h0
    by_cases hlt : k < r
    · obtain ⟨post, hp⟩ := whole_part HWh.out hlt
      obtain ⟨t, ht⟩ : ∃ t, catN d k = t := ⟨_, rfl⟩
      obtain ⟨N, hN⟩ : ∃ N, (bodyL (d k)).length = N := ⟨_, rfl⟩
      have HS : catN d (k + 1) = t + 2 + N := by rw [catN_succ, ht, hN]
      have hNl : N ≤ 2045 := by rw [← hN]; exact bodyL_le (HIn.out k hlt)
      have hlen : t + 2 + N ≤ L.length := by rw [hp, ← HS]; unfold catN; show (catL d k ++ recL (d k)).length ≤ _; simp only [List.length_append]; omega
      obtain ⟨bL, rfl, hbL, hrW⟩ := HRW.out.resolve_left (by intro e; rw [e] at hlen; simp at hlen)
      have hr := HRk.out hbL hrW
      have hr1 : RowU wr bL (0 + t) (recL (d k)) := by
        rw [hp] at hr
        have := hr.part
        rwa [show (catL d k).length = t from ht] at this
      have hr2 : RowU wr bL (0 + t) (nbL N ++ bodyL (d k)) := by rw [← hN]; exact hr1
      have c0 : wr.cell? ⟨bL, 0 + t, none⟩ = some (.int .i8 0) ∨ True := Or.inr trivial
      have HN : Hid (Calls Try.prog 85 #[.slice (some ⟨bL, 0, none⟩) L.length cap, .int .i64 (t : Int)] wr fun e w' => e = .returned (.int .i64 (N : Int)) ∧ Below wr.heap.size wr w') := by
        have h1 := lnum_at bL 0 L.length cap t (N / 256) (N % 256) wr (by omega) hL (by omega) (by omega) (hr2.2 0 _ rfl) (hr2.2 1 _ rfl)
        rwa [show (((N / 256) * 256 + N % 256 : Nat) : Int) = (N : Int) by omega] at h1
      have HD : Hid (RowU wr bL (t + 2) (bodyL (d k))) := by
        have h1 := hr2.drop
        rw [nbL_len, Nat.zero_add] at h1
        exact h1
      have HI : Hid (RecIn (d k)) := HIn.out k hlt
      have HL2 : Hid ((bodyL (d k)).length = N) := hN
      have hbw := hr.1
      clear c0 hr hr1 hr2 hrW hp hN
      rw [ht]
      have hN6 : 6 ≤ N := by rw [← HL2.out, bodyL_len]; omega
      have hne : ¬ cap = t + 2 := by omega
      have hcd : (t : Int) + 2 ≤ (L.length : Int) := by omega
      have hce : ¬ (t : Int) + 2 + (N : Int) > (L.length : Int) := by omega
      gi_wp2_with (first | (gi_at_call 85; refine (HF.out _ _ _ _ _ HN.out).mono ?_; rintro e A ⟨rfl, hbA⟩; have hBA : A.cell? ⟨Bs, 0, none⟩ = some (.slice (some ⟨bL, 0, none⟩) L.length cap) := (hbA.cell (p := ⟨Bs, 0, none⟩) (by show Bs < _; omega)).trans hBx; have hzA := hbA.size) | (gi_at_call 86; go_loud ((try rw [if_neg hne]); refine (HF.out _ _ _ _ _ (lread bL (t + 2) N (cap - (t + 2)) (d k).m (d k).c (d k).a (d k).s (d k).Z (d k).J A HI.out HL2.out.symm (by omega) (HD.out.below hbw hbA))).mono ?_; rintro e E ⟨sz, sl, dz, dl, rfl, ho1, ho2, hbE⟩; have hY1 := HY.out k wr E #[.int .i64 ((t : Int) + 2 + (N : Int)), .agg #[.slice sz (d k).m dz, .slice sl (d k).c dl, .int .i64 ((tM (d k).a).1 : Int), .int .i64 ((tM (d k).a).2.1 : Int), .bool (tM (d k).a).2.2, .int .i64 ((d k).s : Int)]] hlt HJk.out (hbA.trans (hbE.mono hzA)) ⟨sz, sl, dz, dl, by rw [HS, show (((t + 2 + N : Nat) : Int)) = (t : Int) + 2 + (N : Int) by omega], own_base ho1 hzA, own_base ho2 hzA⟩; obtain ⟨fn, tmps, assign, body, hy, hR⟩ := hY1; (try dsimp only at hy); clear ho1 ho2)) | (refine hR.mono ?_; rintro e B ⟨rfl, hJB, hbB⟩) | ((with_reducible refine And.intro ?nf ?_); (case nf => (intro f hf; cases hf))))
      
      go_roundw
      case rel => exact ⟨k + 1, by omega, by rw [HS]; simp; try omega, hJB, hbk.trans hbB fun _ _ e => e⟩
      case measure => simp [intOf]; omega
    · obtain rfl : k = r := by omega
      have hwe := whole_end HWh.out
      obtain ⟨t, ht⟩ : ∃ t, catN d k = t := ⟨_, rfl⟩
      rw [ht] at hwe ⊢
      have hwl : t ≤ L.length := by rw [← ht]; exact (whole_len HWh.out).1
      rcases hwe with hs | ⟨N, post, hN6, hp, hlong⟩
      · have hcd : ¬ (t : Int) + 2 ≤ (L.length : Int) := by omega
        gi_wp2
        
        go_end0
        exact ⟨⟨_, rfl⟩, HJk.out⟩
      · have hlen : t + 2 ≤ L.length := by rw [hp, ← ht]; unfold catN; simp only [List.length_append, nbL_len]; omega
        obtain ⟨bL, rfl, hbL, hrW⟩ := HRW.out.resolve_left (by intro e; rw [e] at hlen; simp at hlen)
        have hr := HRk.out hbL hrW
        have hr2 : RowU wr bL (0 + t) (nbL N) := by
          rw [hp] at hr
          have := hr.part
          rwa [show (catL d k).length = t from ht] at this
        have HN : Hid (Calls Try.prog 85 #[.slice (some ⟨bL, 0, none⟩) L.length cap, .int .i64 (t : Int)] wr fun e w' => e = .returned (.int .i64 (N : Int)) ∧ Below wr.heap.size wr w') := by
          have h1 := lnum_at bL 0 L.length cap t (N / 256) (N % 256) wr (by omega) hL (by omega) (by omega) (hr2.2 0 _ rfl) (hr2.2 1 _ rfl)
          rwa [show (((N / 256) * 256 + N % 256 : Nat) : Int) = (N : Int) by omega] at h1
        clear hr hr2 hrW hp
        have hcd : (t : Int) + 2 ≤ (L.length : Int) := by omega
        have hce : (t : Int) + 2 + (N : Int) > (L.length : Int) := by omega
        gi_wp2_with (first | (gi_at_call 85; refine (HF.out _ _ _ _ _ HN.out).mono ?_; rintro e A ⟨rfl, hbA⟩; have hBA : A.cell? ⟨Bs, 0, none⟩ = some (.slice (some ⟨bL, 0, none⟩) L.length cap) := (hbA.cell (p := ⟨Bs, 0, none⟩) (by show Bs < _; omega)).trans hBx; have hzA := hbA.size) | ((with_reducible refine And.intro ?nf ?_); (case nf => (intro f hf; cases hf))))
        
        refine bodyPost_ret (results_none rfl _ _ _) rfl ?_
        exact ⟨⟨_, rfl⟩, HJb.out _ _ _ HJk.out hbA⟩
/-- A record that a book does. -/
structure RecOk (n : Nat) (K : Nat → Nat) (G : Nat → Bool) (e : Rec) (n' : Nat) (K' : Nat → Nat) (G' : Nat → Bool) : Prop where
  go : ∀ i, i < e.m → goE n G e.Z i = 0
  c : e.c ≤ 12
  le : n + e.c ≤ 1000
  s : e.s < 1013
  cl : closeB e.a (exN K e.Z e.m e.J e.c) e.s = true
  en : n' = n + e.c
  ek : K' = appN K n e.J e.c
  eg : G' = appN (mkG G e.Z e.m) n (fun _ => false) e.c
theorem RecOk.in {n : Nat} {K : Nat → Nat} {G : Nat → Bool} {e : Rec} {n' : Nat} {K' : Nat → Nat} {G' : Nat → Bool} (h : RecOk n K G e n' K' G') : RecIn e :=
  ⟨by have := go_many h.go; have := h.le; omega, fun i hi => by have := inN_yes (goE_ok (h.go i hi)).1; have := h.le; omega, h.c, h.s⟩
/-- What is replayed, behind k records: the boxes of the book and of the place, the book. -/
structure Play (n₀ q pb : Nat) (w : World) (d : Nat → Rec) (n : Nat → Nat) (K : Nat → Nat → Nat) (G : Nat → Nat → Bool) (k : Nat) (Q : Nat → Prop) (W : World) : Prop where
  b : At W q [.pointer (some ⟨pb, 0, none⟩)]
  e : At W (q + 1) [.int .i64 ((catN d k : Nat) : Int)]
  book : bookP W (.pointer (some ⟨pb, 0, none⟩)) Q (n k) (K k) (G k)
  apart : ∀ i, Q i → n₀ ≤ i ∧ i ≠ q ∧ i ≠ q + 1 ∧ i ≠ q + 2
  below : Below n₀ w W
  le : n₀ ≤ q
  size : q + 3 ≤ W.heap.size
section
variable {n₀ q pb k : Nat} {w A B : World} {d : Nat → Rec} {n : Nat → Nat} {K : Nat → Nat → Nat} {G : Nat → Nat → Bool} {Q : Nat → Prop}
theorem Play.stay (h : Play n₀ q pb w d n K G k Q A) {F : Nat → Prop} (hb : But F A B) (h1 : ¬ F q) (h2 : ¬ F (q + 1)) (h3 : ∀ i, Q i → ¬ F i) (h4 : ∀ i, F i → n₀ ≤ i) : Play n₀ q pb w d n K G k Q B :=
  ⟨h.b.but hb h1, h.e.but hb h2, bookP_ok.stay h.book hb h3, h.apart, But.under h.below hb h4 (by have := h.size; have := h.le; omega), h.le, Nat.le_trans h.size hb.size⟩
theorem Play.up (h : Play n₀ q pb w d n K G k Q A) (hb : Below A.heap.size A B) : Play n₀ q pb w d n K G k Q B :=
  h.stay (But.of_below (fun _ => False) hb) (fun e => e) (fun e => e) (fun _ _ e => e) (fun _ e => e.elim)
theorem Play.put (h : Play n₀ q pb w d n K G k Q A) {l : Nat} {o o' : Obj} (hl : n₀ ≤ l) (ho : A.heap[l]? = some o) (hc : o.isCells = false) : Play n₀ q pb w d n K G k Q (A.putObj l o') :=
  h.stay (but_put A l o') (h.b.isCells.ne ho hc) (h.e.isCells.ne ho hc) (fun i hi => (book_cells h.book hi).ne ho hc) (fun i e => by have : i = l := e; omega)
end
set_option maxRecDepth 100000 in
set_option maxHeartbeats 4000000 in
theorem ldeals (a : Option Addr) (len cap : Nat) (w : World) :
    Calls Try.prog 66 #[.slice a len cap] w fun e w' => e = .returned (.func (.func 84) #[] #[.pointer (some ⟨w.heap.size, 0, none⟩)]) ∧ w' = w.alloc (.cells #[.slice a len cap] 72) := by
  go_enter Try.func66, Try.ntmps66
  go_wp2_with fail
  go_ret
  exact ⟨rfl, rfl⟩
/-- What a round is handed, laid. -/
def PlayMid (n₀ q pb : Nat) (w : World) (d : Nat → Rec) (n : Nat → Nat) (K : Nat → Nat → Nat) (G : Nat → Nat → Bool) (T : Value → Nat → Value → Act) (k : Nat) (b : Act) (A : World) : Prop :=
  ∃ (Q : Nat → Prop) (h x : Nat) (sz sl : Option Addr) (dz dl : Nat), Play n₀ q pb w d n K G k Q A ∧ (∀ i, Q i → i < h) ∧ h ≤ x ∧ q + 3 ≤ h ∧ b = T (.int .i64 ((catN d (k + 1) : Nat) : Int)) x (.agg #[.slice sz (d k).m dz, .slice sl (d k).c dl, .int .i64 ((tM (d k).a).1 : Int), .int .i64 ((tM (d k).a).2.1 : Int), .bool (tM (d k).a).2.2, .int .i64 ((d k).s : Int)]) ∧ At A x [.slice sz (d k).m dz, .slice sl (d k).c dl, .int .i64 ((tM (d k).a).1 : Int), .int .i64 ((tM (d k).a).2.1 : Int), .bool (tM (d k).a).2.2, .int .i64 ((d k).s : Int)] ∧
    A.ownsRow h 3 1 (.slice sz (d k).m dz) (d k).m (cellsI (d k).Z (d k).m) ∧ A.ownsRow h 26 3 (.slice sl (d k).c dl) (d k).c (cellsK (d k).J (d k).c)
theorem PlayMid.put {n₀ q pb k l : Nat} {w A : World} {d : Nat → Rec} {n : Nat → Nat} {K : Nat → Nat → Nat} {G : Nat → Nat → Bool} {T : Value → Nat → Value → Act} {b : Act} {o o' : Obj} (h : PlayMid n₀ q pb w d n K G T k b A) (hl : n₀ ≤ l) (ho : A.heap[l]? = some o) (hc : o.isCells = false) : PlayMid n₀ q pb w d n K G T k b (A.putObj l o') := by
  obtain ⟨Q, h, x, sz, sl, dz, dl, h1, h2, h3, h4, h5, h6, h7, h8⟩ := h
  exact ⟨Q, h, x, sz, sl, dz, dl, h1.put hl ho hc, h2, h3, h4, h5, h6.but (but_put A l o') (h6.isCells.ne ho hc), own_but h7 (but_put A l o') (fun g hg => (own_isCells h7 hg).ne ho hc), own_but h8 (but_put A l o') (fun g hg => (own_isCells h8 hg).ne ho hc)⟩
/-- A deal that is read is done. -/
theorem play_do {n₀ q pb k h : Nat} {w A : World} {d : Nat → Rec} {n : Nat → Nat} {K : Nat → Nat → Nat} {G : Nat → Nat → Bool} {Q : Nat → Prop} {sz sl : Option Addr} {dz dl : Nat} (hP : Play n₀ q pb w d n K G k Q A) (hQ : ∀ i, Q i → i < h) (hr : RecOk (n k) (K k) (G k) (d k) (n (k + 1)) (K (k + 1)) (G (k + 1)))
    (h7 : A.ownsRow h 3 1 (.slice sz (d k).m dz) (d k).m (cellsI (d k).Z (d k).m)) (h8 : A.ownsRow h 26 3 (.slice sl (d k).c dl) (d k).c (cellsK (d k).J (d k).c)) :
    Calls Try.prog 12 #[.pointer (some ⟨pb, 0, none⟩), .agg #[.slice sz (d k).m dz, .slice sl (d k).c dl, .int .i64 ((tM (d k).a).1 : Int), .int .i64 ((tM (d k).a).2.1 : Int), .bool (tM (d k).a).2.2, .int .i64 ((d k).s : Int)]] A fun ex w' => ex = .returned .nilIface ∧ PBdone bookP A w' (.pointer (some ⟨pb, 0, none⟩)) Q (n (k + 1)) (K (k + 1)) (G (k + 1)) := by
  have hm := hr.in.m
  obtain ⟨sz', dz', e1, hz⟩ := own_ints h7
  injection e1 with e1 _ e3
  subst e1 e3
  obtain ⟨sl', dl', e1, hs⟩ := own_isC h8
  injection e1 with e1 _ e3
  subst e1 e3
  have hz2 : (d k).m = 0 ∨ ∃ b o : Nat, sz = some ⟨b, o, none⟩ ∧ RowI A b o (d k).m (d k).Z := hz.imp_right fun ⟨g, e, _, _, r⟩ => ⟨g, 0, e, r⟩
  have h9 := bdo_is.2.2.2.2.2 (.pointer (some ⟨pb, 0, none⟩)) Q (n k) (d k).m (d k).c dl dz sz sl (K k) (G k) (d k).Z _ _ _ (d k).J (d k).a (d k).s A (by have := hr.le; omega) (by omega) (own_room h7) (own_room h8) (own_nil_cap h8) hP.book hz2 hs ?_ ?_ hr.go hr.c (fun i hi => ⟨rfl, rfl, rfl⟩) hr.le hr.s hr.cl
  · rw [hr.en, hr.ek, hr.eg]; exact h9
  · intro h0 b o e hb
    obtain ⟨g, e2, e3, _⟩ := hz.resolve_left h0
    rw [e] at e2
    injection e2 with e2
    have := (h7.lt g e3).1
    have := hQ b hb
    injection e2 with e2
    omega
  · intro h0 b o e hb
    obtain ⟨sl2, dl2, e4, hs2⟩ := own_slice h8
    obtain ⟨g, e2, e3, _⟩ := hs2.resolve_left h0
    injection e4 with e4
    rw [← e4, e] at e2
    injection e2 with e2
    have := (h8.lt g e3).1
    have := hQ b hb
    injection e2 with e2
    omega
set_option maxRecDepth 100000 in
set_option maxHeartbeats 4000000 in
theorem lreplay_in (F : Fence) (N : Nat) (f1 : F.fn 42) (f2 : F.fn 7) (f3 : F.fn 66) (f4 : F.fn 84) (f5 : F.fn 85) (f6 : F.fn 86) (f7 : F.fn 12) (hro : F.round = none) (hN : 5 ≤ N) (hF : WideF F) (p r cap cc : Nat) (n : Nat → Nat) (K : Nat → Nat → Nat) (G : Nat → Nat → Bool) (d : Nat → Rec) (L : List Nat) (sc sa : Option Addr) (bv sv fv tv : Value) (w : World)
    (hp : At w p [.slice sc (n 0) cc, bv, .slice sa L.length cap, sv, fv, tv]) (hn0 : n 0 ≤ 12) (hG0 : G 0 = fun _ => false) (hco : w.ownsRow 0 26 3 (.slice sc (n 0) cc) (n 0) (cellsK (K 0) (n 0))) (hla : w.ownsRow 0 5 1 (.slice sa L.length cap) L.length (cellsU L)) (hL : L.length ≤ 1000000000) (hWh : Whole d r L) (hch : ∀ i, i < r → RecOk (n i) (K i) (G i) (d i) (n (i + 1)) (K (i + 1)) (G (i + 1))) :
    CallsIn F N Try.prog 42 #[.pointer (some ⟨p, 0, none⟩)] w fun e w' => ∃ v Q, e = .returned (.tuple #[v, .int .i64 ((catN d r : Nat) : Int)]) ∧ bookP w' v Q (n r) (K r) (G r) ∧ (∀ i, Q i → w.heap.size ≤ i) ∧ Below w.heap.size w w' := by
  have h1N : 1 ≤ N := by omega
  have HF : Hid (WideF F) := hF
  have HWh : Hid (Whole d r L) := hWh
  have HCh : Hid (∀ i, i < r → RecOk (n i) (K i) (G i) (d i) (n (i + 1)) (K (i + 1)) (G (i + 1))) := hch
  have HN : Hid (Calls Try.prog 7 #[.slice sc (n 0) cc] w fun ex w' => ∃ (pb : Nat) (Q : Nat → Prop), ex = .returned (.tuple #[.pointer (some ⟨pb, 0, none⟩), .nilIface]) ∧ bookP w' (.pointer (some ⟨pb, 0, none⟩)) Q (n 0) (K 0) (G 0) ∧ (∀ i, Q i → w.heap.size ≤ i) ∧ Below w.heap.size w w') := by
    obtain ⟨sc', cc', e1, hs⟩ := own_isC hco
    injection e1 with e1 _ e3
    subst e1 e3
    refine (bnew_is.2 sc (n 0) cc _ _ _ (K 0) w hn0 (own_room hco) (own_nil_cap hco) hs (fun i hi => ⟨rfl, rfl, rfl⟩)).mono ?_
    rintro e w' ⟨v, Q, rfl, h1, h2, h3⟩
    have h1' := h1
    obtain ⟨pb, u, rfl, _, _⟩ := h1'
    exact ⟨pb, Q, rfl, hG0 ▸ h1, h2, h3⟩
  obtain ⟨sa', cap', e1, _, hcap, hrow⟩ := own_bytes hla
  injection e1 with e1 _ e3
  subst e1 e3
  have HRow : Hid (L = [] ∨ ∃ bL, sa = some ⟨bL, 0, none⟩ ∧ bL < w.heap.size ∧ RowU w bL 0 L) := by
    rcases hrow with ⟨_, h2, _⟩ | ⟨g, h2, _, _, h5⟩
    · exact Or.inl (List.eq_nil_of_length_eq_zero h2)
    · exact Or.inr ⟨g, h2, h5.1, h5⟩
  have hcm : cap ≤ maxLen := by
    rcases hla.2 with ⟨h2, _⟩ | ⟨g, cap2, cur, h2, _, _, _, h3, _⟩
    · injection h2 with _ _ h2; rw [h2]; exact Nat.zero_le _
    · injection h2 with _ _ h2; rw [h2]; exact h3
  have HP : Hid (At w p [.slice sc (n 0) cc, bv, .slice sa L.length cap, sv, fv, tv]) := hp
  obtain ⟨zp, cp0, cp1, cp2, cp3, cp4, cp5, fp0, fp1, fp2, fp3, fp4, fp5⟩ := hp.six
  clear hF hWh hch hco hla hrow hp cp1 cp3 cp4 cp5 fp1 fp3 fp4 fp5
  refine callsIn_of_wp_marks Try.func42 rfl f1 ?_ hro
  simp only [Try.ntmps42, List.size_toArray, List.length_cons, List.length_nil, Nat.reduceAdd, Nat.reduceSub, Array.replicate_succ, Array.replicate_zero, List.push_toArray, List.append_toArray, List.nil_append, List.cons_append]
  gi_wp2_with (first | (gi_at_call 7; refine (HF.out _ _ _ _ _ HN.out).mono ?_; rintro e w1 ⟨pb, Q, rfl, hbk, hQ, hb1⟩; have HBk : Hid (bookP w1 (.pointer (some ⟨pb, 0, none⟩)) Q (n 0) (K 0) (G 0)) := hbk; have hp1 := HP.out.below hb1; obtain ⟨zp1, dp0, dp1, dp2, dp3, dp4, dp5, gp0, gp1, gp2, gp3, gp4, gp5⟩ := hp1.six; have hz1 := hb1.size; clear hbk cp0 cp2 fp0 fp2 dp1 dp3 dp4 dp5 gp1 gp3 gp4 gp5) | (gi_at_call 66; refine (HF.out _ _ _ _ _ (ldeals _ _ _ _)).mono ?_; rintro e w' ⟨rfl, rfl⟩))
  
  obtain ⟨q, hq⟩ : ∃ q, w1.heap.size = q := ⟨_, rfl⟩
  refine wpIn_gen (fun W => At W q [.pointer (some ⟨pb, 0, none⟩)] ∧ At W (q + 1) [.int .i64 0] ∧ At W (q + 2) [.slice sa L.length cap] ∧ Below q w1 W ∧ W.heap.size = q + 3) ⟨by subst hq; exact (by repeat (first | (with_reducible assumption) | ((with_reducible refine at_new' _ _ _ _ ?_); (first | rfl | (simp; done))) | (with_reducible refine At.alloc ?_ _) | (with_reducible refine At.drew ?_) | (with_reducible refine At.drewN ?_) | (with_reducible refine At.set ?_ (by omega)) | (with_reducible apply At.store4) | (with_reducible apply At.store3) | (with_reducible apply At.store2) | (with_reducible apply At.put43) | (refine At.below ?_ (by with_reducible assumption)))), by subst hq; exact (by repeat (first | (with_reducible assumption) | ((with_reducible refine at_new' _ _ _ _ ?_); (first | rfl | (simp; done))) | (with_reducible refine At.alloc ?_ _) | (with_reducible refine At.drew ?_) | (with_reducible refine At.drewN ?_) | (with_reducible refine At.set ?_ (by omega)) | (with_reducible apply At.store4) | (with_reducible apply At.store3) | (with_reducible apply At.store2) | (with_reducible apply At.put43) | (refine At.below ?_ (by with_reducible assumption)))), by subst hq; exact (by repeat (first | (with_reducible assumption) | ((with_reducible refine at_new' _ _ _ _ ?_); (first | rfl | (simp; done))) | (with_reducible refine At.alloc ?_ _) | (with_reducible refine At.drew ?_) | (with_reducible refine At.drewN ?_) | (with_reducible refine At.set ?_ (by omega)) | (with_reducible apply At.store4) | (with_reducible apply At.store3) | (with_reducible apply At.store2) | (with_reducible apply At.put43) | (refine At.below ?_ (by with_reducible assumption)))), by subst hq; exact (by repeat (first | (with_reducible exact Below.refl _ _) | (with_reducible assumption) | (with_reducible refine Below.setCell ?_ (by first | (simp; done) | (simp; omega) | omega) _) | (with_reducible refine Below.alloc ?_ (by first | (simp; done) | (simp; omega) | omega) _) | (refine bl_call ?_ (by assumption) (by first | (simp; done) | (simp; omega) | omega)) | (with_reducible refine bl_drewN ?_) | (with_reducible refine Below.drew ?_) | (with_reducible refine bl_grow ?_ (by first | (simp; done) | (simp; omega) | omega)))), by subst hq; simp⟩ ?_
  rintro W0 ⟨a1, a2, a3, hb0, hs0⟩
  simp only [hq, Nat.add_assoc, Nat.reduceAdd]
  have HPlay : Play w.heap.size q pb w d n K G 0 Q W0 := ⟨a1, a2, bookP_ok.stay HBk.out (But.of_below (fun _ => False) (hq ▸ hb0)) (fun _ _ e => e), fun i hi => by have := bookP_ok.lt HBk.out i hi; have := hQ i hi; omega, hb1.trans (hb0.mono (by omega)), by omega, by omega⟩
  refine wpIn_seen hro h1N (gf := 84) (lb := #[.pointer (some ⟨q + 2, 0, none⟩)]) rfl f4 (enters_of Try.func84 (by kernel_rfl) rfl) (G := fun i => i < w.heap.size ∨ i = q + 2) (R := dealR d) (r := r) (w0 := W0)
    (deals_seen F (N - 1) f4 f5 f6 hro (by omega) HF.out (q + 2) w.heap.size cap r sa d L W0 (by omega) (by omega) (a3.2.1 0 (by simp)) hcap hcm hL (HRow.out.imp_right fun ⟨b, e, hb, hr⟩ => ⟨b, e, hb, hr.below hb HPlay.below⟩) HWh.out (fun i hi => (HCh.out i hi).in)) (Below.refl _ _) ?hG ?hps
    (fun k W => ∃ Q, Play w.heap.size q pb w d n K G k Q W) ?hIb ?hIp ⟨Q, HPlay⟩
    (PlayMid w.heap.size q pb w d n K G (fun e x v => { tmps := #[.pointer (some ⟨p, 0, none⟩), undef, .pointer none, .int .i64 0, .pointer (some ⟨q, 0, none⟩), .nilIface, .pointer (some ⟨q + 1, 0, none⟩), e, .pointer (some ⟨x, 0, none⟩), .tuple #[.pointer (some ⟨pb, 0, none⟩), .nilIface], .pointer (some ⟨p, 0, none⟩), .pointer (some ⟨p, 0, none⟩), .pointer (some ⟨p, 0, none⟩), .slice sc (n 0) cc, .tuple #[.pointer (some ⟨pb, 0, none⟩), .nilIface], .pointer (some ⟨pb, 0, none⟩), .nilIface, .pointer (some ⟨p, 0, none⟩), .pointer (some ⟨p, 0, none⟩), .pointer (some ⟨p, 2, none⟩), .slice sa L.length cap, .func (.func 84) #[] #[.pointer (some ⟨q + 2, 0, none⟩)], e, v, undef, undef, undef, undef, undef, undef], defers := [] })) ?hMp ?hassign ?hbody ?hdone
  case hG =>
    rintro i (e | e)
    · omega
    · omega
  case hps => rintro k h args A ⟨sz, sl, dz, dl, rfl, _⟩; rfl
  case hIb => rintro k A B ⟨Q, h⟩ hb; exact ⟨Q, h.up hb⟩
  case hIp => rintro k A l o o' ⟨Q, h⟩ hl ho hc; exact ⟨Q, h.put (by omega) ho hc⟩
  case hMp => intro k b A l o o' h hl ho hc; exact h.put (by omega) ho hc
  case hassign =>
    rintro l k A0 A args X hk ⟨Q, hP⟩ hb ⟨sz, sl, dz, dl, rfl, h7, h8⟩ hX
    have hPA := hP.up hb
    have hzA := hb.size
    have hlt := fun i hi => bookP_ok.lt hP.book i hi
    have hsz := hP.size
    clear hP
    gi_wp2
    
    have hal : Below A.heap.size A (A.alloc (.cells #[.slice sz (d k).m dz, .slice sl (d k).c dl, .int .i64 ((tM (d k).a).1 : Int), .int .i64 ((tM (d k).a).2.1 : Int), .bool (tM (d k).a).2.2, .int .i64 ((d k).s : Int)] 44)) := (Below.refl _ _).alloc (Nat.le_refl _) _
    exact hX _ _ ⟨Q, A0.heap.size, A.heap.size, sz, sl, dz, dl, hPA.up hal, hlt, hzA, hsz, rfl, at_new A [.slice sz (d k).m dz, .slice sl (d k).c dl, .int .i64 ((tM (d k).a).1 : Int), .int .i64 ((tM (d k).a).2.1 : Int), .bool (tM (d k).a).2.2, .int .i64 ((d k).s : Int)] 44, own_stay h7 hal, own_stay h8 hal⟩ hal
  case hbody =>
    rintro l k b A hk ⟨Q, h, x, sz, sl, dz, dl, hP, hQh, hhx, hqh, rfl, kx, h7, h8⟩
    have HB : Hid (Calls Try.prog 12 #[.pointer (some ⟨pb, 0, none⟩), .agg #[.slice sz (d k).m dz, .slice sl (d k).c dl, .int .i64 ((tM (d k).a).1 : Int), .int .i64 ((tM (d k).a).2.1 : Int), .bool (tM (d k).a).2.2, .int .i64 ((d k).s : Int)]] A fun ex w' => ex = .returned .nilIface ∧ PBdone bookP A w' (.pointer (some ⟨pb, 0, none⟩)) Q (n (k + 1)) (K (k + 1)) (G (k + 1))) := play_do hP hQh (HCh.out k hk) h7 h8
    have HPl : Hid (Play w.heap.size q pb w d n K G k Q A) := hP
    obtain ⟨z1, c1, g1⟩ := hP.b.one
    obtain ⟨z2, c2, g2⟩ := hP.e.one
    obtain ⟨z3, c30, c31, c32, c33, c34, c35, g30, g31, g32, g33, g34, g35⟩ := kx.six
    have hNN : 1 ≤ N - 1 - 1 := by omega
    clear h7 h8 hP
    gi_wp2_with (gi_at_call 12; refine (CallsIn.inRound l (HF.out _ _ _ _ _ HB.out)).mono ?_; rintro e B ⟨rfl, hbB, Q2, hk2, hQ2⟩; have k2 : At B (q + 1) [.int .i64 ((catN d k : Nat) : Int)] := HPl.out.e.but hbB (fun e => (HPl.out.apart _ e).2.2.1 rfl); have k1 : At B q [.pointer (some ⟨pb, 0, none⟩)] := HPl.out.b.but hbB (fun e => (HPl.out.apart _ e).2.1 rfl); obtain ⟨y2, d2, e2⟩ := k2.one)
    
    have hpl := HPl.out
    have hzB := hbB.size
    have hs := hpl.size
    have hsB : But (fun i => i = q + 1) B (B.setCell ⟨q + 1, 0, none⟩ (.int .i64 ((catN d (k + 1) : Nat) : Int))) := (But.refl (fun i => i = q + 1) B).setCell (Or.inl rfl) _
    have hAll : But (fun i => Q i ∨ i = q + 1) A (B.setCell ⟨q + 1, 0, none⟩ (.int .i64 ((catN d (k + 1) : Nat) : Int))) := (hbB.mono (F' := fun i => Q i ∨ i = q + 1) fun i _ e => Or.inl e).trans hsB fun i _ e => Or.inr e
    have hQ3 : ∀ i, Q2 i → w.heap.size ≤ i ∧ i ≠ q ∧ i ≠ q + 1 ∧ i ≠ q + 2 := fun i hi => by
      rcases hQ2 i hi with e | e
      · exact hpl.apart i e
      · have := hpl.le; omega
    refine ⟨keeps_but hAll ?_, ⟨Q2, ⟨k1.but hsB (by show ¬ (_ = _); omega), At.only k2, bookP_ok.stay hk2 hsB (fun i hi => (hQ3 i hi).2.2.1), hQ3, But.under hpl.below hAll ?_ (by have := hpl.le; omega), hpl.le, by have := hAll.size; omega⟩⟩, hAll.mono ?_⟩
    · rintro i (e | e) _
      · exact book_cells hpl.book e
      · rw [e]; exact hpl.e.isCells
    · rintro i (e | e)
      · exact (hpl.apart i e).1
      · have := hpl.le; omega
    · rintro i _ (e | e) (e2 | e2)
      · have := (hpl.apart i e).1; omega
      · exact (hpl.apart i e).2.2.2 e2
      · have := hpl.le; omega
      · omega
  case hdone =>
    rintro D W hD ⟨Q, hP⟩ hK
    have HPl : Hid (Play w.heap.size q pb w d n K G r Q W) := hP
    obtain ⟨z1, c1, g1⟩ := hP.b.one
    obtain ⟨z2, c2, g2⟩ := hP.e.one
    clear hP
    
    gi_wp2
    gi_region
    
    all_goals (
    gi_wp2
    have hPd := HPl.out.up (Below.drew (Below.refl W.heap.size W))
    have hKd : W.drew.heap[D]? = some (.deferred (some [])) := hK
    have hPf := hPd.put (o' := .deferred none) (by omega : w.heap.size ≤ D) hKd rfl
    refine ⟨by simp, .inl ⟨_, _, rfl, run_takeDeferred hKd, ?_⟩⟩
    exact ⟨.tuple #[.pointer (some ⟨pb, 0, none⟩), .int .i64 ((catN d r : Nat) : Int)], by simp [results, Try.results42, go_sem], _, _, rfl, hPf.book, fun i hi => (hPf.apart i hi).1, hPf.below⟩)
theorem lreplay (p r cap cc : Nat) (n : Nat → Nat) (K : Nat → Nat → Nat) (G : Nat → Nat → Bool) (d : Nat → Rec) (L : List Nat) (sc sa : Option Addr) (bv sv fv tv : Value) (w : World)
    (hp : At w p [.slice sc (n 0) cc, bv, .slice sa L.length cap, sv, fv, tv]) (hn0 : n 0 ≤ 12) (hG0 : G 0 = fun _ => false) (hco : w.ownsRow 0 26 3 (.slice sc (n 0) cc) (n 0) (cellsK (K 0) (n 0))) (hla : w.ownsRow 0 5 1 (.slice sa L.length cap) L.length (cellsU L)) (hL : L.length ≤ 1000000000) (hWh : Whole d r L) (hch : ∀ i, i < r → RecOk (n i) (K i) (G i) (d i) (n (i + 1)) (K (i + 1)) (G (i + 1))) :
    Calls Try.prog 42 #[.pointer (some ⟨p, 0, none⟩)] w fun e w' => ∃ v Q, e = .returned (.tuple #[v, .int .i64 ((catN d r : Nat) : Int)]) ∧ bookP w' v Q (n r) (K r) (G r) ∧ (∀ i, Q i → w.heap.size ≤ i) ∧ Below w.heap.size w w' :=
  (callsIn_wide (n := 5)).1 (lreplay_in Fence.wide 5 trivial trivial trivial trivial trivial trivial trivial rfl (Nat.le_refl _) (fun _ _ _ _ _ h => callsIn_wide.2 h) p r cap cc n K G d L sc sa bv sv fv tv w hp hn0 hG0 hco hla hL hWh hch)
end Go.Proofs.Ytmijjjdedadklaj
