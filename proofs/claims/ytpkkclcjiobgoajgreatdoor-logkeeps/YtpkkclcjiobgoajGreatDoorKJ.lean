/- Records of deals as bytes, one behind the other; which of them are whole; a row of bytes of one's own. Apart from the program's code. -/
import Derived.Test.YtpkkclcjiobgoajGreatDoorKE
import Derived.Test.YtpkkclcjiobgoajGreatDoorKC
import Derived.Deep.AppendSrc
import Derived.Maps.AppendAt
import Derived.Test.YtpkkclcjiobgoajGreatDoorKBytes
import Derived.Test.YtpkkclcjiobgoajGreatDoorKI
import Derived.Deep.RegionHeld3
import Derived.Deep.CutRange
import Derived.BigQuiet
namespace Go.Proofs.YtpkkclcjiobgoajGreatDoor
open Go.RowKit Go.Sort
set_option linter.unusedVariables false
set_option linter.unusedSimpArgs false

/-- Cells of so many bytes. -/
def cellsU (l : List Nat) : List Value := l.map fun (b : Nat) => .int .u8 (b : Int)
theorem cellsU_app (l m : List Nat) : cellsU (l ++ m) = cellsU l ++ cellsU m := List.map_append
theorem cellsU_len (l : List Nat) : (cellsU l).length = l.length := by unfold cellsU; simp
theorem cellsU_at {l : List Nat} {i b : Nat} (h : l[i]? = some b) : (cellsU l)[i]? = some (.int .u8 (b : Int)) := by unfold cellsU; simp [h]
theorem cellsU_one (l : List Nat) : ∀ u ∈ cellsU l, u.oneCell' = true := by
  intro u hu
  obtain ⟨b, _, rfl⟩ := List.mem_map.1 hu
  rfl
theorem cellsU_take (l : List Nat) (n : Nat) : cellsU (l.take n) = (cellsU l).take n := by unfold cellsU; rw [List.map_take]
/-- In block b, from o on, lie these bytes. -/
def RowU (w : World) (b o : Nat) (l : List Nat) : Prop := b < w.heap.size ∧ ∀ (i x : Nat), l[i]? = some x → w.cell? ⟨b, o + i, none⟩ = some (.int .u8 (x : Int))
theorem RowU.below {w w' : World} {b o B : Nat} {l : List Nat} (h : RowU w b o l) (hB : b < B) (k : Below B w w') : RowU w' b o l :=
  ⟨Nat.lt_of_lt_of_le h.1 k.size, fun i x hi => (k.cell (p := ⟨b, o + i, none⟩) hB).trans (h.2 i x hi)⟩
theorem RowU.but {F : Nat → Prop} {w w' : World} {b o : Nat} {l : List Nat} (h : RowU w b o l) (k : But F w w') (hp : ¬ F b) : RowU w' b o l := by
  have hb := k.block b h.1 hp
  exact ⟨Nat.lt_of_lt_of_le h.1 k.size, fun i x hi => (World.cell?_of_block (a := ⟨b, o + i, none⟩) hb).trans (h.2 i x hi)⟩
theorem RowU.part {w : World} {b o : Nat} {l m n : List Nat} (h : RowU w b o (l ++ (m ++ n))) : RowU w b (o + l.length) m := by
  refine ⟨h.1, fun i x hi => ?_⟩
  rw [Nat.add_assoc]
  refine h.2 (l.length + i) x ?_
  rw [List.getElem?_append_right (by omega), show l.length + i - l.length = i by omega, List.getElem?_append_left (List.getElem?_eq_some_iff.1 hi).1]
  exact hi
theorem RowU.drop {w : World} {b o : Nat} {l m : List Nat} (h : RowU w b o (l ++ m)) : RowU w b (o + l.length) m := by
  have : RowU w b o (l ++ (m ++ [])) := by rw [List.append_nil]; exact h
  exact this.part
theorem RowU.left {w : World} {b o : Nat} {l m : List Nat} (h : RowU w b o (l ++ m)) : RowU w b o l :=
  (show RowU w b o ([] ++ (l ++ m)) from h).part
theorem own_bytes {w : World} {B : Nat} {e : TypeId} {v : Value} {l : List Nat} {n : Nat} (h : w.ownsRow B e 1 v n (cellsU l)) : ∃ (sa : Option Addr) (c : Nat), v = .slice sa n c ∧ n = l.length ∧ n ≤ c ∧ ((sa = none ∧ n = 0 ∧ c = 0) ∨ ∃ g, sa = some ⟨g, 0, none⟩ ∧ v.ownBlock = some g ∧ B ≤ g ∧ RowU w g 0 l) := by
  have hl := h.1
  rw [cellsU_len, Nat.mul_one] at hl
  rcases h.2 with ⟨rfl, rfl⟩ | ⟨g, cap, cur, rfl, hb, hg, hc, _⟩
  · exact ⟨none, 0, rfl, hl.symm, Nat.le_refl _, Or.inl ⟨rfl, rfl, rfl⟩⟩
  · refine ⟨_, cap, rfl, hl.symm, hc, Or.inr ⟨g, rfl, rfl, hb, (Array.getElem?_eq_some_iff.1 hg).1, fun i x hi => ?_⟩⟩
    have := h.cells (g := g) rfl i _ (cellsU_at hi)
    rw [addr_add] at this
    rw [Nat.zero_add]; exact this
/-- The first ones of a row of one's own. -/
theorem own_first {w : World} {B : Nat} {e : TypeId} {sa : Option Addr} {n c k : Nat} {l : List Nat} (h : w.ownsRow B e 1 (.slice sa n c) n (cellsU l)) (hk : k ≤ n) : w.ownsRow B e 1 (.slice sa k c) k (cellsU (l.take k)) := by
  have hl := h.1
  rw [cellsU_len, Nat.mul_one] at hl
  refine ⟨by rw [cellsU_len, List.length_take]; omega, ?_⟩
  rcases h.2 with ⟨h1, h2⟩ | ⟨g, cap, cur, h1, hb, hg, hc, hm, hs, ht⟩
  · injection h1 with h1 h3 h4
    subst h1 h4
    obtain rfl : k = 0 := by omega
    exact Or.inl ⟨rfl, rfl⟩
  · injection h1 with h1 h3 h4
    subst h1 h4
    refine Or.inr ⟨g, c, cur, rfl, hb, hg, by omega, hm, hs, ?_⟩
    rw [cellsU_take, ← ht, List.take_take]
    congr 1
    omega

/-- A number as two bytes. -/
def nbL (n : Nat) : List Nat := [n / 256, n % 256]
theorem nbL_len (n : Nat) : (nbL n).length = 2 := rfl
/-- The bytes of a right spot. -/
def spL (k : Nat) : List Nat := (pkL (tM k)).map UInt8.toNat
theorem spL_cells (k : Nat) : byteCells (pkB (tM k)) = cellsU (spL k) := by unfold byteCells pkB cellsU spL; simp
theorem spL_le (k : Nat) : (spL k).length ≤ 3 := by unfold spL; rw [List.length_map]; exact pkL_le _
theorem spL_ge (k : Nat) : 1 ≤ (spL k).length := by unfold spL; rw [List.length_map, pkL_len]; cases (tM k).2.2 <;> decide
theorem spL_size (k : Nat) : (pkB (tM k)).size = (spL k).length := by unfold pkB spL; simp [ByteArray.size]
/-- A deal that a book did: which go, which come, the seal. -/
structure Rec where
  m : Nat
  Z : Nat → Int
  c : Nat
  J : Nat → Nat
  a : Nat
  s : Nat
def bodyZ (Z : Nat → Int) : Nat → List Nat
  | 0 => []
  | k + 1 => bodyZ Z k ++ nbL (Z k).toNat
def bodyK (J : Nat → Nat) : Nat → List Nat
  | 0 => []
  | k + 1 => bodyK J k ++ spL (4 * J k)
theorem bodyZ_len (Z : Nat → Int) : ∀ k, (bodyZ Z k).length = 2 * k
  | 0 => rfl
  | k + 1 => by show (bodyZ Z k ++ nbL _).length = _; rw [List.length_append, bodyZ_len Z k, nbL_len]; omega
theorem bodyK_le (J : Nat → Nat) : ∀ k, (bodyK J k).length ≤ 3 * k
  | 0 => Nat.le_refl _
  | k + 1 => by show (bodyK J k ++ spL _).length ≤ _; rw [List.length_append]; have := bodyK_le J k; have := spL_le (4 * J k); omega
/-- What is left of them. -/
def restZ (Z : Nat → Int) (m : Nat) : Nat → List Nat
  | 0 => []
  | k + 1 => nbL (Z (m - (k + 1))).toNat ++ restZ Z m k
def restK (J : Nat → Nat) (m : Nat) : Nat → List Nat
  | 0 => []
  | k + 1 => spL (4 * J (m - (k + 1))) ++ restK J m k
theorem restZ_at (Z : Nat → Int) {m k : Nat} (h : k < m) : restZ Z m (m - k) = nbL (Z k).toNat ++ restZ Z m (m - (k + 1)) := by
  obtain ⟨j, hj⟩ : ∃ j, m - k = j + 1 := ⟨m - k - 1, by omega⟩
  rw [hj, show m - (k + 1) = j by omega]
  show nbL (Z (m - (j + 1))).toNat ++ _ = _
  rw [show m - (j + 1) = k by omega]
theorem restK_at (J : Nat → Nat) {m k : Nat} (h : k < m) : restK J m (m - k) = spL (4 * J k) ++ restK J m (m - (k + 1)) := by
  obtain ⟨j, hj⟩ : ∃ j, m - k = j + 1 := ⟨m - k - 1, by omega⟩
  rw [hj, show m - (k + 1) = j by omega]
  show spL (4 * J (m - (j + 1))) ++ _ = _
  rw [show m - (j + 1) = k by omega]
theorem bodyZ_rest (Z : Nat → Int) (m : Nat) : ∀ k, k ≤ m → bodyZ Z m = bodyZ Z (m - k) ++ restZ Z m k
  | 0, _ => by rw [Nat.sub_zero]; exact (List.append_nil _).symm
  | k + 1, h => by
    rw [bodyZ_rest Z m k (by omega)]
    obtain ⟨j, hj⟩ : ∃ j, m - k = j + 1 := ⟨m - k - 1, by omega⟩
    rw [hj, show m - (k + 1) = j by omega]
    show (bodyZ Z j ++ nbL (Z j).toNat) ++ _ = bodyZ Z j ++ (nbL (Z (m - (k + 1))).toNat ++ restZ Z m k)
    rw [show m - (k + 1) = j by omega, List.append_assoc]
theorem bodyK_rest (J : Nat → Nat) (m : Nat) : ∀ k, k ≤ m → bodyK J m = bodyK J (m - k) ++ restK J m k
  | 0, _ => by rw [Nat.sub_zero]; exact (List.append_nil _).symm
  | k + 1, h => by
    rw [bodyK_rest J m k (by omega)]
    obtain ⟨j, hj⟩ : ∃ j, m - k = j + 1 := ⟨m - k - 1, by omega⟩
    rw [hj, show m - (k + 1) = j by omega]
    show (bodyK J j ++ spL (4 * J j)) ++ _ = bodyK J j ++ (spL (4 * J (m - (k + 1))) ++ restK J m k)
    rw [show m - (k + 1) = j by omega, List.append_assoc]
theorem bodyZ_all (Z : Nat → Int) (m : Nat) : bodyZ Z m = restZ Z m m := by have := bodyZ_rest Z m m (Nat.le_refl _); rwa [Nat.sub_self] at this
theorem bodyK_all (J : Nat → Nat) (m : Nat) : bodyK J m = restK J m m := by have := bodyK_rest J m m (Nat.le_refl _); rwa [Nat.sub_self] at this
/-- The bytes of a deal. -/
def bodyL (d : Rec) : List Nat := nbL d.m ++ (bodyZ d.Z d.m ++ (nbL d.c ++ (bodyK d.J d.c ++ (spL d.a ++ nbL d.s))))
/-- A record. -/
def recL (d : Rec) : List Nat := nbL (bodyL d).length ++ bodyL d
/-- What holds of each that a book did. -/
structure RecIn (d : Rec) : Prop where
  m : d.m ≤ 1000
  z : ∀ i, i < d.m → 0 ≤ d.Z i ∧ d.Z i < 1000
  c : d.c ≤ 12
  s : d.s < 1013
theorem bodyL_len (d : Rec) : (bodyL d).length = 6 + 2 * d.m + (bodyK d.J d.c).length + (spL d.a).length := by
  unfold bodyL
  simp only [List.length_append, nbL_len, bodyZ_len]
  omega
theorem bodyL_le {d : Rec} (h : RecIn d) : (bodyL d).length ≤ 2045 := by
  rw [bodyL_len]
  have h1 := bodyK_le d.J d.c
  have h2 := spL_le d.a
  have h3 := h.m
  have h4 := h.c
  omega
theorem recL_len (d : Rec) : (recL d).length = (bodyL d).length + 2 := by unfold recL; rw [List.length_append, nbL_len]; omega
theorem recL_ge (d : Rec) : 9 ≤ (recL d).length := by rw [recL_len, bodyL_len]; have := spL_ge d.a; omega
/-- So many records. -/
def catL (d : Nat → Rec) : Nat → List Nat
  | 0 => []
  | k + 1 => catL d k ++ recL (d k)
def catN (d : Nat → Rec) (k : Nat) : Nat := (catL d k).length
theorem catN_succ (d : Nat → Rec) (k : Nat) : catN d (k + 1) = catN d k + 2 + (bodyL (d k)).length := by
  unfold catN
  show (catL d k ++ recL (d k)).length = _
  rw [List.length_append, recL_len]; omega
theorem catN_le {d : Nat → Rec} : ∀ {k : Nat}, (∀ i, i < k → RecIn (d i)) → catN d k ≤ k * 2047
  | 0, _ => Nat.le_refl _
  | k + 1, h => by
    rw [catN_succ]
    have h1 := catN_le (d := d) (k := k) fun i hi => h i (by omega)
    have h2 := bodyL_le (h k (by omega))
    omega
theorem catL_congr {d e : Nat → Rec} : ∀ {k : Nat}, (∀ i, i < k → d i = e i) → catL d k = catL e k
  | 0, _ => rfl
  | k + 1, h => by
    show catL d k ++ recL (d k) = catL e k ++ recL (e k)
    rw [catL_congr fun i hi => h i (by omega), h k (by omega)]
/-- What is there: so many records, and of another one its first bytes, not all of them. -/
def Whole (d : Nat → Rec) (r : Nat) (L : List Nat) : Prop := ∃ e t, RecIn e ∧ t < (recL e).length ∧ L = catL d r ++ (recL e).take t
def nilR : Rec := ⟨0, fun _ => 0, 0, fun _ => 0, 0, 0⟩
theorem nilR_in : RecIn nilR := ⟨Nat.zero_le _, fun i hi => absurd hi (Nat.not_lt_zero _), Nat.zero_le _, by decide⟩
theorem whole_all (d : Nat → Rec) (r : Nat) : Whole d r (catL d r) := ⟨nilR, 0, nilR_in, by have := recL_ge nilR; omega, by simp⟩
theorem whole_half (d : Nat → Rec) (r : Nat) {e : Rec} (h : RecIn e) : Whole d r (catL d r ++ (recL e).take ((recL e).length / 2)) := ⟨e, _, h, by have := recL_ge e; omega, rfl⟩
/-- The k-th record, if it is whole. -/
theorem catL_part (d : Nat → Rec) : ∀ {r k : Nat}, k < r → ∃ post, catL d r = catL d k ++ (recL (d k) ++ post)
  | r + 1, k, h => by
    rcases Nat.lt_succ_iff_lt_or_eq.1 h with h1 | rfl
    · obtain ⟨post, hp⟩ := catL_part d h1
      refine ⟨post ++ recL (d r), ?_⟩
      show catL d r ++ recL (d r) = _
      rw [hp, List.append_assoc, List.append_assoc]
    · exact ⟨[], by show catL d k ++ recL (d k) = _; rw [List.append_nil]⟩
theorem whole_part {d : Nat → Rec} {r k : Nat} {L : List Nat} (h : Whole d r L) (hk : k < r) : ∃ post, L = catL d k ++ (recL (d k) ++ post) := by
  obtain ⟨e, t, _, _, rfl⟩ := h
  obtain ⟨post, hp⟩ := catL_part d hk
  exact ⟨post ++ (recL e).take t, by rw [hp, List.append_assoc, List.append_assoc]⟩
/-- Behind the last one: there is no number, or one that goes beyond the end. -/
theorem whole_end {d : Nat → Rec} {r : Nat} {L : List Nat} (h : Whole d r L) : L.length < catN d r + 2 ∨ ∃ n post, n < 65536 ∧ L = catL d r ++ (nbL n ++ post) ∧ L.length < catN d r + 2 + n := by
  obtain ⟨e, t, he, ht, rfl⟩ := h
  unfold catN
  rw [List.length_append, List.length_take]
  by_cases h2 : t < 2
  · exact Or.inl (by omega)
  · refine Or.inr ⟨(bodyL e).length, (bodyL e).take (t - 2), by have := bodyL_le he; omega, ?_, by rw [recL_len] at ht; omega⟩
    congr 1
    unfold recL
    rw [List.take_append, nbL_len, List.take_of_length_le (by rw [nbL_len]; omega)]
theorem whole_len {d : Nat → Rec} {r : Nat} {L : List Nat} (h : Whole d r L) : catN d r ≤ L.length ∧ L.length ≤ catN d r + 2047 := by
  obtain ⟨e, t, he, ht, rfl⟩ := h
  have h1 := bodyL_le he
  rw [recL_len] at ht
  unfold catN
  rw [List.length_append, List.length_take]
  omega
/-- What a cut leaves. -/
theorem whole_cut {d : Nat → Rec} {L : List Nat} {h : Nat} : ∀ {r : Nat}, (∀ i, i < r → RecIn (d i)) → Whole d r L → Whole d (lastM (catN d) h r) (L.take h)
  | 0, _, hw => by
    obtain ⟨e, t, he, ht, rfl⟩ := hw
    exact ⟨e, min h t, he, by omega, by show (([] : List Nat) ++ _).take h = [] ++ _; rw [List.nil_append, List.nil_append, List.take_take]⟩
  | r + 1, hd, hw => by
    by_cases hk : catN d (r + 1) ≤ h
    · rw [lastM_yes hk]
      obtain ⟨e, t, he, ht, rfl⟩ := hw
      refine ⟨e, min (h - catN d (r + 1)) t, he, by omega, ?_⟩
      rw [List.take_append, List.take_of_length_le hk, List.take_take]
      rfl
    · rw [lastM_no hk]
      have hr := hd r (by omega)
      have : Whole d r (L.take h) ∨ h < catN d r := by
        by_cases h2 : h < catN d r
        · exact Or.inr h2
        · refine Or.inl ⟨d r, h - catN d r, hr, by rw [catN_succ] at hk; rw [recL_len]; omega, ?_⟩
          obtain ⟨post, hp⟩ := whole_part hw (Nat.lt_succ_self r)
          rw [hp, List.take_append, List.take_of_length_le (by show catN d r ≤ h; omega), List.take_append]
          congr 1
          rw [show h - (catL d r).length - (recL (d r)).length = 0 by rw [catN_succ] at hk; rw [recL_len]; unfold catN at hk; omega, List.take_zero, List.append_nil]
          rfl
      rcases this with h1 | h1
      · have h2 := whole_cut (h := h) (fun i hi => hd i (by omega)) h1
        rwa [List.take_take, Nat.min_self] at h2
      · have h3 : Whole d r (catL d r) := whole_all d r
        have h2 := whole_cut (h := h) (fun i hi => hd i (by omega)) h3
        obtain ⟨post, hp⟩ := whole_part hw (Nat.lt_succ_self r)
        rw [hp, List.take_append, show h - (catL d r).length = 0 by unfold catN at h1; omega, List.take_zero, List.append_nil]
        exact h2
end Go.Proofs.YtpkkclcjiobgoajGreatDoor

/- Bytes appended to a row of one's own: those of a string, two of them; what such a row leaves as it was. Of whatever program. -/
namespace Go.Proofs.YtpkkclcjiobgoajGreatDoor
open Go.RowKit Go.Sort
set_option linter.unusedVariables false
set_option linter.unusedSimpArgs false

theorem grown_cells (b : Nat) : ∀ (vs : List Value) (o : Nat) (w : World), w.grownBy (w.setCells b o vs) (some b)
  | [], _, w => ⟨rfl, rfl, rfl, Nat.le_refl _, fun _ _ _ => rfl⟩
  | v :: vs, o, w => by
    have h1 : w.grownBy (w.setCell ⟨b, o, none⟩ v) (some b) := ⟨rfl, rfl, rfl, by simp [World.setCell], fun k hk hn => Below.heap_setCell w ⟨b, o, none⟩ v k (fun e => hn (by rw [e]))⟩
    exact h1.trans (grown_cells b vs (o + 1) _)
/-- Cells of a row of one's own are written anew. -/
theorem own_cells {B : Nat} {e : TypeId} {g N c : Nat} : ∀ (vs : List Value) (o : Nat) (w : World) (ys : List Value), w.ownsRow B e 1 (.slice (some ⟨g, 0, none⟩) N c) N ys → o + vs.length ≤ ys.length →
    (w.setCells g o vs).ownsRow B e 1 (.slice (some ⟨g, 0, none⟩) N c) N (ys.take o ++ (vs ++ ys.drop (o + vs.length)))
  | [], o, w, ys, h, _ => by simpa [World.setCells] using h
  | v :: vs, o, w, ys, h, hl => by
    have h1 := (h.stored o v).1
    simp only [List.length_cons] at hl
    have h2 := own_cells vs (o + 1) _ _ h1 (by simp; omega)
    have e : (ys.set o v).take (o + 1) ++ (vs ++ (ys.set o v).drop (o + 1 + vs.length)) = ys.take o ++ (v :: vs ++ ys.drop (o + (v :: vs).length)) := by
      rw [List.drop_set, if_pos (by omega), List.take_set, List.take_add_one, List.getElem?_eq_getElem (by omega), List.set_append_right _ _ (by simp; omega)]
      simp only [List.length_take, show min o ys.length = o by omega, Nat.sub_self, List.length_cons, List.cons_append]
      rw [show o + 1 + vs.length = o + (vs.length + 1) by omega]
      simp
    rw [e] at h2
    exact h2
section
variable {P : Program} (w : World)
/-- A string's bytes behind a row of one's own. -/
theorem run_append_text (base : Nat) (t tx ty e : TypeId) (i : TypeInfo) (z : Value) (ht : P.underlying t = some (.slice e)) (hx : P.underlying tx = some .string) (hi : P.info? e = some i) (hz : i.zero = some z) (hsize : i.size = 1) (hby : i.bytes = 1) (hzs : z.cells.size = 1)
    (v : Value) (n : Nat) (xs : List Value) (hown : w.ownsRow base e 1 v n xs) (s : ByteArray) (hs : 0 < s.size) (h63 : n + s.size ≤ 1000000000) (hbase : base ≤ w.heap.size) :
    ∃ v' w', (Builtin.append_ #[t, tx] ty #[v, .string s]).run P w = .ok v' w' ∧ w'.ownsRow base e 1 v' (n + s.size) (xs ++ byteCells s) ∧ w.grownBy w' v.ownBlock ∧ (v'.ownBlock = v.ownBlock ∨ v'.ownBlock = some w.heap.size) := by
  have hmax : n + s.size ≤ maxLen := by unfold maxLen; omega
  have hsrc : Src P i.size tx (.string s) s.size (byteCells s) w := by rw [hsize]; exact Src.ofString w hx s
  have hxl : xs.length = n := by have := hown.1; omega
  have hbl := byteCells_length s
  have new : ∀ (so : Option Addr) (cap : Nat), cap < n + s.size → (Builtin.firstCells i.size n (.slice so n cap)).run P w.drew = .ok xs.toArray w.drew → ∃ v' w', (Builtin.append_ #[t, tx] ty #[.slice so n cap, .string s]).run P w = .ok v' w' ∧ w'.ownsRow base e 1 v' (n + s.size) (xs ++ byteCells s) ∧ w.grownBy w' (Value.slice so n cap).ownBlock ∧ (v'.ownBlock = (Value.slice so n cap).ownBlock ∨ v'.ownBlock = some w.heap.size) := by
    intro so cap hc hold
    have hr := run_append_grow_src (P := P) w t tx ty e i z ht hi hz so n cap xs hold (.string s) s.size (byteCells s) hsrc hc (by omega) (growslice_fits hc (by rw [hby]; omega))
    refine ⟨_, _, hr, ⟨by rw [List.length_append, hxl, hbl]; omega, Or.inr ⟨w.heap.size, _, _, rfl, hbase, heap_alloc_new w.drew _, grownCap_ge _ _ _ _, grownCap_le_maxLen _ _ _ _ hmax, ?_, ?_⟩⟩, ⟨rfl, rfl, rfl, by simp, fun k hk _ => Below.heap_alloc w.drew _ k hk⟩, Or.inr rfl⟩
    · have := grownCap_ge w (n + s.size) cap e
      simp only [Array.size_append, List.size_toArray, size_zeroCells, hzs, List.length_append, hxl, hbl]
      omega
    · simp only [Array.toList_append, Nat.mul_one]
      rw [show n + s.size = (xs ++ byteCells s).length by rw [List.length_append, hxl, hbl]]
      exact List.take_left
  rcases hown.2 with ⟨rfl, rfl⟩ | ⟨g, cap, cur, rfl, hbg, hg, hnc, hcm, hcs, htake⟩
  · obtain rfl : xs = [] := List.eq_nil_of_length_eq_zero hxl
    exact new none 0 (by omega) (run_firstCells_none w.drew i.size 0 0 0)
  · by_cases hroom : n + s.size ≤ cap
    · rw [Nat.mul_one] at hcs htake
      have hsz : cur.toList.length = cap := by rw [Array.length_toList]; exact hcs
      have hr := run_append_room_src (P := P) w t tx ty e i ht hi g 0 n cap (.string s) s.size (byteCells s) hsrc hroom
        (fun j hj => by rw [hbl] at hj; rw [hsize, Nat.mul_one, Nat.zero_add]; simp [World.cell?, hg, show n + j < cur.size by omega])
        (fun j hj => by rw [hsize, Nat.mul_one, Nat.zero_add]; simp [World.frozen?, hg])
      rw [hsize, Nat.mul_one, Nat.zero_add] at hr
      have hbig : w.ownsRow base e 1 (.slice (some ⟨g, 0, none⟩) (n + s.size) cap) (n + s.size) (cur.toList.take (n + s.size)) := ⟨by rw [List.length_take, hsz]; omega, Or.inr ⟨g, cap, cur, rfl, hbg, hg, hroom, hcm, by omega, by rw [Nat.mul_one]⟩⟩
      have hset := own_cells (byteCells s) n w _ hbig (by rw [hbl, List.length_take, hsz]; omega)
      refine ⟨_, _, hr, ?_, grown_cells g _ _ _, Or.inl rfl⟩
      rw [List.take_take, show min n (n + s.size) = n by omega, htake, List.drop_eq_nil_of_le (by rw [hbl, List.length_take]; omega), List.append_nil] at hset
      exact hset
    · exact new (some ⟨g, 0, none⟩) cap (by omega) (run_firstCells_some w.drew i.size n ⟨g, 0, none⟩ n cap xs (by rw [hxl, hsize, Nat.mul_one]) (by simpa using hown.cells (g := g) rfl))
theorem wpList_append_text {ops : Array Oper} {rest : List Oper} {o : Oper} {a : Act} {Q : Exit → Act → World → Prop} (hgd : o.guard = none) (so x : Operand) (t tx : TypeId)
    (ho : o.op = .call { callee := .builtin .append, args := #[so, x], argTypes := #[t, tx] }) (base : Nat) (e : TypeId) (i : TypeInfo) (z : Value) (ht : P.underlying t = some (.slice e)) (hxt : P.underlying tx = some .string) (hi : P.info? e = some i) (hz : i.zero = some z) (hsize : i.size = 1) (hby : i.bytes = 1) (hzs : z.cells.size = 1)
    (v : Value) (n : Nat) (xs : List Value) (hv : a.eval so = v) (hown : w.ownsRow base e 1 v n xs) (s : ByteArray) (hx : a.eval x = .string s) (hs : 0 < s.size) (h63 : n + s.size ≤ 1000000000) (hbase : base ≤ w.heap.size)
    (h : ∀ v' w', w'.ownsRow base e 1 v' (n + s.size) (xs ++ byteCells s) → w.grownBy w' v.ownBlock → (v'.ownBlock = v.ownBlock ∨ v'.ownBlock = some w.heap.size) → wpList P ops Q rest (a.put o.dst v') w') : wpList P ops Q (o :: rest) a w := by
  refine wpList_plain hgd fun K hK => ?_
  obtain ⟨v', w', hr, h2, h3, h4⟩ := run_append_text (P := P) w base t tx o.type e i z ht hxt hi hz hsize hby hzs v n xs hown s hs h63 hbase
  unfold Oper.wp execOp
  simp only [ho, resolve, invoke, builtin, Sem.run_bind, Sem.run_pure, Result.andThen_ok, List.map_toArray, List.map_cons, List.map_nil, hv, hx, hr]
  exact hK _ _ (h v' w' h2 h3 h4)
end
/-- A row of bytes has become these; but for its own block all is as it was. -/
structure Grew (U : TypeId) (B : Nat) (w w' : World) (v v' : Value) (L : List Nat) : Prop where
  own : w'.ownsRow B U 1 v' L.length (cellsU L)
  but : But (fun i => v.ownBlock = some i) w w'
  at' : ∀ i, v'.ownBlock = some i → v.ownBlock = some i ∨ w.heap.size ≤ i
theorem Grew.of {U : TypeId} {B n : Nat} {w w1 w' : World} {v v' : Value} {L : List Nat} {xs : List Value} (h0 : Below w.heap.size w w1) (ho : w'.ownsRow B U 1 v' n xs) (hn : n = L.length) (hx : xs = cellsU L) (hg : w1.grownBy w' v.ownBlock) (hat : v'.ownBlock = v.ownBlock ∨ v'.ownBlock = some w1.heap.size) : Grew U B w w' v v' L := by
  subst hn hx
  refine ⟨ho, (But.of_below _ h0).grown hg fun k hk => Or.inl hk, fun i hi => ?_⟩
  rcases hat with e | e
  · exact Or.inl (e.symm.trans hi)
  · rw [e] at hi; injection hi with hi; have := h0.size; exact Or.inr (by omega)
theorem two_at {w : World} {b : Nat} (h : w.heap.size = b) (x y : Value) (t : TypeId) : ∀ j u, [x, y][j]? = some u → (w.alloc (.cells #[x, y] t)).cell? ((⟨b, 0, none⟩ : Addr).add j) = some u := by
  subst h
  intro j u hj
  rw [addr_add]
  match j, hj with
  | 0, hj => simp at hj; subst hj; simp
  | 1, hj => simp at hj; subst hj; simp
end Go.Proofs.YtpkkclcjiobgoajGreatDoor

/- What package log's records are made of: putNumber, putSpot, numberAt, a reader's number and spot. -/
namespace Go.Proofs.YtpkkclcjiobgoajGreatDoor
open Go.RowKit Go.Sort
set_option linter.unusedVariables false
set_option linter.unusedSimpArgs false
theorem luinfo : (Tryz.prog.info? 5).map (fun i => (i.zero, i.size, i.bytes)) = some (some (.int .u8 0), 1, 1) := by kernel_rfl
theorem or_nat {x y : Nat} (hx : x < 256) (hy : y < 256) : bits BinOp.or IntKind.i64 ((x : Int) * 256) (y : Int) = ((x * 256 + y : Nat) : Int) := by
  have h := or_pl (UInt8.ofNat x) (UInt8.ofNat y)
  unfold plN at h
  rw [UInt8.toNat_ofNat', UInt8.toNat_ofNat', Nat.mod_eq_of_lt hx, Nat.mod_eq_of_lt hy] at h
  exact h
set_option maxRecDepth 100000 in
set_option maxHeartbeats 1000000 in
theorem lput_number (B : Nat) (v : Value) (l : List Nat) (n : Nat) (w : World) (hn : n < 65536) (hl : l.length ≤ 1000000) (hB : B ≤ w.heap.size) (h : w.ownsRow B 5 1 v l.length (cellsU l)) :
    Calls Tryz.prog 86 #[v, .int .i64 (n : Int)] w fun ex w' => ∃ v', ex = .returned v' ∧ Grew 5 B w w' v v' (l ++ nbL n) := by
  have H : Hid (w.ownsRow B 5 1 v l.length (cellsU l)) := h
  clear h
  obtain ⟨i0, hi, hv0, hv1, hv2⟩ := info_parts luinfo
  go_enter Tryz.func86, Tryz.ntmps86
  go_wp2_with (at_builtin; refine wpList_append_own_at _ rfl _ _ 100 rfl B 5 i0 (.int .u8 0) 1 1 Tryz.underlying100 hi hv0 hv1 hv2 rfl (by decide) _ _ _ rfl (own_stay H.out (by repeat (first | (with_reducible first | exact Below.refl _ _ | assumption | refine Below.setCell ?_ (by first | simp <;> omega | omega) _ | refine Below.alloc ?_ (by first | simp <;> omega | omega) _) | refine bl_call ?_ (by assumption) (by first | simp <;> omega | omega) | (with_reducible first | refine bl_drewN ?_ | refine Below.drew ?_ | refine bl_grow ?_ (by first | simp <;> omega | omega))))) ⟨_, 0, none⟩ 2 2 [.int .u8 ((n : Int) / 256), .int .u8 ((n : Int) % 256)] rfl rfl ?c1 ?c2 ?c3 ?c4 ?c5 ?_)
  
  case c1 => exact two_at (by simp) _ _ _
  case c2 => intro u hu; simp at hu; rcases hu with rfl | rfl <;> rfl
  case c3 => unfold maxLen; omega
  case c4 => omega
  case c5 => simp; omega
  intro v' w1 hown hgrow _ hat
  have hG : Grew 5 B w w1 v v' (l ++ nbL n) := Grew.of (by repeat (first | (with_reducible first | exact Below.refl _ _ | assumption | refine Below.setCell ?_ (by first | simp <;> omega | omega) _ | refine Below.alloc ?_ (by first | simp <;> omega | omega) _) | refine bl_call ?_ (by assumption) (by first | simp <;> omega | omega) | (with_reducible first | refine bl_drewN ?_ | refine Below.drew ?_ | refine bl_grow ?_ (by first | simp <;> omega | omega)))) hown (by rw [List.length_append, nbL_len]) (by rw [cellsU_app]; simp [cellsU, nbL]) hgrow (by simpa using hat)
  clear hown hgrow hat
  go_wp2_with fail
  go_ret
  exact ⟨_, rfl, hG⟩
set_option maxRecDepth 100000 in
set_option maxHeartbeats 1000000 in
theorem lput_spot (B : Nat) (v : Value) (l : List Nat) (k : Nat) (w : World) (hl : l.length ≤ 1000000) (hB : B ≤ w.heap.size) (h : w.ownsRow B 5 1 v l.length (cellsU l)) :
    Calls Tryz.prog 87 #[v, .agg #[.int .i64 ((tM k).1 : Int), .int .i64 ((tM k).2.1 : Int), .bool (tM k).2.2]] w fun ex w' => ∃ v', ex = .returned v' ∧ Grew 5 B w w' v v' (l ++ spL k) := by
  have H : Hid (w.ownsRow B 5 1 v l.length (cellsU l)) := h
  clear h
  obtain ⟨i0, hi, hv0, hv1, hv2⟩ := info_parts luinfo
  have hs1 := spL_ge k
  have hs2 := spL_le k
  have hs3 := spL_size k
  have m1 : True := trivial
  go_enter Tryz.func87, Tryz.ntmps87
  go_wp2_with (first | (go_at_call 107; clear m1; refine (pack_tM k _).mono ?_; rintro e w1 ⟨rfl, hbw1⟩; have hqw1 : Below w.heap.size w w1 := (by repeat (first | (with_reducible first | exact Below.refl _ _ | assumption | refine Below.setCell ?_ (by first | simp <;> omega | omega) _ | refine Below.alloc ?_ (by first | simp <;> omega | omega) _) | refine bl_call ?_ (by assumption) (by first | simp <;> omega | omega) | (with_reducible first | refine bl_drewN ?_ | refine Below.drew ?_ | refine bl_grow ?_ (by first | simp <;> omega | omega)))); have hzw1 := hqw1.size; clear hbw1) | (at_builtin; refine wpList_append_text _ rfl _ _ 100 9 rfl B 5 i0 (.int .u8 0) Tryz.underlying100 Tryz.underlying9 hi hv0 hv1 hv2 rfl _ _ _ rfl (own_stay H.out hqw1) _ rfl (by omega) (by omega) (by omega) ?_))
  intro v' w2 hown hgrow hat
  have hG : Grew 5 B w w2 v v' (l ++ spL k) := Grew.of hqw1 hown (by rw [List.length_append]) (by rw [cellsU_app, spL_cells]) hgrow hat
  clear hown hgrow hat
  go_wp2_with fail
  go_ret
  exact ⟨_, rfl, hG⟩
set_option maxRecDepth 100000 in
set_option maxHeartbeats 1000000 in
theorem lnum_at (b o n c i x y : Nat) (w : World) (hi : i + 1 < n) (hn : n ≤ 1000000000) (hx : x < 256) (hy : y < 256) (c0 : w.cell? ⟨b, o + i, none⟩ = some (.int .u8 (x : Int))) (c1 : w.cell? ⟨b, o + (i + 1), none⟩ = some (.int .u8 (y : Int))) :
    Calls Tryz.prog 109 #[.slice (some ⟨b, o, none⟩) n c, .int .i64 (i : Int)] w fun e w' => e = .returned (.int .i64 ((x * 256 + y : Nat) : Int)) ∧ Below w.heap.size w w' := by
  have HO : Hid (bits BinOp.or IntKind.i64 ((x : Int) * 256) (y : Int) = ((x * 256 + y : Nat) : Int)) := or_nat hx hy
  have hb := World.block_lt_of_cell? w ⟨b, o + i, none⟩ c0
  have c1' : w.cell? ⟨b, o + i + 1, none⟩ = some (.int .u8 (y : Int)) := c1
  go_enter Tryz.func109, Tryz.ntmps109
  go_wp2_with fail
  go_quiet (fail)
  
  go_wp2_with fail
  go_ret
  refine ⟨ret_int ?_, by repeat (first | (with_reducible first | exact Below.refl _ _ | assumption | refine Below.setCell ?_ (by first | simp <;> omega | omega) _ | refine Below.alloc ?_ (by first | simp <;> omega | omega) _) | refine bl_call ?_ (by assumption) (by first | simp <;> omega | omega) | (with_reducible first | refine bl_drewN ?_ | refine Below.drew ?_ | refine bl_grow ?_ (by first | simp <;> omega | omega)))⟩
  rw [← HO.out]
/-- A reader, in block p: what is left of its bytes, in a block below N. -/
def Reads (N : Nat) (w : World) (p : Nat) (L : List Nat) : Prop := N ≤ p ∧ ∃ (sa : Option Addr) (c : Nat), At w p [.slice sa L.length c] ∧ L.length ≤ c ∧ (L = [] ∨ ∃ b o, sa = some ⟨b, o, none⟩ ∧ b < N ∧ RowU w b o L)
theorem Reads.below {N : Nat} {w w' : World} {p : Nat} {L : List Nat} (h : Reads N w p L) (k : Below w.heap.size w w') : Reads N w' p L := by
  obtain ⟨h0, sa, c, h1, h2, h3⟩ := h
  exact ⟨h0, sa, c, h1.below k, h2, h3.imp_right fun ⟨b, o, e, hne, r⟩ => ⟨b, o, e, hne, r.below r.1 k⟩⟩
theorem Reads.but {N : Nat} {F : Nat → Prop} {w w' : World} {p : Nat} {L : List Nat} (h : Reads N w p L) (k : But F w w') (hF : ∀ i, F i → N ≤ i ∧ i ≠ p) : Reads N w' p L := by
  obtain ⟨h0, sa, c, h1, h2, h3⟩ := h
  exact ⟨h0, sa, c, h1.but k fun e => (hF p e).2 rfl, h2, h3.imp_right fun ⟨b, o, e, hb, r⟩ => ⟨b, o, e, hb, r.but k fun e => by have := (hF b e).1; omega⟩⟩
/-- So many bytes are taken off. -/
theorem Reads.took {N : Nat} {V : World} {p b o c : Nat} {H L : List Nat} (h0 : N ≤ p) (hp : At V p [.slice (some ⟨b, o, none⟩) (H ++ L).length c]) (hc : (H ++ L).length ≤ c) (hbN : b < N) (hr : RowU V b o (H ++ L)) (so : Option Addr) (hso : ¬ c = H.length → so = some ⟨b, o + H.length, none⟩) (n' c' : Nat) (hn : n' = L.length) (hc' : c' = c - H.length) :
    Reads N (V.setCell ⟨p, 0, none⟩ (.slice so n' c')) p L := by
  have hne : b ≠ p := by omega
  subst hn hc'
  rw [List.length_append] at hc
  refine ⟨h0, so, c - H.length, At.only hp, by omega, ?_⟩
  cases L with
  | nil => exact Or.inl rfl
  | cons x L =>
    refine Or.inr ⟨b, o + H.length, hso (by simp at hc; omega), hbN, ?_⟩
    have h1 := hr.drop
    have hb := Below.heap_setCell V ⟨p, 0, none⟩ (.slice so (x :: L).length (c - H.length)) b hne
    exact ⟨by simpa [World.setCell] using h1.1, fun i y hi => (World.cell?_of_block (a := ⟨b, o + H.length + i, none⟩) hb).trans (h1.2 i y hi)⟩
set_option maxRecDepth 100000 in
set_option maxHeartbeats 1000000 in
theorem lnumber (N p n : Nat) (L : List Nat) (w : World) (hn : n < 65536) (hL : L.length ≤ 1000000) (h : Reads N w p (nbL n ++ L)) :
    Calls Tryz.prog 119 #[.pointer (some ⟨p, 0, none⟩)] w fun e w' => e = .returned (.int .i64 (n : Int)) ∧ Reads N w' p L ∧ But (fun i => i = p) w w' := by
  obtain ⟨h0, sa, c, hp, hc, hr⟩ := h
  obtain ⟨b, o, rfl, hbN, hr⟩ := hr.resolve_left (by intro e; simp [nbL] at e)
  have c0 := hr.2 0 (n / 256) rfl
  have c1 := hr.2 1 (n % 256) rfl
  have HP : Hid (At w p [.slice (some ⟨b, o, none⟩) (nbL n ++ L).length c]) := hp
  have HR : Hid (RowU w b o (nbL n ++ L)) := hr
  have hl : (nbL n ++ L).length = L.length + 2 := by rw [List.length_append, nbL_len]; omega
  rw [hl] at hp
  have hc2 : L.length + 2 ≤ c := by omega
  have E : Hid ((((n / 256) * 256 + n % 256 : Nat) : Int) = (n : Int)) := by unfold Hid; omega
  have HN : Hid (Calls Tryz.prog 109 #[.slice (some ⟨b, o, none⟩) (L.length + 2) c, .int .i64 0] w fun e w' => e = .returned (.int .i64 (n : Int)) ∧ Below w.heap.size w w') := by
    have h1 := lnum_at b o (L.length + 2) c 0 (n / 256) (n % 256) w (by omega) (by omega) (by omega) (by omega) c0 c1
    rw [E.out] at h1
    exact h1
  clear c0 c1 hr
  obtain ⟨zpw, cp0w, fp0w⟩ := hp.one
  have m1 : True := trivial
  go_enter Tryz.func119, Tryz.ntmps119
  go_wp2_with (go_at_call 109; clear m1; refine (HN.out).mono ?_; rintro e V ⟨rfl, hb⟩; have kpV : At V p [.slice (some ⟨b, o, none⟩) (L.length + 2) c] := hp.below hb; obtain ⟨zpV, cp0V, fp0V⟩ := kpV.one)
  
  all_goals (
  go_ret
  refine ⟨rfl, Reads.took (H := nbL n) (c := c) (b := b) (o := o) h0 (HP.out.below hb) hc hbN (HR.out.below HR.out.1 hb) _ ?_ _ _ ?_ ?_, (But.of_below (fun i => i = p) hb).setCell (Or.inl rfl) _⟩
  · intro hcc; rw [nbL_len] at hcc; first | exact absurd (by assumption) hcc | rfl
  · rfl
  · (rw [nbL_len]; try omega))
theorem post_gen {P : Program} {f : Func} {R : Ending → World → Prop} {x : Exit} {a : Act} {w : World} (S : World → Prop) (h : S w) (k : ∀ W, S W → bodyPost P f R x a W) : bodyPost P f R x a w := k w h
/-- What is left behind a spot. -/
theorem spot_end {N p b o c n' c' : Nat} {w V : World} {H L : List Nat} {so : Option Addr} (h0 : N ≤ p) (hp : At w p [.slice (some ⟨b, o, none⟩) (H ++ L).length c]) (hc : (H ++ L).length ≤ c) (hbN : b < N) (hr : RowU w b o (H ++ L)) (hso : ¬ c = H.length → so = some ⟨b, o + H.length, none⟩) (hn : n' = L.length) (hc' : c' = c - H.length) (hb : Below w.heap.size w V) (ob : Obj) (u0 u1 u2 : Value) :
    Reads N (((((V.setCell ⟨p, 0, none⟩ (.slice so n' c')).setCell ⟨w.heap.size, 0, none⟩ u0).setCell ⟨w.heap.size, 1, none⟩ u1).setCell ⟨w.heap.size, 2, none⟩ u2).alloc ob) p L ∧ But (fun i => i = p) w (((((V.setCell ⟨p, 0, none⟩ (.slice so n' c')).setCell ⟨w.heap.size, 0, none⟩ u0).setCell ⟨w.heap.size, 1, none⟩ u1).setCell ⟨w.heap.size, 2, none⟩ u2).alloc ob) := by
  have hz := hb.size
  have hpw := hp.1
  have h1 : Reads N (V.setCell ⟨p, 0, none⟩ (.slice so n' c')) p L := Reads.took h0 (hp.below hb) hc hbN (hr.below hr.1 hb) so hso n' c' hn hc'
  have hb1 : But (fun i => i = p) w (V.setCell ⟨p, 0, none⟩ (.slice so n' c')) := (But.of_below (fun i => i = p) hb).setCell (Or.inl rfl) _
  generalize V.setCell ⟨p, 0, none⟩ (.slice so n' c') = X at h1 hb1
  exact ⟨(h1.but ((((But.refl (fun i => i = w.heap.size) X).setCell (Or.inl rfl) _).setCell (Or.inl rfl) _).setCell (Or.inl rfl) _) (by rintro i rfl; exact ⟨by omega, by omega⟩)).below ((Below.refl _ _).alloc (Nat.le_refl _) _), (((hb1.setCell (Or.inr (Nat.le_refl _)) _).setCell (Or.inr (Nat.le_refl _)) _).setCell (Or.inr (Nat.le_refl _)) _).alloc _⟩
set_option maxRecDepth 100000 in
set_option maxHeartbeats 1000000 in
theorem lspot_one (N p b o c : Nat) (T : Sn) (L : List Nat) (w : World) (hL : L.length ≤ 1000000) (h0 : N ≤ p) (hp : At w p [.slice (some ⟨b, o, none⟩) ([0] ++ L).length c]) (hc : ([0] ++ L).length ≤ c) (hbN : b < N) (hr : RowU w b o ([0] ++ L)) (hU : ∀ w, Calls Tryz.prog 122 #[.string ⟨#[0]⟩] w fun e w' => e = .returned (.tuple #[.agg #[.int .i64 ((T).1 : Int), .int .i64 ((T).2.1 : Int), .bool (T).2.2], .nilIface]) ∧ Below w.heap.size w w') :
    Calls Tryz.prog 120 #[.pointer (some ⟨p, 0, none⟩)] w fun e w' => e = .returned (.agg #[.int .i64 ((T).1 : Int), .int .i64 ((T).2.1 : Int), .bool (T).2.2]) ∧ Reads N w' p L ∧ But (fun i => i = p) w w' := by
  have c0 : w.cell? ⟨b, o, none⟩ = some (.int .u8 0) := hr.2 0 0 rfl
  have bc0 : ∀ ob, (w.alloc ob).cell? ⟨b, o, none⟩ = some (.int .u8 0) := fun ob => ((((Below.refl w.heap.size w).alloc (Nat.le_refl _) ob)).cell (p := ⟨b, o, none⟩) hr.1).trans c0
  have hcv : ∀ ob, (convert 100 9 (.slice (some ⟨b, o, none⟩) 1 c)).run Tryz.prog (w.alloc ob) = .ok (.string ⟨#[0]⟩) (w.alloc ob) := fun ob =>
    run_convert_bytes_back (P := Tryz.prog) _ _ _ 5 _ 1 [0] Tryz.underlying100 Tryz.underlying5 Tryz.underlying9 (fun j hj => by
      match j, hj with
      | 0, _ => simpa [go_sem] using bc0 ob)
  have HP : Hid (At w p [.slice (some ⟨b, o, none⟩) ([0] ++ L).length c]) := hp
  have HR : Hid (RowU w b o ([0] ++ L)) := hr
  have hl : ([0] ++ L).length = L.length + 1 := by rw [List.length_append]; simp; omega
  rw [hl] at hp
  have hc2 : L.length + 1 ≤ c := by omega
  clear hr
  obtain ⟨zpw, cp0w, fp0w⟩ := hp.one
  have m1 : True := trivial
  go_enter Tryz.func120, Tryz.ntmps120
  go_wp2_with (go_at_call 122; clear m1; refine (hU _).mono ?_; rintro e V ⟨rfl, hb⟩; have krV : At V (w.heap.size) [.int .i64 0, .int .i64 0, .bool false] := (by repeat (first | (with_reducible first | assumption | (refine at_new' _ _ _ _ ?_; first | rfl | (simp; done)) | refine At.alloc ?_ _ | refine At.drew ?_ | refine At.drewN ?_ | refine At.set ?_ (by omega) | apply At.store4 | apply At.store3 | apply At.store2 | apply At.put43) | refine At.below ?_ (by with_reducible assumption))); have hbV : Below w.heap.size w V := (by repeat (first | (with_reducible first | exact Below.refl _ _ | assumption | refine Below.setCell ?_ (by first | simp <;> omega | omega) _ | refine Below.alloc ?_ (by first | simp <;> omega | omega) _) | refine bl_call ?_ (by assumption) (by first | simp <;> omega | omega) | (with_reducible first | refine bl_drewN ?_ | refine Below.drew ?_ | refine bl_grow ?_ (by first | simp <;> omega | omega)))); have kpV : At V p [.slice (some ⟨b, o, none⟩) (L.length + 1) c] := hp.below hbV; have hzV := hbV.size; obtain ⟨zpV, cp0V, fp0V⟩ := kpV.one; obtain ⟨zrV, cr0V, cr1V, cr2V, fr0V, fr1V, fr2V⟩ := krV.three)
  
  all_goals (
  clear hcv hU hp
  refine post_gen (fun W => At W (w.heap.size) [.int .i64 ((T).1 : Int), .int .i64 ((T).2.1 : Int), .bool (T).2.2] ∧ (Reads N W p L ∧ But (fun i => i = p) w W)) ⟨?_, ?_⟩ ?_
  · exact At.alloc (At.store3 (At.set krV (by omega))) _
  · refine spot_end (H := [0]) (c := c) (b := b) (o := o) h0 HP.out hc hbN HR.out ?_ ?_ ?_ hbV _ _ _ _
    · intro hcc; first | exact absurd (by assumption) hcc | rfl
    · rfl
    · (simp only [List.length_cons, List.length_nil]; try omega)
  · rintro X ⟨kX, hX⟩
    obtain ⟨zX, cX0, cX1, cX2, fX0, fX1, fX2⟩ := kX.three
    exact bodyPost_ret (v := .agg #[.int .i64 ((T).1 : Int), .int .i64 ((T).2.1 : Int), .bool (T).2.2]) (by simp [results, Tryz.results120, go_sem, cX0, cX1, cX2]) rfl ⟨rfl, hX⟩)
set_option maxRecDepth 100000 in
set_option maxHeartbeats 1000000 in
theorem lspot_three (N p b o c : Nat) (x y z : UInt8) (T : Sn) (L : List Nat) (w : World) (hx : x ≠ 0) (hL : L.length ≤ 1000000) (h0 : N ≤ p) (hp : At w p [.slice (some ⟨b, o, none⟩) ([x.toNat, y.toNat, z.toNat] ++ L).length c]) (hc : ([x.toNat, y.toNat, z.toNat] ++ L).length ≤ c) (hbN : b < N) (hr : RowU w b o ([x.toNat, y.toNat, z.toNat] ++ L)) (hU : ∀ w, Calls Tryz.prog 122 #[.string ⟨#[x, y, z]⟩] w fun e w' => e = .returned (.tuple #[.agg #[.int .i64 ((T).1 : Int), .int .i64 ((T).2.1 : Int), .bool (T).2.2], .nilIface]) ∧ Below w.heap.size w w') :
    Calls Tryz.prog 120 #[.pointer (some ⟨p, 0, none⟩)] w fun e w' => e = .returned (.agg #[.int .i64 ((T).1 : Int), .int .i64 ((T).2.1 : Int), .bool (T).2.2]) ∧ Reads N w' p L ∧ But (fun i => i = p) w w' := by
  have c0 : w.cell? ⟨b, o, none⟩ = some (.int .u8 (x.toNat : Int)) := hr.2 0 _ rfl
  have c1 : w.cell? ⟨b, o + 1, none⟩ = some (.int .u8 (y.toNat : Int)) := hr.2 1 _ rfl
  have c2 : w.cell? ⟨b, o + 2, none⟩ = some (.int .u8 (z.toNat : Int)) := hr.2 2 _ rfl
  have bc0 : ∀ ob, (w.alloc ob).cell? ⟨b, o, none⟩ = some (.int .u8 (x.toNat : Int)) := fun ob => ((((Below.refl w.heap.size w).alloc (Nat.le_refl _) ob)).cell (p := ⟨b, o, none⟩) hr.1).trans c0
  have bc1 : ∀ ob, (w.alloc ob).cell? ⟨b, o + 1, none⟩ = some (.int .u8 (y.toNat : Int)) := fun ob => ((((Below.refl w.heap.size w).alloc (Nat.le_refl _) ob)).cell (p := ⟨b, o + 1, none⟩) hr.1).trans c1
  have bc2 : ∀ ob, (w.alloc ob).cell? ⟨b, o + 2, none⟩ = some (.int .u8 (z.toNat : Int)) := fun ob => ((((Below.refl w.heap.size w).alloc (Nat.le_refl _) ob)).cell (p := ⟨b, o + 2, none⟩) hr.1).trans c2
  have hx0 : ((x.toNat : Int) == 0) = false := by
    rw [beq_eq_false_iff_ne]; intro h; exact hx (UInt8.toNat_inj.1 (by show x.toNat = 0; omega))
  have hcv : ∀ ob, (convert 100 9 (.slice (some ⟨b, o, none⟩) 3 c)).run Tryz.prog (w.alloc ob) = .ok (.string ⟨#[x, y, z]⟩) (w.alloc ob) := fun ob =>
    run_convert_bytes_back (P := Tryz.prog) _ _ _ 5 _ 3 [x, y, z] Tryz.underlying100 Tryz.underlying5 Tryz.underlying9 (fun j hj => by
      match j, hj with
      | 0, _ => simpa [go_sem] using bc0 ob
      | 1, _ => simpa [go_sem] using bc1 ob
      | 2, _ => simpa [go_sem] using bc2 ob)
  have HP : Hid (At w p [.slice (some ⟨b, o, none⟩) ([x.toNat, y.toNat, z.toNat] ++ L).length c]) := hp
  have HR : Hid (RowU w b o ([x.toNat, y.toNat, z.toNat] ++ L)) := hr
  have hl : ([x.toNat, y.toNat, z.toNat] ++ L).length = L.length + 3 := by rw [List.length_append]; simp; omega
  rw [hl] at hp
  have hc2 : L.length + 3 ≤ c := by omega
  clear hr
  obtain ⟨zpw, cp0w, fp0w⟩ := hp.one
  have m1 : True := trivial
  go_enter Tryz.func120, Tryz.ntmps120
  go_wp2_with (go_at_call 122; clear m1; refine (hU _).mono ?_; rintro e V ⟨rfl, hb⟩; have krV : At V (w.heap.size) [.int .i64 0, .int .i64 0, .bool false] := (by repeat (first | (with_reducible first | assumption | (refine at_new' _ _ _ _ ?_; first | rfl | (simp; done)) | refine At.alloc ?_ _ | refine At.drew ?_ | refine At.drewN ?_ | refine At.set ?_ (by omega) | apply At.store4 | apply At.store3 | apply At.store2 | apply At.put43) | refine At.below ?_ (by with_reducible assumption))); have hbV : Below w.heap.size w V := (by repeat (first | (with_reducible first | exact Below.refl _ _ | assumption | refine Below.setCell ?_ (by first | simp <;> omega | omega) _ | refine Below.alloc ?_ (by first | simp <;> omega | omega) _) | refine bl_call ?_ (by assumption) (by first | simp <;> omega | omega) | (with_reducible first | refine bl_drewN ?_ | refine Below.drew ?_ | refine bl_grow ?_ (by first | simp <;> omega | omega)))); have kpV : At V p [.slice (some ⟨b, o, none⟩) (L.length + 3) c] := hp.below hbV; have hzV := hbV.size; obtain ⟨zpV, cp0V, fp0V⟩ := kpV.one; obtain ⟨zrV, cr0V, cr1V, cr2V, fr0V, fr1V, fr2V⟩ := krV.three)
  
  all_goals (
  clear hcv hU hp
  refine post_gen (fun W => At W (w.heap.size) [.int .i64 ((T).1 : Int), .int .i64 ((T).2.1 : Int), .bool (T).2.2] ∧ (Reads N W p L ∧ But (fun i => i = p) w W)) ⟨?_, ?_⟩ ?_
  · exact At.alloc (At.store3 (At.set krV (by omega))) _
  · refine spot_end (H := [x.toNat, y.toNat, z.toNat]) (c := c) (b := b) (o := o) h0 HP.out hc hbN HR.out ?_ ?_ ?_ hbV _ _ _ _
    · intro hcc; first | exact absurd (by assumption) hcc | rfl
    · rfl
    · (simp only [List.length_cons, List.length_nil]; try omega)
  · rintro X ⟨kX, hX⟩
    obtain ⟨zX, cX0, cX1, cX2, fX0, fX1, fX2⟩ := kX.three
    exact bodyPost_ret (v := .agg #[.int .i64 ((T).1 : Int), .int .i64 ((T).2.1 : Int), .bool (T).2.2]) (by simp [results, Tryz.results120, go_sem, cX0, cX1, cX2]) rfl ⟨rfl, hX⟩)
theorem lspot (N p k : Nat) (L : List Nat) (w : World) (hL : L.length ≤ 1000000) (h : Reads N w p (spL k ++ L)) :
    Calls Tryz.prog 120 #[.pointer (some ⟨p, 0, none⟩)] w fun e w' => e = .returned (.agg #[.int .i64 ((tM k).1 : Int), .int .i64 ((tM k).2.1 : Int), .bool (tM k).2.2]) ∧ Reads N w' p L ∧ But (fun i => i = p) w w' := by
  have hU := fun w => unpack_tM k w
  obtain ⟨h0, sa, c, hp, hc, hr⟩ := h
  have hge := spL_ge k
  obtain ⟨b, o, rfl, hbN, hr⟩ := hr.resolve_left (by intro e; have := congrArg List.length e; rw [List.length_append] at this; simp only [List.length_nil] at this; omega)
  unfold spL at hp hc hr
  unfold pkB at hU
  generalize tM k = s at *
  obtain ⟨X, Y, f⟩ := s
  cases f with
  | true => exact lspot_one N p b o c (X, Y, true) L w hL h0 hp hc hbN hr hU
  | false =>
    refine lspot_three N p b o c (whB Y) (hiB X) (loB X) (X, Y, false) L w ?_ hL h0 hp hc hbN hr hU
    unfold whB
    cases Nat.blt 2025 Y
    · show (1 : UInt8) ≠ 0; decide
    · show (2 : UInt8) ≠ 0; decide
end Go.Proofs.YtpkkclcjiobgoajGreatDoor
