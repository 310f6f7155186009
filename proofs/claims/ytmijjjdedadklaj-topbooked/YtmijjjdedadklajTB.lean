/- Texts joined: BookCoins Builder List Gate BookA. A book of one row of its own: of each coin its spot, and whether it is live. How it stays while it is written or grows. Of whatever program. The library's contracts on a strings.Builder that the call has made itself, at this program's numbers; and that it stays one where nothing that was there is turned. What curve.CheckAll and bytes.List answer of so many spots that lie in a row, from whatever place on. A region that draws its order, in two parts: the first only reads (its callees may lay memory), and all of it is waited for by its last operation, for which the second part waits: the first part is walked once, in the order of the text; behind it the second part is left to be walked. Of whatever program. What package book is made of: isNumber, Ask, Close, checkCoins, sum, minted, at, checkGone, answered, checkSeal. -/
import Derived.Test.YtmijjjdedadklajBookMem
import Derived.Test.YtmijjjdedadklajBookMath
import Derived.Test.YtmijjjdedadklajBookRows
import Derived.Test.YtmijjjdedadklajComeIs
import Derived.Shelf.Strings.BuilderK
import Derived.Test.YtmijjjdedadklajMem
import Derived.Test.YtmijjjdedadklajChecked
import Derived.Test.YtmijjjdedadklajTA
import Derived.Test.YtmijjjdedadklajStay
import Derived.Test.YtmijjjdedadklajRowE
import Derived.RegionTactic
import Derived.Test.YtmijjjdedadklajBookIs
import Derived.Test.YtmijjjdedadklajHashLong
import Derived.Test.YtmijjjdedadklajTimesOrd
import Derived.Test.YtmijjjdedadklajCurveEq
import Derived.Test.YtmijjjdedadklajSealMath
import Derived.Deep.RegionHeld3
import Derived.Deep.CutRange
/- BookCoins -/
namespace Go.Proofs.Ytmijjjdedadklaj
open Go.RowKit Go.Sort
set_option linter.unusedVariables false
set_option linter.unusedSimpArgs false

/-- Cells of a coin. -/
def coinL (K : Nat → Nat) (G : Nat → Bool) (i : Nat) : List Value := [.int .i64 ((tM (4 * K i)).1 : Int), .int .i64 ((tM (4 * K i)).2.1 : Int), .bool (tM (4 * K i)).2.2, .bool (!G i)]
/-- Cells of so many coins. -/
def cellsC (K : Nat → Nat) (G : Nat → Bool) (n : Nat) : List Value := (List.range n).flatMap (coinL K G)
theorem cellsC_succ (K : Nat → Nat) (G : Nat → Bool) (n : Nat) : cellsC K G (n + 1) = cellsC K G n ++ coinL K G n := by unfold cellsC; rw [List.range_succ, List.flatMap_append]; simp
theorem cellsC_len (K : Nat → Nat) (G : Nat → Bool) : ∀ n, (cellsC K G n).length = n * 4
  | 0 => rfl
  | n + 1 => by rw [cellsC_succ, List.length_append, cellsC_len K G n]; show n * 4 + 4 = _; omega
theorem cellsC_at (K : Nat → Nat) (G : Nat → Bool) {n i j : Nat} (hi : i < n) (hj : j < 4) : (cellsC K G n)[i * 4 + j]? = (coinL K G i)[j]? := flat_at 4 _ (fun _ => rfl) n i j hi hj
theorem cellsC_congr {K J : Nat → Nat} {G H : Nat → Bool} : ∀ {n : Nat}, (∀ i, i < n → tM (4 * K i) = tM (4 * J i) ∧ G i = H i) → cellsC K G n = cellsC J H n
  | 0, _ => rfl
  | n + 1, h => by
    obtain ⟨a, b⟩ := h n (by omega)
    rw [cellsC_succ, cellsC_succ, cellsC_congr fun i hi => h i (by omega)]
    unfold coinL
    rw [a, b]
theorem cellsC_app (K : Nat → Nat) (G : Nat → Bool) (n : Nat) (J : Nat → Nat) (H : Nat → Bool) : ∀ c, cellsC (appN K n J c) (appN G n H c) (n + c) = cellsC K G n ++ cellsC J H c
  | 0 => by show _ = _ ++ []; rw [List.append_nil]; rfl
  | c + 1 => by
    rw [show n + (c + 1) = (n + c) + 1 by omega, cellsC_succ, cellsC_succ J, ← List.append_assoc, ← cellsC_app K G n J H c]
    rw [cellsC_congr (K := appN K n J (c + 1)) (J := appN K n J c) (G := appN G n H (c + 1)) (H := appN G n H c) fun i hi => ⟨by rw [appN_step K n J c hi], appN_step G n H c hi⟩]
    unfold coinL
    rw [appN_at, appN_at]
theorem cellsC_set (K : Nat → Nat) (G : Nat → Bool) {n z : Nat} (h : z < n) : (cellsC K G n).set (z * 4 + 3) (.bool false) = cellsC K (setB G z) n := by
  refine List.ext_getElem? fun i => ?_
  rw [List.getElem?_set]
  by_cases hi : i < n * 4
  · obtain ⟨q, j, hj, rfl⟩ : ∃ q j, j < 4 ∧ i = q * 4 + j := ⟨i / 4, i % 4, Nat.mod_lt _ (by omega), by omega⟩
    have hq : q < n := by omega
    rw [cellsC_at K (setB G z) hq hj, cellsC_at K G hq hj, cellsC_len]
    by_cases e : z * 4 + 3 = q * 4 + j
    · obtain ⟨rfl, rfl⟩ : z = q ∧ j = 3 := by omega
      rw [if_pos rfl, if_pos (by omega)]
      show some _ = some (Value.bool (!setB G z z))
      rw [setB_at]; rfl
    · rw [if_neg e]
      match j, hj, e with
      | 0, _, _ => rfl
      | 1, _, _ => rfl
      | 2, _, _ => rfl
      | 3, _, e =>
        show some (Value.bool (!G q)) = some (Value.bool (!setB G z q))
        rw [setB_ne G (by omega)]
  · have h1 : ∀ H, (cellsC K H n)[i]? = none := fun H => List.getElem?_eq_none (by rw [cellsC_len]; omega)
    rw [h1, h1, if_neg (by omega)]
/-- In block b, from o on, lie so many coins in a row. -/
def RowC (w : World) (b o n : Nat) (K : Nat → Nat) (G : Nat → Bool) : Prop := b < w.heap.size ∧ ∀ i, i < n → w.cell? ⟨b, o + i * 4, none⟩ = some (.int .i64 ((tM (4 * K i)).1 : Int)) ∧ w.cell? ⟨b, o + i * 4 + 1, none⟩ = some (.int .i64 ((tM (4 * K i)).2.1 : Int)) ∧ w.cell? ⟨b, o + i * 4 + 2, none⟩ = some (.bool (tM (4 * K i)).2.2) ∧ w.cell? ⟨b, o + i * 4 + 3, none⟩ = some (.bool (!G i))
theorem RowC.below {w w' : World} {b o n B : Nat} {K : Nat → Nat} {G : Nat → Bool} (h : RowC w b o n K G) (hB : b < B) (k : Below B w w') : RowC w' b o n K G :=
  ⟨Nat.lt_of_lt_of_le h.1 k.size, fun i hi => ⟨(k.cell (p := ⟨b, o + i * 4, none⟩) hB).trans (h.2 i hi).1, (k.cell (p := ⟨b, o + i * 4 + 1, none⟩) hB).trans (h.2 i hi).2.1, (k.cell (p := ⟨b, o + i * 4 + 2, none⟩) hB).trans (h.2 i hi).2.2.1, (k.cell (p := ⟨b, o + i * 4 + 3, none⟩) hB).trans (h.2 i hi).2.2.2⟩⟩
theorem own_coins {w : World} {B : Nat} {e : TypeId} {v : Value} {n : Nat} {K : Nat → Nat} {G : Nat → Bool} (h : w.ownsRow B e 4 v n (cellsC K G n)) : ∃ (sa : Option Addr) (c : Nat), v = .slice sa n c ∧ (n = 0 ∨ ∃ g, sa = some ⟨g, 0, none⟩ ∧ v.ownBlock = some g ∧ B ≤ g ∧ RowC w g 0 n K G) := by
  obtain ⟨sa, c, rfl, h1⟩ := own_slice h
  refine ⟨sa, c, rfl, ?_⟩
  rcases h1 with h1 | ⟨g, rfl, h2, h3, h4⟩
  · exact Or.inl h1
  · refine Or.inr ⟨g, rfl, h2, h3, h4, fun i hi => ?_⟩
    have a0 := h.cells h2 (i * 4 + 0) _ (cellsC_at K G hi (by omega))
    have a1 := h.cells h2 (i * 4 + 1) _ (cellsC_at K G hi (by omega))
    have a2 := h.cells h2 (i * 4 + 2) _ (cellsC_at K G hi (by omega))
    have a3 := h.cells h2 (i * 4 + 3) _ (cellsC_at K G hi (by omega))
    rw [addr_add] at a0 a1 a2 a3
    rw [Nat.zero_add]
    exact ⟨a0, a1, a2, a3⟩

/-- The blocks of such a book. -/
def fc (p : Nat) (u : Value) : Nat → Prop := fun k => k = p ∨ u.ownBlock = some k
/-- In block p lies a book with this row. -/
structure CoinsAt (e : TypeId) (W : World) (p : Nat) (u : Value) (n : Nat) (K : Nat → Nat) (G : Nat → Bool) : Prop where
  cells : At W p [u]
  coins : W.ownsRow 0 e 4 u n (cellsC K G n)
  au : u.ownBlock ≠ some p
section
variable {e : TypeId} {W W' Wa W1 : World} {p : Nat} {u u' : Value} {n m : Nat} {K J : Nat → Nat} {G H : Nat → Bool} {F : Nat → Prop}
theorem CoinsAt.but (h : CoinsAt e W p u n K G) (k : But F W W') (hF : ∀ i, fc p u i → ¬ F i) : CoinsAt e W' p u n K G :=
  ⟨h.cells.but k (hF p (Or.inl rfl)), own_but h.coins k fun g hg => hF g (Or.inr hg), h.au⟩
theorem CoinsAt.below (h : CoinsAt e W p u n K G) (k : Below W.heap.size W W') : CoinsAt e W' p u n K G := h.but (But.of_below (fun _ => False) k) fun _ _ e => e
theorem CoinsAt.lt (h : CoinsAt e W p u n K G) {i : Nat} (hi : fc p u i) : i < W.heap.size := by
  rcases hi with rfl | hi
  · exact h.cells.1
  · exact (h.coins.lt i hi).2
/-- A book's row, as a slice that can be read. -/
theorem CoinsAt.slice (h : CoinsAt e W p u n K G) : ∃ (su : Option Addr) (cu : Nat), u = .slice su n cu ∧ (n = 0 ∨ ∃ g, su = some ⟨g, 0, none⟩ ∧ RowC W g 0 n K G) := by
  obtain ⟨su, cu, rfl, hu⟩ := own_coins h.coins
  exact ⟨su, cu, rfl, hu.imp_right fun ⟨g, e, _, _, r⟩ => ⟨g, e, r⟩⟩
/-- One of them goes. -/
theorem CoinsAt.gone {g c z : Nat} (h : CoinsAt e W p (.slice (some ⟨g, 0, none⟩) n c) n K G) (hz : z < n) : CoinsAt e (W.setCell ⟨g, z * 4 + 3, none⟩ (.bool false)) p (.slice (some ⟨g, 0, none⟩) n c) n K (setB G z) := by
  refine ⟨At.set h.cells (fun e => h.au (by rw [e]; rfl)), ?_, h.au⟩
  have := (h.coins.stored (z * 4 + 3) (.bool false)).1
  rwa [cellsC_set K G hz] at this
theorem At.only {w : World} {b : Nat} {u u' : Value} (h : At w b [u]) : At (w.setCell ⟨b, 0, none⟩ u') b [u'] := by
  have a0 : w.cell? ⟨b, 0, none⟩ = some u := h.2.1 0 (by simp)
  refine ⟨by simpa [World.setCell] using h.1, fun i hi => ?_, fun i hi => ?_⟩
  · rcases i with _ | i
    · show _ = some u'; simp [a0, go_sem]
    · simp at hi
  · rw [World.frozen?_setCell]; exact h.2.2 i (by simpa using hi)
/-- The row has grown, and is stored. -/
theorem CoinsAt.grow (h : CoinsAt e W p u n K G) (hW : Below W.heap.size W Wa) (hg : Wa.grownBy W1 u.ownBlock) (ho : W1.ownsRow 0 e 4 u' m (cellsC J H m)) (hat : u'.ownBlock = u.ownBlock ∨ u'.ownBlock = some Wa.heap.size) :
    CoinsAt e (W1.setCell ⟨p, 0, none⟩ u') p u' m J H := by
  have hp := h.cells.1
  have ha : u'.ownBlock ≠ some p := by
    rcases hat with e | e
    · rw [e]; exact h.au
    · rw [e]; intro k; injection k with k; have := hW.size; omega
  exact ⟨At.only (At.grown (h.cells.below hW) hg h.au), own_set ho ha _, ha⟩
end
/-- Is it a book? -/
def bookW (e : TypeId) (W : World) (v : Value) (Q : Nat → Prop) (n : Nat) (K : Nat → Nat) (G : Nat → Bool) : Prop :=
  ∃ p u, v = .pointer (some ⟨p, 0, none⟩) ∧ Q = fc p u ∧ CoinsAt e W p u n K G
/-- Sums of what is picked. -/
theorem js_mul (f : Nat → Nat) (a : Nat) : ∀ n, jsN (fun i => a * f i) n = a * jsN f n
  | 0 => by show (0 : Nat) = a * 0; omega
  | n + 1 => by show jsN (fun i => a * f i) n + a * f n = a * (jsN f n + f n); rw [js_mul f a n, Nat.mul_add]
/-- Which coin stands at a place of those that are live. -/
def lvA (G : Nat → Bool) (n i : Nat) : Nat := ((lvL G n)[i]?).getD 0
def lvZ (G : Nat → Bool) (n i : Nat) : Int := ((lvA G n i : Nat) : Int)
theorem lvA_gone {G : Nat → Bool} {n : Nat} (h : G n = true) (i : Nat) : lvA G (n + 1) i = lvA G n i := by unfold lvA; rw [lvL_gone h]
theorem lvA_live {G : Nat → Bool} {n : Nat} (h : G n = false) {i : Nat} (hi : i < (lvL G n).length) : lvA G (n + 1) i = lvA G n i := by unfold lvA; rw [lvL_live h, List.getElem?_append_left hi]
theorem lvA_last {G : Nat → Bool} {n : Nat} (h : G n = false) : lvA G (n + 1) (lvL G n).length = n := by unfold lvA; rw [lvL_live h]; simp
theorem js_congr {f g : Nat → Nat} : ∀ {n : Nat}, (∀ i, i < n → f i = g i) → jsN f n = jsN g n
  | 0, _ => rfl
  | n + 1, h => by show jsN f n + f n = jsN g n + g n; rw [js_congr fun i hi => h i (by omega), h n (by omega)]
theorem lv_lt (G : Nat → Bool) : ∀ (n i : Nat), i < (lvL G n).length → lvA G n i < n
  | 0, i, h => by simp [lvL] at h
  | n + 1, i, h => by
    cases hG : G n with
    | true =>
      rw [lvL_gone hG] at h
      rw [lvA_gone hG]
      have := lv_lt G n i h
      omega
    | false =>
      rw [lvL_live hG] at h
      by_cases hi : i < (lvL G n).length
      · rw [lvA_live hG hi]
        have := lv_lt G n i hi
        omega
      · obtain rfl : i = (lvL G n).length := by simp at h; omega
        rw [lvA_last hG]
        omega
/-- The sum of those that are live is their total. -/
theorem lv_total (K : Nat → Nat) (G : Nat → Bool) : ∀ n, jsN (fun i => K (lvA G n i)) (lvL G n).length = ttN K G n
  | 0 => rfl
  | n + 1 => by
    cases hG : G n with
    | true =>
      rw [lvL_gone hG, ttN_gone hG, js_congr (g := fun i => K (lvA G n i)) fun i _ => by rw [lvA_gone hG]]
      exact lv_total K G n
    | false =>
      rw [ttN_live hG, ← lv_total K G n, show (lvL G (n + 1)).length = (lvL G n).length + 1 by rw [lvL_live hG]; simp]
      show jsN _ (lvL G n).length + K (lvA G (n + 1) (lvL G n).length) = _
      rw [lvA_last hG, js_congr (g := fun i => K (lvA G n i)) fun i hi => by rw [lvA_live hG hi]]
theorem lvC_row (G : Nat → Bool) (n : Nat) : lvC G n = cellsI (lvZ G n) (lvL G n).length := by
  refine List.ext_getElem? fun i => ?_
  unfold lvC
  rw [List.getElem?_map]
  by_cases hi : i < (lvL G n).length
  · rw [cellsI_at _ hi]
    unfold lvZ lvA
    rw [List.getElem?_eq_getElem hi]
    rfl
  · rw [List.getElem?_eq_none (by omega), List.getElem?_eq_none (by simp [cellsI]; omega)]
    rfl
/-- What comes, less what goes. -/
theorem ex_neg (K : Nat → Nat) (Z : Nat → Int) (m : Nat) (J : Nat → Nat) (c : Nat) : tM (4 * jsN J c + 4 * (1012 * jsN (fun i => K (Z i).toNat) m)) = tM (4 * exN K Z m J c) := by
  unfold exN nsN
  rw [js_mul (fun i => K (Z i).toNat) 1012 m, ← Nat.mul_add, Nat.add_comm]
end Go.Proofs.Ytmijjjdedadklaj
/- Builder -/
namespace Go.Proofs.Ytmijjjdedadklaj
open Go.RowKit Go.Sort Go.Shelf
set_option linter.unusedVariables false

theorem atf_below {T e B b : Nat} {p : Value} {bs : List Value} {w w' : World} (h : Lib.BuilderAtF T e B b p bs w) (k : Below w.heap.size w w') : Lib.BuilderAtF T e B b p bs w' := by
  obtain ⟨hB, v, hb, hown, hne⟩ := h
  have lt : ∀ {i : Nat} {o : Obj}, w.heap[i]? = some o → i < w.heap.size := fun h => (Array.getElem?_eq_some_iff.1 h).1
  refine ⟨hB, v, (k.block b (lt hb)).trans hb, ⟨hown.1, ?_⟩, hne⟩
  rcases hown.2 with hn | ⟨g, cap, cur, fz, hv, hbg, hg, rest⟩
  · exact .inl hn
  · exact .inr ⟨g, cap, cur, fz, hv, hbg, (k.block g (lt hg)).trans hg, rest⟩
theorem bld_below {T e B b : Nat} {bs : List Value} {w w' : World} (h : Lib.IsBuilderF T e B b bs w) (k : Below w.heap.size w w') : Lib.IsBuilderF T e B b bs w' :=
  h.elim (fun x => .inl (atf_below x k)) (fun x => .inr (atf_below x k))
def bren : Ren := ⟨fun | 166 => 81 | 167 => 80 | 169 => 83 | 240 => 90 | 276 => 93 | n => n, fun | 0 => 0 | 3 => 3 | 4 => 4 | 5 => 5 | 9 => 9 | 20 => 20 | 37 => 72 | 70 => 116 | 72 => 118 | 75 => 28 | 80 => 122 | 127 => 130 | 164 => 134 | n => n, fun n => n⟩
theorem lays166 : Lays.n166 Try.prog bren :=
  { mixed := by kernel_rfl
    f166 := Try.func81.trans (congrArg some (by kernel_rfl))
    f240 := Try.func90.trans (congrArg some (by kernel_rfl))
    f276 := Try.func93.trans (congrArg some (by kernel_rfl))
    t0 := Try.underlying0
    a0 := Try.isAgg0
    z0 := Try.sizeOf0
    v0 := Try.zeroValue0
    t3 := Try.underlying3
    a3 := Try.isAgg3
    z3 := Try.sizeOf3
    v3 := Try.zeroValue3
    t4 := Try.underlying4
    a4 := Try.isAgg4
    z4 := Try.sizeOf4
    v4 := Try.zeroValue4
    t9 := Try.underlying9
    a9 := Try.isAgg9
    z9 := Try.sizeOf9
    v9 := Try.zeroValue9
    t20 := Try.underlying20
    a20 := Try.isAgg20
    z20 := Try.sizeOf20
    v20 := Try.zeroValue20
    t37 := Try.underlying72
    a37 := Try.isAgg72
    z37 := Try.sizeOf72
    v37 := Try.zeroValue72
    t70 := Try.underlying116
    a70 := Try.isAgg116
    z70 := Try.sizeOf116
    v70 := Try.zeroValue116
    t72 := Try.underlying118
    a72 := Try.isAgg118
    z72 := Try.sizeOf118
    v72 := Try.zeroValue118
    t75 := Try.underlying28
    a75 := Try.isAgg28
    z75 := Try.sizeOf28
    v75 := Try.zeroValue28
    t164 := Try.underlying134
    a164 := Try.isAgg134
    z164 := Try.sizeOf134
    v164 := Try.zeroValue134 }
theorem lays167 : Lays.n167 Try.prog bren :=
  { mixed := by kernel_rfl
    f167 := Try.func80.trans (congrArg some (by kernel_rfl))
    f240 := Try.func90.trans (congrArg some (by kernel_rfl))
    f276 := Try.func93.trans (congrArg some (by kernel_rfl))
    t0 := Try.underlying0
    a0 := Try.isAgg0
    z0 := Try.sizeOf0
    v0 := Try.zeroValue0
    t4 := Try.underlying4
    a4 := Try.isAgg4
    z4 := Try.sizeOf4
    v4 := Try.zeroValue4
    t5 := Try.underlying5
    a5 := Try.isAgg5
    z5 := Try.sizeOf5
    v5 := Try.zeroValue5
    t9 := Try.underlying9
    a9 := Try.isAgg9
    z9 := Try.sizeOf9
    v9 := Try.zeroValue9
    t20 := Try.underlying20
    a20 := Try.isAgg20
    z20 := Try.sizeOf20
    v20 := Try.zeroValue20
    t37 := Try.underlying72
    a37 := Try.isAgg72
    z37 := Try.sizeOf72
    v37 := Try.zeroValue72
    t70 := Try.underlying116
    a70 := Try.isAgg116
    z70 := Try.sizeOf116
    v70 := Try.zeroValue116
    t72 := Try.underlying118
    a72 := Try.isAgg118
    z72 := Try.sizeOf118
    v72 := Try.zeroValue118
    t75 := Try.underlying28
    a75 := Try.isAgg28
    z75 := Try.sizeOf28
    v75 := Try.zeroValue28
    t164 := Try.underlying134
    a164 := Try.isAgg134
    z164 := Try.sizeOf134
    v164 := Try.zeroValue134 }
theorem lays169 : Lays.n169 Try.prog bren :=
  { mixed := by kernel_rfl
    f169 := Try.func83.trans (congrArg some (by kernel_rfl))
    t0 := Try.underlying0
    a0 := Try.isAgg0
    z0 := Try.sizeOf0
    v0 := Try.zeroValue0
    t3 := Try.underlying3
    a3 := Try.isAgg3
    z3 := Try.sizeOf3
    v3 := Try.zeroValue3
    t9 := Try.underlying9
    a9 := Try.isAgg9
    z9 := Try.sizeOf9
    v9 := Try.zeroValue9
    t37 := Try.underlying72
    a37 := Try.isAgg72
    z37 := Try.sizeOf72
    v37 := Try.zeroValue72
    t70 := Try.underlying116
    a70 := Try.isAgg116
    z70 := Try.sizeOf116
    v70 := Try.zeroValue116
    t72 := Try.underlying118
    a72 := Try.isAgg118
    z72 := Try.sizeOf118
    v72 := Try.zeroValue118
    t127 := Try.underlying130
    a127 := Try.isAgg130
    z127 := Try.sizeOf130
    v127 := Try.zeroValue130 }
theorem bextra : Builder.Extra Try.prog bren :=
  { sizeBuilder := by kernel_rfl
    liesBuilder := by kernel_rfl
    t5 := Try.underlying5
    a5 := Try.isAgg5
    z5 := Try.sizeOf5
    v5 := Try.zeroValue5
    infoByte := by kernel_rfl
    cellsByte := by kernel_rfl
    sizeByte := by kernel_rfl
    neB5 := by decide }
/-- A builder of the call's own that holds these bytes. -/
def Bld (B b : Nat) (l : List UInt8) (w : World) : Prop := Lib.IsBuilderF 118 5 B b (Lib.byteCells l) w
theorem Bld.below {B b : Nat} {l : List UInt8} {w w' : World} (h : Bld B b l w) (k : Below w.heap.size w w') : Bld B b l w' := bld_below h k
theorem bld_new (w : World) : Bld w.heap.size w.heap.size [] (w.alloc (.cells #[.pointer none, .slice none 0 0] 118)) := Lib.IsBuilderF.of (Lib.fresh_isBuilder _ _ w)
theorem writeByte_bld (B b : Nat) (l : List UInt8) (c : UInt8) (w : World) (h : Bld B b l w) (hl : l.length ≤ 1000000) (hB : B ≤ w.heap.size) :
    Calls Try.prog 80 #[.pointer (some ⟨b, 0, none⟩), .int .u8 (c.toNat : Int)] w fun e w' => e = .returned .nilIface ∧ Bld B b (l ++ [c]) w' ∧ Below B w w' ∧ Lib.OthersKept 5 (some b) w w' := by
  refine (Any.Builder_WriteByte_k lays167 bextra B b (Lib.byteCells l) (c.toNat : Int) w h (by rw [Lib.byteCells_length]; omega) hB).mono ?_
  rintro e w' ⟨he, h1, h2, h3⟩
  refine ⟨he, ?_, h2, h3⟩
  unfold Bld
  rw [Lib.byteCells_append]
  exact Or.inr h1
theorem writeString_bld (B b : Nat) (l : List UInt8) (s : List UInt8) (w : World) (h : Bld B b l w) (hl : l.length ≤ 1000000) (hs : s.length ≤ 1000000) (hB : B ≤ w.heap.size) :
    Calls Try.prog 81 #[.pointer (some ⟨b, 0, none⟩), .string ⟨s.toArray⟩] w fun e w' => e = .returned (.tuple #[.int .i64 s.length, .nilIface]) ∧ Bld B b (l ++ s) w' ∧ Below B w w' ∧ Lib.OthersKept 5 (some b) w w' := by
  refine (Any.Builder_WriteString_k lays166 bextra B b (Lib.byteCells l) ⟨s.toArray⟩ w h (by rw [Lib.byteCells_length]; show l.length + s.toArray.size ≤ _; simp only [List.size_toArray]; omega) hB).mono ?_
  rintro e w' ⟨he, h1, h2, h3⟩
  refine ⟨he, ?_, h2, h3⟩
  unfold Bld
  rw [Lib.byteCells_append]
  exact Or.inr h1
theorem string_bld (B b : Nat) (l : List UInt8) (w : World) (h : Bld B b l w) (hB : B ≤ w.heap.size) :
    Calls Try.prog 83 #[.pointer (some ⟨b, 0, none⟩)] w fun e w' => e = .returned (.string ⟨l.toArray⟩) ∧ Below B w w' :=
  (Any.Builder_String_any_k lays169 bextra B b l w h hB).mono fun _ _ ⟨he, _, h2, _⟩ => ⟨he, h2⟩
end Go.Proofs.Ytmijjjdedadklaj
/- List -/
namespace Go.Proofs.Ytmijjjdedadklaj
open Go.RowKit Go.Sort
set_option linter.unusedVariables false
set_option linter.unusedSimpArgs false
theorem list_many (sa : Option Addr) (n c : Nat) (w : World) (h : 12 < n) : Calls Try.prog 61 #[.slice sa n c] w fun e w' => e = .returned (.tuple #[.string ⟨#[]⟩, errOf 4]) ∧ Below w.heap.size w w' := by
  have h1 : 12 < (n : Int) := by omega
  go_enter Try.func61, Try.ntmps61
  go_wp2_with fail
  exact bodyPost_ret (v := .tuple #[.string ⟨#[]⟩, errOf 4]) (by simp [results, Try.results61, go_sem, *]) rfl ⟨rfl, by repeat (first | (with_reducible exact Below.refl _ _) | (with_reducible assumption) | (with_reducible refine Below.setCell ?_ (by first | (simp; done) | (simp; omega) | omega) _) | (with_reducible refine Below.alloc ?_ (by first | (simp; done) | (simp; omega) | omega) _) | (refine bl_call ?_ (by assumption) (by first | (simp; done) | (simp; omega) | omega)) | (with_reducible refine bl_drewN ?_) | (with_reducible refine Below.drew ?_) | (with_reducible refine bl_grow ?_ (by first | (simp; done) | (simp; omega) | omega)))⟩
theorem list_no (b o n c : Nat) (X Y : Nat → Int) (F : Nat → Bool) (w : World) (hn : n ≤ 12) (hr : RowO w b o n X Y F) (h : (rowE X Y F n == 0) = false) :
    Calls Try.prog 61 #[.slice (some ⟨b, o, none⟩) n c] w fun e w' => e = .returned (.tuple #[.string ⟨#[]⟩, errOf (rowE X Y F n)]) ∧ Below w.heap.size w w' := by
  have h1 : ¬ (12 < (n : Int)) := by omega
  have HR : Hid (RowO w b o n X Y F) := hr
  have HE : Hid ((rowE X Y F n == 0) = false) := h
  clear hr h
  have m1 : True := trivial
  go_enter Try.func61, Try.ntmps61
  go_wp2_with (first | (go_at_call 56; clear m1; refine (checkAll_bad _ _ _ _ _ _ _ _ (by omega) HR.out HE.out).mono ?_; rintro e w1 ⟨rfl, hbw1⟩; have hqw1 : Below w.heap.size w w1 := (by repeat (first | (with_reducible exact Below.refl _ _) | (with_reducible assumption) | (with_reducible refine Below.setCell ?_ (by first | (simp; done) | (simp; omega) | omega) _) | (with_reducible refine Below.alloc ?_ (by first | (simp; done) | (simp; omega) | omega) _) | (refine bl_call ?_ (by assumption) (by first | (simp; done) | (simp; omega) | omega)) | (with_reducible refine bl_drewN ?_) | (with_reducible refine Below.drew ?_) | (with_reducible refine bl_grow ?_ (by first | (simp; done) | (simp; omega) | omega)))); have hzw1 := hqw1.size; clear hbw1))
  exact bodyPost_ret (v := .tuple #[.string ⟨#[]⟩, errOf (rowE X Y F n)]) (by simp [results, Try.results61, go_sem, *]) rfl ⟨rfl, by repeat (first | (with_reducible exact Below.refl _ _) | (with_reducible assumption) | (with_reducible refine Below.setCell ?_ (by first | (simp; done) | (simp; omega) | omega) _) | (with_reducible refine Below.alloc ?_ (by first | (simp; done) | (simp; omega) | omega) _) | (refine bl_call ?_ (by assumption) (by first | (simp; done) | (simp; omega) | omega)) | (with_reducible refine bl_drewN ?_) | (with_reducible refine Below.drew ?_) | (with_reducible refine bl_grow ?_ (by first | (simp; done) | (simp; omega) | omega)))⟩
theorem u8_nat {n : Nat} (h : n ≤ 12) : ((UInt8.ofNat n).toNat : Int) = (n : Int) := by rw [UInt8.toNat_ofNat']; omega
theorem writeByte_n (B b n : Nat) (w : World) (hn : n ≤ 12) (h : Bld B b [] w) (hB : B ≤ w.heap.size) :
    Calls Try.prog 80 #[.pointer (some ⟨b, 0, none⟩), .int .u8 (n : Int)] w fun e w' => e = .returned .nilIface ∧ Bld B b [UInt8.ofNat n] w' ∧ Below B w w' := by
  rw [← u8_nat hn]
  exact (writeByte_bld B b [] (UInt8.ofNat n) w h (by simp) hB).mono fun _ _ ⟨h1, h2, h3, _⟩ => ⟨h1, h2, h3⟩
theorem writeString_pk (B b : Nat) (l : List UInt8) (s : Sn) (w : World) (h : Bld B b l w) (hl : l.length ≤ 1000000) (hB : B ≤ w.heap.size) :
    Calls Try.prog 81 #[.pointer (some ⟨b, 0, none⟩), .string (pkB s)] w fun e w' => e = .returned (.tuple #[.int .i64 (pkL s).length, .nilIface]) ∧ Bld B b (l ++ pkL s) w' ∧ Below B w w' :=
  (writeString_bld B b l (pkL s) w h hl (by have := pkL_le s; omega) hB).mono fun _ _ ⟨h1, h2, h3, _⟩ => ⟨h1, h2, h3⟩
set_option maxRecDepth 100000 in
set_option maxHeartbeats 2000000 in
theorem list_row (b o n c : Nat) (X Y : Nat → Int) (F : Nat → Bool) (K : Nat → Nat) (w : World) (hn : n ≤ 12) (hr : RowO w b o n X Y F) (h : rowE X Y F n = 0) (hK : ∀ i, i < n → X i = ((tM (K i)).1 : Int) ∧ Y i = ((tM (K i)).2.1 : Int) ∧ F i = (tM (K i)).2.2) :
    Calls Try.prog 61 #[.slice (some ⟨b, o, none⟩) n c] w fun e w' => e = .returned (.tuple #[.string ⟨(lsL K n).toArray⟩, .nilIface]) ∧ Below w.heap.size w w' := by
  have h1 : ¬ (12 < (n : Int)) := by omega
  have HR : Hid (RowO w b o n X Y F) := hr
  have HE : Hid (rowE X Y F n = 0) := h
  have HK : Hid (∀ i, i < n → X i = ((tM (K i)).1 : Int) ∧ Y i = ((tM (K i)).2.1 : Int) ∧ F i = (tM (K i)).2.2) := hK
  have hb := hr.1
  clear hr h hK
  have m1 : True := trivial
  go_enter Try.func61, Try.ntmps61
  go_wp2_with (first | (go_at_call 56; clear m1; refine (checkAll_all _ _ _ _ _ _ _ _ (by omega) HR.out HE.out).mono ?_; rintro e w1 ⟨rfl, hbw1⟩; have hqw1 : Below w.heap.size w w1 := (by repeat (first | (with_reducible exact Below.refl _ _) | (with_reducible assumption) | (with_reducible refine Below.setCell ?_ (by first | (simp; done) | (simp; omega) | omega) _) | (with_reducible refine Below.alloc ?_ (by first | (simp; done) | (simp; omega) | omega) _) | (refine bl_call ?_ (by assumption) (by first | (simp; done) | (simp; omega) | omega)) | (with_reducible refine bl_drewN ?_) | (with_reducible refine Below.drew ?_) | (with_reducible refine bl_grow ?_ (by first | (simp; done) | (simp; omega) | omega)))); have hzw1 := hqw1.size; clear hbw1) | (go_at_call 80; refine (writeByte_n w1.heap.size w1.heap.size n _ hn (bld_new w1) (by simp)).mono ?_; rintro e w2 ⟨rfl, hB2, hb2⟩))
  have hq2 : Below w1.heap.size w1 w2 := ((Below.refl _ _).alloc (Nat.le_refl _) _).trans hb2
  clear hb2
  go_loopw [23] (fun ti wr => ∃ k : Nat, k ≤ n ∧ ti = .int .i64 k ∧ Bld w1.heap.size w1.heap.size (UInt8.ofNat n :: rowL K k) wr ∧ Below w1.heap.size w1 wr) (fun ti _ => n - (intOf ti).toNat)
  case atStart => exact ⟨0, by omega, rfl, hB2, hq2⟩
  case round =>
    clear hB2 hq2
    obtain ⟨k, hk, rfl, hB, hbl⟩ := hrel
    have hz := hbl.size
    by_cases hlt : k < n
    · have hlt' : (k : Int) < n := by omega
      obtain ⟨c0, c1, c2⟩ := ((HR.out.below hb hqw1).below (by omega) hbl).2 k hlt
      obtain ⟨e0, e1, e2⟩ := HK.out k hlt
      rw [e0] at c0; rw [e1] at c1; rw [e2] at c2
      clear e0 e1 e2
      have HL : Hid ((UInt8.ofNat n :: rowL K k).length ≤ 1000000) := by
        have := rowL_le K k
        unfold Hid; simp only [List.length_cons]; omega
      have HB : Hid (Bld w1.heap.size w1.heap.size (UInt8.ofNat n :: rowL K k) wr) := hB
      clear hB
      go_wp2_with (first | (go_at_call 82; refine (packed_tM (K k) _).mono ?_; rintro e w3 ⟨rfl, hb3⟩; have hq3 : Below wr.heap.size wr w3 := (by repeat (first | (with_reducible exact Below.refl _ _) | (with_reducible assumption) | (with_reducible refine Below.setCell ?_ (by first | (simp; done) | (simp; omega) | omega) _) | (with_reducible refine Below.alloc ?_ (by first | (simp; done) | (simp; omega) | omega) _) | (refine bl_call ?_ (by assumption) (by first | (simp; done) | (simp; omega) | omega)) | (with_reducible refine bl_drewN ?_) | (with_reducible refine Below.drew ?_) | (with_reducible refine bl_grow ?_ (by first | (simp; done) | (simp; omega) | omega)))); have hz3 := hq3.size; clear hb3) | (go_at_call 81; refine (writeString_pk _ _ _ _ _ (HB.out.below hq3) HL.out (by omega)).mono ?_; rintro e w4 ⟨rfl, hB4, hb4⟩))
      go_roundw
      case rel =>
        refine ⟨k + 1, by omega, by simp, ?_, (hbl.trans (hq3.mono (by omega))).trans hb4⟩
        rw [rowL_succ]
        exact hB4
      case measure => simp [intOf]; omega
    · have hlt' : ¬ (k : Int) < n := by omega
      obtain rfl : k = n := by omega
      go_wp2_with (go_at_call 83; refine (string_bld _ _ _ _ hB (by omega)).mono ?_; rintro e w3 ⟨rfl, hb3⟩)
      have hq3 : Below w.heap.size w w3 := hqw1.trans ((hbl.trans hb3).mono hzw1)
      exact bodyPost_ret (v := .tuple #[.string ⟨(lsL K k).toArray⟩, .nilIface]) (by simp [results, Try.results61, go_sem, lsL]) rfl ⟨rfl, hq3⟩
theorem list_nil (sa : Option Addr) (c : Nat) (w : World) : Calls Try.prog 61 #[.slice sa 0 c] w fun e w' => e = .returned (.tuple #[.string ⟨#[0]⟩, .nilIface]) ∧ Below w.heap.size w w' := by
  have m1 : True := trivial
  go_enter Try.func61, Try.ntmps61
  go_wp2_with (first | (go_at_call 56; clear m1; refine (checkAll_nil _ _ _).mono ?_; rintro e w1 ⟨rfl, hbw1⟩; have hqw1 : Below w.heap.size w w1 := (by repeat (first | (with_reducible exact Below.refl _ _) | (with_reducible assumption) | (with_reducible refine Below.setCell ?_ (by first | (simp; done) | (simp; omega) | omega) _) | (with_reducible refine Below.alloc ?_ (by first | (simp; done) | (simp; omega) | omega) _) | (refine bl_call ?_ (by assumption) (by first | (simp; done) | (simp; omega) | omega)) | (with_reducible refine bl_drewN ?_) | (with_reducible refine Below.drew ?_) | (with_reducible refine bl_grow ?_ (by first | (simp; done) | (simp; omega) | omega)))); have hzw1 := hqw1.size; clear hbw1) | (go_at_call 80; refine (writeByte_n w1.heap.size w1.heap.size 0 _ (by omega) (bld_new w1) (by simp)).mono ?_; rintro e w2 ⟨rfl, hB2, hb2⟩))
  have hq2 : Below w1.heap.size w1 w2 := ((Below.refl _ _).alloc (Nat.le_refl _) _).trans hb2
  clear hb2
  go_loopw [23] (fun ti wr => ti = .int .i64 0 ∧ Bld w1.heap.size w1.heap.size [0] wr ∧ Below w1.heap.size w1 wr) (fun _ _ => 0)
  case atStart => exact ⟨rfl, hB2, hq2⟩
  case round =>
    clear hB2 hq2
    obtain ⟨rfl, hB, hbl⟩ := hrel
    have hz := hbl.size
    go_wp2_with (go_at_call 83; refine (string_bld _ _ _ _ hB (by omega)).mono ?_; rintro e w3 ⟨rfl, hb3⟩)
    have hq3 : Below w.heap.size w w3 := hqw1.trans ((hbl.trans hb3).mono hzw1)
    exact bodyPost_ret (v := .tuple #[.string ⟨#[0]⟩, .nilIface]) (by simp [results, Try.results61, go_sem]) rfl ⟨rfl, hq3⟩
end Go.Proofs.Ytmijjjdedadklaj
/- Gate -/
namespace Go.Proofs.Ytmijjjdedadklaj
open Go.RowKit Go.Sort
set_option linter.unusedVariables false

section
variable {P : Program} {md : Region.Mode} {C : World → Prop} {ops : Array Oper} {Q : Exit → Act → World → Prop} {l1 l2 : List Oper}

theorem wpAny_more : ∀ (f : Nat) (L : Array Bool) (a : Act) (w : World), wpAny P md ops Q f L a w → wpAny P md ops Q (f + 1) L a w
  | 0, _, _, _, h => ⟨fun _ => h.2, by rw [h.1]; intro i hi; cases hi⟩
  | f + 1, _, _, _, h => ⟨h.1, fun i hi => wpOp_mono (fun a' w' h' => wpAny_more f _ a' w' h') (h.2 i hi)⟩
theorem wpAny_more' (k : Nat) {f : Nat} {L : Array Bool} {a : Act} {w : World} (h : wpAny P md ops Q f L a w) : wpAny P md ops Q (k + f) L a w := by
  induction k with
  | zero => rwa [Nat.zero_add]
  | succ k ih => rw [Nat.succ_add]; exact wpAny_more _ _ _ _ ih

/-- Each operation from n on waits for number n - 1 or for a later one. -/
def gateB (md : Region.Mode) (n : Nat) (ops : Array Oper) : Bool :=
  (List.range ops.size).all fun j => Nat.blt j n || ((ops[j]?).map fun o => o.after.any fun e => Region.binds md e && Nat.blt n (e.on + 2)).getD true
theorem gateB_spec {n : Nat} (h : gateB md n ops = true) {j : Nat} {o : Oper} (ho : ops[j]? = some o) (hj : n ≤ j) : ∃ e ∈ o.after, Region.binds md e = true ∧ n ≤ e.on + 1 := by
  unfold gateB at h
  rw [List.all_eq_true] at h
  have hs : j < ops.size := (Array.getElem?_eq_some_iff.1 ho).1
  have h1 := h j (List.mem_range.2 hs)
  have hn : Nat.blt j n = false := by rw [← Bool.not_eq_true, Nat.blt_eq]; omega
  rw [hn, Bool.false_or, ho] at h1
  simp only [Option.map_some, Option.getD_some] at h1
  rw [Array.any_eq_true] at h1
  obtain ⟨k, hk, h2⟩ := h1
  rw [Bool.and_eq_true, Nat.blt_eq] at h2
  exact ⟨o.after[k], Array.getElem_mem hk, h2.1, by omega⟩
theorem app_lt {j : Nat} (h : j < l1.length) : (l1 ++ l2).toArray[j]? = l1.toArray[j]? := by simp [List.getElem?_append_left h]
theorem getD_app {L : Array Bool} {n j : Nat} : (L ++ Array.replicate n false).getD j false = L.getD j false := by
  simp only [Array.getD_eq_getD_getElem?, Array.getElem?_append]
  split
  · rfl
  · rename_i h
    rw [Array.getElem?_eq_none (xs := L) (by omega), Array.getElem?_replicate]
    split <;> rfl
theorem ready_app {L : Array Bool} (hL : L.size = l1.length) {n j : Nat} (hj : j < l1.length) :
    j ∈ Region.ready md (l1 ++ l2).toArray (L ++ Array.replicate n false) ↔ j ∈ Region.ready md l1.toArray L := by
  rw [mem_ready, mem_ready, getD_tf (by simp; omega), getD_tf (by omega), getD_app, app_lt hj]
  constructor
  · rintro ⟨h0, x, hx, hall⟩
    exact ⟨h0, x, hx, fun e he hbe => by rw [← hall e he hbe, getD_app]⟩
  · rintro ⟨h0, x, hx, hall⟩
    exact ⟨h0, x, hx, fun e he hbe => by rw [← hall e he hbe, getD_app]⟩
theorem all_stuck {L : Array Bool} (hL : L.size = l1.length) (hb : backB l1.toArray = true) (hr : Region.ready md l1.toArray L = []) :
    ∀ n j, j < n → j < l1.length → L.getD j false = true := by
  intro n
  induction n with
  | zero => intro j h; omega
  | succ n ih =>
    intro j h hj
    by_cases hjn : j < n
    · exact ih j hjn hj
    · obtain ⟨x, hx⟩ : ∃ x, l1.toArray[j]? = some x := ⟨l1[j], by simp [hj]⟩
      cases hv : L.getD j false with
      | true => rfl
      | false =>
        exfalso
        have : j ∈ Region.ready md l1.toArray L := mem_ready.2 ⟨by rw [getD_tf (by omega)]; exact hv, x, hx, fun e he _ => ih e.on (by have := backB_spec hb hx e he; omega) (by have := backB_spec hb hx e he; omega)⟩
        rw [hr] at this; cases this
theorem all_gate {L : Array Bool} (hl : lastB md l1.toArray = true) (hc : Closed md l1.toArray L) (hg : L.getD (l1.length - 1) false = true) :
    ∀ n j, l1.length - 1 - n ≤ j → j < l1.length → L.getD j false = true := by
  intro n
  induction n with
  | zero => intro j h1 h2; rwa [show j = l1.length - 1 by omega]
  | succ n ih =>
    intro j h1 h2
    by_cases hj : j = l1.length - 1
    · rwa [hj]
    · obtain ⟨k, x, hjk, hx, e, he, hbe, hon⟩ := lastB_spec hl (i := j) (by simp; omega)
      have hk : k < l1.length := by have := (Array.getElem?_eq_some_iff.1 hx).1; simpa using this
      have := hc k x hx (ih k (by omega) hk) e he hbe
      rwa [hon] at this
theorem all_later {L : Array Bool} (hL : L.size = l1.length) (h0 : 0 < l1.length) (hl : lastB md l1.toArray = true) (hG : gateB md l1.length (l1 ++ l2).toArray = true) (hc : Closed md l1.toArray L) {n j : Nat} (hj : l1.length ≤ j)
    (hr : j ∈ Region.ready md (l1 ++ l2).toArray (L ++ Array.replicate n false)) : ∀ i, i < l1.length → L.getD i false = true := by
  obtain ⟨_, x, hx, hall⟩ := mem_ready.1 hr
  obtain ⟨e, he, hbe, hon⟩ := gateB_spec hG hx hj
  have h1 := hall e he hbe
  rw [getD_app] at h1
  have h2 : e.on < L.size := by
    rcases Nat.lt_or_ge e.on L.size with h | h
    · exact h
    · simp [Array.getD_eq_getD_getElem?, Array.getElem?_eq_none h] at h1
  have h3 : e.on = l1.length - 1 := by omega
  rw [h3] at h1
  exact fun i hi => all_gate hl hc h1 l1.length i (by omega) hi
theorem all_is {L : Array Bool} (hL : L.size = l1.length) (h : ∀ i, i < l1.length → L.getD i false = true) : L = Array.replicate l1.length true := by
  apply Array.ext
  · simpa using hL
  · intro i h1 h2
    have := h i (by omega)
    simp only [Array.getD_eq_getD_getElem?, Array.getElem?_eq_getElem h1, Option.getD_some] at this
    rw [this]; simp

theorem wpAny_gate {Q' : Act → Prop} (h0 : 0 < l1.length) (hg : l1.all (fun o => o.guard.isNone) = true) (hb : backB l1.toArray = true) (hl : lastB md l1.toArray = true) (hG : gateB md l1.length (l1 ++ l2).toArray = true)
    (hQ : ∀ a w, C w → Q' a → wpAny P md (l1 ++ l2).toArray Q l2.length (Array.replicate l1.length true ++ Array.replicate l2.length false) a w) :
    ∀ (fuel : Nat) (L : Array Bool) (a : Act) (w : World), L.size = l1.length → Closed md l1.toArray L → C w →
      wpAnyQ P md l1.toArray C Q' fuel L a → wpAny P md (l1 ++ l2).toArray Q (fuel + l2.length) (L ++ Array.replicate l2.length false) a w := by
  intro fuel
  induction fuel with
  | zero =>
    intro L a w hL hcl hC h
    rw [all_is hL (fun i hi => all_stuck hL hb h.1 l1.length i hi hi), Nat.zero_add]
    exact hQ a w hC h.2
  | succ fuel ih =>
    intro L a w hL hcl hC h
    by_cases hall : ∀ i, i < l1.length → L.getD i false = true
    · rw [all_is hL hall]
      exact wpAny_more' _ (hQ a w hC (h.1 (ready_nil_of_all hL hall)))
    · rw [Nat.succ_add]
      refine ⟨fun hr => ?_, fun i hi => ?_⟩
      · exfalso
        refine hall fun i hi => all_stuck (md := md) hL hb ?_ l1.length i hi hi
        cases e : Region.ready md l1.toArray L with
        | nil => rfl
        | cons j r =>
          exfalso
          have hm : j ∈ Region.ready md l1.toArray L := by rw [e]; simp
          obtain ⟨_, x, hx, _⟩ := mem_ready.1 hm
          have hj : j < l1.length := by have := (Array.getElem?_eq_some_iff.1 hx).1; simpa using this
          have := (ready_app (l2 := l2) (n := l2.length) hL hj).2 hm
          rw [hr] at this; cases this
      · have hi2 : i < l1.length := by
          rcases Nat.lt_or_ge i l1.length with h' | h'
          · exact h'
          · exact absurd (all_later hL h0 hl hG hcl h' hi) hall
        have hm := (ready_app hL hi2).1 hi
        have hset : (L ++ Array.replicate l2.length false).setIfInBounds i true = L.setIfInBounds i true ++ Array.replicate l2.length false := by
          rw [Array.setIfInBounds_append_left (by omega)]
        have hcl' : Closed md l1.toArray (L.setIfInBounds i true) := by
          intro j x hx hj e he hbe
          by_cases h1 : i = e.on
          · rw [← h1]; exact getD_set_self (by omega)
          · rw [getD_set_other h1]
            by_cases h2 : i = j
            · subst h2
              obtain ⟨_, y, hy, hall'⟩ := mem_ready.1 hm
              rw [hx] at hy; obtain rfl := Option.some.inj hy
              exact hall' e he hbe
            · rw [getD_set_other h2] at hj
              exact hcl j x hx hj e he hbe
        have hw := wpOp_of_qOp (P := P) (Q' := Q) (K' := fun a' w' => wpAny P md (l1 ++ l2).toArray Q (fuel + l2.length) ((L ++ Array.replicate l2.length false).setIfInBounds i true) a' w') hC
          (fun a' w' hC' hk => by rw [hset]; exact ih _ a' w' (by simpa using hL) hcl' hC' hk) (h.2 i hm)
        unfold wpOp at hw ⊢
        rw [app_lt hi2]
        obtain ⟨x, hx⟩ : ∃ x, l1.toArray[i]? = some x := ⟨l1[i], by simp [hi2]⟩
        have hgx : x.guard = none := by
          rw [List.all_eq_true] at hg
          have := hg x (List.mem_of_getElem? (by simpa using hx))
          simpa using this
        simp only [hx, Region.wanted, hgx, if_true] at hw ⊢
        exact hw
/-- The whole check of a region, of which the first n operations only read. -/
def quietGateB (n : Nat) (ops : List Oper) : Bool :=
  Nat.blt 0 (ops.take n).length && Region.lexB .any (ops.take n).toArray && backB (ops.take n).toArray && lastB .any (ops.take n).toArray && gateB .any (ops.take n).length ops.toArray && (ops.take n).all (fun o => o.guard.isNone)

theorem region_gate (n : Nat) {id : Nat} {a : Act} {w : World} {ops : List Oper} (hm : P.follows .mixedOrders = true) (hB : quietGateB n ops = true) (hC : C { w with drawn := w.drawn + 1 })
    (h : wpQuiet P (ops.take n).toArray C (fun a' => ∀ w', C w' → wpAny P .any ops.toArray Q (ops.drop n).length (Array.replicate (ops.take n).length true ++ Array.replicate (ops.drop n).length false) a' w') (ops.take n) a) : (Code.region id ops.toArray true).wp P Q a w := by
  simp only [quietGateB, Bool.and_eq_true] at hB
  obtain ⟨⟨⟨⟨⟨h0, h1⟩, h2⟩, h3⟩, h4⟩, h5⟩ := hB
  rw [Nat.blt_eq] at h0
  have hops : ops = ops.take n ++ ops.drop n := (List.take_append_drop n ops).symm
  generalize hL1 : ops.take n = l1 at *
  generalize hL2 : ops.drop n = l2 at *
  subst hops
  simp only [Region.lexB, Bool.and_eq_true] at h1
  have hlex := wpAnyQ_lex (C := C) (md := .any) h1.1 l1 0 (Array.replicate l1.toArray.size false) a (by simp) (by simpa using h1.2) h
  refine wp_region_any hm ?_
  have := wpAny_gate (P := P) (md := .any) (C := C) (Q := Q) (Q' := fun a' => ∀ w', C w' → wpAny P .any (l1 ++ l2).toArray Q l2.length (Array.replicate l1.length true ++ Array.replicate l2.length false) a' w') h0 h5 h2 h3 h4 (fun a' w' hC' hq => hq w' hC') l1.length (Array.replicate l1.length false) a { w with drawn := w.drawn + 1 } (by simp)
    (by
      intro j x hx hj
      simp only [Array.getD_eq_getD_getElem?, Array.getElem?_replicate] at hj
      split at hj <;> simp at hj)
    hC (by simpa using hlex)
  have e1 : (l1 ++ l2).toArray.size = l1.length + l2.length := by simp
  have e2 : Array.replicate (l1.length + l2.length) false = Array.replicate l1.length false ++ Array.replicate l2.length false := by
    rw [Array.replicate_append_replicate]
  rw [e1, e2]
  exact this
/-- The same, for operations that are written out; behind the first part the memory is a letter. -/
theorem below_gate (n m : Nat) (L : Array Bool) {id : Nat} {a : Act} {w : World} {ops : List Oper} (hm : P.follows .mixedOrders = true) (hB : quietGateB n ops = true)
    (hlm : (ops.drop n).length = m) (hL : Array.replicate (ops.take n).length true ++ Array.replicate (ops.drop n).length false = L)
    (h : wpQuiet P (ops.take n).toArray (fun w' => ∃ p : Regrown, w' = grow (redrawn w p.d) p.os) (fun a' => ∀ w', (∃ p : Regrown, w' = grow (redrawn w p.d) p.os) → wpAny P .any ops.toArray Q m L a' w') (ops.take n) a) : (Code.region id ops.toArray true).wp P Q a w := by
  subst hlm hL
  exact region_gate n (C := fun w' => ∃ p : Regrown, w' = grow (redrawn w p.d) p.os) hm hB ⟨⟨w.drawn + 1, #[]⟩, by rw [grow_empty]; rfl⟩ h
end
end Go.Proofs.Ytmijjjdedadklaj
/- BookA -/
namespace Go.Proofs.Ytmijjjdedadklaj
open Go.RowKit Go.Sort
set_option linter.unusedVariables false
set_option linter.unusedSimpArgs false
theorem bb_lt {W w1 : World} (hb : Below W.heap.size W w1) : ∀ b, b < W.heap.size → b < w1.heap.size := fun b h => Nat.lt_of_lt_of_le h hb.size
theorem bb_ne {W w1 : World} (hb : Below W.heap.size W w1) : ∀ b, b < W.heap.size → (b = w1.heap.size) = False := fun b h => eq_false (Nat.ne_of_lt (bb_lt hb b h))
theorem bb_ne2 {W w1 : World} (hb : Below W.heap.size W w1) : ∀ b, b < W.heap.size → (w1.heap.size = b) = False := fun b h => eq_false (Nat.ne_of_gt (bb_lt hb b h))
theorem brow_up {n : Nat} {sl : Option Addr} {X Y : Nat → Int} {F : Nat → Bool} {w W : World} (h : (n = 0 ∨ ∃ b o : Nat, sl = some ⟨b, o, none⟩ ∧ RowO w b o n X Y F)) (k : Below w.heap.size w W) : (n = 0 ∨ ∃ b o : Nat, sl = some ⟨b, o, none⟩ ∧ RowO W b o n X Y F) := h.imp_right fun ⟨b, o, e, r⟩ => ⟨b, o, e, r.below r.1 k⟩
theorem brz_up {m : Nat} {sz : Option Addr} {Z : Nat → Int} {w W : World} (h : (m = 0 ∨ ∃ b o : Nat, sz = some ⟨b, o, none⟩ ∧ RowI w b o m Z)) (k : Below w.heap.size w W) : (m = 0 ∨ ∃ b o : Nat, sz = some ⟨b, o, none⟩ ∧ RowI W b o m Z) := h.imp_right fun ⟨b, o, e, r⟩ => ⟨b, o, e, r.below r.1 k⟩
theorem brow_zero {X Y : Nat → Int} {F : Nat → Bool} {K : Nat → Nat} : ∀ {n : Nat}, (∀ i, i < n → X i = ((tM (K i)).1 : Int) ∧ Y i = ((tM (K i)).2.1 : Int) ∧ F i = (tM (K i)).2.2) → rowE X Y F n = 0
  | 0, _ => rfl
  | n + 1, h => by
    obtain ⟨a, b, c⟩ := h n (by omega)
    unfold rowE
    rw [brow_zero (n := n) (fun i hi => h i (by omega)), a, b, c]
    exact ck_tM _
theorem bone_at {w : World} {b : Nat} (h : w.heap.size = b) (x : Value) (t : TypeId) : ∀ j u, [x][j]? = some u → (w.alloc (.cells #[x] t)).cell? ((⟨b, 0, none⟩ : Addr).add j) = some u := one_at h x t
theorem bfour_at {w : World} {b : Nat} (h : w.heap.size = b) (x y z t : Value) (s : TypeId) : ∀ j u, [x, y, z, t][j]? = some u → (w.alloc (.cells #[x, y, z, t] s)).cell? ((⟨b, 0, none⟩ : Addr).add j) = some u := by
  subst h
  intro j u hj
  rw [addr_add]
  match j, hj with
  | 0, hj => simp at hj; subst hj; simp
  | 1, hj => simp at hj; subst hj; simp
  | 2, hj => simp at hj; subst hj; simp
  | 3, hj => simp at hj; subst hj; simp
/-- Has it been marked? -/
theorem mk_dup {Z : Nat → Int} {z : Nat} : ∀ {k : Nat}, (∀ i, i < k → 0 ≤ Z i) → mkG (fun _ => false) Z k z = dupB Z (z : Int) k
  | 0, _ => rfl
  | k + 1, h => by
    show setB (mkG (fun _ => false) Z k) (Z k).toNat z = (dupB Z (z : Int) k || (Z k == (z : Int)))
    have h0 := h k (by omega)
    by_cases e : z = (Z k).toNat
    · have e2 : Z k = (z : Int) := by omega
      rw [← e, setB_at, e2]; simp
    · have e2 : (Z k == (z : Int)) = false := by rw [beq_eq_false_iff_ne]; omega
      rw [setB_ne _ e, e2, mk_dup fun i hi => h i (by omega), Bool.or_false]
theorem go_nonneg {n : Nat} {G : Nat → Bool} {Z : Nat → Int} {t : Nat} (h : ∀ i, i < t → goE n G Z i = 0) : ∀ i, i < t → 0 ≤ Z i := fun i hi => (inN_yes (goE_ok (h i hi)).1).1
theorem go_many {n : Nat} {G : Nat → Bool} {Z : Nat → Int} {m : Nat} (h : ∀ i, i < m → goE n G Z i = 0) : m ≤ n := by
  have h1 := (tt_mark (K := fun _ => 0) h).2
  have h2 := lvL_len G n
  omega
theorem bmade (n : Nat) : (madeCells #[Value.bool false] n).toList = cellsB (mkG (fun _ => false) (fun _ => 0) 0) n := by
  rw [toList_madeCells_one]
  unfold cellsB mkG
  refine List.ext_getElem? fun i => ?_
  by_cases h : i < n
  · simp [h]
  · simp [h]
theorem beinfo : (Try.prog.info? 26).map (fun i => (i.zero, i.size, i.bytes)) = some (some (.agg #[.int .i64 0, .int .i64 0, .bool false]), 3, 24) := by kernel_rfl
theorem bisnum {n : Int} {t : Bool} (ht : resB n = t) (w : World) : Calls Try.prog 37 #[.int .i64 n] w fun e w' => e = .returned (.bool t) ∧ w' = w := by
  subst ht
  by_cases h : n ≥ 0
  · by_cases h2 : n < 1013
    · rw [show resB n = true from decide_eq_true ⟨h, h2⟩]
      go_enter Try.func37, Try.ntmps37
      go_wp2_with fail
      go_ret
      exact ⟨rfl, rfl⟩
    · rw [show resB n = false from decide_eq_false fun k => h2 k.2]
      go_enter Try.func37, Try.ntmps37
      go_wp2_with fail
      go_ret
      exact ⟨rfl, rfl⟩
  · rw [show resB n = false from decide_eq_false fun k => h k.1]
    go_enter Try.func37, Try.ntmps37
    go_wp2_with fail
    go_ret
    exact ⟨rfl, rfl⟩
set_option maxRecDepth 100000 in
set_option maxHeartbeats 8000000 in
theorem bask_no (x1 y1 x2 y2 cc : Int) (f1 f2 : Bool) (w : World) (h : ∀ W j, RowO W j 0 2 (twoR x1 x2) (twoR y1 y2) (twoR f1 f2) → Calls Try.prog 61 #[.slice (some ⟨j, 0, none⟩) 2 2] W fun e w' => e = .returned (.tuple #[.string ⟨#[]⟩, errOf cc]) ∧ Below W.heap.size W w') : Calls Try.prog 38 #[.agg #[.int .i64 x1, .int .i64 y1, .bool f1], .agg #[.int .i64 x2, .int .i64 y2, .bool f2]] w fun e w' => e = .returned (.tuple #[.int .i64 0, errOf cc]) ∧ Below w.heap.size w w' := by
  have HL : Hid (∀ W j, RowO W j 0 2 (twoR x1 x2) (twoR y1 y2) (twoR f1 f2) → Calls Try.prog 61 #[.slice (some ⟨j, 0, none⟩) 2 2] W fun e w' => e = .returned (.tuple #[.string ⟨#[]⟩, errOf cc]) ∧ Below W.heap.size W w') := h
  clear h
  go_enter Try.func38, Try.ntmps38
  go_upto_region 1 with fail
  refine wp_gen (fun V => At V (w.heap.size) [.int .i64 x1, .int .i64 y1, .bool f1] ∧ At V (w.heap.size + 1) [.int .i64 x2, .int .i64 y2, .bool f2] ∧ Below w.heap.size w V) ⟨by repeat (first | (with_reducible assumption) | ((with_reducible refine at_new' _ _ _ _ ?_); (first | rfl | (simp; done))) | (with_reducible refine At.alloc ?_ _) | (with_reducible refine At.drew ?_) | (with_reducible refine At.drewN ?_) | (with_reducible refine At.set ?_ (by omega)) | (with_reducible apply At.store4) | (with_reducible apply At.store3) | (with_reducible apply At.store2) | (with_reducible apply At.put43) | (refine At.below ?_ (by with_reducible assumption))), by repeat (first | (with_reducible assumption) | ((with_reducible refine at_new' _ _ _ _ ?_); (first | rfl | (simp; done))) | (with_reducible refine At.alloc ?_ _) | (with_reducible refine At.drew ?_) | (with_reducible refine At.drewN ?_) | (with_reducible refine At.set ?_ (by omega)) | (with_reducible apply At.store4) | (with_reducible apply At.store3) | (with_reducible apply At.store2) | (with_reducible apply At.put43) | (refine At.below ?_ (by with_reducible assumption))), by repeat (first | (with_reducible exact Below.refl _ _) | (with_reducible assumption) | (with_reducible refine Below.setCell ?_ (by first | (simp; done) | (simp; omega) | omega) _) | (with_reducible refine Below.alloc ?_ (by first | (simp; done) | (simp; omega) | omega) _) | (refine bl_call ?_ (by assumption) (by first | (simp; done) | (simp; omega) | omega)) | (with_reducible refine bl_drewN ?_) | (with_reducible refine Below.drew ?_) | (with_reducible refine bl_grow ?_ (by first | (simp; done) | (simp; omega) | omega)))⟩ ?_
  rintro V ⟨krV, keV, hqV⟩
  have hzV := hqV.size
  obtain ⟨zrV, cr0V, cr1V, cr2V, fr0V, fr1V, fr2V⟩ := krV.three
  obtain ⟨zeV, ce0V, ce1V, ce2V, fe0V, fe1V, fe2V⟩ := keV.three
  go_wp2_with (go_at_call 61; refine (HL.out _ V.heap.size ⟨by simp, fun i hi => by rcases lt_two hi with rfl | rfl <;> exact ⟨by simp [two_0, two_1], by simp [two_0, two_1], by simp [two_0, two_1]⟩⟩).mono ?_; rintro e w1 ⟨rfl, hb1⟩; have hq1 : Below w.heap.size w w1 := (by repeat (first | (with_reducible exact Below.refl _ _) | (with_reducible assumption) | (with_reducible refine Below.setCell ?_ (by first | (simp; done) | (simp; omega) | omega) _) | (with_reducible refine Below.alloc ?_ (by first | (simp; done) | (simp; omega) | omega) _) | (refine bl_call ?_ (by assumption) (by first | (simp; done) | (simp; omega) | omega)) | (with_reducible refine bl_drewN ?_) | (with_reducible refine Below.drew ?_) | (with_reducible refine bl_grow ?_ (by first | (simp; done) | (simp; omega) | omega)))); have hz1 := hq1.size; clear hb1)
  exact bodyPost_ret (v := .tuple #[.int .i64 0, errOf cc]) (by simp [results, Try.results38, go_sem, *]) rfl ⟨rfl, by repeat (first | (with_reducible exact Below.refl _ _) | (with_reducible assumption) | (with_reducible refine Below.setCell ?_ (by first | (simp; done) | (simp; omega) | omega) _) | (with_reducible refine Below.alloc ?_ (by first | (simp; done) | (simp; omega) | omega) _) | (refine bl_call ?_ (by assumption) (by first | (simp; done) | (simp; omega) | omega)) | (with_reducible refine bl_drewN ?_) | (with_reducible refine Below.drew ?_) | (with_reducible refine bl_grow ?_ (by first | (simp; done) | (simp; omega) | omega)))⟩
set_option maxRecDepth 100000 in
set_option maxHeartbeats 8000000 in
theorem bask_ok (a b : Nat) (w : World) : Calls Try.prog 38 #[.agg #[.int .i64 ((tM a).1 : Int), .int .i64 ((tM a).2.1 : Int), .bool (tM a).2.2], .agg #[.int .i64 ((tM b).1 : Int), .int .i64 ((tM b).2.1 : Int), .bool (tM b).2.2]] w fun e w' => e = .returned (.tuple #[.int .i64 (baN a b : Int), .nilIface]) ∧ Below w.heap.size w w' := by
  have HL : Hid (∀ W j, RowO W j 0 2 (twoR ((tM a).1 : Int) ((tM b).1 : Int)) (twoR ((tM a).2.1 : Int) ((tM b).2.1 : Int)) (twoR (tM a).2.2 (tM b).2.2) → Calls Try.prog 61 #[.slice (some ⟨j, 0, none⟩) 2 2] W fun e w' => e = .returned (.tuple #[.string (lsB (twoR a b) 2), .nilIface]) ∧ Below W.heap.size W w') := fun W j hr => by
    have hK : ∀ i, i < 2 → twoR ((tM a).1 : Int) ((tM b).1 : Int) i = ((tM (twoR a b i)).1 : Int) ∧ twoR ((tM a).2.1 : Int) ((tM b).2.1 : Int) i = ((tM (twoR a b i)).2.1 : Int) ∧ twoR (tM a).2.2 (tM b).2.2 i = (tM (twoR a b i)).2.2 := fun i hi => by rcases lt_two hi with rfl | rfl <;> exact ⟨rfl, rfl, rfl⟩
    exact list_row j 0 2 2 _ _ _ (twoR a b) W (by omega) hr (brow_zero hK) hK
  have HN : Hid (∀ w, Calls Try.prog 62 #[.string (lsB (twoR a b) 2)] w fun e w' => e = .returned (.int .i64 (baN a b : Int)) ∧ Below w.heap.size w w') := fun w => by
    have := below_of_same (number_any (lsB (twoR a b) 2) w (by have := ls_size (twoR a b) (n := 2) (by omega); omega))
    rwa [baI] at this
  obtain ⟨n, hn⟩ : ∃ n, baN a b = n := ⟨_, rfl⟩
  obtain ⟨t, ht⟩ : ∃ t, lsB (twoR a b) 2 = t := ⟨_, rfl⟩
  rw [hn, ht] at HN
  rw [ht] at HL
  rw [hn]
  clear hn ht
  go_enter Try.func38, Try.ntmps38
  go_upto_region 1 with fail
  refine wp_gen (fun V => At V (w.heap.size) [.int .i64 ((tM a).1 : Int), .int .i64 ((tM a).2.1 : Int), .bool (tM a).2.2] ∧ At V (w.heap.size + 1) [.int .i64 ((tM b).1 : Int), .int .i64 ((tM b).2.1 : Int), .bool (tM b).2.2] ∧ Below w.heap.size w V) ⟨by repeat (first | (with_reducible assumption) | ((with_reducible refine at_new' _ _ _ _ ?_); (first | rfl | (simp; done))) | (with_reducible refine At.alloc ?_ _) | (with_reducible refine At.drew ?_) | (with_reducible refine At.drewN ?_) | (with_reducible refine At.set ?_ (by omega)) | (with_reducible apply At.store4) | (with_reducible apply At.store3) | (with_reducible apply At.store2) | (with_reducible apply At.put43) | (refine At.below ?_ (by with_reducible assumption))), by repeat (first | (with_reducible assumption) | ((with_reducible refine at_new' _ _ _ _ ?_); (first | rfl | (simp; done))) | (with_reducible refine At.alloc ?_ _) | (with_reducible refine At.drew ?_) | (with_reducible refine At.drewN ?_) | (with_reducible refine At.set ?_ (by omega)) | (with_reducible apply At.store4) | (with_reducible apply At.store3) | (with_reducible apply At.store2) | (with_reducible apply At.put43) | (refine At.below ?_ (by with_reducible assumption))), by repeat (first | (with_reducible exact Below.refl _ _) | (with_reducible assumption) | (with_reducible refine Below.setCell ?_ (by first | (simp; done) | (simp; omega) | omega) _) | (with_reducible refine Below.alloc ?_ (by first | (simp; done) | (simp; omega) | omega) _) | (refine bl_call ?_ (by assumption) (by first | (simp; done) | (simp; omega) | omega)) | (with_reducible refine bl_drewN ?_) | (with_reducible refine Below.drew ?_) | (with_reducible refine bl_grow ?_ (by first | (simp; done) | (simp; omega) | omega)))⟩ ?_
  rintro V ⟨krV, keV, hqV⟩
  have hzV := hqV.size
  obtain ⟨zrV, cr0V, cr1V, cr2V, fr0V, fr1V, fr2V⟩ := krV.three
  obtain ⟨zeV, ce0V, ce1V, ce2V, fe0V, fe1V, fe2V⟩ := keV.three
  go_wp2_with (first | (go_at_call 61; refine (HL.out _ V.heap.size ⟨by simp, fun i hi => by rcases lt_two hi with rfl | rfl <;> exact ⟨by simp [two_0, two_1], by simp [two_0, two_1], by simp [two_0, two_1]⟩⟩).mono ?_; rintro e w1 ⟨rfl, hb1⟩; have hq1 : Below w.heap.size w w1 := (by repeat (first | (with_reducible exact Below.refl _ _) | (with_reducible assumption) | (with_reducible refine Below.setCell ?_ (by first | (simp; done) | (simp; omega) | omega) _) | (with_reducible refine Below.alloc ?_ (by first | (simp; done) | (simp; omega) | omega) _) | (refine bl_call ?_ (by assumption) (by first | (simp; done) | (simp; omega) | omega)) | (with_reducible refine bl_drewN ?_) | (with_reducible refine Below.drew ?_) | (with_reducible refine bl_grow ?_ (by first | (simp; done) | (simp; omega) | omega)))); have hz1 := hq1.size; clear hb1) | (go_at_call 62; refine (HN.out _).mono ?_; rintro e w2 ⟨rfl, hb2⟩; have hq2 : Below w.heap.size w w2 := (by repeat (first | (with_reducible exact Below.refl _ _) | (with_reducible assumption) | (with_reducible refine Below.setCell ?_ (by first | (simp; done) | (simp; omega) | omega) _) | (with_reducible refine Below.alloc ?_ (by first | (simp; done) | (simp; omega) | omega) _) | (refine bl_call ?_ (by assumption) (by first | (simp; done) | (simp; omega) | omega)) | (with_reducible refine bl_drewN ?_) | (with_reducible refine Below.drew ?_) | (with_reducible refine bl_grow ?_ (by first | (simp; done) | (simp; omega) | omega)))); clear hb2))
  exact bodyPost_ret (v := .tuple #[.int .i64 (n : Int), .nilIface]) (by simp [results, Try.results38, go_sem, *]) rfl ⟨rfl, by repeat (first | (with_reducible exact Below.refl _ _) | (with_reducible assumption) | (with_reducible refine Below.setCell ?_ (by first | (simp; done) | (simp; omega) | omega) _) | (with_reducible refine Below.alloc ?_ (by first | (simp; done) | (simp; omega) | omega) _) | (refine bl_call ?_ (by assumption) (by first | (simp; done) | (simp; omega) | omega)) | (with_reducible refine bl_drewN ?_) | (with_reducible refine Below.drew ?_) | (with_reducible refine bl_grow ?_ (by first | (simp; done) | (simp; omega) | omega)))⟩
theorem bask_is : BAskIs :=
  ⟨fun x1 y1 x2 y2 f1 f2 w h => bask_no _ _ _ _ _ _ _ w (fun W j hr => list_no j 0 2 2 _ _ _ W (by omega) hr h), fun a b w => bask_ok a b w⟩
/-- The first is right, the second is not. -/
theorem bask_2 (T : Nat) (x2 y2 : Int) (f2 : Bool) (w : World) (h : (ckI x2 y2 f2 == 0) = false) : Calls Try.prog 38 #[.agg #[.int .i64 ((tM T).1 : Int), .int .i64 ((tM T).2.1 : Int), .bool (tM T).2.2], .agg #[.int .i64 x2, .int .i64 y2, .bool f2]] w fun e w' => e = .returned (.tuple #[.int .i64 0, errOf (ckI x2 y2 f2)]) ∧ Below w.heap.size w w' := by
  have e : rowE (twoR ((tM T).1 : Int) x2) (twoR ((tM T).2.1 : Int) y2) (twoR (tM T).2.2 f2) 2 = ckI x2 y2 f2 := by
    have h1 : rowE (twoR ((tM T).1 : Int) x2) (twoR ((tM T).2.1 : Int) y2) (twoR (tM T).2.2 f2) 1 = 0 := brow_zero (K := fun _ => T) fun i hi => by
      obtain rfl : i = 0 := by omega
      exact ⟨rfl, rfl, rfl⟩
    unfold rowE
    rw [h1]
    rfl
  have := bask_is.1 ((tM T).1 : Int) ((tM T).2.1 : Int) x2 y2 (tM T).2.2 f2 w (by rw [e]; exact h)
  rwa [e] at this
set_option maxRecDepth 100000 in
set_option maxHeartbeats 8000000 in
theorem bclose_no (r k x1 y1 : Int) (f1 : Bool) (w : World) (h : (resB r && secB k) = false) : Calls Try.prog 10 #[.int .i64 r, .int .i64 k, .agg #[.int .i64 x1, .int .i64 y1, .bool f1]] w fun e w' => e = .returned (.tuple #[.agg #[.int .i64 0, .int .i64 0, .bool false, .int .i64 0], errOf 1]) ∧ Below w.heap.size w w' := by
  cases hv : resB r with
  | false =>
    have H1 : Hid (∀ w, Calls Try.prog 37 #[.int .i64 r] w fun e w' => e = .returned (.bool false) ∧ w' = w) := bisnum hv
    clear hv h
    go_enter Try.func10, Try.ntmps10
    go_wp2_with (go_at_call 37; refine (H1.out _).mono ?_; rintro e v1 ⟨rfl, hv1⟩; subst v1)
    exact bodyPost_ret (v := .tuple #[.agg #[.int .i64 0, .int .i64 0, .bool false, .int .i64 0], errOf 1]) (by simp [results, Try.results10, go_sem, *]) rfl ⟨rfl, by repeat (first | (with_reducible exact Below.refl _ _) | (with_reducible assumption) | (with_reducible refine Below.setCell ?_ (by first | (simp; done) | (simp; omega) | omega) _) | (with_reducible refine Below.alloc ?_ (by first | (simp; done) | (simp; omega) | omega) _) | (refine bl_call ?_ (by assumption) (by first | (simp; done) | (simp; omega) | omega)) | (with_reducible refine bl_drewN ?_) | (with_reducible refine Below.drew ?_) | (with_reducible refine bl_grow ?_ (by first | (simp; done) | (simp; omega) | omega)))⟩
  | true =>
    rw [hv, Bool.true_and] at h
    have H1 : Hid (∀ w, Calls Try.prog 37 #[.int .i64 r] w fun e w' => e = .returned (.bool true) ∧ w' = w) := bisnum hv
    cases hk : resB k with
    | false =>
      have H2 : Hid (∀ w, Calls Try.prog 37 #[.int .i64 k] w fun e w' => e = .returned (.bool false) ∧ w' = w) := bisnum hk
      clear hv h hk
      go_enter Try.func10, Try.ntmps10
      go_wp2_with (first | (go_at_call 37; refine (H1.out _).mono ?_; rintro e v1 ⟨rfl, hv1⟩; subst v1) | (go_at_call 37; refine (H2.out _).mono ?_; rintro e v1 ⟨rfl, hv1⟩; subst v1))
      exact bodyPost_ret (v := .tuple #[.agg #[.int .i64 0, .int .i64 0, .bool false, .int .i64 0], errOf 1]) (by simp [results, Try.results10, go_sem, *]) rfl ⟨rfl, by repeat (first | (with_reducible exact Below.refl _ _) | (with_reducible assumption) | (with_reducible refine Below.setCell ?_ (by first | (simp; done) | (simp; omega) | omega) _) | (with_reducible refine Below.alloc ?_ (by first | (simp; done) | (simp; omega) | omega) _) | (refine bl_call ?_ (by assumption) (by first | (simp; done) | (simp; omega) | omega)) | (with_reducible refine bl_drewN ?_) | (with_reducible refine Below.drew ?_) | (with_reducible refine bl_grow ?_ (by first | (simp; done) | (simp; omega) | omega)))⟩
    | true =>
      have H2 : Hid (∀ w, Calls Try.prog 37 #[.int .i64 k] w fun e w' => e = .returned (.bool true) ∧ w' = w) := bisnum hk
      obtain rfl : k = 0 := by
        have a := of_decide_eq_true (p := 0 ≤ k ∧ k < 1013) hk
        have b := of_decide_eq_false (p := 1 ≤ k ∧ k < 1013) h
        omega
      clear hv h hk
      go_enter Try.func10, Try.ntmps10
      go_wp2_with (first | (go_at_call 37; refine (H1.out _).mono ?_; rintro e v1 ⟨rfl, hv1⟩; subst v1) | (go_at_call 37; refine (H2.out _).mono ?_; rintro e v1 ⟨rfl, hv1⟩; subst v1))
      exact bodyPost_ret (v := .tuple #[.agg #[.int .i64 0, .int .i64 0, .bool false, .int .i64 0], errOf 1]) (by simp [results, Try.results10, go_sem, *]) rfl ⟨rfl, by repeat (first | (with_reducible exact Below.refl _ _) | (with_reducible assumption) | (with_reducible refine Below.setCell ?_ (by first | (simp; done) | (simp; omega) | omega) _) | (with_reducible refine Below.alloc ?_ (by first | (simp; done) | (simp; omega) | omega) _) | (refine bl_call ?_ (by assumption) (by first | (simp; done) | (simp; omega) | omega)) | (with_reducible refine bl_drewN ?_) | (with_reducible refine Below.drew ?_) | (with_reducible refine bl_grow ?_ (by first | (simp; done) | (simp; omega) | omega)))⟩
set_option maxRecDepth 100000 in
set_option maxHeartbeats 8000000 in
theorem bclose_e (h r k : Nat) (T : Sn) (x1 y1 cc : Int) (f1 : Bool) (w : World) (r1 : r < 1013) (k0 : 1 ≤ k) (k1 : k < 1013) (hs : ∀ w, Calls Try.prog 28 #[] w fun e w' => e = .returned (.agg #[.int .i64 ((tM (4 * h)).1 : Int), .int .i64 ((tM (4 * h)).2.1 : Int), .bool (tM (4 * h)).2.2]) ∧ Below w.heap.size w w') (he : tM (4 * h * em (k : Int)) = T) (ha : ∀ w, Calls Try.prog 38 #[.agg #[.int .i64 ((T).1 : Int), .int .i64 ((T).2.1 : Int), .bool (T).2.2], .agg #[.int .i64 x1, .int .i64 y1, .bool f1]] w fun e w' => e = .returned (.tuple #[.int .i64 0, errOf cc]) ∧ Below w.heap.size w w') : Calls Try.prog 10 #[.int .i64 (r : Int), .int .i64 (k : Int), .agg #[.int .i64 x1, .int .i64 y1, .bool f1]] w fun e w' => e = .returned (.tuple #[.agg #[.int .i64 0, .int .i64 0, .bool false, .int .i64 0], errOf cc]) ∧ Below w.heap.size w w' := by
  have H1 : Hid (∀ w, Calls Try.prog 37 #[.int .i64 (r : Int)] w fun e w' => e = .returned (.bool true) ∧ w' = w) := bisnum (decide_eq_true ⟨by omega, by omega⟩)
  have H2 : Hid (∀ w, Calls Try.prog 37 #[.int .i64 (k : Int)] w fun e w' => e = .returned (.bool true) ∧ w' = w) := bisnum (decide_eq_true ⟨by omega, by omega⟩)
  have hk0 : ((k : Int) == 0) = false := by rw [beq_eq_false_iff_ne]; omega
  have HS : Hid (∀ w, Calls Try.prog 28 #[] w fun e w' => e = .returned (.agg #[.int .i64 ((tM (4 * h)).1 : Int), .int .i64 ((tM (4 * h)).2.1 : Int), .bool (tM (4 * h)).2.2]) ∧ Below w.heap.size w w') := hs
  have E : Hid (tM (4 * h * em (k : Int)) = T) := he
  have HA : Hid (∀ w, Calls Try.prog 38 #[.agg #[.int .i64 ((T).1 : Int), .int .i64 ((T).2.1 : Int), .bool (T).2.2], .agg #[.int .i64 x1, .int .i64 y1, .bool f1]] w fun e w' => e = .returned (.tuple #[.int .i64 0, errOf cc]) ∧ Below w.heap.size w w') := ha
  clear hs he ha
  have m1 : True := trivial; have m2 : True := trivial; have m3 : True := trivial
  go_enter Try.func10, Try.ntmps10
  go_wp2_with (first | (go_at_call 37; refine (H1.out _).mono ?_; rintro e v1 ⟨rfl, hv1⟩; subst v1) | (go_at_call 37; refine (H2.out _).mono ?_; rintro e v1 ⟨rfl, hv1⟩; subst v1) | (go_at_call 28; clear m1; refine (HS.out _).mono ?_; rintro e w1 ⟨rfl, hbw1⟩; have kew1 : At w1 (w.heap.size) [.int .i64 x1, .int .i64 y1, .bool f1] := (by repeat (first | (with_reducible assumption) | ((with_reducible refine at_new' _ _ _ _ ?_); (first | rfl | (simp; done))) | (with_reducible refine At.alloc ?_ _) | (with_reducible refine At.drew ?_) | (with_reducible refine At.drewN ?_) | (with_reducible refine At.set ?_ (by omega)) | (with_reducible apply At.store4) | (with_reducible apply At.store3) | (with_reducible apply At.store2) | (with_reducible apply At.put43) | (refine At.below ?_ (by with_reducible assumption)))); have kzw1 : At w1 (w.heap.size + 1) [.int .i64 0, .int .i64 0, .bool false, .int .i64 0] := (by repeat (first | (with_reducible assumption) | ((with_reducible refine at_new' _ _ _ _ ?_); (first | rfl | (simp; done))) | (with_reducible refine At.alloc ?_ _) | (with_reducible refine At.drew ?_) | (with_reducible refine At.drewN ?_) | (with_reducible refine At.set ?_ (by omega)) | (with_reducible apply At.store4) | (with_reducible apply At.store3) | (with_reducible apply At.store2) | (with_reducible apply At.put43) | (refine At.below ?_ (by with_reducible assumption)))); have hqw1 : Below w.heap.size w w1 := (by repeat (first | (with_reducible exact Below.refl _ _) | (with_reducible assumption) | (with_reducible refine Below.setCell ?_ (by first | (simp; done) | (simp; omega) | omega) _) | (with_reducible refine Below.alloc ?_ (by first | (simp; done) | (simp; omega) | omega) _) | (refine bl_call ?_ (by assumption) (by first | (simp; done) | (simp; omega) | omega)) | (with_reducible refine bl_drewN ?_) | (with_reducible refine Below.drew ?_) | (with_reducible refine bl_grow ?_ (by first | (simp; done) | (simp; omega) | omega)))); have hzw1 := hqw1.size; obtain ⟨zew1, ce0w1, ce1w1, ce2w1, fe0w1, fe1w1, fe2w1⟩ := kew1.three; obtain ⟨zzw1, cz0w1, cz1w1, cz2w1, cz3w1, fz0w1, fz1w1, fz2w1, fz3w1⟩ := kzw1.four; clear hbw1) | (go_at_call 26; clear m2; refine (times_eq E.out _).mono ?_; rintro e w2 ⟨rfl, hbw2⟩; have kew2 : At w2 (w.heap.size) [.int .i64 x1, .int .i64 y1, .bool f1] := (by repeat (first | (with_reducible assumption) | ((with_reducible refine at_new' _ _ _ _ ?_); (first | rfl | (simp; done))) | (with_reducible refine At.alloc ?_ _) | (with_reducible refine At.drew ?_) | (with_reducible refine At.drewN ?_) | (with_reducible refine At.set ?_ (by omega)) | (with_reducible apply At.store4) | (with_reducible apply At.store3) | (with_reducible apply At.store2) | (with_reducible apply At.put43) | (refine At.below ?_ (by with_reducible assumption)))); have kzw2 : At w2 (w.heap.size + 1) [.int .i64 0, .int .i64 0, .bool false, .int .i64 0] := (by repeat (first | (with_reducible assumption) | ((with_reducible refine at_new' _ _ _ _ ?_); (first | rfl | (simp; done))) | (with_reducible refine At.alloc ?_ _) | (with_reducible refine At.drew ?_) | (with_reducible refine At.drewN ?_) | (with_reducible refine At.set ?_ (by omega)) | (with_reducible apply At.store4) | (with_reducible apply At.store3) | (with_reducible apply At.store2) | (with_reducible apply At.put43) | (refine At.below ?_ (by with_reducible assumption)))); have hqw2 : Below w.heap.size w w2 := (by repeat (first | (with_reducible exact Below.refl _ _) | (with_reducible assumption) | (with_reducible refine Below.setCell ?_ (by first | (simp; done) | (simp; omega) | omega) _) | (with_reducible refine Below.alloc ?_ (by first | (simp; done) | (simp; omega) | omega) _) | (refine bl_call ?_ (by assumption) (by first | (simp; done) | (simp; omega) | omega)) | (with_reducible refine bl_drewN ?_) | (with_reducible refine Below.drew ?_) | (with_reducible refine bl_grow ?_ (by first | (simp; done) | (simp; omega) | omega)))); have hzw2 := hqw2.size; obtain ⟨zew2, ce0w2, ce1w2, ce2w2, fe0w2, fe1w2, fe2w2⟩ := kew2.three; obtain ⟨zzw2, cz0w2, cz1w2, cz2w2, cz3w2, fz0w2, fz1w2, fz2w2, fz3w2⟩ := kzw2.four; clear kew1 ce0w1 fe0w1 ce1w1 fe1w1 ce2w1 fe2w1 kzw1 cz0w1 fz0w1 cz1w1 fz1w1 cz2w1 fz2w1 cz3w1 fz3w1 hqw1; clear hbw2) | (go_at_call 38; clear m3; refine (HA.out _).mono ?_; rintro e w3 ⟨rfl, hbw3⟩; have kew3 : At w3 (w.heap.size) [.int .i64 x1, .int .i64 y1, .bool f1] := (by repeat (first | (with_reducible assumption) | ((with_reducible refine at_new' _ _ _ _ ?_); (first | rfl | (simp; done))) | (with_reducible refine At.alloc ?_ _) | (with_reducible refine At.drew ?_) | (with_reducible refine At.drewN ?_) | (with_reducible refine At.set ?_ (by omega)) | (with_reducible apply At.store4) | (with_reducible apply At.store3) | (with_reducible apply At.store2) | (with_reducible apply At.put43) | (refine At.below ?_ (by with_reducible assumption)))); have kzw3 : At w3 (w.heap.size + 1) [.int .i64 0, .int .i64 0, .bool false, .int .i64 0] := (by repeat (first | (with_reducible assumption) | ((with_reducible refine at_new' _ _ _ _ ?_); (first | rfl | (simp; done))) | (with_reducible refine At.alloc ?_ _) | (with_reducible refine At.drew ?_) | (with_reducible refine At.drewN ?_) | (with_reducible refine At.set ?_ (by omega)) | (with_reducible apply At.store4) | (with_reducible apply At.store3) | (with_reducible apply At.store2) | (with_reducible apply At.put43) | (refine At.below ?_ (by with_reducible assumption)))); have ktw3 : At w3 (w2.heap.size) [.int .i64 ((T).1 : Int), .int .i64 ((T).2.1 : Int), .bool (T).2.2] := (by repeat (first | (with_reducible assumption) | ((with_reducible refine at_new' _ _ _ _ ?_); (first | rfl | (simp; done))) | (with_reducible refine At.alloc ?_ _) | (with_reducible refine At.drew ?_) | (with_reducible refine At.drewN ?_) | (with_reducible refine At.set ?_ (by omega)) | (with_reducible apply At.store4) | (with_reducible apply At.store3) | (with_reducible apply At.store2) | (with_reducible apply At.put43) | (refine At.below ?_ (by with_reducible assumption)))); have hqw3 : Below w.heap.size w w3 := (by repeat (first | (with_reducible exact Below.refl _ _) | (with_reducible assumption) | (with_reducible refine Below.setCell ?_ (by first | (simp; done) | (simp; omega) | omega) _) | (with_reducible refine Below.alloc ?_ (by first | (simp; done) | (simp; omega) | omega) _) | (refine bl_call ?_ (by assumption) (by first | (simp; done) | (simp; omega) | omega)) | (with_reducible refine bl_drewN ?_) | (with_reducible refine Below.drew ?_) | (with_reducible refine bl_grow ?_ (by first | (simp; done) | (simp; omega) | omega)))); have hzw3 := hqw3.size; obtain ⟨zew3, ce0w3, ce1w3, ce2w3, fe0w3, fe1w3, fe2w3⟩ := kew3.three; obtain ⟨zzw3, cz0w3, cz1w3, cz2w3, cz3w3, fz0w3, fz1w3, fz2w3, fz3w3⟩ := kzw3.four; obtain ⟨ztw3, ct0w3, ct1w3, ct2w3, ft0w3, ft1w3, ft2w3⟩ := ktw3.three; clear kew2 ce0w2 fe0w2 ce1w2 fe1w2 ce2w2 fe2w2 kzw2 cz0w2 fz0w2 cz1w2 fz1w2 cz2w2 fz2w2 cz3w2 fz3w2 hqw2; clear hbw3))
  exact bodyPost_ret (v := .tuple #[.agg #[.int .i64 0, .int .i64 0, .bool false, .int .i64 0], errOf cc]) (by simp [results, Try.results10, go_sem, *]) rfl ⟨rfl, by repeat (first | (with_reducible exact Below.refl _ _) | (with_reducible assumption) | (with_reducible refine Below.setCell ?_ (by first | (simp; done) | (simp; omega) | omega) _) | (with_reducible refine Below.alloc ?_ (by first | (simp; done) | (simp; omega) | omega) _) | (refine bl_call ?_ (by assumption) (by first | (simp; done) | (simp; omega) | omega)) | (with_reducible refine bl_drewN ?_) | (with_reducible refine Below.drew ?_) | (with_reducible refine bl_grow ?_ (by first | (simp; done) | (simp; omega) | omega)))⟩
set_option maxRecDepth 100000 in
set_option maxHeartbeats 8000000 in
theorem bclose_ok (h r k c s : Nat) (T E : Sn) (w : World) (r1 : r < 1013) (k0 : 1 ≤ k) (k1 : k < 1013) (hc : c < 1013) (hs : ∀ w, Calls Try.prog 28 #[] w fun e w' => e = .returned (.agg #[.int .i64 ((tM (4 * h)).1 : Int), .int .i64 ((tM (4 * h)).2.1 : Int), .bool (tM (4 * h)).2.2]) ∧ Below w.heap.size w w') (he : tM (4 * h * em (k : Int)) = T) (ha : ∀ w, Calls Try.prog 38 #[.agg #[.int .i64 ((T).1 : Int), .int .i64 ((T).2.1 : Int), .bool (T).2.2], .agg #[.int .i64 ((E).1 : Int), .int .i64 ((E).2.1 : Int), .bool (E).2.2]] w fun e w' => e = .returned (.tuple #[.int .i64 (c : Int), .nilIface]) ∧ Below w.heap.size w w') (hS : ((k : Int) + (c : Int) * (r : Int)) % 1013 = (s : Int)) : Calls Try.prog 10 #[.int .i64 (r : Int), .int .i64 (k : Int), .agg #[.int .i64 ((E).1 : Int), .int .i64 ((E).2.1 : Int), .bool (E).2.2]] w fun e w' => e = .returned (.tuple #[.agg #[.int .i64 ((T).1 : Int), .int .i64 ((T).2.1 : Int), .bool (T).2.2, .int .i64 (s : Int)], .nilIface]) ∧ Below w.heap.size w w' := by
  have H1 : Hid (∀ w, Calls Try.prog 37 #[.int .i64 (r : Int)] w fun e w' => e = .returned (.bool true) ∧ w' = w) := bisnum (decide_eq_true ⟨by omega, by omega⟩)
  have H2 : Hid (∀ w, Calls Try.prog 37 #[.int .i64 (k : Int)] w fun e w' => e = .returned (.bool true) ∧ w' = w) := bisnum (decide_eq_true ⟨by omega, by omega⟩)
  have hk0 : ((k : Int) == 0) = false := by rw [beq_eq_false_iff_ne]; omega
  have HS : Hid (∀ w, Calls Try.prog 28 #[] w fun e w' => e = .returned (.agg #[.int .i64 ((tM (4 * h)).1 : Int), .int .i64 ((tM (4 * h)).2.1 : Int), .bool (tM (4 * h)).2.2]) ∧ Below w.heap.size w w') := hs
  have ET : Hid (tM (4 * h * em (k : Int)) = T) := he
  have HA : Hid (∀ w, Calls Try.prog 38 #[.agg #[.int .i64 ((T).1 : Int), .int .i64 ((T).2.1 : Int), .bool (T).2.2], .agg #[.int .i64 ((E).1 : Int), .int .i64 ((E).2.1 : Int), .bool (E).2.2]] w fun e w' => e = .returned (.tuple #[.int .i64 (c : Int), .nilIface]) ∧ Below w.heap.size w w') := ha
  obtain ⟨b1, b2⟩ := sg_bd hc r1 k1
  clear hs he ha
  have m1 : True := trivial; have m2 : True := trivial; have m3 : True := trivial
  go_enter Try.func10, Try.ntmps10
  go_wp2_with (first | (go_at_call 37; refine (H1.out _).mono ?_; rintro e v1 ⟨rfl, hv1⟩; subst v1) | (go_at_call 37; refine (H2.out _).mono ?_; rintro e v1 ⟨rfl, hv1⟩; subst v1) | (go_at_call 28; clear m1; refine (HS.out _).mono ?_; rintro e w1 ⟨rfl, hbw1⟩; have kew1 : At w1 (w.heap.size) [.int .i64 ((E).1 : Int), .int .i64 ((E).2.1 : Int), .bool (E).2.2] := (by repeat (first | (with_reducible assumption) | ((with_reducible refine at_new' _ _ _ _ ?_); (first | rfl | (simp; done))) | (with_reducible refine At.alloc ?_ _) | (with_reducible refine At.drew ?_) | (with_reducible refine At.drewN ?_) | (with_reducible refine At.set ?_ (by omega)) | (with_reducible apply At.store4) | (with_reducible apply At.store3) | (with_reducible apply At.store2) | (with_reducible apply At.put43) | (refine At.below ?_ (by with_reducible assumption)))); have kzw1 : At w1 (w.heap.size + 1) [.int .i64 0, .int .i64 0, .bool false, .int .i64 0] := (by repeat (first | (with_reducible assumption) | ((with_reducible refine at_new' _ _ _ _ ?_); (first | rfl | (simp; done))) | (with_reducible refine At.alloc ?_ _) | (with_reducible refine At.drew ?_) | (with_reducible refine At.drewN ?_) | (with_reducible refine At.set ?_ (by omega)) | (with_reducible apply At.store4) | (with_reducible apply At.store3) | (with_reducible apply At.store2) | (with_reducible apply At.put43) | (refine At.below ?_ (by with_reducible assumption)))); have hqw1 : Below w.heap.size w w1 := (by repeat (first | (with_reducible exact Below.refl _ _) | (with_reducible assumption) | (with_reducible refine Below.setCell ?_ (by first | (simp; done) | (simp; omega) | omega) _) | (with_reducible refine Below.alloc ?_ (by first | (simp; done) | (simp; omega) | omega) _) | (refine bl_call ?_ (by assumption) (by first | (simp; done) | (simp; omega) | omega)) | (with_reducible refine bl_drewN ?_) | (with_reducible refine Below.drew ?_) | (with_reducible refine bl_grow ?_ (by first | (simp; done) | (simp; omega) | omega)))); have hzw1 := hqw1.size; obtain ⟨zew1, ce0w1, ce1w1, ce2w1, fe0w1, fe1w1, fe2w1⟩ := kew1.three; obtain ⟨zzw1, cz0w1, cz1w1, cz2w1, cz3w1, fz0w1, fz1w1, fz2w1, fz3w1⟩ := kzw1.four; clear hbw1) | (go_at_call 26; clear m2; refine (times_eq ET.out _).mono ?_; rintro e w2 ⟨rfl, hbw2⟩; have kew2 : At w2 (w.heap.size) [.int .i64 ((E).1 : Int), .int .i64 ((E).2.1 : Int), .bool (E).2.2] := (by repeat (first | (with_reducible assumption) | ((with_reducible refine at_new' _ _ _ _ ?_); (first | rfl | (simp; done))) | (with_reducible refine At.alloc ?_ _) | (with_reducible refine At.drew ?_) | (with_reducible refine At.drewN ?_) | (with_reducible refine At.set ?_ (by omega)) | (with_reducible apply At.store4) | (with_reducible apply At.store3) | (with_reducible apply At.store2) | (with_reducible apply At.put43) | (refine At.below ?_ (by with_reducible assumption)))); have kzw2 : At w2 (w.heap.size + 1) [.int .i64 0, .int .i64 0, .bool false, .int .i64 0] := (by repeat (first | (with_reducible assumption) | ((with_reducible refine at_new' _ _ _ _ ?_); (first | rfl | (simp; done))) | (with_reducible refine At.alloc ?_ _) | (with_reducible refine At.drew ?_) | (with_reducible refine At.drewN ?_) | (with_reducible refine At.set ?_ (by omega)) | (with_reducible apply At.store4) | (with_reducible apply At.store3) | (with_reducible apply At.store2) | (with_reducible apply At.put43) | (refine At.below ?_ (by with_reducible assumption)))); have hqw2 : Below w.heap.size w w2 := (by repeat (first | (with_reducible exact Below.refl _ _) | (with_reducible assumption) | (with_reducible refine Below.setCell ?_ (by first | (simp; done) | (simp; omega) | omega) _) | (with_reducible refine Below.alloc ?_ (by first | (simp; done) | (simp; omega) | omega) _) | (refine bl_call ?_ (by assumption) (by first | (simp; done) | (simp; omega) | omega)) | (with_reducible refine bl_drewN ?_) | (with_reducible refine Below.drew ?_) | (with_reducible refine bl_grow ?_ (by first | (simp; done) | (simp; omega) | omega)))); have hzw2 := hqw2.size; obtain ⟨zew2, ce0w2, ce1w2, ce2w2, fe0w2, fe1w2, fe2w2⟩ := kew2.three; obtain ⟨zzw2, cz0w2, cz1w2, cz2w2, cz3w2, fz0w2, fz1w2, fz2w2, fz3w2⟩ := kzw2.four; clear kew1 ce0w1 fe0w1 ce1w1 fe1w1 ce2w1 fe2w1 kzw1 cz0w1 fz0w1 cz1w1 fz1w1 cz2w1 fz2w1 cz3w1 fz3w1 hqw1; clear hbw2) | (go_at_call 38; clear m3; refine (HA.out _).mono ?_; rintro e w3 ⟨rfl, hbw3⟩; have kew3 : At w3 (w.heap.size) [.int .i64 ((E).1 : Int), .int .i64 ((E).2.1 : Int), .bool (E).2.2] := (by repeat (first | (with_reducible assumption) | ((with_reducible refine at_new' _ _ _ _ ?_); (first | rfl | (simp; done))) | (with_reducible refine At.alloc ?_ _) | (with_reducible refine At.drew ?_) | (with_reducible refine At.drewN ?_) | (with_reducible refine At.set ?_ (by omega)) | (with_reducible apply At.store4) | (with_reducible apply At.store3) | (with_reducible apply At.store2) | (with_reducible apply At.put43) | (refine At.below ?_ (by with_reducible assumption)))); have kzw3 : At w3 (w.heap.size + 1) [.int .i64 0, .int .i64 0, .bool false, .int .i64 0] := (by repeat (first | (with_reducible assumption) | ((with_reducible refine at_new' _ _ _ _ ?_); (first | rfl | (simp; done))) | (with_reducible refine At.alloc ?_ _) | (with_reducible refine At.drew ?_) | (with_reducible refine At.drewN ?_) | (with_reducible refine At.set ?_ (by omega)) | (with_reducible apply At.store4) | (with_reducible apply At.store3) | (with_reducible apply At.store2) | (with_reducible apply At.put43) | (refine At.below ?_ (by with_reducible assumption)))); have ktw3 : At w3 (w2.heap.size) [.int .i64 ((T).1 : Int), .int .i64 ((T).2.1 : Int), .bool (T).2.2] := (by repeat (first | (with_reducible assumption) | ((with_reducible refine at_new' _ _ _ _ ?_); (first | rfl | (simp; done))) | (with_reducible refine At.alloc ?_ _) | (with_reducible refine At.drew ?_) | (with_reducible refine At.drewN ?_) | (with_reducible refine At.set ?_ (by omega)) | (with_reducible apply At.store4) | (with_reducible apply At.store3) | (with_reducible apply At.store2) | (with_reducible apply At.put43) | (refine At.below ?_ (by with_reducible assumption)))); have hqw3 : Below w.heap.size w w3 := (by repeat (first | (with_reducible exact Below.refl _ _) | (with_reducible assumption) | (with_reducible refine Below.setCell ?_ (by first | (simp; done) | (simp; omega) | omega) _) | (with_reducible refine Below.alloc ?_ (by first | (simp; done) | (simp; omega) | omega) _) | (refine bl_call ?_ (by assumption) (by first | (simp; done) | (simp; omega) | omega)) | (with_reducible refine bl_drewN ?_) | (with_reducible refine Below.drew ?_) | (with_reducible refine bl_grow ?_ (by first | (simp; done) | (simp; omega) | omega)))); have hzw3 := hqw3.size; obtain ⟨zew3, ce0w3, ce1w3, ce2w3, fe0w3, fe1w3, fe2w3⟩ := kew3.three; obtain ⟨zzw3, cz0w3, cz1w3, cz2w3, cz3w3, fz0w3, fz1w3, fz2w3, fz3w3⟩ := kzw3.four; obtain ⟨ztw3, ct0w3, ct1w3, ct2w3, ft0w3, ft1w3, ft2w3⟩ := ktw3.three; clear kew2 ce0w2 fe0w2 ce1w2 fe1w2 ce2w2 fe2w2 kzw2 cz0w2 fz0w2 cz1w2 fz1w2 cz2w2 fz2w2 cz3w2 fz3w2 hqw2; clear hbw3))
  exact bodyPost_ret (v := .tuple #[.agg #[.int .i64 ((T).1 : Int), .int .i64 ((T).2.1 : Int), .bool (T).2.2, .int .i64 (s : Int)], .nilIface]) (by simp [results, Try.results10, go_sem, *]) rfl ⟨rfl, by repeat (first | (with_reducible exact Below.refl _ _) | (with_reducible assumption) | (with_reducible refine Below.setCell ?_ (by first | (simp; done) | (simp; omega) | omega) _) | (with_reducible refine Below.alloc ?_ (by first | (simp; done) | (simp; omega) | omega) _) | (refine bl_call ?_ (by assumption) (by first | (simp; done) | (simp; omega) | omega)) | (with_reducible refine bl_drewN ?_) | (with_reducible refine Below.drew ?_) | (with_reducible refine bl_grow ?_ (by first | (simp; done) | (simp; omega) | omega)))⟩
theorem cl_em {k : Nat} (hk : k < 1013) : tM (4 * h2N * em (k : Int)) = tM (4 * clR k) := by
  rw [em_nat hk, clR_is, Nat.mul_assoc]
theorem bclose_is : BCloseIs := by
  refine ⟨fun r k x1 y1 f1 w _ _ h => bclose_no r k x1 y1 f1 w h, fun r k x1 y1 f1 w hrk h => ?_, fun r k a w r1 k0 k1 => ?_⟩
  · rw [Bool.and_eq_true] at hrk
    have a := of_decide_eq_true (p := 0 ≤ r ∧ r < 1013) hrk.1
    have b := of_decide_eq_true (p := 1 ≤ k ∧ k < 1013) hrk.2
    obtain ⟨r', rfl⟩ := Int.eq_ofNat_of_zero_le a.1
    obtain ⟨k', rfl⟩ := Int.eq_ofNat_of_zero_le (show 0 ≤ k by omega)
    have k1 : k' < 1013 := by omega
    exact bclose_e h2N r' k' (tM (4 * clR k')) x1 y1 _ f1 w (by omega) (by omega) k1 second_w (cl_em k1) (fun w => bask_2 (4 * clR k') x1 y1 f1 w h)
  · exact bclose_ok h2N r k (baN (4 * clR k) a) (clS r k a) (tM (4 * clR k)) (tM a) w r1 k0 k1 (baN_lt _ _) second_w (cl_em k1) (fun w => bask_ok (4 * clR k) a w) (by unfold clS; rw [Int.natCast_emod, Int.natCast_add, Int.natCast_mul]; rfl)
theorem bcc_many (sl : Option Addr) (n d : Nat) (w : World) (h : 12 < n) : Calls Try.prog 30 #[.slice sl n d] w fun e w' => e = .returned (errOf 4) ∧ Below w.heap.size w w' := by
  have h1 : (n : Int) > 12 := by omega
  go_enter Try.func30, Try.ntmps30
  go_wp2_with fail
  go_ret
  exact ⟨rfl, by repeat (first | (with_reducible exact Below.refl _ _) | (with_reducible assumption) | (with_reducible refine Below.setCell ?_ (by first | (simp; done) | (simp; omega) | omega) _) | (with_reducible refine Below.alloc ?_ (by first | (simp; done) | (simp; omega) | omega) _) | (refine bl_call ?_ (by assumption) (by first | (simp; done) | (simp; omega) | omega)) | (with_reducible refine bl_drewN ?_) | (with_reducible refine Below.drew ?_) | (with_reducible refine bl_grow ?_ (by first | (simp; done) | (simp; omega) | omega)))⟩
set_option maxRecDepth 100000 in
set_option maxHeartbeats 8000000 in
theorem bcc_any (sl : Option Addr) (n d m : Nat) (X Y : Nat → Int) (F : Nat → Bool) (c : Value) (w : World) (hn : n ≤ 12) (hr : (n = 0 ∨ ∃ b o : Nat, sl = some ⟨b, o, none⟩ ∧ RowO w b o n X Y F)) (hm : m ≤ n) (hok : ∀ j, j < m → goodC (X j) (Y j) (F j)) (hc : (m = n ∧ c = .nilIface) ∨ (m < n ∧ badC (X m) (Y m) (F m) ∧ c = errOf 3)) : Calls Try.prog 30 #[.slice sl n d] w fun e w' => e = .returned (c) ∧ Below w.heap.size w w' := by
  have h1 : ¬ (n : Int) > 12 := by omega
  have HR : Hid ((n = 0 ∨ ∃ b o : Nat, sl = some ⟨b, o, none⟩ ∧ RowO w b o n X Y F)) := hr
  have HO : Hid (∀ j, j < m → goodC (X j) (Y j) (F j)) := hok
  have HC : Hid ((m = n ∧ c = .nilIface) ∨ (m < n ∧ badC (X m) (Y m) (F m) ∧ c = errOf 3)) := hc
  clear hr hok hc
  go_enter Try.func30, Try.ntmps30
  go_wp2_with fail
  go_loopw [13] (fun ti wl => ∃ k : Nat, k ≤ m ∧ ti = .int .i64 k ∧ Below w.heap.size w wl) (fun ti _ => n - (intOf ti).toNat)
  case atStart => exact ⟨0, by omega, rfl, by repeat (first | (with_reducible exact Below.refl _ _) | (with_reducible assumption) | (with_reducible refine Below.setCell ?_ (by first | (simp; done) | (simp; omega) | omega) _) | (with_reducible refine Below.alloc ?_ (by first | (simp; done) | (simp; omega) | omega) _) | (refine bl_call ?_ (by assumption) (by first | (simp; done) | (simp; omega) | omega)) | (with_reducible refine bl_drewN ?_) | (with_reducible refine Below.drew ?_) | (with_reducible refine bl_grow ?_ (by first | (simp; done) | (simp; omega) | omega)))⟩
  case round =>
    obtain ⟨k, hk, rfl, hqV⟩ := hrel
    rename World => V
    have hzV := hqV.size
    by_cases hlt : k < n
    · have hlt' : (k : Int) < n := by omega
      obtain ⟨b, o, rfl, hz⟩ : ∃ b o : Nat, sl = some ⟨b, o, none⟩ ∧ RowO w b o n X Y F := HR.out.resolve_left (by omega)
      have hbV := Nat.lt_of_lt_of_le hz.1 hzV
      obtain ⟨c0, c1, c2⟩ := (hz.below hz.1 hqV).2 k hlt
      by_cases hkm : k < m
      · obtain ⟨j, e0, e1, e2⟩ := HO.out k hkm
        rw [e0] at c0
        rw [e1] at c1
        rw [e2] at c2
        clear e0 e1 e2 hz
        have HI : Hid (∀ w, Calls Try.prog 60 #[.agg #[.int .i64 ((tM (4 * j)).1 : Int), .int .i64 ((tM (4 * j)).2.1 : Int), .bool (tM (4 * j)).2.2]] w fun e w' => e = .returned (.tuple #[.bool true, .nilIface]) ∧ Below w.heap.size w w') := fun w => in_eq (far_four j) w
        obtain ⟨T, hT⟩ : ∃ T, tM (4 * j) = T := ⟨_, rfl⟩
        rw [hT] at c0 c1 c2 HI
        clear hT
        have m1 : True := trivial
        go_wp2_with (go_at_call 60; clear m1; refine (HI.out _).mono ?_; rintro e w2 ⟨rfl, hbw2⟩; have hqw2 : Below w.heap.size w w2 := (by repeat (first | (with_reducible exact Below.refl _ _) | (with_reducible assumption) | (with_reducible refine Below.setCell ?_ (by first | (simp; done) | (simp; omega) | omega) _) | (with_reducible refine Below.alloc ?_ (by first | (simp; done) | (simp; omega) | omega) _) | (refine bl_call ?_ (by assumption) (by first | (simp; done) | (simp; omega) | omega)) | (with_reducible refine bl_drewN ?_) | (with_reducible refine Below.drew ?_) | (with_reducible refine bl_grow ?_ (by first | (simp; done) | (simp; omega) | omega)))); have hzw2 := hqw2.size; clear hbw2)
        go_roundw
        case rel => exact ⟨k + 1, by omega, by simp, by repeat (first | (with_reducible exact Below.refl _ _) | (with_reducible assumption) | (with_reducible refine Below.setCell ?_ (by first | (simp; done) | (simp; omega) | omega) _) | (with_reducible refine Below.alloc ?_ (by first | (simp; done) | (simp; omega) | omega) _) | (refine bl_call ?_ (by assumption) (by first | (simp; done) | (simp; omega) | omega)) | (with_reducible refine bl_drewN ?_) | (with_reducible refine Below.drew ?_) | (with_reducible refine bl_grow ?_ (by first | (simp; done) | (simp; omega) | omega)))⟩
        case measure => simp [intOf]; omega
      · obtain rfl : k = m := by omega
        obtain ⟨g1, g2, rfl⟩ : k < n ∧ badC (X k) (Y k) (F k) ∧ c = errOf 3 := HC.out.resolve_left fun g => by omega
        rcases g2 with g2 | ⟨j, e0, e1, e2, g2⟩
        · have HI : Hid (∀ w, Calls Try.prog 60 #[.agg #[.int .i64 (X k), .int .i64 (Y k), .bool (F k)]] w fun e w' => e = .returned (.tuple #[.bool false, errOf (ckI (X k) (Y k) (F k))]) ∧ Below w.heap.size w w') := fun w => in_no _ _ _ w g2
          generalize ckI (X k) (Y k) (F k) = q at HI g2
          clear hz
          have m1 : True := trivial
          go_wp2_with (go_at_call 60; clear m1; refine (HI.out _).mono ?_; rintro e w2 ⟨rfl, hbw2⟩; have hqw2 : Below w.heap.size w w2 := (by repeat (first | (with_reducible exact Below.refl _ _) | (with_reducible assumption) | (with_reducible refine Below.setCell ?_ (by first | (simp; done) | (simp; omega) | omega) _) | (with_reducible refine Below.alloc ?_ (by first | (simp; done) | (simp; omega) | omega) _) | (refine bl_call ?_ (by assumption) (by first | (simp; done) | (simp; omega) | omega)) | (with_reducible refine bl_drewN ?_) | (with_reducible refine Below.drew ?_) | (with_reducible refine bl_grow ?_ (by first | (simp; done) | (simp; omega) | omega)))); have hzw2 := hqw2.size; clear hbw2)
          go_ret
          exact ⟨rfl, by repeat (first | (with_reducible exact Below.refl _ _) | (with_reducible assumption) | (with_reducible refine Below.setCell ?_ (by first | (simp; done) | (simp; omega) | omega) _) | (with_reducible refine Below.alloc ?_ (by first | (simp; done) | (simp; omega) | omega) _) | (refine bl_call ?_ (by assumption) (by first | (simp; done) | (simp; omega) | omega)) | (with_reducible refine bl_drewN ?_) | (with_reducible refine Below.drew ?_) | (with_reducible refine bl_grow ?_ (by first | (simp; done) | (simp; omega) | omega)))⟩
        · rw [e0] at c0
          rw [e1] at c1
          rw [e2] at c2
          clear e0 e1 e2 hz
          have HI : Hid (∀ w, Calls Try.prog 60 #[.agg #[.int .i64 ((tM j).1 : Int), .int .i64 ((tM j).2.1 : Int), .bool (tM j).2.2]] w fun e w' => e = .returned (.tuple #[.bool false, .nilIface]) ∧ Below w.heap.size w w') := fun w => in_eq g2 w
          clear g2
          have m1 : True := trivial
          go_wp2_with (go_at_call 60; clear m1; refine (HI.out _).mono ?_; rintro e w2 ⟨rfl, hbw2⟩; have hqw2 : Below w.heap.size w w2 := (by repeat (first | (with_reducible exact Below.refl _ _) | (with_reducible assumption) | (with_reducible refine Below.setCell ?_ (by first | (simp; done) | (simp; omega) | omega) _) | (with_reducible refine Below.alloc ?_ (by first | (simp; done) | (simp; omega) | omega) _) | (refine bl_call ?_ (by assumption) (by first | (simp; done) | (simp; omega) | omega)) | (with_reducible refine bl_drewN ?_) | (with_reducible refine Below.drew ?_) | (with_reducible refine bl_grow ?_ (by first | (simp; done) | (simp; omega) | omega)))); have hzw2 := hqw2.size; clear hbw2)
          go_ret
          exact ⟨rfl, by repeat (first | (with_reducible exact Below.refl _ _) | (with_reducible assumption) | (with_reducible refine Below.setCell ?_ (by first | (simp; done) | (simp; omega) | omega) _) | (with_reducible refine Below.alloc ?_ (by first | (simp; done) | (simp; omega) | omega) _) | (refine bl_call ?_ (by assumption) (by first | (simp; done) | (simp; omega) | omega)) | (with_reducible refine bl_drewN ?_) | (with_reducible refine Below.drew ?_) | (with_reducible refine bl_grow ?_ (by first | (simp; done) | (simp; omega) | omega)))⟩
    · have hlt' : ¬ (k : Int) < n := by omega
      obtain ⟨g1, rfl⟩ : m = n ∧ c = .nilIface := HC.out.resolve_right fun g => by omega
      go_wp2_with fail
      go_ret
      exact ⟨rfl, by repeat (first | (with_reducible exact Below.refl _ _) | (with_reducible assumption) | (with_reducible refine Below.setCell ?_ (by first | (simp; done) | (simp; omega) | omega) _) | (with_reducible refine Below.alloc ?_ (by first | (simp; done) | (simp; omega) | omega) _) | (refine bl_call ?_ (by assumption) (by first | (simp; done) | (simp; omega) | omega)) | (with_reducible refine bl_drewN ?_) | (with_reducible refine Below.drew ?_) | (with_reducible refine bl_grow ?_ (by first | (simp; done) | (simp; omega) | omega)))⟩
theorem bcc_no (sl : Option Addr) (n d : Nat) (X Y : Nat → Int) (F : Nat → Bool) (q : Int) (w : World) (hr : (n = 0 ∨ ∃ b o : Nat, sl = some ⟨b, o, none⟩ ∧ RowO w b o n X Y F)) (hc : ComeIs X Y F n q) (hq : (q == 0) = false) : Calls Try.prog 30 #[.slice sl n d] w fun e w' => e = .returned (errOf q) ∧ Below w.heap.size w w' := by
  rcases hc with ⟨h1, rfl⟩ | ⟨h1, ⟨m, m1, m2, m3⟩, rfl⟩ | ⟨_, _, rfl⟩
  · exact bcc_many sl n d w h1
  · exact bcc_any sl n d m X Y F _ w h1 hr (by omega) m2 (Or.inr ⟨m1, m3, rfl⟩)
  · exact absurd hq (by decide)
theorem bcc_yes (sl : Option Addr) (n d : Nat) (X Y : Nat → Int) (F : Nat → Bool) (K : Nat → Nat) (w : World) (hn : n ≤ 12) (hr : (n = 0 ∨ ∃ b o : Nat, sl = some ⟨b, o, none⟩ ∧ RowO w b o n X Y F)) (hK : isC X Y F K n) : Calls Try.prog 30 #[.slice sl n d] w fun e w' => e = .returned (.nilIface) ∧ Below w.heap.size w w' :=
  bcc_any sl n d n X Y F _ w hn hr (Nat.le_refl _) (fun j hj => ⟨K j, hK j hj⟩) (Or.inl ⟨rfl, rfl⟩)
set_option maxRecDepth 100000 in
set_option maxHeartbeats 8000000 in
theorem bsum (sl : Option Addr) (n d : Nat) (X Y : Nat → Int) (F : Nat → Bool) (J : Nat → Nat) (w : World) (hn : n ≤ 1000000) (hr : (n = 0 ∨ ∃ b o : Nat, sl = some ⟨b, o, none⟩ ∧ RowO w b o n X Y F)) (hK : isC X Y F J n) : Calls Try.prog 34 #[.slice sl n d] w fun e w' => e = .returned (.tuple #[.agg #[.int .i64 ((tM (4 * jsN J n)).1 : Int), .int .i64 ((tM (4 * jsN J n)).2.1 : Int), .bool (tM (4 * jsN J n)).2.2], .nilIface]) ∧ Below w.heap.size w w' := by
  have HR : Hid ((n = 0 ∨ ∃ b o : Nat, sl = some ⟨b, o, none⟩ ∧ RowO w b o n X Y F)) := hr
  have HK : Hid (isC X Y F J n) := hK
  clear hr hK
  go_enter Try.func34, Try.ntmps34
  go_wp2_with fail
  go_loopw [12] (fun ti wl => ∃ k : Nat, k ≤ n ∧ ti = .int .i64 k ∧ At wl (w.heap.size) [.int .i64 0, .int .i64 0, .bool false] ∧ At wl (w.heap.size + 1) [.int .i64 ((tM (4 * jsN J k)).1 : Int), .int .i64 ((tM (4 * jsN J k)).2.1 : Int), .bool (tM (4 * jsN J k)).2.2] ∧ Below w.heap.size w wl) (fun ti _ => n - (intOf ti).toNat)
  case atStart => exact ⟨0, by omega, rfl, by repeat (first | (with_reducible assumption) | ((with_reducible refine at_new' _ _ _ _ ?_); (first | rfl | (simp; done))) | (with_reducible refine At.alloc ?_ _) | (with_reducible refine At.drew ?_) | (with_reducible refine At.drewN ?_) | (with_reducible refine At.set ?_ (by omega)) | (with_reducible apply At.store4) | (with_reducible apply At.store3) | (with_reducible apply At.store2) | (with_reducible apply At.put43) | (refine At.below ?_ (by with_reducible assumption))), by show At _ _ [.int .i64 0, .int .i64 0, .bool true]; exact (by repeat (first | (with_reducible assumption) | ((with_reducible refine at_new' _ _ _ _ ?_); (first | rfl | (simp; done))) | (with_reducible refine At.alloc ?_ _) | (with_reducible refine At.drew ?_) | (with_reducible refine At.drewN ?_) | (with_reducible refine At.set ?_ (by omega)) | (with_reducible apply At.store4) | (with_reducible apply At.store3) | (with_reducible apply At.store2) | (with_reducible apply At.put43) | (refine At.below ?_ (by with_reducible assumption)))), by repeat (first | (with_reducible exact Below.refl _ _) | (with_reducible assumption) | (with_reducible refine Below.setCell ?_ (by first | (simp; done) | (simp; omega) | omega) _) | (with_reducible refine Below.alloc ?_ (by first | (simp; done) | (simp; omega) | omega) _) | (refine bl_call ?_ (by assumption) (by first | (simp; done) | (simp; omega) | omega)) | (with_reducible refine bl_drewN ?_) | (with_reducible refine Below.drew ?_) | (with_reducible refine bl_grow ?_ (by first | (simp; done) | (simp; omega) | omega)))⟩
  case round =>
    obtain ⟨k, hk, rfl, krV, ktV, hqV⟩ := hrel
    rename World => V
    have hzV := hqV.size
    obtain ⟨zrV, cr0V, cr1V, cr2V, fr0V, fr1V, fr2V⟩ := krV.three
    obtain ⟨ztV, ct0V, ct1V, ct2V, ft0V, ft1V, ft2V⟩ := ktV.three
    by_cases hlt : k < n
    · have hlt' : (k : Int) < n := by omega
      obtain ⟨b, o, rfl, hz⟩ : ∃ b o : Nat, sl = some ⟨b, o, none⟩ ∧ RowO w b o n X Y F := HR.out.resolve_left (by omega)
      have hbV := Nat.lt_of_lt_of_le hz.1 hzV
      obtain ⟨c0, c1, c2⟩ := (hz.below hz.1 hqV).2 k hlt
      obtain ⟨e0, e1, e2⟩ := HK.out k hlt
      rw [e0] at c0
      rw [e1] at c1
      rw [e2] at c2
      clear e0 e1 e2 hz
      have E : Hid (tM (4 * jsN J k + 4 * J k) = tM (4 * jsN J (k + 1))) := by unfold Hid; rw [← Nat.mul_add]; rfl
      have m1 : True := trivial
      go_wp2_with (go_at_call 29; clear m1; refine (cadd_eq E.out _).mono ?_; rintro e W1 ⟨rfl, hbW1⟩; have krW1 : At W1 (w.heap.size) [.int .i64 0, .int .i64 0, .bool false] := (by repeat (first | (with_reducible assumption) | ((with_reducible refine at_new' _ _ _ _ ?_); (first | rfl | (simp; done))) | (with_reducible refine At.alloc ?_ _) | (with_reducible refine At.drew ?_) | (with_reducible refine At.drewN ?_) | (with_reducible refine At.set ?_ (by omega)) | (with_reducible apply At.store4) | (with_reducible apply At.store3) | (with_reducible apply At.store2) | (with_reducible apply At.put43) | (refine At.below ?_ (by with_reducible assumption)))); have ktW1 : At W1 (w.heap.size + 1) [.int .i64 ((tM (4 * jsN J k)).1 : Int), .int .i64 ((tM (4 * jsN J k)).2.1 : Int), .bool (tM (4 * jsN J k)).2.2] := (by repeat (first | (with_reducible assumption) | ((with_reducible refine at_new' _ _ _ _ ?_); (first | rfl | (simp; done))) | (with_reducible refine At.alloc ?_ _) | (with_reducible refine At.drew ?_) | (with_reducible refine At.drewN ?_) | (with_reducible refine At.set ?_ (by omega)) | (with_reducible apply At.store4) | (with_reducible apply At.store3) | (with_reducible apply At.store2) | (with_reducible apply At.put43) | (refine At.below ?_ (by with_reducible assumption)))); have hqW1 : Below w.heap.size w W1 := (by repeat (first | (with_reducible exact Below.refl _ _) | (with_reducible assumption) | (with_reducible refine Below.setCell ?_ (by first | (simp; done) | (simp; omega) | omega) _) | (with_reducible refine Below.alloc ?_ (by first | (simp; done) | (simp; omega) | omega) _) | (refine bl_call ?_ (by assumption) (by first | (simp; done) | (simp; omega) | omega)) | (with_reducible refine bl_drewN ?_) | (with_reducible refine Below.drew ?_) | (with_reducible refine bl_grow ?_ (by first | (simp; done) | (simp; omega) | omega)))); have hzW1 := hqW1.size; obtain ⟨zrW1, cr0W1, cr1W1, cr2W1, fr0W1, fr1W1, fr2W1⟩ := krW1.three; obtain ⟨ztW1, ct0W1, ct1W1, ct2W1, ft0W1, ft1W1, ft2W1⟩ := ktW1.three; clear krV cr0V fr0V cr1V fr1V cr2V fr2V ktV ct0V ft0V ct1V ft1V ct2V ft2V hqV; clear hbW1)
      go_roundw
      case rel => exact ⟨k + 1, by omega, by simp, by repeat (first | (with_reducible assumption) | ((with_reducible refine at_new' _ _ _ _ ?_); (first | rfl | (simp; done))) | (with_reducible refine At.alloc ?_ _) | (with_reducible refine At.drew ?_) | (with_reducible refine At.drewN ?_) | (with_reducible refine At.set ?_ (by omega)) | (with_reducible apply At.store4) | (with_reducible apply At.store3) | (with_reducible apply At.store2) | (with_reducible apply At.put43) | (refine At.below ?_ (by with_reducible assumption))), by repeat (first | (with_reducible assumption) | ((with_reducible refine at_new' _ _ _ _ ?_); (first | rfl | (simp; done))) | (with_reducible refine At.alloc ?_ _) | (with_reducible refine At.drew ?_) | (with_reducible refine At.drewN ?_) | (with_reducible refine At.set ?_ (by omega)) | (with_reducible apply At.store4) | (with_reducible apply At.store3) | (with_reducible apply At.store2) | (with_reducible apply At.put43) | (refine At.below ?_ (by with_reducible assumption))), by repeat (first | (with_reducible exact Below.refl _ _) | (with_reducible assumption) | (with_reducible refine Below.setCell ?_ (by first | (simp; done) | (simp; omega) | omega) _) | (with_reducible refine Below.alloc ?_ (by first | (simp; done) | (simp; omega) | omega) _) | (refine bl_call ?_ (by assumption) (by first | (simp; done) | (simp; omega) | omega)) | (with_reducible refine bl_drewN ?_) | (with_reducible refine Below.drew ?_) | (with_reducible refine bl_grow ?_ (by first | (simp; done) | (simp; omega) | omega)))⟩
      case measure => simp [intOf]; omega
    · have hlt' : ¬ (k : Int) < n := by omega
      obtain rfl : k = n := by omega
      go_wp2_with fail
      exact bodyPost_ret (v := .tuple #[.agg #[.int .i64 ((tM (4 * jsN J k)).1 : Int), .int .i64 ((tM (4 * jsN J k)).2.1 : Int), .bool (tM (4 * jsN J k)).2.2], .nilIface]) (by simp [results, Try.results34, go_sem, *]) rfl ⟨rfl, by repeat (first | (with_reducible exact Below.refl _ _) | (with_reducible assumption) | (with_reducible refine Below.setCell ?_ (by first | (simp; done) | (simp; omega) | omega) _) | (with_reducible refine Below.alloc ?_ (by first | (simp; done) | (simp; omega) | omega) _) | (refine bl_call ?_ (by assumption) (by first | (simp; done) | (simp; omega) | omega)) | (with_reducible refine bl_drewN ?_) | (with_reducible refine Below.drew ?_) | (with_reducible refine bl_grow ?_ (by first | (simp; done) | (simp; omega) | omega)))⟩
theorem bcinfo : (Try.prog.info? 83).map (fun i => (i.zero, i.size, i.bytes)) = some (some (.agg #[.int .i64 0, .int .i64 0, .bool false, .bool false]), 4, 32) := by kernel_rfl
set_option maxRecDepth 100000 in
set_option maxHeartbeats 8000000 in
theorem bminted (sl : Option Addr) (n d : Nat) (X Y : Nat → Int) (F : Nat → Bool) (J : Nat → Nat) (w : World) (hn : n ≤ 12) (hr : (n = 0 ∨ ∃ b o : Nat, sl = some ⟨b, o, none⟩ ∧ RowO w b o n X Y F)) (hK : isC X Y F J n) : Calls Try.prog 31 #[.slice sl n d] w fun ex w' => ∃ q, ex = .returned q ∧ w'.ownsRow w.heap.size 83 4 q n (cellsC J (fun _ => false) n) ∧ Below w.heap.size w w' := by
  have HR : Hid ((n = 0 ∨ ∃ b o : Nat, sl = some ⟨b, o, none⟩ ∧ RowO w b o n X Y F)) := hr
  have HK : Hid (isC X Y F J n) := hK
  clear hr hK
  obtain ⟨i0, hi, hv0, hv1, hv2⟩ := info_parts bcinfo
  go_enter Try.func31, Try.ntmps31
  go_wp2_with (at_make; refine wpList_make_own _ rfl _ _ 67 rfl w.heap.size 83 i0 (.agg #[.int .i64 0, .int .i64 0, .bool false, .bool false]) 4 Try.underlying67 hi hv0 hv1 _ _ _ n rfl rfl rfl ?b2 ?b3 ?b4 ?_)
  case b2 => rw [hv2]; omega
  case b3 => unfold maxLen; omega
  case b4 => omega
  intro w2 hown0 hgrow
  have hq2 : Below w.heap.size w w2 := (Below.refl _ _ : Below w.heap.size w _).grown hgrow (Nat.le_refl _) (fun k hk => by cases hk)
  clear hgrow
  go_wp2_with fail
  go_loopw [3, 11] (fun tv ti wl => ∃ k : Nat, k ≤ n ∧ ti = .int .i64 k ∧ wl.ownsRow w.heap.size 83 4 tv k (cellsC J (fun _ => false) k) ∧ Below w.heap.size w wl) (fun _ ti _ => n - (intOf ti).toNat)
  case atStart => exact ⟨0, by omega, rfl, hown0, by repeat (first | (with_reducible exact Below.refl _ _) | (with_reducible assumption) | (with_reducible refine Below.setCell ?_ (by first | (simp; done) | (simp; omega) | omega) _) | (with_reducible refine Below.alloc ?_ (by first | (simp; done) | (simp; omega) | omega) _) | (refine bl_call ?_ (by assumption) (by first | (simp; done) | (simp; omega) | omega)) | (with_reducible refine bl_drewN ?_) | (with_reducible refine Below.drew ?_) | (with_reducible refine bl_grow ?_ (by first | (simp; done) | (simp; omega) | omega)))⟩
  case round =>
    clear hown0 hq2
    obtain ⟨k, hk, rfl, hown, hqV⟩ := hrel
    rename World => V
    have hzV := hqV.size
    by_cases hlt : k < n
    · have hlt' : (k : Int) < n := by omega
      obtain ⟨b, o, rfl, hz⟩ : ∃ b o : Nat, sl = some ⟨b, o, none⟩ ∧ RowO w b o n X Y F := HR.out.resolve_left (by omega)
      have hbV := Nat.lt_of_lt_of_le hz.1 hzV
      obtain ⟨c0, c1, c2⟩ := (hz.below hz.1 hqV).2 k hlt
      obtain ⟨e0, e1, e2⟩ := HK.out k hlt
      rw [e0] at c0
      rw [e1] at c1
      rw [e2] at c2
      clear e0 e1 e2 hz
      have HOW : Hid (V.ownsRow w.heap.size 83 4 _ k (cellsC J (fun _ => false) k)) := hown
      go_wp2_with (at_builtin; refine wpList_append_own_at _ rfl _ _ 67 rfl w.heap.size 83 i0 (.agg #[.int .i64 0, .int .i64 0, .bool false, .bool false]) 4 32 Try.underlying67 hi hv0 hv1 hv2 rfl (by decide) _ _ _ rfl (own_stay hown (by repeat (first | (with_reducible exact Below.refl _ _) | (with_reducible assumption) | (with_reducible refine Below.setCell ?_ (by first | (simp; done) | (simp; omega) | omega) _) | (with_reducible refine Below.alloc ?_ (by first | (simp; done) | (simp; omega) | omega) _) | (refine bl_call ?_ (by assumption) (by first | (simp; done) | (simp; omega) | omega)) | (with_reducible refine bl_drewN ?_) | (with_reducible refine Below.drew ?_) | (with_reducible refine bl_grow ?_ (by first | (simp; done) | (simp; omega) | omega))))) ⟨_, 0, none⟩ 1 1 [.int .i64 ((tM (4 * J k)).1 : Int), .int .i64 ((tM (4 * J k)).2.1 : Int), .bool (tM (4 * J k)).2.2, .bool true] rfl rfl ?c1 ?c2 ?c3 ?c4 ?c5 ?_)
      case c1 => exact bfour_at (by simp) _ _ _ _ _
      case c2 => intro u hu; simp at hu; rcases hu with rfl | rfl | rfl | rfl <;> rfl
      case c3 => unfold maxLen; omega
      case c4 => omega
      case c5 => simp; omega
      · intro v' w13 hown' hgrow _ hat
        have hq13 : Below w.heap.size w w13 := grown_under (B := w.heap.size) (by repeat (first | (with_reducible exact Below.refl _ _) | (with_reducible assumption) | (with_reducible refine Below.setCell ?_ (by first | (simp; done) | (simp; omega) | omega) _) | (with_reducible refine Below.alloc ?_ (by first | (simp; done) | (simp; omega) | omega) _) | (refine bl_call ?_ (by assumption) (by first | (simp; done) | (simp; omega) | omega)) | (with_reducible refine bl_drewN ?_) | (with_reducible refine Below.drew ?_) | (with_reducible refine bl_grow ?_ (by first | (simp; done) | (simp; omega) | omega)))) (own_stay hown (by repeat (first | (with_reducible exact Below.refl _ _) | (with_reducible assumption) | (with_reducible refine Below.setCell ?_ (by first | (simp; done) | (simp; omega) | omega) _) | (with_reducible refine Below.alloc ?_ (by first | (simp; done) | (simp; omega) | omega) _) | (refine bl_call ?_ (by assumption) (by first | (simp; done) | (simp; omega) | omega)) | (with_reducible refine bl_drewN ?_) | (with_reducible refine Below.drew ?_) | (with_reducible refine bl_grow ?_ (by first | (simp; done) | (simp; omega) | omega))))) hgrow (by simp; omega) (Nat.le_refl _)
        have hown2 : w13.ownsRow w.heap.size 83 4 v' (k + 1) (cellsC J (fun _ => false) (k + 1)) := by rw [cellsC_succ]; exact hown'
        clear hgrow hat hown hown'
        go_wp2_with fail
        go_roundw
        case rel => exact ⟨k + 1, by omega, by simp, hown2, hq13⟩
        case measure => simp [intOf]; omega
    · have hlt' : ¬ (k : Int) < n := by omega
      obtain rfl : k = n := by omega
      go_wp2_with fail
      go_ret
      exact ⟨_, rfl, hown, by repeat (first | (with_reducible exact Below.refl _ _) | (with_reducible assumption) | (with_reducible refine Below.setCell ?_ (by first | (simp; done) | (simp; omega) | omega) _) | (with_reducible refine Below.alloc ?_ (by first | (simp; done) | (simp; omega) | omega) _) | (refine bl_call ?_ (by assumption) (by first | (simp; done) | (simp; omega) | omega)) | (with_reducible refine bl_drewN ?_) | (with_reducible refine Below.drew ?_) | (with_reducible refine bl_grow ?_ (by first | (simp; done) | (simp; omega) | omega)))⟩
set_option maxRecDepth 100000 in
set_option maxHeartbeats 8000000 in
theorem bat (p n m dz : Nat) (sz : Option Addr) (u : Value) (K : Nat → Nat) (G : Nat → Bool) (Z : Nat → Int) (w : World) (hn : n ≤ 1000) (hm : m ≤ 1000) (h : CoinsAt 83 w p u n K G) (hz : (m = 0 ∨ ∃ b o : Nat, sz = some ⟨b, o, none⟩ ∧ RowI w b o m Z)) (hok : ∀ i, i < m → 0 ≤ Z i ∧ Z i < (n : Int)) : Calls Try.prog 35 #[.pointer (some ⟨p, 0, none⟩), .slice sz m dz] w fun ex w' => ∃ q, ex = .returned q ∧ w'.ownsRow w.heap.size 26 3 q m (cellsK (fun i => K (Z i).toNat) m) ∧ Below w.heap.size w w' := by
  obtain ⟨su, cu, rfl, hrow⟩ := h.slice
  have HP : Hid (At w p [.slice su n cu]) := h.cells
  have HR : Hid (n = 0 ∨ ∃ g, su = some ⟨g, 0, none⟩ ∧ RowC w g 0 n K G) := hrow
  have hpw := h.cells.1
  clear hrow h
  have HZ : Hid ((m = 0 ∨ ∃ b o : Nat, sz = some ⟨b, o, none⟩ ∧ RowI w b o m Z)) := hz
  have HO : Hid (∀ i, i < m → 0 ≤ Z i ∧ Z i < (n : Int)) := hok
  clear hz hok
  obtain ⟨i0, hi, hv0, hv1, hv2⟩ := info_parts beinfo
  go_enter Try.func35, Try.ntmps35
  go_wp2_with (at_make; refine wpList_make_own _ rfl _ _ 24 rfl w.heap.size 26 i0 (.agg #[.int .i64 0, .int .i64 0, .bool false]) 3 Try.underlying24 hi hv0 hv1 _ _ _ m rfl rfl rfl ?b2 ?b3 ?b4 ?_)
  case b2 => rw [hv2]; omega
  case b3 => unfold maxLen; omega
  case b4 => omega
  intro w2 hown0 hgrow
  have hq2 : Below w.heap.size w w2 := (Below.refl _ _ : Below w.heap.size w _).grown hgrow (Nat.le_refl _) (fun k hk => by cases hk)
  clear hgrow
  go_wp2_with fail
  go_loopw [5, 13] (fun tv ti wl => ∃ k : Nat, k ≤ m ∧ ti = .int .i64 k ∧ wl.ownsRow w.heap.size 26 3 tv k (cellsK (fun i => K (Z i).toNat) k) ∧ Below w.heap.size w wl) (fun _ ti _ => m - (intOf ti).toNat)
  case atStart => exact ⟨0, by omega, rfl, hown0, by repeat (first | (with_reducible exact Below.refl _ _) | (with_reducible assumption) | (with_reducible refine Below.setCell ?_ (by first | (simp; done) | (simp; omega) | omega) _) | (with_reducible refine Below.alloc ?_ (by first | (simp; done) | (simp; omega) | omega) _) | (refine bl_call ?_ (by assumption) (by first | (simp; done) | (simp; omega) | omega)) | (with_reducible refine bl_drewN ?_) | (with_reducible refine Below.drew ?_) | (with_reducible refine bl_grow ?_ (by first | (simp; done) | (simp; omega) | omega)))⟩
  case round =>
    clear hown0 hq2
    obtain ⟨k, hk, rfl, hown, hqV⟩ := hrel
    rename World => V
    have hzV := hqV.size
    have kpV := HP.out.below hqV
    obtain ⟨zpV, cp0V, fp0V⟩ := kpV.one
    by_cases hlt : k < m
    · have hlt' : (k : Int) < m := by omega
      obtain ⟨b, o, rfl, hzr⟩ : ∃ b o : Nat, sz = some ⟨b, o, none⟩ ∧ RowI w b o m Z := HZ.out.resolve_left (by omega)
      have hbV := Nat.lt_of_lt_of_le hzr.1 hzV
      have d0 := (hzr.below hzr.1 hqV).2 k hlt
      obtain ⟨z, hz⟩ : ∃ z : Nat, Z k = (z : Int) := ⟨(Z k).toNat, by have := (HO.out k hlt).1; omega⟩
      have hzn : z < n := by have := (HO.out k hlt).2; omega
      have HZz : Hid (Z k = (z : Int)) := hz
      rw [hz] at d0
      clear hz hzr
      have t1 : 0 ≤ (z : Int) := by omega
      have t2 : (z : Int) < n := by omega
      obtain ⟨g, rfl, r1⟩ := HR.out.resolve_left (by omega)
      have hgV := Nat.lt_of_lt_of_le r1.1 hzV
      obtain ⟨c0, c1, c2, _⟩ := (r1.below r1.1 hqV).2 z hzn
      rw [Nat.zero_add] at c0 c1 c2
      clear r1
      go_wp2_with (at_builtin; refine wpList_append_own_at _ rfl _ _ 24 rfl w.heap.size 26 i0 (.agg #[.int .i64 0, .int .i64 0, .bool false]) 3 24 Try.underlying24 hi hv0 hv1 hv2 rfl (by decide) _ _ _ rfl (own_stay hown (by repeat (first | (with_reducible exact Below.refl _ _) | (with_reducible assumption) | (with_reducible refine Below.setCell ?_ (by first | (simp; done) | (simp; omega) | omega) _) | (with_reducible refine Below.alloc ?_ (by first | (simp; done) | (simp; omega) | omega) _) | (refine bl_call ?_ (by assumption) (by first | (simp; done) | (simp; omega) | omega)) | (with_reducible refine bl_drewN ?_) | (with_reducible refine Below.drew ?_) | (with_reducible refine bl_grow ?_ (by first | (simp; done) | (simp; omega) | omega))))) ⟨_, 0, none⟩ 1 1 [.int .i64 ((tM (4 * K z)).1 : Int), .int .i64 ((tM (4 * K z)).2.1 : Int), .bool (tM (4 * K z)).2.2] rfl rfl ?c1 ?c2 ?c3 ?c4 ?c5 ?_)
      case c1 => exact three_at (by simp) _ _ _ _
      case c2 => intro u hu; simp at hu; rcases hu with rfl | rfl | rfl <;> rfl
      case c3 => unfold maxLen; omega
      case c4 => omega
      case c5 => simp; omega
      · intro v' w13 hown' hgrow _ hat
        have hq13 : Below w.heap.size w w13 := grown_under (B := w.heap.size) (by repeat (first | (with_reducible exact Below.refl _ _) | (with_reducible assumption) | (with_reducible refine Below.setCell ?_ (by first | (simp; done) | (simp; omega) | omega) _) | (with_reducible refine Below.alloc ?_ (by first | (simp; done) | (simp; omega) | omega) _) | (refine bl_call ?_ (by assumption) (by first | (simp; done) | (simp; omega) | omega)) | (with_reducible refine bl_drewN ?_) | (with_reducible refine Below.drew ?_) | (with_reducible refine bl_grow ?_ (by first | (simp; done) | (simp; omega) | omega)))) (own_stay hown (by repeat (first | (with_reducible exact Below.refl _ _) | (with_reducible assumption) | (with_reducible refine Below.setCell ?_ (by first | (simp; done) | (simp; omega) | omega) _) | (with_reducible refine Below.alloc ?_ (by first | (simp; done) | (simp; omega) | omega) _) | (refine bl_call ?_ (by assumption) (by first | (simp; done) | (simp; omega) | omega)) | (with_reducible refine bl_drewN ?_) | (with_reducible refine Below.drew ?_) | (with_reducible refine bl_grow ?_ (by first | (simp; done) | (simp; omega) | omega))))) hgrow (by simp; omega) (Nat.le_refl _)
        have hown2 : w13.ownsRow w.heap.size 26 3 v' (k + 1) (cellsK (fun i => K (Z i).toNat) (k + 1)) := by
          rw [cellsK_succ, HZz.out, Int.toNat_natCast]; exact hown'
        clear hgrow hat hown hown'
        go_wp2_with fail
        go_roundw
        case rel => exact ⟨k + 1, by omega, by simp, hown2, hq13⟩
        case measure => simp [intOf]; omega
    · have hlt' : ¬ (k : Int) < m := by omega
      obtain rfl : k = m := by omega
      go_wp2_with fail
      go_ret
      exact ⟨_, rfl, hown, by repeat (first | (with_reducible exact Below.refl _ _) | (with_reducible assumption) | (with_reducible refine Below.setCell ?_ (by first | (simp; done) | (simp; omega) | omega) _) | (with_reducible refine Below.alloc ?_ (by first | (simp; done) | (simp; omega) | omega) _) | (refine bl_call ?_ (by assumption) (by first | (simp; done) | (simp; omega) | omega)) | (with_reducible refine bl_drewN ?_) | (with_reducible refine Below.drew ?_) | (with_reducible refine bl_grow ?_ (by first | (simp; done) | (simp; omega) | omega)))⟩
/-- Of any row of coins. -/
theorem own_isC {W : World} {B : Nat} {q : Value} {m : Nat} {K : Nat → Nat} (h : W.ownsRow B 26 3 q m (cellsK K m)) : ∃ (sa : Option Addr) (c : Nat), q = .slice sa m c ∧ (m = 0 ∨ ∃ b o : Nat, sa = some ⟨b, o, none⟩ ∧ RowO W b o m (fun i => ((tM (4 * K i)).1 : Int)) (fun i => ((tM (4 * K i)).2.1 : Int)) (fun i => (tM (4 * K i)).2.2)) := by
  obtain ⟨sa, c, e, k⟩ := own_spots h
  exact ⟨sa, c, e, k.imp_right fun ⟨g, a, _, _, r⟩ => ⟨g, 0, a, r⟩⟩
theorem bbinfo : (Try.prog.info? 4).map (fun i => (i.zero, i.size, i.bytes)) = some (some (.bool false), 1, 1) := by kernel_rfl
set_option maxRecDepth 100000 in
set_option maxHeartbeats 8000000 in
theorem bgone (p n m dz t : Nat) (sz : Option Addr) (u : Value) (K : Nat → Nat) (G : Nat → Bool) (Z : Nat → Int) (c : Value) (w : World) (hn : n ≤ 1000) (hm : m ≤ 9223372036854775807) (h : CoinsAt 83 w p u n K G) (hz : (m = 0 ∨ ∃ b o : Nat, sz = some ⟨b, o, none⟩ ∧ RowI w b o m Z)) (ht : t ≤ m) (hok : ∀ i, i < t → goE n G Z i = 0) (hc : (t = m ∧ c = .nilIface) ∨ (t < m ∧ (goE n G Z t == 0) = false ∧ c = errOf (goE n G Z t))) : Calls Try.prog 33 #[.pointer (some ⟨p, 0, none⟩), .slice sz m dz] w fun e w' => e = .returned (c) ∧ Below w.heap.size w w' := by
  obtain ⟨su, cu, rfl, hrow⟩ := h.slice
  have HP : Hid (At w p [.slice su n cu]) := h.cells
  have HR : Hid (n = 0 ∨ ∃ g, su = some ⟨g, 0, none⟩ ∧ RowC w g 0 n K G) := hrow
  have hpw := h.cells.1
  clear hrow h
  have HZ : Hid ((m = 0 ∨ ∃ b o : Nat, sz = some ⟨b, o, none⟩ ∧ RowI w b o m Z)) := hz
  have HO : Hid (∀ i, i < t → goE n G Z i = 0) := hok
  have HC : Hid ((t = m ∧ c = .nilIface) ∨ (t < m ∧ (goE n G Z t == 0) = false ∧ c = errOf (goE n G Z t))) := hc
  clear hz hok hc
  obtain ⟨j0, hj, hu0, hu1, hu2⟩ := info_parts bbinfo
  have kpw := HP.out
  obtain ⟨zpw, cp0w, fp0w⟩ := kpw.one
  go_enter Try.func33, Try.ntmps33
  go_wp2_with (at_make; refine wpList_make_full _ rfl _ _ 100 rfl w.heap.size 4 j0 (.bool false) 1 Try.underlying100 hj hu0 hu1 _ _ _ _ n rfl rfl rfl rfl ?b2 ?b3 ?b4 ?_)
  case b2 => rw [hu2]; omega
  case b3 => unfold maxLen; omega
  case b4 => omega
  intro w1 hown1 hgrow1
  rw [bmade] at hown1
  have hq1 : Below w.heap.size w w1 := (Below.refl _ _ : Below w.heap.size w _).grown hgrow1 (Nat.le_refl _) (fun k hk => by cases hk)
  clear hgrow1 kpw cp0w fp0w
  go_wp2_with fail
  go_loopw [16] (fun ti wl => ∃ k : Nat, k ≤ t ∧ ti = .int .i64 k ∧ wl.ownsRow w.heap.size 4 1 (.slice (some ⟨w.heap.size, 0, none⟩) n n) n (cellsB (mkG (fun _ => false) Z k) n) ∧ Below w.heap.size w wl) (fun ti _ => m - (intOf ti).toNat)
  case atStart => exact ⟨0, by omega, rfl, hown1, by repeat (first | (with_reducible exact Below.refl _ _) | (with_reducible assumption) | (with_reducible refine Below.setCell ?_ (by first | (simp; done) | (simp; omega) | omega) _) | (with_reducible refine Below.alloc ?_ (by first | (simp; done) | (simp; omega) | omega) _) | (refine bl_call ?_ (by assumption) (by first | (simp; done) | (simp; omega) | omega)) | (with_reducible refine bl_drewN ?_) | (with_reducible refine Below.drew ?_) | (with_reducible refine bl_grow ?_ (by first | (simp; done) | (simp; omega) | omega)))⟩
  case round =>
    clear hown1 hq1
    obtain ⟨k, hk, rfl, hown, hqV⟩ := hrel
    rename World => V
    have hzV := hqV.size
    have kpV := HP.out.below hqV
    obtain ⟨zpV, cp0V, fp0V⟩ := kpV.one
    by_cases hlt : k < m
    · have hlt' : (k : Int) < m := by omega
      obtain ⟨b, o, rfl, hzr⟩ : ∃ b o : Nat, sz = some ⟨b, o, none⟩ ∧ RowI w b o m Z := HZ.out.resolve_left (by omega)
      have hbV := Nat.lt_of_lt_of_le hzr.1 hzV
      have d0 := (hzr.below hzr.1 hqV).2 k hlt
      clear hzr
      have HN : Hid (∀ i, i < k → 0 ≤ Z i) := go_nonneg fun i hi => HO.out i (by omega)
      rcases goE_way n G Z k with ⟨a1, e⟩ | ⟨a1, a2, e⟩ | ⟨a1, a2, a3, e⟩ | ⟨a1, a2, a3, e⟩
      · have hkt : ¬ k < t := fun g => by have := HO.out k g; omega
        obtain rfl : k = t := by omega
        obtain rfl : c = errOf 1 := (HC.out.resolve_left fun g => by omega).2.2.trans (by rw [e])
        clear e hkt
        have a2 := inN_no a1
        clear a1
        by_cases a3 : Z k < 0
        · go_wp2_with fail
          go_ret
          exact ⟨rfl, by repeat (first | (with_reducible exact Below.refl _ _) | (with_reducible assumption) | (with_reducible refine Below.setCell ?_ (by first | (simp; done) | (simp; omega) | omega) _) | (with_reducible refine Below.alloc ?_ (by first | (simp; done) | (simp; omega) | omega) _) | (refine bl_call ?_ (by assumption) (by first | (simp; done) | (simp; omega) | omega)) | (with_reducible refine bl_drewN ?_) | (with_reducible refine Below.drew ?_) | (with_reducible refine bl_grow ?_ (by first | (simp; done) | (simp; omega) | omega)))⟩
        · have a4 : Z k ≥ n := by omega
          clear a2
          go_wp2_with fail
          go_ret
          exact ⟨rfl, by repeat (first | (with_reducible exact Below.refl _ _) | (with_reducible assumption) | (with_reducible refine Below.setCell ?_ (by first | (simp; done) | (simp; omega) | omega) _) | (with_reducible refine Below.alloc ?_ (by first | (simp; done) | (simp; omega) | omega) _) | (refine bl_call ?_ (by assumption) (by first | (simp; done) | (simp; omega) | omega)) | (with_reducible refine bl_drewN ?_) | (with_reducible refine Below.drew ?_) | (with_reducible refine bl_grow ?_ (by first | (simp; done) | (simp; omega) | omega)))⟩
      · have hkt : ¬ k < t := fun g => by have := HO.out k g; omega
        obtain rfl : k = t := by omega
        obtain rfl : c = errOf 6 := (HC.out.resolve_left fun g => by omega).2.2.trans (by rw [e])
        clear e hkt
        obtain ⟨z, hz⟩ : ∃ z : Nat, Z k = (z : Int) := ⟨(Z k).toNat, by have := inN_yes a1; omega⟩
        have hzn : z < n := by have := inN_yes a1; omega
        have HZz : Hid (Z k = (z : Int)) := hz
        rw [hz] at d0
        rw [hz, Int.toNat_natCast] at a2
        clear a1 hz
        have t0 : ¬ (z : Int) < 0 := by omega
        have t1 : 0 ≤ (z : Int) := by omega
        have t2 : (z : Int) < n := by omega
        have t3 : ¬ (z : Int) ≥ n := by omega
        obtain ⟨g, rfl, r1⟩ := HR.out.resolve_left (by omega)
        have hgV := Nat.lt_of_lt_of_le r1.1 hzV
        obtain ⟨_, _, _, c3⟩ := (r1.below r1.1 hqV).2 z hzn
        rw [Nat.zero_add, a2] at c3
        clear r1 a2
        change V.cell? _ = some (.bool false) at c3
        go_wp2_with fail
        go_ret
        exact ⟨rfl, by repeat (first | (with_reducible exact Below.refl _ _) | (with_reducible assumption) | (with_reducible refine Below.setCell ?_ (by first | (simp; done) | (simp; omega) | omega) _) | (with_reducible refine Below.alloc ?_ (by first | (simp; done) | (simp; omega) | omega) _) | (refine bl_call ?_ (by assumption) (by first | (simp; done) | (simp; omega) | omega)) | (with_reducible refine bl_drewN ?_) | (with_reducible refine Below.drew ?_) | (with_reducible refine bl_grow ?_ (by first | (simp; done) | (simp; omega) | omega)))⟩
      · have hkt : ¬ k < t := fun g => by have := HO.out k g; omega
        obtain rfl : k = t := by omega
        obtain rfl : c = errOf 7 := (HC.out.resolve_left fun g => by omega).2.2.trans (by rw [e])
        clear e hkt
        obtain ⟨z, hz⟩ : ∃ z : Nat, Z k = (z : Int) := ⟨(Z k).toNat, by have := inN_yes a1; omega⟩
        have hzn : z < n := by have := inN_yes a1; omega
        have HZz : Hid (Z k = (z : Int)) := hz
        rw [hz] at d0
        rw [hz, Int.toNat_natCast] at a2
        clear a1 hz
        have t0 : ¬ (z : Int) < 0 := by omega
        have t1 : 0 ≤ (z : Int) := by omega
        have t2 : (z : Int) < n := by omega
        have t3 : ¬ (z : Int) ≥ n := by omega
        obtain ⟨g, rfl, r1⟩ := HR.out.resolve_left (by omega)
        have hgV := Nat.lt_of_lt_of_le r1.1 hzV
        obtain ⟨_, _, _, c3⟩ := (r1.below r1.1 hqV).2 z hzn
        rw [Nat.zero_add, a2] at c3
        clear r1 a2
        change V.cell? _ = some (.bool true) at c3
        have zfV : w.heap.size < V.heap.size := (hown.lt w.heap.size rfl).2
        have f0 := hown.cellAt z (by omega)
        rw [cellsB_at _ hzn, mk_dup HN.out, ← HZz.out, a3] at f0
        have f1 := hown.frozenAt z
        clear a3
        go_wp2_with fail
        go_ret
        exact ⟨rfl, by repeat (first | (with_reducible exact Below.refl _ _) | (with_reducible assumption) | (with_reducible refine Below.setCell ?_ (by first | (simp; done) | (simp; omega) | omega) _) | (with_reducible refine Below.alloc ?_ (by first | (simp; done) | (simp; omega) | omega) _) | (refine bl_call ?_ (by assumption) (by first | (simp; done) | (simp; omega) | omega)) | (with_reducible refine bl_drewN ?_) | (with_reducible refine Below.drew ?_) | (with_reducible refine bl_grow ?_ (by first | (simp; done) | (simp; omega) | omega)))⟩
      · have hkt : k < t := by
          rcases Nat.lt_or_ge k t with g | g
          · exact g
          · obtain rfl : k = t := by omega
            obtain ⟨_, g2, _⟩ := HC.out.resolve_left fun g => by omega
            rw [e] at g2
            exact absurd g2 (by decide)
        clear e
        obtain ⟨z, hz⟩ : ∃ z : Nat, Z k = (z : Int) := ⟨(Z k).toNat, by have := inN_yes a1; omega⟩
        have hzn : z < n := by have := inN_yes a1; omega
        have HZz : Hid (Z k = (z : Int)) := hz
        rw [hz] at d0
        rw [hz, Int.toNat_natCast] at a2
        clear a1 hz
        have t0 : ¬ (z : Int) < 0 := by omega
        have t1 : 0 ≤ (z : Int) := by omega
        have t2 : (z : Int) < n := by omega
        have t3 : ¬ (z : Int) ≥ n := by omega
        obtain ⟨g, rfl, r1⟩ := HR.out.resolve_left (by omega)
        have hgV := Nat.lt_of_lt_of_le r1.1 hzV
        obtain ⟨_, _, _, c3⟩ := (r1.below r1.1 hqV).2 z hzn
        rw [Nat.zero_add, a2] at c3
        clear r1 a2
        change V.cell? _ = some (.bool true) at c3
        have zfV : w.heap.size < V.heap.size := (hown.lt w.heap.size rfl).2
        have f0 := hown.cellAt z (by omega)
        rw [cellsB_at _ hzn, mk_dup HN.out, ← HZz.out, a3] at f0
        have f1 := hown.frozenAt z
        clear a3
        have HS : Hid ((V.setCell ⟨w.heap.size, z, none⟩ (.bool true)).ownsRow w.heap.size 4 1 (.slice (some ⟨w.heap.size, 0, none⟩) n n) n (cellsB (mkG (fun _ => false) Z (k + 1)) n)) := by
          unfold Hid
          show World.ownsRow _ _ _ _ _ _ (cellsB (setB (mkG (fun _ => false) Z k) (Z k).toNat) n)
          rw [HZz.out, Int.toNat_natCast, ← cellsB_set _ hzn]
          exact (hown.stored z _).1
        have hqS : Below w.heap.size w (V.setCell ⟨w.heap.size, z, none⟩ (.bool true)) := hqV.setCell (Nat.le_refl _) _
        go_wp2_with fail
        go_roundw
        case rel => exact ⟨k + 1, by omega, by simp, HS.out, hqS⟩
        case measure => simp [intOf]; omega
    · have hlt' : ¬ (k : Int) < m := by omega
      obtain ⟨g1, rfl⟩ : t = m ∧ c = .nilIface := HC.out.resolve_right fun g => by omega
      go_wp2_with fail
      go_ret
      exact ⟨rfl, by repeat (first | (with_reducible exact Below.refl _ _) | (with_reducible assumption) | (with_reducible refine Below.setCell ?_ (by first | (simp; done) | (simp; omega) | omega) _) | (with_reducible refine Below.alloc ?_ (by first | (simp; done) | (simp; omega) | omega) _) | (refine bl_call ?_ (by assumption) (by first | (simp; done) | (simp; omega) | omega)) | (with_reducible refine bl_drewN ?_) | (with_reducible refine Below.drew ?_) | (with_reducible refine bl_grow ?_ (by first | (simp; done) | (simp; omega) | omega)))⟩
theorem bgone_no (p n m dz : Nat) (sz : Option Addr) (u : Value) (K : Nat → Nat) (G : Nat → Bool) (Z : Nat → Int) (w : World) (hn : n ≤ 1000) (hm : m ≤ 9223372036854775807) (h : CoinsAt 83 w p u n K G) (hz : (m = 0 ∨ ∃ b o : Nat, sz = some ⟨b, o, none⟩ ∧ RowI w b o m Z)) (hq : (gnE n G Z m == 0) = false) : Calls Try.prog 33 #[.pointer (some ⟨p, 0, none⟩), .slice sz m dz] w fun e w' => e = .returned (errOf (gnE n G Z m)) ∧ Below w.heap.size w w' := by
  obtain ⟨t, t1, t2, t3, t4⟩ := gnE_first hq
  rw [t4]
  exact bgone p n m dz t sz u K G Z _ w hn hm h hz (by omega) t2 (Or.inr ⟨t1, t3, rfl⟩)
theorem bgone_yes (p n m dz : Nat) (sz : Option Addr) (u : Value) (K : Nat → Nat) (G : Nat → Bool) (Z : Nat → Int) (w : World) (hn : n ≤ 1000) (hm : m ≤ 9223372036854775807) (h : CoinsAt 83 w p u n K G) (hz : (m = 0 ∨ ∃ b o : Nat, sz = some ⟨b, o, none⟩ ∧ RowI w b o m Z)) (hok : ∀ i, i < m → goE n G Z i = 0) : Calls Try.prog 33 #[.pointer (some ⟨p, 0, none⟩), .slice sz m dz] w fun e w' => e = .returned (.nilIface) ∧ Below w.heap.size w w' :=
  bgone p n m dz m sz u K G Z _ w hn hm h hz (Nat.le_refl _) hok (Or.inl ⟨rfl, rfl⟩)
set_option maxRecDepth 100000 in
set_option maxHeartbeats 8000000 in
theorem banswered (a x c : Nat) (R : Sn) (w : World) (ha : ∀ w, Calls Try.prog 38 #[.agg #[.int .i64 ((tM a).1 : Int), .int .i64 ((tM a).2.1 : Int), .bool (tM a).2.2], .agg #[.int .i64 ((tM x).1 : Int), .int .i64 ((tM x).2.1 : Int), .bool (tM x).2.2]] w fun e w' => e = .returned (.tuple #[.int .i64 (c : Int), .nilIface]) ∧ Below w.heap.size w w') (he : tM (a + x * em (c : Int)) = R) : Calls Try.prog 63 #[.agg #[.int .i64 ((tM a).1 : Int), .int .i64 ((tM a).2.1 : Int), .bool (tM a).2.2], .agg #[.int .i64 ((tM x).1 : Int), .int .i64 ((tM x).2.1 : Int), .bool (tM x).2.2]] w fun e w' => e = .returned (.tuple #[.agg #[.int .i64 ((R).1 : Int), .int .i64 ((R).2.1 : Int), .bool (R).2.2], .nilIface]) ∧ Below w.heap.size w w' := by
  have HA : Hid (∀ w, Calls Try.prog 38 #[.agg #[.int .i64 ((tM a).1 : Int), .int .i64 ((tM a).2.1 : Int), .bool (tM a).2.2], .agg #[.int .i64 ((tM x).1 : Int), .int .i64 ((tM x).2.1 : Int), .bool (tM x).2.2]] w fun e w' => e = .returned (.tuple #[.int .i64 (c : Int), .nilIface]) ∧ Below w.heap.size w w') := ha
  have E : Hid (tM (a + x * em (c : Int)) = R) := he
  clear ha he
  have m1 : True := trivial; have m2 : True := trivial; have m3 : True := trivial
  go_enter Try.func63, Try.ntmps63
  go_wp2_with (first | (go_at_call 38; clear m1; refine (HA.out _).mono ?_; rintro e w1 ⟨rfl, hbw1⟩; have kaw1 : At w1 (w.heap.size) [.int .i64 ((tM a).1 : Int), .int .i64 ((tM a).2.1 : Int), .bool (tM a).2.2] := (by repeat (first | (with_reducible assumption) | ((with_reducible refine at_new' _ _ _ _ ?_); (first | rfl | (simp; done))) | (with_reducible refine At.alloc ?_ _) | (with_reducible refine At.drew ?_) | (with_reducible refine At.drewN ?_) | (with_reducible refine At.set ?_ (by omega)) | (with_reducible apply At.store4) | (with_reducible apply At.store3) | (with_reducible apply At.store2) | (with_reducible apply At.put43) | (refine At.below ?_ (by with_reducible assumption)))); have kxw1 : At w1 (w.heap.size + 1) [.int .i64 ((tM x).1 : Int), .int .i64 ((tM x).2.1 : Int), .bool (tM x).2.2] := (by repeat (first | (with_reducible assumption) | ((with_reducible refine at_new' _ _ _ _ ?_); (first | rfl | (simp; done))) | (with_reducible refine At.alloc ?_ _) | (with_reducible refine At.drew ?_) | (with_reducible refine At.drewN ?_) | (with_reducible refine At.set ?_ (by omega)) | (with_reducible apply At.store4) | (with_reducible apply At.store3) | (with_reducible apply At.store2) | (with_reducible apply At.put43) | (refine At.below ?_ (by with_reducible assumption)))); have kzw1 : At w1 (w.heap.size + 2) [.int .i64 0, .int .i64 0, .bool false] := (by repeat (first | (with_reducible assumption) | ((with_reducible refine at_new' _ _ _ _ ?_); (first | rfl | (simp; done))) | (with_reducible refine At.alloc ?_ _) | (with_reducible refine At.drew ?_) | (with_reducible refine At.drewN ?_) | (with_reducible refine At.set ?_ (by omega)) | (with_reducible apply At.store4) | (with_reducible apply At.store3) | (with_reducible apply At.store2) | (with_reducible apply At.put43) | (refine At.below ?_ (by with_reducible assumption)))); have hqw1 : Below w.heap.size w w1 := (by repeat (first | (with_reducible exact Below.refl _ _) | (with_reducible assumption) | (with_reducible refine Below.setCell ?_ (by first | (simp; done) | (simp; omega) | omega) _) | (with_reducible refine Below.alloc ?_ (by first | (simp; done) | (simp; omega) | omega) _) | (refine bl_call ?_ (by assumption) (by first | (simp; done) | (simp; omega) | omega)) | (with_reducible refine bl_drewN ?_) | (with_reducible refine Below.drew ?_) | (with_reducible refine bl_grow ?_ (by first | (simp; done) | (simp; omega) | omega)))); have hzw1 := hqw1.size; obtain ⟨zaw1, ca0w1, ca1w1, ca2w1, fa0w1, fa1w1, fa2w1⟩ := kaw1.three; obtain ⟨zxw1, cx0w1, cx1w1, cx2w1, fx0w1, fx1w1, fx2w1⟩ := kxw1.three; obtain ⟨zzw1, cz0w1, cz1w1, cz2w1, fz0w1, fz1w1, fz2w1⟩ := kzw1.three; clear hbw1) | (go_at_call 26; clear m2; refine (times_tM x (c : Int) _).mono ?_; rintro e w2 ⟨rfl, hbw2⟩; have kaw2 : At w2 (w.heap.size) [.int .i64 ((tM a).1 : Int), .int .i64 ((tM a).2.1 : Int), .bool (tM a).2.2] := (by repeat (first | (with_reducible assumption) | ((with_reducible refine at_new' _ _ _ _ ?_); (first | rfl | (simp; done))) | (with_reducible refine At.alloc ?_ _) | (with_reducible refine At.drew ?_) | (with_reducible refine At.drewN ?_) | (with_reducible refine At.set ?_ (by omega)) | (with_reducible apply At.store4) | (with_reducible apply At.store3) | (with_reducible apply At.store2) | (with_reducible apply At.put43) | (refine At.below ?_ (by with_reducible assumption)))); have kxw2 : At w2 (w.heap.size + 1) [.int .i64 ((tM x).1 : Int), .int .i64 ((tM x).2.1 : Int), .bool (tM x).2.2] := (by repeat (first | (with_reducible assumption) | ((with_reducible refine at_new' _ _ _ _ ?_); (first | rfl | (simp; done))) | (with_reducible refine At.alloc ?_ _) | (with_reducible refine At.drew ?_) | (with_reducible refine At.drewN ?_) | (with_reducible refine At.set ?_ (by omega)) | (with_reducible apply At.store4) | (with_reducible apply At.store3) | (with_reducible apply At.store2) | (with_reducible apply At.put43) | (refine At.below ?_ (by with_reducible assumption)))); have kzw2 : At w2 (w.heap.size + 2) [.int .i64 0, .int .i64 0, .bool false] := (by repeat (first | (with_reducible assumption) | ((with_reducible refine at_new' _ _ _ _ ?_); (first | rfl | (simp; done))) | (with_reducible refine At.alloc ?_ _) | (with_reducible refine At.drew ?_) | (with_reducible refine At.drewN ?_) | (with_reducible refine At.set ?_ (by omega)) | (with_reducible apply At.store4) | (with_reducible apply At.store3) | (with_reducible apply At.store2) | (with_reducible apply At.put43) | (refine At.below ?_ (by with_reducible assumption)))); have hqw2 : Below w.heap.size w w2 := (by repeat (first | (with_reducible exact Below.refl _ _) | (with_reducible assumption) | (with_reducible refine Below.setCell ?_ (by first | (simp; done) | (simp; omega) | omega) _) | (with_reducible refine Below.alloc ?_ (by first | (simp; done) | (simp; omega) | omega) _) | (refine bl_call ?_ (by assumption) (by first | (simp; done) | (simp; omega) | omega)) | (with_reducible refine bl_drewN ?_) | (with_reducible refine Below.drew ?_) | (with_reducible refine bl_grow ?_ (by first | (simp; done) | (simp; omega) | omega)))); have hzw2 := hqw2.size; obtain ⟨zaw2, ca0w2, ca1w2, ca2w2, fa0w2, fa1w2, fa2w2⟩ := kaw2.three; obtain ⟨zxw2, cx0w2, cx1w2, cx2w2, fx0w2, fx1w2, fx2w2⟩ := kxw2.three; obtain ⟨zzw2, cz0w2, cz1w2, cz2w2, fz0w2, fz1w2, fz2w2⟩ := kzw2.three; clear kaw1 ca0w1 fa0w1 ca1w1 fa1w1 ca2w1 fa2w1 kxw1 cx0w1 fx0w1 cx1w1 fx1w1 cx2w1 fx2w1 kzw1 cz0w1 fz0w1 cz1w1 fz1w1 cz2w1 fz2w1 hqw1; clear hbw2) | (go_at_call 29; clear m3; refine (cadd_eq E.out _).mono ?_; rintro e w3 ⟨rfl, hbw3⟩; have kaw3 : At w3 (w.heap.size) [.int .i64 ((tM a).1 : Int), .int .i64 ((tM a).2.1 : Int), .bool (tM a).2.2] := (by repeat (first | (with_reducible assumption) | ((with_reducible refine at_new' _ _ _ _ ?_); (first | rfl | (simp; done))) | (with_reducible refine At.alloc ?_ _) | (with_reducible refine At.drew ?_) | (with_reducible refine At.drewN ?_) | (with_reducible refine At.set ?_ (by omega)) | (with_reducible apply At.store4) | (with_reducible apply At.store3) | (with_reducible apply At.store2) | (with_reducible apply At.put43) | (refine At.below ?_ (by with_reducible assumption)))); have kxw3 : At w3 (w.heap.size + 1) [.int .i64 ((tM x).1 : Int), .int .i64 ((tM x).2.1 : Int), .bool (tM x).2.2] := (by repeat (first | (with_reducible assumption) | ((with_reducible refine at_new' _ _ _ _ ?_); (first | rfl | (simp; done))) | (with_reducible refine At.alloc ?_ _) | (with_reducible refine At.drew ?_) | (with_reducible refine At.drewN ?_) | (with_reducible refine At.set ?_ (by omega)) | (with_reducible apply At.store4) | (with_reducible apply At.store3) | (with_reducible apply At.store2) | (with_reducible apply At.put43) | (refine At.below ?_ (by with_reducible assumption)))); have kzw3 : At w3 (w.heap.size + 2) [.int .i64 0, .int .i64 0, .bool false] := (by repeat (first | (with_reducible assumption) | ((with_reducible refine at_new' _ _ _ _ ?_); (first | rfl | (simp; done))) | (with_reducible refine At.alloc ?_ _) | (with_reducible refine At.drew ?_) | (with_reducible refine At.drewN ?_) | (with_reducible refine At.set ?_ (by omega)) | (with_reducible apply At.store4) | (with_reducible apply At.store3) | (with_reducible apply At.store2) | (with_reducible apply At.put43) | (refine At.below ?_ (by with_reducible assumption)))); have ktw3 : At w3 (w2.heap.size) [.int .i64 ((tM (x * em (c : Int))).1 : Int), .int .i64 ((tM (x * em (c : Int))).2.1 : Int), .bool (tM (x * em (c : Int))).2.2] := (by repeat (first | (with_reducible assumption) | ((with_reducible refine at_new' _ _ _ _ ?_); (first | rfl | (simp; done))) | (with_reducible refine At.alloc ?_ _) | (with_reducible refine At.drew ?_) | (with_reducible refine At.drewN ?_) | (with_reducible refine At.set ?_ (by omega)) | (with_reducible apply At.store4) | (with_reducible apply At.store3) | (with_reducible apply At.store2) | (with_reducible apply At.put43) | (refine At.below ?_ (by with_reducible assumption)))); have hqw3 : Below w.heap.size w w3 := (by repeat (first | (with_reducible exact Below.refl _ _) | (with_reducible assumption) | (with_reducible refine Below.setCell ?_ (by first | (simp; done) | (simp; omega) | omega) _) | (with_reducible refine Below.alloc ?_ (by first | (simp; done) | (simp; omega) | omega) _) | (refine bl_call ?_ (by assumption) (by first | (simp; done) | (simp; omega) | omega)) | (with_reducible refine bl_drewN ?_) | (with_reducible refine Below.drew ?_) | (with_reducible refine bl_grow ?_ (by first | (simp; done) | (simp; omega) | omega)))); have hzw3 := hqw3.size; obtain ⟨zaw3, ca0w3, ca1w3, ca2w3, fa0w3, fa1w3, fa2w3⟩ := kaw3.three; obtain ⟨zxw3, cx0w3, cx1w3, cx2w3, fx0w3, fx1w3, fx2w3⟩ := kxw3.three; obtain ⟨zzw3, cz0w3, cz1w3, cz2w3, fz0w3, fz1w3, fz2w3⟩ := kzw3.three; obtain ⟨ztw3, ct0w3, ct1w3, ct2w3, ft0w3, ft1w3, ft2w3⟩ := ktw3.three; clear kaw2 ca0w2 fa0w2 ca1w2 fa1w2 ca2w2 fa2w2 kxw2 cx0w2 fx0w2 cx1w2 fx1w2 cx2w2 fx2w2 kzw2 cz0w2 fz0w2 cz1w2 fz1w2 cz2w2 fz2w2 hqw2; clear hbw3))
  exact bodyPost_ret (v := .tuple #[.agg #[.int .i64 ((R).1 : Int), .int .i64 ((R).2.1 : Int), .bool (R).2.2], .nilIface]) (by simp [results, Try.results63, go_sem, *]) rfl ⟨rfl, by repeat (first | (with_reducible exact Below.refl _ _) | (with_reducible assumption) | (with_reducible refine Below.setCell ?_ (by first | (simp; done) | (simp; omega) | omega) _) | (with_reducible refine Below.alloc ?_ (by first | (simp; done) | (simp; omega) | omega) _) | (refine bl_call ?_ (by assumption) (by first | (simp; done) | (simp; omega) | omega)) | (with_reducible refine bl_drewN ?_) | (with_reducible refine Below.drew ?_) | (with_reducible refine bl_grow ?_ (by first | (simp; done) | (simp; omega) | omega)))⟩
set_option maxRecDepth 100000 in
set_option maxHeartbeats 8000000 in
theorem bcs_s (x : Nat) (x1 y1 S : Int) (f1 : Bool) (w : World) (h : resB S = false) : Calls Try.prog 39 #[.agg #[.int .i64 x1, .int .i64 y1, .bool f1, .int .i64 S], .agg #[.int .i64 ((tM x).1 : Int), .int .i64 ((tM x).2.1 : Int), .bool (tM x).2.2]] w fun e w' => e = .returned (errOf 1) ∧ Below w.heap.size w w' := by
  have H : Hid (∀ w, Calls Try.prog 37 #[.int .i64 S] w fun e w' => e = .returned (.bool false) ∧ w' = w) := bisnum h
  clear h
  go_enter Try.func39, Try.ntmps39
  go_wp2_with (go_at_call 37; refine (H.out _).mono ?_; rintro e v1 ⟨rfl, hv1⟩; subst v1)
  go_ret
  exact ⟨rfl, by repeat (first | (with_reducible exact Below.refl _ _) | (with_reducible assumption) | (with_reducible refine Below.setCell ?_ (by first | (simp; done) | (simp; omega) | omega) _) | (with_reducible refine Below.alloc ?_ (by first | (simp; done) | (simp; omega) | omega) _) | (refine bl_call ?_ (by assumption) (by first | (simp; done) | (simp; omega) | omega)) | (with_reducible refine bl_drewN ?_) | (with_reducible refine Below.drew ?_) | (with_reducible refine bl_grow ?_ (by first | (simp; done) | (simp; omega) | omega)))⟩
set_option maxRecDepth 100000 in
set_option maxHeartbeats 8000000 in
theorem bcs_r (x : Nat) (x1 y1 S : Int) (f1 : Bool) (w : World) (h : resB S = true) (hr : (ckI x1 y1 f1 == 0) = false) : Calls Try.prog 39 #[.agg #[.int .i64 x1, .int .i64 y1, .bool f1, .int .i64 S], .agg #[.int .i64 ((tM x).1 : Int), .int .i64 ((tM x).2.1 : Int), .bool (tM x).2.2]] w fun e w' => e = .returned (errOf (ckI x1 y1 f1)) ∧ Below w.heap.size w w' := by
  have H : Hid (∀ w, Calls Try.prog 37 #[.int .i64 S] w fun e w' => e = .returned (.bool true) ∧ w' = w) := bisnum h
  clear h
  have m1 : True := trivial
  go_enter Try.func39, Try.ntmps39
  go_wp2_with (first | (go_at_call 37; refine (H.out _).mono ?_; rintro e v1 ⟨rfl, hv1⟩; subst v1) | (go_at_call 43; clear m1; refine (check_no _ _ _ _ hr).mono ?_; rintro e w1 ⟨rfl, hbw1⟩; have ksw1 : At w1 (w.heap.size) [.int .i64 x1, .int .i64 y1, .bool f1, .int .i64 S] := (by repeat (first | (with_reducible assumption) | ((with_reducible refine at_new' _ _ _ _ ?_); (first | rfl | (simp; done))) | (with_reducible refine At.alloc ?_ _) | (with_reducible refine At.drew ?_) | (with_reducible refine At.drewN ?_) | (with_reducible refine At.set ?_ (by omega)) | (with_reducible apply At.store4) | (with_reducible apply At.store3) | (with_reducible apply At.store2) | (with_reducible apply At.put43) | (refine At.below ?_ (by with_reducible assumption)))); have kew1 : At w1 (w.heap.size + 1) [.int .i64 ((tM x).1 : Int), .int .i64 ((tM x).2.1 : Int), .bool (tM x).2.2] := (by repeat (first | (with_reducible assumption) | ((with_reducible refine at_new' _ _ _ _ ?_); (first | rfl | (simp; done))) | (with_reducible refine At.alloc ?_ _) | (with_reducible refine At.drew ?_) | (with_reducible refine At.drewN ?_) | (with_reducible refine At.set ?_ (by omega)) | (with_reducible apply At.store4) | (with_reducible apply At.store3) | (with_reducible apply At.store2) | (with_reducible apply At.put43) | (refine At.below ?_ (by with_reducible assumption)))); have hqw1 : Below w.heap.size w w1 := (by repeat (first | (with_reducible exact Below.refl _ _) | (with_reducible assumption) | (with_reducible refine Below.setCell ?_ (by first | (simp; done) | (simp; omega) | omega) _) | (with_reducible refine Below.alloc ?_ (by first | (simp; done) | (simp; omega) | omega) _) | (refine bl_call ?_ (by assumption) (by first | (simp; done) | (simp; omega) | omega)) | (with_reducible refine bl_drewN ?_) | (with_reducible refine Below.drew ?_) | (with_reducible refine bl_grow ?_ (by first | (simp; done) | (simp; omega) | omega)))); have hzw1 := hqw1.size; obtain ⟨zsw1, cs0w1, cs1w1, cs2w1, cs3w1, fs0w1, fs1w1, fs2w1, fs3w1⟩ := ksw1.four; obtain ⟨zew1, ce0w1, ce1w1, ce2w1, fe0w1, fe1w1, fe2w1⟩ := kew1.three; clear hbw1))
  go_ret
  exact ⟨rfl, by repeat (first | (with_reducible exact Below.refl _ _) | (with_reducible assumption) | (with_reducible refine Below.setCell ?_ (by first | (simp; done) | (simp; omega) | omega) _) | (with_reducible refine Below.alloc ?_ (by first | (simp; done) | (simp; omega) | omega) _) | (refine bl_call ?_ (by assumption) (by first | (simp; done) | (simp; omega) | omega)) | (with_reducible refine bl_drewN ?_) | (with_reducible refine Below.drew ?_) | (with_reducible refine bl_grow ?_ (by first | (simp; done) | (simp; omega) | omega)))⟩
set_option maxRecDepth 100000 in
set_option maxHeartbeats 8000000 in
theorem bcs_any (a x s h : Nat) (L R : Sn) (t1 t2 t3 : Bool) (w : World) (hs : s < 1013) (hsc : ∀ w, Calls Try.prog 28 #[] w fun e w' => e = .returned (.agg #[.int .i64 ((tM (4 * h)).1 : Int), .int .i64 ((tM (4 * h)).2.1 : Int), .bool (tM (4 * h)).2.2]) ∧ Below w.heap.size w w') (hl : tM (4 * h * em (s : Int)) = L) (ha : ∀ w, Calls Try.prog 63 #[.agg #[.int .i64 ((tM a).1 : Int), .int .i64 ((tM a).2.1 : Int), .bool (tM a).2.2], .agg #[.int .i64 ((tM x).1 : Int), .int .i64 ((tM x).2.1 : Int), .bool (tM x).2.2]] w fun e w' => e = .returned (.tuple #[.agg #[.int .i64 ((R).1 : Int), .int .i64 ((R).2.1 : Int), .bool (R).2.2], .nilIface]) ∧ Below w.heap.size w w') (e1 : ((L.1 : Int) == (R.1 : Int)) = t1) (e2 : ((L.2.1 : Int) == (R.2.1 : Int)) = t2) (e3 : (L.2.2 == R.2.2) = t3) : Calls Try.prog 39 #[.agg #[.int .i64 ((tM a).1 : Int), .int .i64 ((tM a).2.1 : Int), .bool (tM a).2.2, .int .i64 (s : Int)], .agg #[.int .i64 ((tM x).1 : Int), .int .i64 ((tM x).2.1 : Int), .bool (tM x).2.2]] w fun e w' => e = .returned (bif (t1 && t2 && t3) then .nilIface else errOf 8) ∧ Below w.heap.size w w' := by
  have H : Hid (∀ w, Calls Try.prog 37 #[.int .i64 (s : Int)] w fun e w' => e = .returned (.bool true) ∧ w' = w) := bisnum (decide_eq_true ⟨by omega, by omega⟩)
  have HSC : Hid (∀ w, Calls Try.prog 28 #[] w fun e w' => e = .returned (.agg #[.int .i64 ((tM (4 * h)).1 : Int), .int .i64 ((tM (4 * h)).2.1 : Int), .bool (tM (4 * h)).2.2]) ∧ Below w.heap.size w w') := hsc
  have EL : Hid (tM (4 * h * em (s : Int)) = L) := hl
  have HA : Hid (∀ w, Calls Try.prog 63 #[.agg #[.int .i64 ((tM a).1 : Int), .int .i64 ((tM a).2.1 : Int), .bool (tM a).2.2], .agg #[.int .i64 ((tM x).1 : Int), .int .i64 ((tM x).2.1 : Int), .bool (tM x).2.2]] w fun e w' => e = .returned (.tuple #[.agg #[.int .i64 ((R).1 : Int), .int .i64 ((R).2.1 : Int), .bool (R).2.2], .nilIface]) ∧ Below w.heap.size w w') := ha
  clear hsc hl ha
  have m1 : True := trivial
  go_enter Try.func39, Try.ntmps39
  go_upto_region 6 with (first | (go_at_call 37; refine (H.out _).mono ?_; rintro e v1 ⟨rfl, hv1⟩; subst v1) | (go_at_call 43; clear m1; refine (check_tM _ _).mono ?_; rintro e w1 ⟨rfl, hbw1⟩; have ksw1 : At w1 (w.heap.size) [.int .i64 ((tM a).1 : Int), .int .i64 ((tM a).2.1 : Int), .bool (tM a).2.2, .int .i64 (s : Int)] := (by repeat (first | (with_reducible assumption) | ((with_reducible refine at_new' _ _ _ _ ?_); (first | rfl | (simp; done))) | (with_reducible refine At.alloc ?_ _) | (with_reducible refine At.drew ?_) | (with_reducible refine At.drewN ?_) | (with_reducible refine At.set ?_ (by omega)) | (with_reducible apply At.store4) | (with_reducible apply At.store3) | (with_reducible apply At.store2) | (with_reducible apply At.put43) | (refine At.below ?_ (by with_reducible assumption)))); have kew1 : At w1 (w.heap.size + 1) [.int .i64 ((tM x).1 : Int), .int .i64 ((tM x).2.1 : Int), .bool (tM x).2.2] := (by repeat (first | (with_reducible assumption) | ((with_reducible refine at_new' _ _ _ _ ?_); (first | rfl | (simp; done))) | (with_reducible refine At.alloc ?_ _) | (with_reducible refine At.drew ?_) | (with_reducible refine At.drewN ?_) | (with_reducible refine At.set ?_ (by omega)) | (with_reducible apply At.store4) | (with_reducible apply At.store3) | (with_reducible apply At.store2) | (with_reducible apply At.put43) | (refine At.below ?_ (by with_reducible assumption)))); have hqw1 : Below w.heap.size w w1 := (by repeat (first | (with_reducible exact Below.refl _ _) | (with_reducible assumption) | (with_reducible refine Below.setCell ?_ (by first | (simp; done) | (simp; omega) | omega) _) | (with_reducible refine Below.alloc ?_ (by first | (simp; done) | (simp; omega) | omega) _) | (refine bl_call ?_ (by assumption) (by first | (simp; done) | (simp; omega) | omega)) | (with_reducible refine bl_drewN ?_) | (with_reducible refine Below.drew ?_) | (with_reducible refine bl_grow ?_ (by first | (simp; done) | (simp; omega) | omega)))); have hzw1 := hqw1.size; obtain ⟨zsw1, cs0w1, cs1w1, cs2w1, cs3w1, fs0w1, fs1w1, fs2w1, fs3w1⟩ := ksw1.four; obtain ⟨zew1, ce0w1, ce1w1, ce2w1, fe0w1, fe1w1, fe2w1⟩ := kew1.three; clear hbw1))
  go_cut [6, 7] from 9 to 43 (fun t6 t7 wx => ∃ bl : Nat, t6 = .pointer (some ⟨bl, 0, none⟩) ∧ t7 = .nilIface ∧ At wx (w.heap.size) [.int .i64 ((tM a).1 : Int), .int .i64 ((tM a).2.1 : Int), .bool (tM a).2.2, .int .i64 (s : Int)] ∧ At wx (w.heap.size + 1) [.int .i64 ((tM x).1 : Int), .int .i64 ((tM x).2.1 : Int), .bool (tM x).2.2] ∧ At wx bl [.int .i64 ((L).1 : Int), .int .i64 ((L).2.1 : Int), .bool (L).2.2] ∧ w.heap.size + 1 < bl ∧ Below w.heap.size w wx)
  case first =>
    go_region_held3 (fun W => ((w.heap.size) < W.heap.size ∧ W.cell? ⟨w.heap.size, 0, none⟩ = some (.int .i64 ((tM a).1 : Int)) ∧ W.cell? ⟨w.heap.size, 1, none⟩ = some (.int .i64 ((tM a).2.1 : Int)) ∧ W.cell? ⟨w.heap.size, 2, none⟩ = some (.bool (tM a).2.2) ∧ W.cell? ⟨w.heap.size, 3, none⟩ = some (.int .i64 (s : Int)) ∧ W.frozen? ⟨w.heap.size, 0, none⟩ = false ∧ W.frozen? ⟨w.heap.size, 1, none⟩ = false ∧ W.frozen? ⟨w.heap.size, 2, none⟩ = false ∧ W.frozen? ⟨w.heap.size, 3, none⟩ = false)) (exact At.four (by repeat (first | (with_reducible assumption) | ((with_reducible refine at_new' _ _ _ _ ?_); (first | rfl | (simp; done))) | (with_reducible refine At.alloc ?_ _) | (with_reducible refine At.drew ?_) | (with_reducible refine At.drewN ?_) | (with_reducible refine At.set ?_ (by omega)) | (with_reducible apply At.store4) | (with_reducible apply At.store3) | (with_reducible apply At.store2) | (with_reducible apply At.put43) | (refine At.below ?_ (by with_reducible assumption))))) (first | (go_at_call 28; refine (HSC.out _).mono ?_; rintro e w5 ⟨rfl, hb5⟩; obtain ⟨hc5, hf5⟩ := bcell hb5; have hl5 := bb_lt hb5; have hn5 := bb_ne hb5; have hm5 := bb_ne2 hb5; have hs5 := hb5.size; (try simp at hs5)) | (go_at_call 26; refine (times_eq EL.out _).mono ?_; rintro e w6 ⟨rfl, hb6⟩; obtain ⟨hc6, hf6⟩ := bcell hb6; have hl6 := bb_lt hb6; have hn6 := bb_ne hb6; have hm6 := bb_ne2 hb6; have hs6 := hb6.size; (try simp at hs6)))
    all_goals (go_wp2_with fail)
    all_goals go_meet
    all_goals (case rel => exact ⟨_, rfl, rfl, by repeat (first | (with_reducible assumption) | ((with_reducible refine at_new' _ _ _ _ ?_); (first | rfl | (simp; done))) | (with_reducible refine At.alloc ?_ _) | (with_reducible refine At.drew ?_) | (with_reducible refine At.drewN ?_) | (with_reducible refine At.set ?_ (by omega)) | (with_reducible apply At.store4) | (with_reducible apply At.store3) | (with_reducible apply At.store2) | (with_reducible apply At.put43) | (refine At.below ?_ (by with_reducible assumption))), by repeat (first | (with_reducible assumption) | ((with_reducible refine at_new' _ _ _ _ ?_); (first | rfl | (simp; done))) | (with_reducible refine At.alloc ?_ _) | (with_reducible refine At.drew ?_) | (with_reducible refine At.drewN ?_) | (with_reducible refine At.set ?_ (by omega)) | (with_reducible apply At.store4) | (with_reducible apply At.store3) | (with_reducible apply At.store2) | (with_reducible apply At.put43) | (refine At.below ?_ (by with_reducible assumption))), by repeat (first | (with_reducible assumption) | ((with_reducible refine at_new' _ _ _ _ ?_); (first | rfl | (simp; done))) | (with_reducible refine At.alloc ?_ _) | (with_reducible refine At.drew ?_) | (with_reducible refine At.drewN ?_) | (with_reducible refine At.set ?_ (by omega)) | (with_reducible apply At.store4) | (with_reducible apply At.store3) | (with_reducible apply At.store2) | (with_reducible apply At.put43) | (refine At.below ?_ (by with_reducible assumption))), by omega, by repeat (first | (with_reducible exact Below.refl _ _) | (with_reducible assumption) | (with_reducible refine Below.setCell ?_ (by first | (simp; done) | (simp; omega) | omega) _) | (with_reducible refine Below.alloc ?_ (by first | (simp; done) | (simp; omega) | omega) _) | (refine bl_call ?_ (by assumption) (by first | (simp; done) | (simp; omega) | omega)) | (with_reducible refine bl_drewN ?_) | (with_reducible refine Below.drew ?_) | (with_reducible refine bl_grow ?_ (by first | (simp; done) | (simp; omega) | omega)))⟩)
  case rest =>
    clear ksw1 cs0w1 fs0w1 cs1w1 fs1w1 cs2w1 fs2w1 cs3w1 fs3w1 kew1 ce0w1 fe0w1 ce1w1 fe1w1 ce2w1 fe2w1 hqw1
    obtain ⟨bl, rfl, rfl, kswc, kewc, klwc, hbl, hqwc⟩ := hcut
    have hzwc := hqwc.size
    obtain ⟨zswc, cs0wc, cs1wc, cs2wc, cs3wc, fs0wc, fs1wc, fs2wc, fs3wc⟩ := kswc.four
    obtain ⟨zewc, ce0wc, ce1wc, ce2wc, fe0wc, fe1wc, fe2wc⟩ := kewc.three
    obtain ⟨zlwc, cl0wc, cl1wc, cl2wc, fl0wc, fl1wc, fl2wc⟩ := klwc.three
    cases t1 <;> cases t2 <;> cases t3
    all_goals (
    have m1 : True := trivial
    go_wp2_with (go_at_call 63; clear m1; refine (HA.out _).mono ?_; rintro e w7 ⟨rfl, hbw7⟩; have ksw7 : At w7 (w.heap.size) [.int .i64 ((tM a).1 : Int), .int .i64 ((tM a).2.1 : Int), .bool (tM a).2.2, .int .i64 (s : Int)] := (by repeat (first | (with_reducible assumption) | ((with_reducible refine at_new' _ _ _ _ ?_); (first | rfl | (simp; done))) | (with_reducible refine At.alloc ?_ _) | (with_reducible refine At.drew ?_) | (with_reducible refine At.drewN ?_) | (with_reducible refine At.set ?_ (by omega)) | (with_reducible apply At.store4) | (with_reducible apply At.store3) | (with_reducible apply At.store2) | (with_reducible apply At.put43) | (refine At.below ?_ (by with_reducible assumption)))); have kew7 : At w7 (w.heap.size + 1) [.int .i64 ((tM x).1 : Int), .int .i64 ((tM x).2.1 : Int), .bool (tM x).2.2] := (by repeat (first | (with_reducible assumption) | ((with_reducible refine at_new' _ _ _ _ ?_); (first | rfl | (simp; done))) | (with_reducible refine At.alloc ?_ _) | (with_reducible refine At.drew ?_) | (with_reducible refine At.drewN ?_) | (with_reducible refine At.set ?_ (by omega)) | (with_reducible apply At.store4) | (with_reducible apply At.store3) | (with_reducible apply At.store2) | (with_reducible apply At.put43) | (refine At.below ?_ (by with_reducible assumption)))); have klw7 : At w7 (bl) [.int .i64 ((L).1 : Int), .int .i64 ((L).2.1 : Int), .bool (L).2.2] := (by repeat (first | (with_reducible assumption) | ((with_reducible refine at_new' _ _ _ _ ?_); (first | rfl | (simp; done))) | (with_reducible refine At.alloc ?_ _) | (with_reducible refine At.drew ?_) | (with_reducible refine At.drewN ?_) | (with_reducible refine At.set ?_ (by omega)) | (with_reducible apply At.store4) | (with_reducible apply At.store3) | (with_reducible apply At.store2) | (with_reducible apply At.put43) | (refine At.below ?_ (by with_reducible assumption)))); have hqw7 : Below w.heap.size w w7 := (by repeat (first | (with_reducible exact Below.refl _ _) | (with_reducible assumption) | (with_reducible refine Below.setCell ?_ (by first | (simp; done) | (simp; omega) | omega) _) | (with_reducible refine Below.alloc ?_ (by first | (simp; done) | (simp; omega) | omega) _) | (refine bl_call ?_ (by assumption) (by first | (simp; done) | (simp; omega) | omega)) | (with_reducible refine bl_drewN ?_) | (with_reducible refine Below.drew ?_) | (with_reducible refine bl_grow ?_ (by first | (simp; done) | (simp; omega) | omega)))); have hzw7 := hqw7.size; obtain ⟨zsw7, cs0w7, cs1w7, cs2w7, cs3w7, fs0w7, fs1w7, fs2w7, fs3w7⟩ := ksw7.four; obtain ⟨zew7, ce0w7, ce1w7, ce2w7, fe0w7, fe1w7, fe2w7⟩ := kew7.three; obtain ⟨zlw7, cl0w7, cl1w7, cl2w7, fl0w7, fl1w7, fl2w7⟩ := klw7.three; clear kswc cs0wc fs0wc cs1wc fs1wc cs2wc fs2wc cs3wc fs3wc kewc ce0wc fe0wc ce1wc fe1wc ce2wc fe2wc klwc cl0wc fl0wc cl1wc fl1wc cl2wc fl2wc hqwc; clear hbw7)
    go_ret
    exact ⟨rfl, by repeat (first | (with_reducible exact Below.refl _ _) | (with_reducible assumption) | (with_reducible refine Below.setCell ?_ (by first | (simp; done) | (simp; omega) | omega) _) | (with_reducible refine Below.alloc ?_ (by first | (simp; done) | (simp; omega) | omega) _) | (refine bl_call ?_ (by assumption) (by first | (simp; done) | (simp; omega) | omega)) | (with_reducible refine bl_drewN ?_) | (with_reducible refine Below.drew ?_) | (with_reducible refine bl_grow ?_ (by first | (simp; done) | (simp; omega) | omega)))⟩)
theorem bcs_same (a x s : Nat) (w : World) (hs : s < 1013) : Calls Try.prog 39 #[.agg #[.int .i64 ((tM a).1 : Int), .int .i64 ((tM a).2.1 : Int), .bool (tM a).2.2, .int .i64 (s : Int)], .agg #[.int .i64 ((tM (4 * x)).1 : Int), .int .i64 ((tM (4 * x)).2.1 : Int), .bool (tM (4 * x)).2.2]] w fun e w' => e = .returned (bif closeB a x s then .nilIface else errOf 8) ∧ Below w.heap.size w w' := by
  have hb := baN_lt a (4 * x)
  have := bcs_any a (4 * x) s h2N (tM (4 * clR s)) (tM (a + 4 * x * baN a (4 * x))) _ _ _ w hs second_w (cl_em hs) (fun w => banswered a (4 * x) (baN a (4 * x)) _ w (fun w => bask_ok a (4 * x) w) (by rw [em_nat hb])) rfl rfl rfl
  have e : closeB a x s = ((((tM (4 * clR s)).1 : Int) == ((tM (a + 4 * x * baN a (4 * x))).1 : Int)) && (((tM (4 * clR s)).2.1 : Int) == ((tM (a + 4 * x * baN a (4 * x))).2.1 : Int)) && ((tM (4 * clR s)).2.2 == (tM (a + 4 * x * baN a (4 * x))).2.2)) := by
    cases hc : closeB a x s with
    | true =>
      rw [close_iff] at hc
      rw [hc]; simp
    | false =>
      symm
      rw [Bool.eq_false_iff]
      intro k
      rw [Bool.and_eq_true, Bool.and_eq_true, beq_iff_eq, beq_iff_eq, beq_iff_eq] at k
      obtain ⟨⟨k1, k2⟩, k3⟩ := k
      have : closeB a x s = true := (close_iff a x s).2 (Prod.ext (by omega) (Prod.ext (by omega) k3))
      rw [hc] at this
      cases this
  rw [e]
  exact this
end Go.Proofs.Ytmijjjdedadklaj
