/- A book of one row of its own: of each coin its spot, and whether it is live. How it stays while it is written or grows. Of whatever program. -/
import Derived.Test.YtpkkclcjiobgoajGreatDoorKC
import Derived.Test.YtpkkclcjiobgoajGreatDoorKE
import Derived.Test.YtpkkclcjiobgoajGreatDoorKCurveEq
import Derived.Test.YtpkkclcjiobgoajGreatDoorKTimesOrd
import Derived.Deep.RegionHeld3
import Derived.Deep.CutRange
namespace Go.Proofs.YtpkkclcjiobgoajGreatDoor
open Go.RowKit Go.Sort
set_option linter.unusedVariables false
set_option linter.unusedSimpArgs false

/-- Cells of a coin. -/
def coinL (K : Nat → Nat) (G : Nat → Bool) (i : Nat) : List Value := [.int .i64 ((tM (4 * K i)).1 : Int), .int .i64 ((tM (4 * K i)).2.1 : Int), .bool (tM (4 * K i)).2.2, .bool (!G i)]
/-- Cells of so many coins. -/
def cellsC (K : Nat → Nat) (G : Nat → Bool) (n : Nat) : List Value := (List.range n).flatMap (coinL K G)
theorem cellsC_succ (K : Nat → Nat) (G : Nat → Bool) (n : Nat) : cellsC K G (n + 1) = cellsC K G n ++ coinL K G n := by unfold cellsC; rw [List.range_succ, List.flatMap_append]; simp
theorem cellsC_len (K : Nat → Nat) (G : Nat → Bool) : ∀ n, (cellsC K G n).length = n * 4
  | 0 => rfl
  | n + 1 => by rw [cellsC_succ, List.length_append, cellsC_len K G n]; show n * 4 + 4 = _; omega
theorem cellsC_at (K : Nat → Nat) (G : Nat → Bool) {n i j : Nat} (hi : i < n) (hj : j < 4) : (cellsC K G n)[i * 4 + j]? = (coinL K G i)[j]? := flat_at 4 _ (fun _ => rfl) n i j hi hj
theorem cellsC_congr {K J : Nat → Nat} {G H : Nat → Bool} : ∀ {n : Nat}, (∀ i, i < n → tM (4 * K i) = tM (4 * J i) ∧ G i = H i) → cellsC K G n = cellsC J H n
  | 0, _ => rfl
  | n + 1, h => by
    obtain ⟨a, b⟩ := h n (by omega)
    rw [cellsC_succ, cellsC_succ, cellsC_congr fun i hi => h i (by omega)]
    unfold coinL
    rw [a, b]
theorem cellsC_app (K : Nat → Nat) (G : Nat → Bool) (n : Nat) (J : Nat → Nat) (H : Nat → Bool) : ∀ c, cellsC (appN K n J c) (appN G n H c) (n + c) = cellsC K G n ++ cellsC J H c
  | 0 => by show _ = _ ++ []; rw [List.append_nil]; rfl
  | c + 1 => by
    rw [show n + (c + 1) = (n + c) + 1 by omega, cellsC_succ, cellsC_succ J, ← List.append_assoc, ← cellsC_app K G n J H c]
    rw [cellsC_congr (K := appN K n J (c + 1)) (J := appN K n J c) (G := appN G n H (c + 1)) (H := appN G n H c) fun i hi => ⟨by rw [appN_step K n J c hi], appN_step G n H c hi⟩]
    unfold coinL
    rw [appN_at, appN_at]
theorem cellsC_set (K : Nat → Nat) (G : Nat → Bool) {n z : Nat} (h : z < n) : (cellsC K G n).set (z * 4 + 3) (.bool false) = cellsC K (setB G z) n := by
  refine List.ext_getElem? fun i => ?_
  rw [List.getElem?_set]
  by_cases hi : i < n * 4
  · obtain ⟨q, j, hj, rfl⟩ : ∃ q j, j < 4 ∧ i = q * 4 + j := ⟨i / 4, i % 4, Nat.mod_lt _ (by omega), by omega⟩
    have hq : q < n := by omega
    rw [cellsC_at K (setB G z) hq hj, cellsC_at K G hq hj, cellsC_len]
    by_cases e : z * 4 + 3 = q * 4 + j
    · obtain ⟨rfl, rfl⟩ : z = q ∧ j = 3 := by omega
      rw [if_pos rfl, if_pos (by omega)]
      show some _ = some (Value.bool (!setB G z z))
      rw [setB_at]; rfl
    · rw [if_neg e]
      match j, hj, e with
      | 0, _, _ => rfl
      | 1, _, _ => rfl
      | 2, _, _ => rfl
      | 3, _, e =>
        show some (Value.bool (!G q)) = some (Value.bool (!setB G z q))
        rw [setB_ne G (by omega)]
  · have h1 : ∀ H, (cellsC K H n)[i]? = none := fun H => List.getElem?_eq_none (by rw [cellsC_len]; omega)
    rw [h1, h1, if_neg (by omega)]
/-- In block b, from o on, lie so many coins in a row. -/
def RowC (w : World) (b o n : Nat) (K : Nat → Nat) (G : Nat → Bool) : Prop := b < w.heap.size ∧ ∀ i, i < n → w.cell? ⟨b, o + i * 4, none⟩ = some (.int .i64 ((tM (4 * K i)).1 : Int)) ∧ w.cell? ⟨b, o + i * 4 + 1, none⟩ = some (.int .i64 ((tM (4 * K i)).2.1 : Int)) ∧ w.cell? ⟨b, o + i * 4 + 2, none⟩ = some (.bool (tM (4 * K i)).2.2) ∧ w.cell? ⟨b, o + i * 4 + 3, none⟩ = some (.bool (!G i))
theorem RowC.below {w w' : World} {b o n B : Nat} {K : Nat → Nat} {G : Nat → Bool} (h : RowC w b o n K G) (hB : b < B) (k : Below B w w') : RowC w' b o n K G :=
  ⟨Nat.lt_of_lt_of_le h.1 k.size, fun i hi => ⟨(k.cell (p := ⟨b, o + i * 4, none⟩) hB).trans (h.2 i hi).1, (k.cell (p := ⟨b, o + i * 4 + 1, none⟩) hB).trans (h.2 i hi).2.1, (k.cell (p := ⟨b, o + i * 4 + 2, none⟩) hB).trans (h.2 i hi).2.2.1, (k.cell (p := ⟨b, o + i * 4 + 3, none⟩) hB).trans (h.2 i hi).2.2.2⟩⟩
theorem own_coins {w : World} {B : Nat} {e : TypeId} {v : Value} {n : Nat} {K : Nat → Nat} {G : Nat → Bool} (h : w.ownsRow B e 4 v n (cellsC K G n)) : ∃ (sa : Option Addr) (c : Nat), v = .slice sa n c ∧ (n = 0 ∨ ∃ g, sa = some ⟨g, 0, none⟩ ∧ v.ownBlock = some g ∧ B ≤ g ∧ RowC w g 0 n K G) := by
  obtain ⟨sa, c, rfl, h1⟩ := own_slice h
  refine ⟨sa, c, rfl, ?_⟩
  rcases h1 with h1 | ⟨g, rfl, h2, h3, h4⟩
  · exact Or.inl h1
  · refine Or.inr ⟨g, rfl, h2, h3, h4, fun i hi => ?_⟩
    have a0 := h.cells h2 (i * 4 + 0) _ (cellsC_at K G hi (by omega))
    have a1 := h.cells h2 (i * 4 + 1) _ (cellsC_at K G hi (by omega))
    have a2 := h.cells h2 (i * 4 + 2) _ (cellsC_at K G hi (by omega))
    have a3 := h.cells h2 (i * 4 + 3) _ (cellsC_at K G hi (by omega))
    rw [addr_add] at a0 a1 a2 a3
    rw [Nat.zero_add]
    exact ⟨a0, a1, a2, a3⟩

/-- The blocks of such a book. -/
def fc (p : Nat) (u : Value) : Nat → Prop := fun k => k = p ∨ u.ownBlock = some k
/-- In block p lies a book with this row. -/
structure CoinsAt (e : TypeId) (W : World) (p : Nat) (u : Value) (n : Nat) (K : Nat → Nat) (G : Nat → Bool) : Prop where
  cells : At W p [u]
  coins : W.ownsRow 0 e 4 u n (cellsC K G n)
  au : u.ownBlock ≠ some p
section
variable {e : TypeId} {W W' Wa W1 : World} {p : Nat} {u u' : Value} {n m : Nat} {K J : Nat → Nat} {G H : Nat → Bool} {F : Nat → Prop}
theorem CoinsAt.but (h : CoinsAt e W p u n K G) (k : But F W W') (hF : ∀ i, fc p u i → ¬ F i) : CoinsAt e W' p u n K G :=
  ⟨h.cells.but k (hF p (Or.inl rfl)), own_but h.coins k fun g hg => hF g (Or.inr hg), h.au⟩
theorem CoinsAt.below (h : CoinsAt e W p u n K G) (k : Below W.heap.size W W') : CoinsAt e W' p u n K G := h.but (But.of_below (fun _ => False) k) fun _ _ e => e
theorem CoinsAt.lt (h : CoinsAt e W p u n K G) {i : Nat} (hi : fc p u i) : i < W.heap.size := by
  rcases hi with rfl | hi
  · exact h.cells.1
  · exact (h.coins.lt i hi).2
/-- A book's row, as a slice that can be read. -/
theorem CoinsAt.slice (h : CoinsAt e W p u n K G) : ∃ (su : Option Addr) (cu : Nat), u = .slice su n cu ∧ (n = 0 ∨ ∃ g, su = some ⟨g, 0, none⟩ ∧ RowC W g 0 n K G) := by
  obtain ⟨su, cu, rfl, hu⟩ := own_coins h.coins
  exact ⟨su, cu, rfl, hu.imp_right fun ⟨g, e, _, _, r⟩ => ⟨g, e, r⟩⟩
/-- One of them goes. -/
theorem CoinsAt.gone {g c z : Nat} (h : CoinsAt e W p (.slice (some ⟨g, 0, none⟩) n c) n K G) (hz : z < n) : CoinsAt e (W.setCell ⟨g, z * 4 + 3, none⟩ (.bool false)) p (.slice (some ⟨g, 0, none⟩) n c) n K (setB G z) := by
  refine ⟨At.set h.cells (fun e => h.au (by rw [e]; rfl)), ?_, h.au⟩
  have := (h.coins.stored (z * 4 + 3) (.bool false)).1
  rwa [cellsC_set K G hz] at this
theorem At.only {w : World} {b : Nat} {u u' : Value} (h : At w b [u]) : At (w.setCell ⟨b, 0, none⟩ u') b [u'] := by
  have a0 : w.cell? ⟨b, 0, none⟩ = some u := h.2.1 0 (by simp)
  refine ⟨by simpa [World.setCell] using h.1, fun i hi => ?_, fun i hi => ?_⟩
  · rcases i with _ | i
    · show _ = some u'; simp [a0, go_sem]
    · simp at hi
  · rw [World.frozen?_setCell]; exact h.2.2 i (by simpa using hi)
/-- The row has grown, and is stored. -/
theorem CoinsAt.grow (h : CoinsAt e W p u n K G) (hW : Below W.heap.size W Wa) (hg : Wa.grownBy W1 u.ownBlock) (ho : W1.ownsRow 0 e 4 u' m (cellsC J H m)) (hat : u'.ownBlock = u.ownBlock ∨ u'.ownBlock = some Wa.heap.size) :
    CoinsAt e (W1.setCell ⟨p, 0, none⟩ u') p u' m J H := by
  have hp := h.cells.1
  have ha : u'.ownBlock ≠ some p := by
    rcases hat with e | e
    · rw [e]; exact h.au
    · rw [e]; intro k; injection k with k; have := hW.size; omega
  exact ⟨At.only (At.grown (h.cells.below hW) hg h.au), own_set ho ha _, ha⟩
end
/-- Is it a book? -/
def bookW (e : TypeId) (W : World) (v : Value) (Q : Nat → Prop) (n : Nat) (K : Nat → Nat) (G : Nat → Bool) : Prop :=
  ∃ p u, v = .pointer (some ⟨p, 0, none⟩) ∧ Q = fc p u ∧ CoinsAt e W p u n K G
/-- Sums of what is picked. -/
theorem js_mul (f : Nat → Nat) (a : Nat) : ∀ n, jsN (fun i => a * f i) n = a * jsN f n
  | 0 => by show (0 : Nat) = a * 0; omega
  | n + 1 => by show jsN (fun i => a * f i) n + a * f n = a * (jsN f n + f n); rw [js_mul f a n, Nat.mul_add]
/-- Which coin stands at a place of those that are live. -/
def lvA (G : Nat → Bool) (n i : Nat) : Nat := ((lvL G n)[i]?).getD 0
def lvZ (G : Nat → Bool) (n i : Nat) : Int := ((lvA G n i : Nat) : Int)
theorem lvA_gone {G : Nat → Bool} {n : Nat} (h : G n = true) (i : Nat) : lvA G (n + 1) i = lvA G n i := by unfold lvA; rw [lvL_gone h]
theorem lvA_live {G : Nat → Bool} {n : Nat} (h : G n = false) {i : Nat} (hi : i < (lvL G n).length) : lvA G (n + 1) i = lvA G n i := by unfold lvA; rw [lvL_live h, List.getElem?_append_left hi]
theorem lvA_last {G : Nat → Bool} {n : Nat} (h : G n = false) : lvA G (n + 1) (lvL G n).length = n := by unfold lvA; rw [lvL_live h]; simp
theorem js_congr {f g : Nat → Nat} : ∀ {n : Nat}, (∀ i, i < n → f i = g i) → jsN f n = jsN g n
  | 0, _ => rfl
  | n + 1, h => by show jsN f n + f n = jsN g n + g n; rw [js_congr fun i hi => h i (by omega), h n (by omega)]
theorem lv_lt (G : Nat → Bool) : ∀ (n i : Nat), i < (lvL G n).length → lvA G n i < n
  | 0, i, h => by simp [lvL] at h
  | n + 1, i, h => by
    cases hG : G n with
    | true =>
      rw [lvL_gone hG] at h
      rw [lvA_gone hG]
      have := lv_lt G n i h
      omega
    | false =>
      rw [lvL_live hG] at h
      by_cases hi : i < (lvL G n).length
      · rw [lvA_live hG hi]
        have := lv_lt G n i hi
        omega
      · obtain rfl : i = (lvL G n).length := by simp at h; omega
        rw [lvA_last hG]
        omega
/-- The sum of those that are live is their total. -/
theorem lv_total (K : Nat → Nat) (G : Nat → Bool) : ∀ n, jsN (fun i => K (lvA G n i)) (lvL G n).length = ttN K G n
  | 0 => rfl
  | n + 1 => by
    cases hG : G n with
    | true =>
      rw [lvL_gone hG, ttN_gone hG, js_congr (g := fun i => K (lvA G n i)) fun i _ => by rw [lvA_gone hG]]
      exact lv_total K G n
    | false =>
      rw [ttN_live hG, ← lv_total K G n, show (lvL G (n + 1)).length = (lvL G n).length + 1 by rw [lvL_live hG]; simp]
      show jsN _ (lvL G n).length + K (lvA G (n + 1) (lvL G n).length) = _
      rw [lvA_last hG, js_congr (g := fun i => K (lvA G n i)) fun i hi => by rw [lvA_live hG hi]]
theorem lvC_row (G : Nat → Bool) (n : Nat) : lvC G n = cellsI (lvZ G n) (lvL G n).length := by
  refine List.ext_getElem? fun i => ?_
  unfold lvC
  rw [List.getElem?_map]
  by_cases hi : i < (lvL G n).length
  · rw [cellsI_at _ hi]
    unfold lvZ lvA
    rw [List.getElem?_eq_getElem hi]
    rfl
  · rw [List.getElem?_eq_none (by omega), List.getElem?_eq_none (by simp [cellsI]; omega)]
    rfl
/-- What comes, less what goes. -/
theorem ex_neg (K : Nat → Nat) (Z : Nat → Int) (m : Nat) (J : Nat → Nat) (c : Nat) : tM (4 * jsN J c + 4 * (1012 * jsN (fun i => K (Z i).toNat) m)) = tM (4 * exN K Z m J c) := by
  unfold exN nsN
  rw [js_mul (fun i => K (Z i).toNat) 1012 m, ← Nat.mul_add, Nat.add_comm]
end Go.Proofs.YtpkkclcjiobgoajGreatDoor

/- What package hide is to answer: Second, Hide, Open, Find. -/
namespace Go.Proofs.YtpkkclcjiobgoajGreatDoor
open Go.RowKit Go.Sort
set_option linter.unusedVariables false
set_option linter.unusedSimpArgs false
def SecondIs : Prop := ∀ w : World, Calls Tryz.prog 49 #[] w fun ex w' => ex = .returned (.agg #[.int .i64 ((tM (4 * h2N)).1 : Int), .int .i64 ((tM (4 * h2N)).2.1 : Int), .bool false]) ∧ Below w.heap.size w w'
end Go.Proofs.YtpkkclcjiobgoajGreatDoor

/- What package hide answers: Second, Hide, Open, Find. -/
namespace Go.Proofs.YtpkkclcjiobgoajGreatDoor
open Go.RowKit Go.Sort
set_option linter.unusedVariables false
set_option linter.unusedSimpArgs false
theorem hspot (w : World) : Calls Tryz.prog 80 #[.string ⟨#[115, 101, 99, 111, 110, 100]⟩] w fun e w' => e = .returned (.agg #[.int .i64 ((tM (4 * h2N)).1 : Int), .int .i64 ((tM (4 * h2N)).2.1 : Int), .bool false]) ∧ Below w.heap.size w w' := by
  have := spot_u secT w (by decide)
  rw [← h2_is] at this
  exact this
set_option maxRecDepth 100000 in
set_option maxHeartbeats 4000000 in
theorem second_is : SecondIs := fun w => by
  have HO : Hid (∀ w, Calls Tryz.prog 80 #[.string ⟨#[115, 101, 99, 111, 110, 100]⟩] w fun e w' => e = .returned (.agg #[.int .i64 ((tM (4 * h2N)).1 : Int), .int .i64 ((tM (4 * h2N)).2.1 : Int), .bool false]) ∧ Below w.heap.size w w') := hspot
  have m1 : True := trivial
  go_enter Tryz.func49, Tryz.ntmps49
  go_wp2_with (go_at_call 80; clear m1; refine (HO.out _).mono ?_; rintro e w1 ⟨rfl, hbw1⟩; have krw1 : At w1 (w.heap.size) [.int .i64 0, .int .i64 0, .bool false] := (by repeat (first | (with_reducible first | assumption | (refine at_new' _ _ _ _ ?_; first | rfl | (simp; done)) | refine At.alloc ?_ _ | refine At.drew ?_ | refine At.drewN ?_ | refine At.set ?_ (by omega) | apply At.store4 | apply At.store3 | apply At.store2 | apply At.put43) | refine At.below ?_ (by with_reducible assumption))); have hqw1 : Below w.heap.size w w1 := (by repeat (first | (with_reducible first | exact Below.refl _ _ | assumption | refine Below.setCell ?_ (by first | simp <;> omega | omega) _ | refine Below.alloc ?_ (by first | simp <;> omega | omega) _) | refine bl_call ?_ (by assumption) (by first | simp <;> omega | omega) | (with_reducible first | refine bl_drewN ?_ | refine Below.drew ?_ | refine bl_grow ?_ (by first | simp <;> omega | omega)))); have hzw1 := hqw1.size; obtain ⟨zrw1, cr0w1, cr1w1, cr2w1, fr0w1, fr1w1, fr2w1⟩ := krw1.three; clear hbw1)
  exact bodyPost_ret (v := .agg #[.int .i64 ((tM (4 * h2N)).1 : Int), .int .i64 ((tM (4 * h2N)).2.1 : Int), .bool false]) (by simp [results, Tryz.results49, go_sem, *]) rfl ⟨rfl, by repeat (first | (with_reducible first | exact Below.refl _ _ | assumption | refine Below.setCell ?_ (by first | simp <;> omega | omega) _ | refine Below.alloc ?_ (by first | simp <;> omega | omega) _) | refine bl_call ?_ (by assumption) (by first | simp <;> omega | omega) | (with_reducible first | refine bl_drewN ?_ | refine Below.drew ?_ | refine bl_grow ?_ (by first | simp <;> omega | omega)))⟩
theorem second_w (w : World) : Calls Tryz.prog 49 #[] w fun e w' => e = .returned (.agg #[.int .i64 ((tM (4 * h2N)).1 : Int), .int .i64 ((tM (4 * h2N)).2.1 : Int), .bool (tM (4 * h2N)).2.2]) ∧ Below w.heap.size w w' := by
  rw [h2_f]; exact second_is w
end Go.Proofs.YtpkkclcjiobgoajGreatDoor
