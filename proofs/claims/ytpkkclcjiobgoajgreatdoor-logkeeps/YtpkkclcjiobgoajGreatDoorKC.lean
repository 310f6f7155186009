/- Memory of a thing with methods: what stays where only its own blocks are written; a book of two rows of its own. Of whatever program. -/
import Derived.Test.YtpkkclcjiobgoajGreatDoorKA
import Derived.Test.YtpkkclcjiobgoajGreatDoorKB
namespace Go.Proofs.YtpkkclcjiobgoajGreatDoor
open Go.RowKit Go.Sort
set_option linter.unusedVariables false
set_option linter.unusedSimpArgs false

/-- But for these blocks all that was there is as it was. -/
structure But (F : Nat → Prop) (w w' : World) : Prop where
  os : w'.os = w.os
  tape : w'.tape = w.tape
  output : w'.output = w.output
  size : w.heap.size ≤ w'.heap.size
  block : ∀ k, k < w.heap.size → ¬ F k → w'.heap[k]? = w.heap[k]?

section
variable {F F' : Nat → Prop} {a b w w' : World}
theorem But.refl (F : Nat → Prop) (w : World) : But F w w := ⟨rfl, rfl, rfl, Nat.le_refl _, fun _ _ _ => rfl⟩
theorem But.of_below (F : Nat → Prop) (h : Below w.heap.size w w') : But F w w' := ⟨h.os, h.tape, h.output, h.size, fun k hk _ => h.block k hk⟩
theorem But.trans {c : World} (h : But F a b) (k : But F' b c) (hF : ∀ i, i < a.heap.size → F' i → F i) : But F a c :=
  ⟨k.os.trans h.os, k.tape.trans h.tape, k.output.trans h.output, Nat.le_trans h.size k.size, fun i hi hn => (k.block i (Nat.lt_of_lt_of_le hi h.size) fun e => hn (hF i hi e)).trans (h.block i hi hn)⟩
theorem But.call (h : But F a b) (k : Below b.heap.size b w') : But F a w' := h.trans (But.of_below (fun _ => False) k) fun _ _ e => e.elim
theorem But.mono (h : But F w w') (hF : ∀ k, k < w.heap.size → F k → F' k) : But F' w w' := ⟨h.os, h.tape, h.output, h.size, fun k hk hn => h.block k hk fun e => hn (hF k hk e)⟩
/-- Of blocks from A on: what was below is as it was. -/
theorem But.under {A : Nat} (hq : Below A a w) (h : But F w w') (hF : ∀ k, F k → A ≤ k) (hA : A ≤ w.heap.size) : Below A a w' :=
  hq.trans ⟨h.os, h.tape, h.output, h.size, fun k hk => h.block k (Nat.lt_of_lt_of_le hk hA) fun e => by have := hF k e; omega⟩
theorem At.but {p : Nat} {vs : List Value} (h : At w p vs) (k : But F w w') (hp : ¬ F p) : At w' p vs := by
  have hb := k.block p h.1 hp
  exact ⟨Nat.lt_of_lt_of_le h.1 k.size, fun i hi => (World.cell?_of_block (a := ⟨p, i, none⟩) hb).trans (h.2.1 i hi), fun i hi => (World.frozen?_of_block (a := ⟨p, i, none⟩) hb).trans (h.2.2 i hi)⟩
theorem RowO.but {p o n : Nat} {X Y : Nat → Int} {T : Nat → Bool} (h : RowO w p o n X Y T) (k : But F w w') (hp : ¬ F p) : RowO w' p o n X Y T := by
  have hb := k.block p h.1 hp
  refine ⟨Nat.lt_of_lt_of_le h.1 k.size, fun i hi => ?_⟩
  obtain ⟨h1, h2, h3⟩ := h.2 i hi
  exact ⟨(World.cell?_of_block (a := ⟨p, o + i * 3, none⟩) hb).trans h1, (World.cell?_of_block (a := ⟨p, o + i * 3 + 1, none⟩) hb).trans h2, (World.cell?_of_block (a := ⟨p, o + i * 3 + 2, none⟩) hb).trans h3⟩
theorem RowI.but {p o n : Nat} {X : Nat → Int} (h : RowI w p o n X) (k : But F w w') (hp : ¬ F p) : RowI w' p o n X := by
  have hb := k.block p h.1 hp
  exact ⟨Nat.lt_of_lt_of_le h.1 k.size, fun i hi => (World.cell?_of_block (a := ⟨p, o + i, none⟩) hb).trans (h.2 i hi)⟩
theorem own_but {B : Nat} {e : TypeId} {size : Nat} {v : Value} {n : Nat} {xs : List Value} (h : w.ownsRow B e size v n xs) (k : But F w w') (hv : ∀ g, v.ownBlock = some g → ¬ F g) : w'.ownsRow B e size v n xs := by
  refine ⟨h.1, ?_⟩
  rcases h.2 with h1 | ⟨g, cap, cur, rfl, h2, h3, h4⟩
  · exact Or.inl h1
  · exact Or.inr ⟨g, cap, cur, rfl, h2, by rw [k.block g (Array.getElem?_eq_some_iff.1 h3).1 (hv g rfl)]; exact h3, h4⟩
/-! Steps of a walk, by what it began with. -/
theorem But.setCell (h : But F a w) {p o : Nat} (hp : F p ∨ a.heap.size ≤ p) (u : Value) : But F a (w.setCell ⟨p, o, none⟩ u) :=
  ⟨h.os, h.tape, h.output, by simpa [World.setCell] using h.size, fun k hk hn => (Below.heap_setCell w ⟨p, o, none⟩ u k (fun e => by
    subst e
    rcases hp with hp | hp
    · exact hn hp
    · exact absurd hk (Nat.not_lt.2 hp))).trans (h.block k hk hn)⟩
theorem But.alloc (h : But F a w) (o : Obj) : But F a (w.alloc o) := h.call ((Below.refl _ _).alloc (Nat.le_refl _) o)
theorem But.drew (h : But F a w) : But F a w.drew := h.call (Below.drew (Below.refl _ _))
theorem But.grown {row : Option Nat} (h : But F a w) (hg : w.grownBy w' row) (hr : ∀ k, row = some k → F k ∨ a.heap.size ≤ k) : But F a w' :=
  h.trans (F' := fun k => row = some k) ⟨hg.os, hg.tape, hg.output, hg.size, fun k hk hn => hg.block k hk fun e => hn e.symm⟩ fun i hi e => by
    rcases hr i e with h1 | h1
    · exact h1
    · exact absurd hi (Nat.not_lt.2 h1)
end

/-- Cells of so many flags. -/
def cellsB (G : Nat → Bool) (n : Nat) : List Value := (List.range n).map fun i => .bool (G i)
theorem cellsB_succ (G : Nat → Bool) (n : Nat) : cellsB G (n + 1) = cellsB G n ++ [.bool (G n)] := by unfold cellsB; rw [List.range_succ, List.map_append]; rfl
theorem cellsB_at (G : Nat → Bool) {n i : Nat} (h : i < n) : (cellsB G n)[i]? = some (.bool (G i)) := by unfold cellsB; simp [h]
theorem cellsB_congr {G H : Nat → Bool} {n : Nat} (h : ∀ i, i < n → G i = H i) : cellsB G n = cellsB H n := by
  unfold cellsB
  refine List.map_congr_left fun i hi => ?_
  rw [h i (List.mem_range.1 hi)]
theorem cellsB_len (G : Nat → Bool) (n : Nat) : (cellsB G n).length = n := by unfold cellsB; simp
/-- Cells of so many coins: so many times the base each. -/
def cellsK (K : Nat → Nat) (n : Nat) : List Value := cellsT (fun i => ((tM (4 * K i)).1 : Int)) (fun i => ((tM (4 * K i)).2.1 : Int)) (fun i => (tM (4 * K i)).2.2) n
theorem cellsK_succ (K : Nat → Nat) (n : Nat) : cellsK K (n + 1) = cellsK K n ++ [.int .i64 ((tM (4 * K n)).1 : Int), .int .i64 ((tM (4 * K n)).2.1 : Int), .bool (tM (4 * K n)).2.2] := cellsT_succ _ _ _ n
theorem cellsK_congr {K J : Nat → Nat} {n : Nat} (h : ∀ i, i < n → tM (4 * K i) = tM (4 * J i)) : cellsK K n = cellsK J n := by
  induction n with
  | zero => rfl
  | succ n ih => rw [cellsK_succ, cellsK_succ, ih fun i hi => h i (by omega), h n (by omega)]
/-- In block b, from o on, lie so many flags in a row. -/
def RowB (w : World) (b o n : Nat) (G : Nat → Bool) : Prop := b < w.heap.size ∧ ∀ i, i < n → w.cell? ⟨b, o + i, none⟩ = some (.bool (G i))
theorem RowB.below {w w' : World} {b o n B : Nat} {G : Nat → Bool} (h : RowB w b o n G) (hB : b < B) (k : Below B w w') : RowB w' b o n G :=
  ⟨Nat.lt_of_lt_of_le h.1 k.size, fun i hi => (k.cell (p := ⟨b, o + i, none⟩) hB).trans (h.2 i hi)⟩
theorem own_flags {w : World} {B : Nat} {e : TypeId} {v : Value} {n : Nat} {G : Nat → Bool} (h : w.ownsRow B e 1 v n (cellsB G n)) : ∃ (sa : Option Addr) (c : Nat), v = .slice sa n c ∧ (n = 0 ∨ ∃ g, sa = some ⟨g, 0, none⟩ ∧ v.ownBlock = some g ∧ B ≤ g ∧ RowB w g 0 n G) := by
  obtain ⟨sa, c, rfl, h1⟩ := own_slice h
  refine ⟨sa, c, rfl, ?_⟩
  rcases h1 with h1 | ⟨g, rfl, h2, h3, h4⟩
  · exact Or.inl h1
  · refine Or.inr ⟨g, rfl, h2, h3, h4, fun i hi => ?_⟩
    have := h.cells h2 i _ (cellsB_at G hi)
    rw [addr_add] at this
    rw [Nat.zero_add]; exact this
theorem At.fst {w : World} {b : Nat} {u v u' : Value} (h : At w b [u, v]) : At (w.setCell ⟨b, 0, none⟩ u') b [u', v] := by
  have a0 : w.cell? ⟨b, 0, none⟩ = some u := h.2.1 0 (by simp)
  have a1 : w.cell? ⟨b, 1, none⟩ = some v := h.2.1 1 (by simp)
  refine ⟨by simpa [World.setCell] using h.1, fun i hi => ?_, fun i hi => ?_⟩
  · rcases i with _ | _ | i
    · show _ = some u'; simp [a0, go_sem]
    · show _ = some v; simp [a1, go_sem]
    · simp at hi; omega
  · rw [World.frozen?_setCell]; exact h.2.2 i (by simpa using hi)
theorem At.snd {w : World} {b : Nat} {u v v' : Value} (h : At w b [u, v]) : At (w.setCell ⟨b, 1, none⟩ v') b [u, v'] := by
  have a0 : w.cell? ⟨b, 0, none⟩ = some u := h.2.1 0 (by simp)
  have a1 : w.cell? ⟨b, 1, none⟩ = some v := h.2.1 1 (by simp)
  refine ⟨by simpa [World.setCell] using h.1, fun i hi => ?_, fun i hi => ?_⟩
  · rcases i with _ | _ | i
    · show _ = some u; simp [a0, go_sem]
    · show _ = some v'; simp [a1, go_sem]
    · simp at hi; omega
  · rw [World.frozen?_setCell]; exact h.2.2 i (by simpa using hi)

/-- Two rows apart. -/
def Ap2 (u v : Value) : Prop := u.ownBlock = none ∨ u.ownBlock ≠ v.ownBlock
theorem Ap2.symm {u v : Value} (h : Ap2 u v) : Ap2 v u := by
  rcases h with h | h
  · cases hv : v.ownBlock with
    | none => exact Or.inl hv
    | some b => refine Or.inr ?_; rw [h, hv]; intro k; cases k
  · exact Or.inr fun k => h k.symm
/-- The blocks of a book. -/
def ft (p : Nat) (u v : Value) : Nat → Prop := fun k => k = p ∨ u.ownBlock = some k ∨ v.ownBlock = some k
/-- In block p lies a book with these rows: so many coins, and for each whether it has gone. -/
structure BookAt (eC eG : TypeId) (B : Nat) (W : World) (p : Nat) (u v : Value) (n : Nat) (K : Nat → Nat) (G : Nat → Bool) : Prop where
  cells : At W p [u, v]
  coins : W.ownsRow B eC 3 u n (cellsK K n)
  flags : W.ownsRow B eG 1 v n (cellsB G n)
  base : B ≤ p
  au : u.ownBlock ≠ some p
  av : v.ownBlock ≠ some p
  ap : Ap2 u v
/-- There is a book, of whatever rows. -/
def BookOf (eC eG : TypeId) (B : Nat) (W : World) (p n : Nat) (K : Nat → Nat) (G : Nat → Bool) : Prop := ∃ u v, BookAt eC eG B W p u v n K G
def IsBook (eC eG : TypeId) (B : Nat) (W : World) (p : Nat) (F : Nat → Prop) (n : Nat) (K : Nat → Nat) (G : Nat → Bool) : Prop :=
  ∃ u v, F = ft p u v ∧ BookAt eC eG B W p u v n K G
section
variable {eC eG : TypeId} {B : Nat} {W W' : World} {p : Nat} {u v u' v' : Value} {n : Nat} {K : Nat → Nat} {G : Nat → Bool} {F F' : Nat → Prop}
theorem BookAt.but (h : BookAt eC eG B W p u v n K G) (k : But F' W W') (hF : ∀ i, ft p u v i → ¬ F' i) : BookAt eC eG B W' p u v n K G :=
  ⟨h.cells.but k (hF p (Or.inl rfl)), own_but h.coins k fun g hg => hF g (Or.inr (Or.inl hg)), own_but h.flags k fun g hg => hF g (Or.inr (Or.inr hg)), h.base, h.au, h.av, h.ap⟩
theorem BookAt.below (h : BookAt eC eG B W p u v n K G) (k : Below W.heap.size W W') : BookAt eC eG B W' p u v n K G := h.but (But.of_below (fun _ => False) k) fun _ _ e => e
theorem BookAt.lt (h : BookAt eC eG B W p u v n K G) {i : Nat} (hi : ft p u v i) : i < W.heap.size := by
  rcases hi with rfl | hi | hi
  · exact h.cells.1
  · exact (h.coins.lt i hi).2
  · exact (h.flags.lt i hi).2
theorem BookAt.ge (h : BookAt eC eG B W p u v n K G) {i : Nat} (hi : ft p u v i) : B ≤ i := by
  rcases hi with rfl | hi | hi
  · exact h.base
  · exact (h.coins.lt i hi).1
  · exact (h.flags.lt i hi).1
theorem IsBook.but (h : IsBook eC eG B W p F n K G) (k : But F' W W') (hF : ∀ i, F i → ¬ F' i) : IsBook eC eG B W' p F n K G := by
  obtain ⟨u, v, rfl, h⟩ := h
  exact ⟨u, v, rfl, h.but k hF⟩
theorem IsBook.below (h : IsBook eC eG B W p F n K G) (k : Below W.heap.size W W') : IsBook eC eG B W' p F n K G := h.but (But.of_below (fun _ => False) k) fun _ _ e => e
theorem IsBook.lt (h : IsBook eC eG B W p F n K G) {i : Nat} (hi : F i) : i < W.heap.size := by
  obtain ⟨u, v, rfl, h⟩ := h; exact h.lt hi
theorem IsBook.ge (h : IsBook eC eG B W p F n K G) {i : Nat} (hi : F i) : B ≤ i := by
  obtain ⟨u, v, rfl, h⟩ := h; exact h.ge hi
end
end Go.Proofs.YtpkkclcjiobgoajGreatDoor

/- Spots that count as numbers modulo 1013: so many times the base is so many times the base just if both are the same modulo 1013. Nothing of the program stands in here. -/
namespace Go.Proofs.YtpkkclcjiobgoajGreatDoor
set_option linter.unusedVariables false
set_option linter.unusedSimpArgs false

theorem tM_inj {j k : Nat} (h : tM j = tM k) : j % 4052 = k % 4052 := by
  rw [tM_N j, tM_N k] at h
  exact tN_inj (Nat.mod_lt _ (by omega)) (Nat.mod_lt _ (by omega)) h
theorem t4_iff (a b : Nat) : tM (4 * a) = tM (4 * b) ↔ a % 1013 = b % 1013 := by
  constructor
  · intro h; have := tM_inj h; omega
  · intro h; exact tM_congr (by omega)
theorem t4_congr {a b : Nat} (h : a % 1013 = b % 1013) : tM (4 * a) = tM (4 * b) := (t4_iff a b).2 h
end Go.Proofs.YtpkkclcjiobgoajGreatDoor

/- Sums of so many numbers. Apart from the program. -/
namespace Go.Proofs.YtpkkclcjiobgoajGreatDoor
/-- So many together. -/
def jsN (K : Nat → Nat) : Nat → Nat
  | 0 => 0
  | k + 1 => jsN K k + K k
end Go.Proofs.YtpkkclcjiobgoajGreatDoor

/- Right spots as bytes, and which bytes are those of one. Apart from the program. -/
namespace Go.Proofs.YtpkkclcjiobgoajGreatDoor
set_option linter.unusedSimpArgs false
set_option linter.unusedVariables false

def hiB (x : Nat) : UInt8 := UInt8.ofNat (x / 256)
def loB (x : Nat) : UInt8 := UInt8.ofNat (x % 256)
def whB (y : Nat) : UInt8 := bif Nat.blt 2025 y then 2 else 1
/-- The bytes of a right spot. -/
def pkL (s : Sn) : List UInt8 := bif s.2.2 then [0] else [whB s.2.1, hiB s.1, loB s.1]
def pkB (s : Sn) : ByteArray := ⟨(pkL s).toArray⟩
theorem pkB_aff (x y : Nat) : pkB (x, y, false) = ⟨#[whB y, hiB x, loB x]⟩ := rfl
theorem hi_nat {x : Nat} (h : x < 4051) : (hiB x).toNat = x / 256 := by unfold hiB; rw [UInt8.toNat_ofNat']; omega
theorem lo_nat (x : Nat) : (loB x).toNat = x % 256 := by unfold loB; rw [UInt8.toNat_ofNat']; omega
/-- The place of two bytes. -/
def plN (d e : UInt8) : Nat := d.toNat * 256 + e.toNat
theorem pl_hl {x : Nat} (h : x < 4051) : plN (hiB x) (loB x) = x := by unfold plN; rw [hi_nat h, lo_nat]; omega
theorem wh_one {y : Nat} (h : y ≤ 2025) : whB y = 1 := by
  unfold whB; rw [show Nat.blt 2025 y = false by rw [← Bool.not_eq_true, Nat.blt_eq]; omega]; rfl
theorem wh_two {y : Nat} (h : 2025 < y) : whB y = 2 := by
  unfold whB; rw [show Nat.blt 2025 y = true by rw [Nat.blt_eq]; omega]; rfl
theorem sqr_all : allLT (fun y => okN (y * y % 4051)) 4051 = true := by decide +kernel
/-- At the place of a right one there is a root, and its height is the lesser one, or the other. -/
theorem on_root {x y : Nat} (h : okS (x, y, false) = true) : rtOk (sqI (x : Int)) = true := by
  have hl := okS_lt h
  have hc := ckI_of_ok h
  simp only at hl hc
  rw [ckI_in (by omega) (by omega) (by omega) (by omega)] at hc
  cases h3 : fm ((y : Int) * (y : Int)) == sqI (x : Int)
  · rw [h3] at hc; cases hc
  · have h4 : fm ((y : Int) * y) = sqI (x : Int) := by simpa using h3
    have h5 := allLT_spec sqr_all y hl.2
    rw [rtOk_nat, ← h4, fm_fm, yy_nat]
    exact h5
/-- The lesser height at a place. -/
def ltN (x : Nat) : Nat := (rtMin (sqI (x : Int))).toNat
theorem ltI (x : Nat) : rtMin (sqI (x : Int)) = (ltN x : Int) := by
  have := (least_le (sqI (x : Int))).1; unfold ltN; omega
theorem lt_half {x : Nat} (h : rtOk (sqI (x : Int)) = true) : ltN x ≤ 2025 := by
  have := (least h).2.2; rw [ltI] at this; omega
theorem lt_ok {x : Nat} (h1 : x < 4051) (h : rtOk (sqI (x : Int)) = true) : okS (x, ltN x, false) = true := by
  have hc := lift_ok (x := (x : Int)) (by omega) (by omega) h
  rw [ltI] at hc
  obtain ⟨⟨a, b, c⟩, hs, ha, hb, hf⟩ := ckI_ok hc
  simp only at ha hb hf
  obtain rfl : x = a := by omega
  obtain rfl : ltN x = b := by omega
  rw [hf]; exact hs
theorem height {x y : Nat} (h : okS (x, y, false) = true) : (y ≤ 2025 → ltN x = y) ∧ (2025 < y → ltN x = ny y ∧ ltN x ≠ 0 ∧ ny (ltN x) = y) := by
  have hr := on_root h
  have hl := okS_lt h
  simp only at hl
  have h2 := lt_half hr
  have hy := same_place (lt_ok hl.1 hr) h
  unfold ny at *
  omega
theorem far_ok {x y : Nat} (h : okS (x, y, true) = true) : x = 0 ∧ y = 0 := by
  unfold okS at h; simp only [cond_true, Bool.and_eq_true] at h
  exact ⟨Nat.eq_of_beq_eq_true h.1, Nat.eq_of_beq_eq_true h.2⟩
theorem pkB_size (s : Sn) : (pkB s).size ≤ 3 := by
  unfold pkB pkL; cases s.2.2 <;> simp [ByteArray.size]
/-- Bytes of none. -/
def noB (b : ByteArray) : Prop := ∀ k, pkB (tM k) ≠ b
/-- So many spots, one behind the other. -/
def rowL (K : Nat → Nat) (n : Nat) : List UInt8 := (List.range n).flatMap fun i => pkL (tM (K i))
def lsL (K : Nat → Nat) (n : Nat) : List UInt8 := UInt8.ofNat n :: rowL K n
theorem rowL_zero (K : Nat → Nat) : rowL K 0 = [] := rfl
theorem rowL_succ (K : Nat → Nat) (n : Nat) : rowL K (n + 1) = rowL K n ++ pkL (tM (K n)) := by
  unfold rowL; rw [List.range_succ, List.flatMap_append]; simp
theorem pkL_len (s : Sn) : (pkL s).length = bif s.2.2 then 1 else 3 := by unfold pkL; cases s.2.2 <;> rfl
theorem pkL_le (s : Sn) : (pkL s).length ≤ 3 := by rw [pkL_len]; cases s.2.2 <;> decide
theorem rowL_le (K : Nat → Nat) (n : Nat) : (rowL K n).length ≤ 3 * n := by
  induction n with
  | zero => simp [rowL_zero]
  | succ n ih => rw [rowL_succ, List.length_append]; have := pkL_le (tM (K n)); omega
end Go.Proofs.YtpkkclcjiobgoajGreatDoor

/- Texts as long numbers: what the rule gives. Apart from the program. -/
namespace Go.Proofs.YtpkkclcjiobgoajGreatDoor
set_option linter.unusedSimpArgs false
set_option linter.unusedVariables false

/-- The long number of a text and a byte, of that of the text. -/
def bhN (n b : Nat) : Nat := (n * 263 + b + 1) % 1000003
theorem bhN_lt (n b : Nat) : bhN n b < 1000003 := Nat.mod_lt _ (by omega)
/-- Byte k of a text. -/
def byN (t : ByteArray) (k : Nat) : Nat := if h : k < t.size then t[k].toNat else 0
theorem byN_at {t : ByteArray} {k : Nat} (h : k < t.size) : byN t k = t[k].toNat := by unfold byN; rw [dif_pos h]
theorem byN_lt (t : ByteArray) (k : Nat) : byN t k < 256 := by
  unfold byN; split
  · exact UInt8.toNat_lt _
  · omega
/-- The long number of the first k bytes of a text. -/
def lgN (t : ByteArray) : Nat → Nat
  | 0 => 5
  | k + 1 => bhN (lgN t k) (byN t k)
theorem lgN_lt (t : ByteArray) (k : Nat) : lgN t k < 1000003 := by
  cases k with
  | zero => show 5 < _; omega
  | succ k => exact bhN_lt _ _
/-- The long number of a text. -/
def longN (t : ByteArray) : Nat := lgN t t.size
theorem longN_lt (t : ByteArray) : longN t < 1000003 := lgN_lt _ _
theorem byN_ahead {t u : ByteArray} {k : Nat} (h : k < t.size) : byN (t ++ u) k = byN t k := by
  have h1 : k < (t ++ u).size := by rw [ByteArray.size_append]; omega
  rw [byN_at h1, byN_at h]
  congr 1
  exact ByteArray.getElem_append_left h
theorem byN_behind (t : ByteArray) (c : UInt8) : byN (t ++ ⟨#[c]⟩) t.size = c.toNat := by
  have h1 : t.size < (t ++ (⟨#[c]⟩ : ByteArray)).size := by rw [ByteArray.size_append]; show _ < _ + 1; omega
  rw [byN_at h1]
  congr 1
  rw [ByteArray.getElem_append_right (Nat.le_refl _)]
  simp
  rfl
theorem lgN_ahead (t u : ByteArray) : ∀ k, k ≤ t.size → lgN (t ++ u) k = lgN t k
  | 0, _ => rfl
  | k + 1, h => by
    show bhN (lgN (t ++ u) k) (byN (t ++ u) k) = bhN (lgN t k) (byN t k)
    rw [lgN_ahead t u k (by omega), byN_ahead (by omega)]
/-- One byte more. -/
theorem long_more (t : ByteArray) (c : UInt8) : longN (t ++ ⟨#[c]⟩) = bhN (longN t) c.toNat := by
  have e : (t ++ (⟨#[c]⟩ : ByteArray)).size = t.size + 1 := by rw [ByteArray.size_append]; rfl
  unfold longN
  rw [e]
  show bhN (lgN _ t.size) (byN _ t.size) = _
  rw [lgN_ahead _ _ _ (Nat.le_refl _), byN_behind]
end Go.Proofs.YtpkkclcjiobgoajGreatDoor

/- So many times a spot, its order, whether it counts: as numbers modulo 4052. -/
namespace Go.Proofs.YtpkkclcjiobgoajGreatDoor

/-- A whole number modulo 4052. -/
def em (n : Int) : Nat := (n % 4052).toNat
theorem em_lt (n : Int) : em n < 4052 := by unfold em; omega
theorem em_cast (n : Int) : ((em n : Nat) : Int) = n % 4052 := by unfold em; omega
theorem em_ex (n : Int) : ∃ q : Int, ((em n : Nat) : Int) = n - 4052 * q := ⟨n / 4052, by unfold em; omega⟩
theorem em_small {n : Int} (h0 : 0 ≤ n) (h1 : n < 4052) : em n = n.toNat := by unfold em; omega
theorem mod_of_ex {a b : Nat} (h : ∃ k : Int, (a : Int) - b = 4052 * k) : a % 4052 = b % 4052 := by
  obtain ⟨k, hk⟩ := h; omega
theorem tM_em (i : Nat) (n : Nat) : tM (i * em (n : Int)) = tM (i * n) := by
  refine tM_congr ?_
  obtain ⟨a, ha⟩ := em_ex (n : Int)
  refine mod_of_ex ⟨-(i : Int) * a, ?_⟩
  push_cast
  rw [ha]; grind
/-- Is so many times the one spot far? -/
def farI (i : Nat) : Bool := Nat.beq (i % 4052) 0
theorem tM_f (i : Nat) : (tM i).2.2 = farI i := by
  unfold farI
  by_cases h : i % 4052 = 0
  · rw [tM_N, h]; rfl
  · rw [tM_N, tN_aff h]; symm; rw [← Bool.not_eq_true]; intro e; exact h (Nat.eq_of_beq_eq_true e)
theorem farI_iff (i : Nat) : farI i = true ↔ i % 4052 = 0 := by
  unfold farI
  exact ⟨fun h => Nat.eq_of_beq_eq_true h, fun h => by rw [h]; rfl⟩
theorem tM_isfar {i : Nat} (h : farI i = true) : tM i = farN := by rw [tM_N, (farI_iff i).1 h]; rfl
/-- The order of so many times the one spot. -/
def gM (i : Nat) : Nat := 4052 / Nat.gcd 4052 i
theorem tM_one : tM 1 = (3, 156, false) := tN_one
end Go.Proofs.YtpkkclcjiobgoajGreatDoor

/- Challenges and seals as numbers modulo 1013. Apart from the program. -/
namespace Go.Proofs.YtpkkclcjiobgoajGreatDoor
set_option linter.unusedSimpArgs false
set_option linter.unusedVariables false

/-- The challenge of two spots and a text. -/
def askN (i j : Nat) (t : ByteArray) : Nat := longN (pkB (tM i) ++ pkB (tM j) ++ t) % 1013
/-- The number of a seal. -/
def sgN (x k : Nat) (t : ByteArray) : Nat := (k + askN (4 * k) (4 * x) t * x) % 1013
theorem sg_bd {c x k : Nat} (h : c < 1013) (h1 : x < 1013) (h2 : k < 1013) : (c : Int) * (x : Int) ≤ 1100000 ∧ 0 ≤ (c : Int) * (x : Int) := by
  have h3 : c * x ≤ 1013 * 1013 := Nat.mul_le_mul (by omega) (by omega)
  have h4 : ((c * x : Nat) : Int) = (c : Int) * (x : Int) := Int.natCast_mul c x
  omega
theorem em_nat {k : Nat} (h : k < 1013) : em (k : Int) = k := by unfold em; omega
/-- Are two spots the same, cell by cell? -/
def sameS (a b : Sn) : Bool := ((a.1 : Int) == (b.1 : Int)) && ((a.2.1 : Int) == (b.2.1 : Int)) && (a.2.2 == b.2.2)
theorem sameS_iff (a b : Sn) : sameS a b = true ↔ a = b := by
  obtain ⟨x, y, f⟩ := a
  obtain ⟨x', y', f'⟩ := b
  simp only [sameS, Bool.and_eq_true, beq_iff_eq, Prod.mk.injEq]
  constructor
  · rintro ⟨⟨h1, h2⟩, h3⟩; exact ⟨by omega, by omega, h3⟩
  · rintro ⟨h1, h2, h3⟩; exact ⟨⟨by omega, by omega⟩, h3⟩
end Go.Proofs.YtpkkclcjiobgoajGreatDoor

/- Coefficients of keys, their sum, and the number of a seal of all that sign together. Apart from the program. -/
namespace Go.Proofs.YtpkkclcjiobgoajGreatDoor
set_option linter.unusedSimpArgs false
set_option linter.unusedVariables false

/-- The bytes of so many spots. -/
def lsB (K : Nat → Nat) (n : Nat) : ByteArray := ⟨(lsL K n).toArray⟩
/-- The coefficient of one of them. -/
def cfN (K : Nat → Nat) (n i : Nat) : Nat := longN (lsB K n ++ pkB (tM (K i))) % 1013
theorem ls_size (K : Nat → Nat) {n : Nat} (h : n ≤ 12) : (lsB K n).size ≤ 37 := by
  have := rowL_le K n
  show (lsL K n).toArray.size ≤ 37
  rw [List.size_toArray]
  show (rowL K n).length + 1 ≤ 37
  omega
/-- So many spots together, each its coefficient times. -/
def jtN (K : Nat → Nat) (n : Nat) : Nat → Nat
  | 0 => 0
  | k + 1 => jtN K n k + K k * cfN K n k
/-- So many secrets together, each the coefficient of its key times. -/
def sxN (x : Nat → Nat) (n : Nat) : Nat → Nat
  | 0 => 0
  | k + 1 => sxN x n k + cfN (fun i => 4 * x i) n k * x k
/-- The challenge of those that sign together. -/
def gaN (x z : Nat → Nat) (n : Nat) (t : ByteArray) : Nat := askN (4 * jsN z n) (jtN (fun i => 4 * x i) n n) t
/-- The number of their seal. -/
def gsN (x z : Nat → Nat) (n : Nat) (t : ByteArray) : Nat := (jsN z n + gaN x z n t * sxN x n n) % 1013
/-- The sum as it is reckoned one by one: each product modulo 1013. -/
def smN (x : Nat → Nat) (n : Nat) : Nat → Nat
  | 0 => 0
  | k + 1 => smN x n k + cfN (fun i => 4 * x i) n k * x k % 1013
end Go.Proofs.YtpkkclcjiobgoajGreatDoor

/- Books of coins, apart from the program and its memory: what is wrong with those that go, the excess, what a deal leaves, which are live, and their total. -/
namespace Go.Proofs.YtpkkclcjiobgoajGreatDoor
set_option linter.unusedVariables false
set_option linter.unusedSimpArgs false

/-- Is it among the first so many? -/
def dupB (Z : Nat → Int) (z : Int) : Nat → Bool
  | 0 => false
  | k + 1 => dupB Z z k || (Z k == z)
theorem dupB_iff (Z : Nat → Int) (z : Int) : ∀ n, dupB Z z n = true ↔ ∃ k, k < n ∧ Z k = z
  | 0 => ⟨(fun h => by cases h), fun ⟨k, hk, _⟩ => absurd hk (Nat.not_lt_zero _)⟩
  | n + 1 => by
    show (dupB Z z n || (Z n == z)) = true ↔ _
    rw [Bool.or_eq_true, dupB_iff Z z n, beq_iff_eq]
    constructor
    · rintro (⟨k, hk, e⟩ | e)
      · exact ⟨k, by omega, e⟩
      · exact ⟨n, by omega, e⟩
    · rintro ⟨k, hk, e⟩
      rcases Nat.lt_succ_iff_lt_or_eq.1 hk with h | rfl
      · exact Or.inl ⟨k, h, e⟩
      · exact Or.inr e
theorem dupB_no {Z : Nat → Int} {z : Int} {n : Nat} (h : dupB Z z n = false) : ∀ k, k < n → Z k ≠ z := fun k hk e => by
  have := (dupB_iff Z z n).2 ⟨k, hk, e⟩
  rw [h] at this; cases this
/-- Is there such a coin? -/
def inN (n : Nat) (z : Int) : Bool := decide (0 ≤ z ∧ z < (n : Int))
theorem inN_yes {n : Nat} {z : Int} (h : inN n z = true) : 0 ≤ z ∧ z < (n : Int) := of_decide_eq_true h
theorem inN_no {n : Nat} {z : Int} (h : inN n z = false) : ¬ (0 ≤ z ∧ z < (n : Int)) := of_decide_eq_false h
/-- What is wrong with the one that goes at a place. -/
def goE (n : Nat) (G : Nat → Bool) (Z : Nat → Int) (i : Nat) : Int :=
  bif inN n (Z i) then (bif G (Z i).toNat then 6 else bif dupB Z (Z i) i then 7 else 0) else 1
/-- What is wrong with those that go: that of the first that is wrong. -/
def gnE (n : Nat) (G : Nat → Bool) (Z : Nat → Int) : Nat → Int
  | 0 => 0
  | m + 1 => bif gnE n G Z m == 0 then goE n G Z m else gnE n G Z m
theorem gnE_zero {n : Nat} {G : Nat → Bool} {Z : Nat → Int} : ∀ {m : Nat}, gnE n G Z m = 0 → ∀ i, i < m → goE n G Z i = 0
  | 0, _, i, hi => absurd hi (Nat.not_lt_zero _)
  | m + 1, h, i, hi => by
    unfold gnE at h
    cases h1 : gnE n G Z m == 0
    · rw [h1] at h; simp only [cond_false] at h; rw [h] at h1; cases h1
    · rw [h1] at h; simp only [cond_true] at h
      rcases Nat.lt_succ_iff_lt_or_eq.1 hi with h2 | rfl
      · exact gnE_zero (by simpa using h1) i h2
      · exact h
theorem gnE_all {n : Nat} {G : Nat → Bool} {Z : Nat → Int} : ∀ {m : Nat}, (∀ i, i < m → goE n G Z i = 0) → gnE n G Z m = 0
  | 0, _ => rfl
  | m + 1, h => by
    unfold gnE
    rw [gnE_all (m := m) fun i hi => h i (by omega)]
    exact h m (by omega)
theorem gnE_first {n : Nat} {G : Nat → Bool} {Z : Nat → Int} : ∀ {m : Nat}, (gnE n G Z m == 0) = false → ∃ t, t < m ∧ (∀ j, j < t → goE n G Z j = 0) ∧ (goE n G Z t == 0) = false ∧ gnE n G Z m = goE n G Z t
  | 0, h => by cases h
  | m + 1, h => by
    cases h1 : gnE n G Z m == 0
    · obtain ⟨t, h2, h3, h4, h5⟩ := gnE_first h1
      refine ⟨t, by omega, h3, h4, ?_⟩
      unfold gnE; rw [h1]; exact h5
    · have e : gnE n G Z (m + 1) = goE n G Z m := by unfold gnE; rw [h1]; rfl
      rw [e] at h ⊢
      exact ⟨m, by omega, gnE_zero (by simpa using h1), h, rfl⟩
/-- The four ways of one that goes. -/
theorem goE_way (n : Nat) (G : Nat → Bool) (Z : Nat → Int) (i : Nat) :
    (inN n (Z i) = false ∧ goE n G Z i = 1) ∨ (inN n (Z i) = true ∧ G (Z i).toNat = true ∧ goE n G Z i = 6) ∨ (inN n (Z i) = true ∧ G (Z i).toNat = false ∧ dupB Z (Z i) i = true ∧ goE n G Z i = 7) ∨ (inN n (Z i) = true ∧ G (Z i).toNat = false ∧ dupB Z (Z i) i = false ∧ goE n G Z i = 0) := by
  unfold goE
  cases h1 : inN n (Z i) <;> cases h2 : G (Z i).toNat <;> cases h3 : dupB Z (Z i) i <;> simp
theorem goE_ok {n : Nat} {G : Nat → Bool} {Z : Nat → Int} {i : Nat} (h : goE n G Z i = 0) : inN n (Z i) = true ∧ G (Z i).toNat = false ∧ dupB Z (Z i) i = false := by
  rcases goE_way n G Z i with ⟨_, e⟩ | ⟨_, _, e⟩ | ⟨_, _, _, e⟩ | ⟨a, b, c, _⟩
  · rw [h] at e; cases e
  · rw [h] at e; cases e
  · rw [h] at e; cases e
  · exact ⟨a, b, c⟩

/-- Those that go, turned, together. -/
def nsN (K : Nat → Nat) (Z : Nat → Int) (m : Nat) : Nat := jsN (fun i => 1012 * K (Z i).toNat) m
theorem nsN_succ (K : Nat → Nat) (Z : Nat → Int) (m : Nat) : nsN K Z (m + 1) = nsN K Z m + 1012 * K (Z m).toNat := rfl
/-- The excess. -/
def exN (K : Nat → Nat) (Z : Nat → Int) (m : Nat) (J : Nat → Nat) (c : Nat) : Nat := nsN K Z m + jsN J c

/-- A flag set. -/
def setB (G : Nat → Bool) (j : Nat) : Nat → Bool := fun i => bif Nat.beq i j then true else G i
theorem setB_at (G : Nat → Bool) (j : Nat) : setB G j j = true := by unfold setB; rw [Nat.beq_refl]; rfl
theorem beq_ne {i j : Nat} (h : i ≠ j) : Nat.beq i j = false := by
  cases hb : Nat.beq i j with
  | false => rfl
  | true => exact absurd (Nat.eq_of_beq_eq_true hb) h
theorem setB_ne (G : Nat → Bool) {i j : Nat} (h : i ≠ j) : setB G j i = G i := by unfold setB; rw [beq_ne h]; rfl
/-- Flags of those that have gone. -/
def mkG (G : Nat → Bool) (Z : Nat → Int) : Nat → Nat → Bool
  | 0 => G
  | m + 1 => setB (mkG G Z m) (Z m).toNat
theorem mkG_no {G : Nat → Bool} {Z : Nat → Int} {j : Nat} : ∀ {m : Nat}, (∀ i, i < m → (Z i).toNat ≠ j) → mkG G Z m j = G j
  | 0, _ => rfl
  | m + 1, h => by
    show setB (mkG G Z m) (Z m).toNat j = G j
    rw [setB_ne _ (fun e => h m (by omega) e.symm), mkG_no fun i hi => h i (by omega)]
/-- A row with others behind it. -/
def appN {α : Type} (K : Nat → α) (n : Nat) (J : Nat → α) : Nat → Nat → α
  | 0 => K
  | c + 1 => fun i => bif Nat.beq i (n + c) then J c else appN K n J c i
theorem appN_ge {α : Type} (K : Nat → α) (n : Nat) (J : Nat → α) {k : Nat} : ∀ {c : Nat}, k < c → appN K n J c (n + k) = J k
  | 0, h => absurd h (Nat.not_lt_zero _)
  | c + 1, h => by
    show (bif Nat.beq (n + k) (n + c) then J c else appN K n J c (n + k)) = J k
    by_cases e : k = c
    · subst e; rw [Nat.beq_refl]; rfl
    · rw [beq_ne (by omega), cond_false]
      exact appN_ge K n J (by omega)
theorem appN_at {α : Type} (K : Nat → α) (n : Nat) (J : Nat → α) (c : Nat) : appN K n J (c + 1) (n + c) = J c := appN_ge K n J (by omega)
theorem appN_step {α : Type} (K : Nat → α) (n : Nat) (J : Nat → α) (c : Nat) {i : Nat} (h : i < n + c) : appN K n J (c + 1) i = appN K n J c i := by
  show (bif Nat.beq i (n + c) then J c else appN K n J c i) = _
  rw [beq_ne (by omega)]; rfl

/-- Those that are live. -/
def lvL (G : Nat → Bool) : Nat → List Nat
  | 0 => []
  | n + 1 => bif G n then lvL G n else lvL G n ++ [n]
theorem lvL_gone {G : Nat → Bool} {n : Nat} (h : G n = true) : lvL G (n + 1) = lvL G n := by show (bif G n then _ else _) = _; rw [h]; rfl
theorem lvL_live {G : Nat → Bool} {n : Nat} (h : G n = false) : lvL G (n + 1) = lvL G n ++ [n] := by show (bif G n then _ else _) = _; rw [h]; rfl
theorem lvL_len (G : Nat → Bool) : ∀ n, (lvL G n).length ≤ n
  | 0 => Nat.le_refl _
  | n + 1 => by
    have := lvL_len G n
    cases h : G n
    · rw [lvL_live h]; simp; omega
    · rw [lvL_gone h]; omega
theorem lvL_congr {G H : Nat → Bool} : ∀ {n : Nat}, (∀ i, i < n → G i = H i) → lvL G n = lvL H n
  | 0, _ => rfl
  | n + 1, h => by
    have ih := lvL_congr (n := n) fun i hi => h i (by omega)
    have e := h n (by omega)
    cases k : G n
    · rw [lvL_live k, lvL_live (by rw [← e]; exact k), ih]
    · rw [lvL_gone k, lvL_gone (by rw [← e]; exact k), ih]
/-- Their total. -/
def ttN (K : Nat → Nat) (G : Nat → Bool) : Nat → Nat
  | 0 => 0
  | n + 1 => bif G n then ttN K G n else ttN K G n + K n
theorem ttN_gone {K : Nat → Nat} {G : Nat → Bool} {n : Nat} (h : G n = true) : ttN K G (n + 1) = ttN K G n := by show (bif G n then _ else _) = _; rw [h]; rfl
theorem ttN_live {K : Nat → Nat} {G : Nat → Bool} {n : Nat} (h : G n = false) : ttN K G (n + 1) = ttN K G n + K n := by show (bif G n then _ else _) = _; rw [h]; rfl
theorem ttN_congr {K J : Nat → Nat} {G H : Nat → Bool} : ∀ {n : Nat}, (∀ i, i < n → G i = H i ∧ K i = J i) → ttN K G n = ttN J H n
  | 0, _ => rfl
  | n + 1, h => by
    have ih := ttN_congr (n := n) fun i hi => h i (by omega)
    obtain ⟨e, f⟩ := h n (by omega)
    cases k : G n
    · rw [ttN_live k, ttN_live (by rw [← e]; exact k), ih, f]
    · rw [ttN_gone k, ttN_gone (by rw [← e]; exact k), ih]
/-- One of them gone. -/
theorem tt_set {K : Nat → Nat} {G : Nat → Bool} {z : Nat} (hG : G z = false) : ∀ {n : Nat}, z < n → ttN K (setB G z) n + K z = ttN K G n ∧ (lvL (setB G z) n).length + 1 = (lvL G n).length
  | 0, h => absurd h (Nat.not_lt_zero _)
  | n + 1, h => by
    by_cases e : z = n
    · subst e
      rw [ttN_gone (setB_at G z), ttN_live hG, lvL_gone (setB_at G z), lvL_live hG]
      rw [ttN_congr (K := K) (J := K) (G := setB G z) (H := G) fun i hi => ⟨setB_ne G (by omega), rfl⟩, lvL_congr (G := setB G z) (H := G) fun i hi => setB_ne G (by omega)]
      exact ⟨rfl, by simp⟩
    · obtain ⟨a, b⟩ := tt_set (K := K) hG (show z < n by omega)
      have s := setB_ne G (i := n) (j := z) (fun x => e x.symm)
      cases k : G n
      · rw [ttN_live k, ttN_live (by rw [s]; exact k), lvL_live k, lvL_live (by rw [s]; exact k)]
        simp only [List.length_append, List.length_singleton]
        omega
      · rw [ttN_gone k, ttN_gone (by rw [s]; exact k), lvL_gone k, lvL_gone (by rw [s]; exact k)]
        omega
/-- Those of a deal gone. -/
theorem tt_mark {K : Nat → Nat} {G : Nat → Bool} {Z : Nat → Int} {n : Nat} : ∀ {m : Nat}, (∀ i, i < m → goE n G Z i = 0) → (ttN K (mkG G Z m) n) % 1013 = (ttN K G n + nsN K Z m) % 1013 ∧ (lvL (mkG G Z m) n).length + m = (lvL G n).length
  | 0, _ => ⟨rfl, rfl⟩
  | m + 1, h => by
    obtain ⟨a, b⟩ := tt_mark (K := K) (m := m) fun i hi => h i (by omega)
    obtain ⟨h1, h2, h3⟩ := goE_ok (h m (by omega))
    obtain ⟨h4, h5⟩ := inN_yes h1
    have h6 : mkG G Z m (Z m).toNat = false := by
      rw [mkG_no fun i hi e => ?_]
      · exact h2
      · have h7 := dupB_no h3 i hi
        obtain ⟨h8, _, _⟩ := goE_ok (h i (by omega))
        obtain ⟨h9, _⟩ := inN_yes h8
        exact h7 (by omega)
    obtain ⟨c, d⟩ := tt_set (K := K) h6 (n := n) (show (Z m).toNat < n by omega)
    have e1 : ttN K (mkG G Z (m + 1)) n + K (Z m).toNat = ttN K (mkG G Z m) n := c
    have e2 : (lvL (mkG G Z (m + 1)) n).length + 1 = (lvL (mkG G Z m) n).length := d
    rw [nsN_succ]
    constructor
    · omega
    · omega
/-- Two in a row. -/
def twoR {α : Type} (a b : α) (i : Nat) : α := bif Nat.beq i 0 then a else b
theorem two_0 {α : Type} (a b : α) : twoR a b 0 = a := rfl
theorem two_1 {α : Type} (a b : α) : twoR a b 1 = b := rfl
theorem lt_two {i : Nat} (h : i < 2) : i = 0 ∨ i = 1 := by omega
/-- The challenge of two spots. -/
def baN (a b : Nat) : Nat := longN (lsB (twoR a b) 2) % 1013
theorem baN_lt (a b : Nat) : baN a b < 1013 := Nat.mod_lt _ (by omega)
theorem baI (a b : Nat) : ((longN (lsB (twoR a b) 2) : Nat) : Int) % 1013 = (baN a b : Int) := by unfold baN; omega
end Go.Proofs.YtpkkclcjiobgoajGreatDoor

/- A thing of two rows of its own in one block: how it stays while one of them is written or grows. Of whatever program. -/
namespace Go.Proofs.YtpkkclcjiobgoajGreatDoor
open Go.RowKit Go.Sort
set_option linter.unusedVariables false
set_option linter.unusedSimpArgs false

theorem At.six {w : World} {b : Nat} {v0 v1 v2 v3 v4 v5 : Value} (h : At w b [v0, v1, v2, v3, v4, v5]) : b < w.heap.size ∧ w.cell? ⟨b, 0, none⟩ = some v0 ∧ w.cell? ⟨b, 1, none⟩ = some v1 ∧ w.cell? ⟨b, 2, none⟩ = some v2 ∧ w.cell? ⟨b, 3, none⟩ = some v3 ∧ w.cell? ⟨b, 4, none⟩ = some v4 ∧ w.cell? ⟨b, 5, none⟩ = some v5 ∧ w.frozen? ⟨b, 0, none⟩ = false ∧ w.frozen? ⟨b, 1, none⟩ = false ∧ w.frozen? ⟨b, 2, none⟩ = false ∧ w.frozen? ⟨b, 3, none⟩ = false ∧ w.frozen? ⟨b, 4, none⟩ = false ∧ w.frozen? ⟨b, 5, none⟩ = false :=
  ⟨h.1, h.2.1 0 (by simp), h.2.1 1 (by simp), h.2.1 2 (by simp), h.2.1 3 (by simp), h.2.1 4 (by simp), h.2.1 5 (by simp), h.2.2 0 (by simp), h.2.2 1 (by simp), h.2.2 2 (by simp), h.2.2 3 (by simp), h.2.2 4 (by simp), h.2.2 5 (by simp)⟩
theorem cellsB_set (G : Nat → Bool) {n z : Nat} (h : z < n) : (cellsB G n).set z (.bool true) = cellsB (setB G z) n := by
  refine List.ext_getElem? fun i => ?_
  rw [List.getElem?_set]
  by_cases hi : i < n
  · rw [cellsB_at (setB G z) hi]
    by_cases e : z = i
    · subst e
      rw [if_pos rfl, if_pos (by rw [cellsB_len]; exact h), setB_at]
    · rw [if_neg e, cellsB_at G hi, setB_ne G (fun k => e k.symm)]
  · have h1 : (cellsB G n)[i]? = none := List.getElem?_eq_none (by rw [cellsB_len]; omega)
    have h2 : (cellsB (setB G z) n)[i]? = none := List.getElem?_eq_none (by rw [cellsB_len]; omega)
    rw [h2, if_neg (by omega), h1]
theorem cellsK_app (K : Nat → Nat) (n : Nat) (J : Nat → Nat) (c : Nat) : cellsK (appN K n J (c + 1)) (n + c + 1) = cellsK (appN K n J c) (n + c) ++ [.int .i64 ((tM (4 * J c)).1 : Int), .int .i64 ((tM (4 * J c)).2.1 : Int), .bool (tM (4 * J c)).2.2] := by
  rw [cellsK_succ, appN_at, cellsK_congr (K := appN K n J (c + 1)) (J := appN K n J c) fun i hi => by rw [appN_step K n J c hi]]
theorem cellsB_app (G : Nat → Bool) (n : Nat) (H : Nat → Bool) (c : Nat) : cellsB (appN G n H (c + 1)) (n + c + 1) = cellsB (appN G n H c) (n + c) ++ [.bool (H c)] := by
  rw [cellsB_succ, appN_at, cellsB_congr (G := appN G n H (c + 1)) (H := appN G n H c) fun i hi => appN_step G n H c hi]

/-- In block p two rows of one's own. -/
structure Duo (e1 e2 : TypeId) (s1 s2 B : Nat) (W : World) (p : Nat) (u : Value) (n1 : Nat) (xs : List Value) (v : Value) (n2 : Nat) (ys : List Value) : Prop where
  cells : At W p [u, v]
  fst : W.ownsRow B e1 s1 u n1 xs
  snd : W.ownsRow B e2 s2 v n2 ys
  base : B ≤ p
  au : u.ownBlock ≠ some p
  av : v.ownBlock ≠ some p
  ap : Ap2 u v
section
variable {e1 e2 : TypeId} {s1 s2 B : Nat} {W Wa W1 : World} {p : Nat} {u v u' v' : Value} {n1 n2 m : Nat} {xs ys zs : List Value}
theorem BookAt.duo {n : Nat} {K : Nat → Nat} {G : Nat → Bool} (h : BookAt e1 e2 B W p u v n K G) : Duo e1 e2 3 1 B W p u n (cellsK K n) v n (cellsB G n) := ⟨h.cells, h.coins, h.flags, h.base, h.au, h.av, h.ap⟩
theorem Duo.book {n : Nat} {K : Nat → Nat} {G : Nat → Bool} (h : Duo e1 e2 3 1 B W p u n (cellsK K n) v n (cellsB G n)) : BookAt e1 e2 B W p u v n K G := ⟨h.cells, h.fst, h.snd, h.base, h.au, h.av, h.ap⟩
theorem Duo.but {F : Nat → Prop} (h : Duo e1 e2 s1 s2 B W p u n1 xs v n2 ys) (k : But F W W1) (hF : ∀ i, ft p u v i → ¬ F i) : Duo e1 e2 s1 s2 B W1 p u n1 xs v n2 ys :=
  ⟨h.cells.but k (hF p (Or.inl rfl)), own_but h.fst k fun g hg => hF g (Or.inr (Or.inl hg)), own_but h.snd k fun g hg => hF g (Or.inr (Or.inr hg)), h.base, h.au, h.av, h.ap⟩
theorem Duo.below (h : Duo e1 e2 s1 s2 B W p u n1 xs v n2 ys) (k : Below W.heap.size W W1) : Duo e1 e2 s1 s2 B W1 p u n1 xs v n2 ys := h.but (But.of_below (fun _ => False) k) fun _ _ e => e
theorem Duo.lt (h : Duo e1 e2 s1 s2 B W p u n1 xs v n2 ys) {i : Nat} (hi : ft p u v i) : i < W.heap.size := by
  rcases hi with rfl | hi | hi
  · exact h.cells.1
  · exact (h.fst.lt i hi).2
  · exact (h.snd.lt i hi).2
theorem Duo.ge (h : Duo e1 e2 s1 s2 B W p u n1 xs v n2 ys) {i : Nat} (hi : ft p u v i) : B ≤ i := by
  rcases hi with rfl | hi | hi
  · exact h.base
  · exact (h.fst.lt i hi).1
  · exact (h.snd.lt i hi).1
theorem grown_but {row : Option Nat} (hg : W.grownBy W1 row) : But (fun k => row = some k) W W1 := ⟨hg.os, hg.tape, hg.output, hg.size, fun k hk hn => hg.block k hk fun e => hn e.symm⟩
theorem ap_ne (h : Ap2 u v) {g : Nat} (hv : v.ownBlock = some g) : ¬ u.ownBlock = some g := fun e => by
  rcases h with h | h
  · rw [h] at e; cases e
  · exact h (e.trans hv.symm)
/-- The first row has grown, and is stored. -/
theorem Duo.growU (h : Duo e1 e2 s1 s2 B W p u n1 xs v n2 ys) (hW : Below W.heap.size W Wa) (hg : Wa.grownBy W1 u.ownBlock) (ho : W1.ownsRow B e1 s1 u' m zs) (hat : u'.ownBlock = u.ownBlock ∨ u'.ownBlock = some Wa.heap.size) :
    Duo e1 e2 s1 s2 B (W1.setCell ⟨p, 0, none⟩ u') p u' m zs v n2 ys := by
  have hp := h.cells.1
  have ha : u'.ownBlock ≠ some p := by
    rcases hat with e | e
    · rw [e]; exact h.au
    · rw [e]; intro k; injection k with k; have := hW.size; omega
  have k1 : At W1 p [u, v] := At.grown (h.cells.below hW) hg h.au
  have k2 : W1.ownsRow B e2 s2 v n2 ys := own_but (own_stay h.snd hW) (grown_but hg) fun g hv => ap_ne h.ap hv
  refine ⟨At.fst k1, own_set ho ha _, own_set k2 h.av _, h.base, ha, h.av, ?_⟩
  rcases hat with e | e
  · rcases h.ap with k | k
    · exact Or.inl (e.trans k)
    · exact Or.inr (by rw [e]; exact k)
  · refine Or.inr ?_
    rw [e]
    intro k
    have := ((own_stay h.snd hW).lt _ k.symm).2
    omega
/-- The second one likewise. -/
theorem Duo.growV (h : Duo e1 e2 s1 s2 B W p u n1 xs v n2 ys) (hW : Below W.heap.size W Wa) (hg : Wa.grownBy W1 v.ownBlock) (ho : W1.ownsRow B e2 s2 v' m zs) (hat : v'.ownBlock = v.ownBlock ∨ v'.ownBlock = some Wa.heap.size) :
    Duo e1 e2 s1 s2 B (W1.setCell ⟨p, 1, none⟩ v') p u n1 xs v' m zs := by
  have hp := h.cells.1
  have ha : v'.ownBlock ≠ some p := by
    rcases hat with e | e
    · rw [e]; exact h.av
    · rw [e]; intro k; injection k with k; have := hW.size; omega
  have k1 : At W1 p [u, v] := At.grown (h.cells.below hW) hg h.av
  have k2 : W1.ownsRow B e1 s1 u n1 xs := own_but (own_stay h.fst hW) (grown_but hg) fun g hu => ap_ne h.ap.symm hu
  refine ⟨At.snd k1, own_set k2 h.au _, own_set ho ha _, h.base, h.au, ha, ?_⟩
  rcases hat with e | e
  · rcases h.ap with k | k
    · exact Or.inl k
    · exact Or.inr (by rw [e]; exact k)
  · refine Or.inr ?_
    rw [e]
    intro k
    have := ((own_stay h.fst hW).lt _ k).2
    omega
/-- A cell of the second row is stored. -/
theorem Duo.setV {g c z : Nat} {x : Value} (h : Duo e1 e2 s1 s2 B W p u n1 xs (.slice (some ⟨g, 0, none⟩) n2 c) n2 ys) : Duo e1 e2 s1 s2 B (W.setCell ⟨g, z, none⟩ x) p u n1 xs (.slice (some ⟨g, 0, none⟩) n2 c) n2 (ys.set z x) :=
  ⟨At.set h.cells (fun e => h.av (by rw [e]; rfl)), own_set h.fst (ap_ne h.ap rfl) _, (h.snd.stored z x).1, h.base, h.au, h.av, h.ap⟩
theorem BookAt.flag {n g c z : Nat} {K : Nat → Nat} {G : Nat → Bool} (h : BookAt e1 e2 B W p u (.slice (some ⟨g, 0, none⟩) n c) n K G) (hz : z < n) : BookAt e1 e2 B (W.setCell ⟨g, z, none⟩ (.bool true)) p u (.slice (some ⟨g, 0, none⟩) n c) n K (setB G z) := by
  have := h.duo.setV (z := z) (x := .bool true)
  rw [cellsB_set G hz] at this
  exact this.book
/-- What else there is stays. -/
theorem but_growU {F : Nat → Prop} {a : World} (hb : But F a Wa) (hg : Wa.grownBy W1 u.ownBlock) (hu : ∀ k, u.ownBlock = some k → F k ∨ a.heap.size ≤ k) (hp : F p ∨ a.heap.size ≤ p) (o : Nat) (x : Value) : But F a (W1.setCell ⟨p, o, none⟩ x) :=
  (hb.grown hg hu).setCell hp x
end
theorem three_at {w : World} {b : Nat} (h : w.heap.size = b) (x y z : Value) (t : TypeId) : ∀ j u, [x, y, z][j]? = some u → (w.alloc (.cells #[x, y, z] t)).cell? ((⟨b, 0, none⟩ : Addr).add j) = some u := by
  subst h
  intro j u hj
  rw [addr_add]
  match j, hj with
  | 0, hj => simp at hj; subst hj; simp
  | 1, hj => simp at hj; subst hj; simp
  | 2, hj => simp at hj; subst hj; simp
theorem one_at {w : World} {b : Nat} (h : w.heap.size = b) (x : Value) (t : TypeId) : ∀ j u, [x][j]? = some u → (w.alloc (.cells #[x] t)).cell? ((⟨b, 0, none⟩ : Addr).add j) = some u := by
  subst h
  intro j u hj
  rw [addr_add]
  match j, hj with
  | 0, hj => simp at hj; subst hj; simp
/-- What a deal that is done leaves of a book. -/
def BookDone (eC eG : TypeId) (B : Nat) (w w' : World) (p : Nat) (u v : Value) (n : Nat) (K : Nat → Nat) (G : Nat → Bool) : Prop :=
  But (ft p u v) w w' ∧ ∃ u' v', BookAt eC eG B w' p u' v' n K G ∧ ∀ i, ft p u' v' i → ft p u v i ∨ w.heap.size ≤ i
/-- A book on its way: its rows, and where they lie. -/
def BookGrown (eC eG : TypeId) (B : Nat) (w w' : World) (p : Nat) (u v : Value) (n : Nat) (K : Nat → Nat) (G : Nat → Bool) : Prop :=
  ∃ u' v', BookAt eC eG B w' p u' v' n K G ∧ ∀ i, ft p u' v' i → ft p u v i ∨ w.heap.size < i
theorem BookGrown.done {eC eG : TypeId} {B : Nat} {w w' : World} {p : Nat} {u v : Value} {n : Nat} {K : Nat → Nat} {G : Nat → Bool} (h : BookGrown eC eG B w w' p u v n K G) (hb : But (ft p u v) w w') : BookDone eC eG B w w' p u v n K G := by
  obtain ⟨u', v', h1, h2⟩ := h
  exact ⟨hb, u', v', h1, fun i hi => (h2 i hi).imp_right Nat.le_of_lt⟩
section
variable {e1 e2 : TypeId} {B : Nat} {w U Wa w7 : World} {p : Nat} {u v u' v' : Value} {n1 n2 m : Nat} {xs ys zs D : List Value} {F : Nat → Prop}
theorem apart_q {q : Nat} (hft : ∀ i, ft p u v i → F i ∨ q < i) (hF : ∀ i, F i → i < q) : ¬ ft p u v q := fun h => by
  rcases hft q h with h | h
  · have := hF q h; omega
  · omega
/-- A coin more. -/
theorem grow_coin (h : Duo e1 e2 3 1 B U p u n1 xs v n2 ys) (hW : Below U.heap.size U Wa) (hg : Wa.grownBy w7 u.ownBlock) (ho : w7.ownsRow B e1 3 u' m zs) (hat : u'.ownBlock = u.ownBlock ∨ u'.ownBlock = some Wa.heap.size) (hft : ∀ i, ft p u v i → F i ∨ w.heap.size < i) (hF : ∀ i, F i → i < w.heap.size) (hp : F p) (hq : But F w U) (kd : At U w.heap.size D) :
    Duo e1 e2 3 1 B (w7.setCell ⟨p, 0, none⟩ u') p u' m zs v n2 ys ∧ At (w7.setCell ⟨p, 0, none⟩ u') w.heap.size D ∧ But F w (w7.setCell ⟨p, 0, none⟩ u') ∧ ∀ i, ft p u' v i → F i ∨ w.heap.size < i := by
  have hn := apart_q hft hF
  refine ⟨h.growU hW hg ho hat, At.set (At.grown (kd.below hW) hg fun e => hn (Or.inr (Or.inl e))) (fun e => by have := hF p hp; omega), but_growU (hq.call hW) hg (fun k hk => (hft k (Or.inr (Or.inl hk))).imp_right Nat.le_of_lt) (Or.inl hp) 0 _, fun i hi => ?_⟩
  rcases hi with rfl | hi | hi
  · exact Or.inl hp
  · rcases hat with e | e
    · exact hft i (Or.inr (Or.inl (e.symm.trans hi)))
    · rw [e] at hi
      injection hi with hi
      have h1 := kd.1
      have h2 := hW.size
      exact Or.inr (by omega)
  · exact hft i (Or.inr (Or.inr hi))
/-- A flag more. -/
theorem grow_flag (h : Duo e1 e2 3 1 B U p u n1 xs v n2 ys) (hW : Below U.heap.size U Wa) (hg : Wa.grownBy w7 v.ownBlock) (ho : w7.ownsRow B e2 1 v' m zs) (hat : v'.ownBlock = v.ownBlock ∨ v'.ownBlock = some Wa.heap.size) (hft : ∀ i, ft p u v i → F i ∨ w.heap.size < i) (hF : ∀ i, F i → i < w.heap.size) (hp : F p) (hq : But F w U) (kd : At U w.heap.size D) :
    Duo e1 e2 3 1 B (w7.setCell ⟨p, 1, none⟩ v') p u n1 xs v' m zs ∧ At (w7.setCell ⟨p, 1, none⟩ v') w.heap.size D ∧ But F w (w7.setCell ⟨p, 1, none⟩ v') ∧ ∀ i, ft p u v' i → F i ∨ w.heap.size < i := by
  have hn := apart_q hft hF
  refine ⟨h.growV hW hg ho hat, At.set (At.grown (kd.below hW) hg fun e => hn (Or.inr (Or.inr e))) (fun e => by have := hF p hp; omega), but_growU (hq.call hW) hg (fun k hk => (hft k (Or.inr (Or.inr hk))).imp_right Nat.le_of_lt) (Or.inl hp) 1 _, fun i hi => ?_⟩
  rcases hi with rfl | hi | hi
  · exact Or.inl hp
  · exact hft i (Or.inr (Or.inl hi))
  · rcases hat with e | e
    · exact hft i (Or.inr (Or.inr (e.symm.trans hi)))
    · rw [e] at hi
      injection hi with hi
      have h1 := kd.1
      have h2 := hW.size
      exact Or.inr (by omega)
end
end Go.Proofs.YtpkkclcjiobgoajGreatDoor

/- Texts as spots: what the rule gives. Apart from the program. -/
namespace Go.Proofs.YtpkkclcjiobgoajGreatDoor
set_option linter.unusedSimpArgs false
set_option linter.unusedVariables false

/-- Which spot is at a place, if one is: so many times the one spot. -/
def atX (x k : Nat) : Bool := decide (tM k = (x, ltN x, false))
theorem atX_iff (x k : Nat) : atX x k = true ↔ tM k = (x, ltN x, false) := by unfold atX; exact decide_eq_true_iff
def kxN (x : Nat) : Nat := ((List.range 4052).find? (atX x)).getD 0
theorem kx_is {x : Nat} (h1 : x < 4051) (h : rtOk (sqI (x : Int)) = true) : tM (kxN x) = (x, ltN x, false) := by
  obtain ⟨k, hk, e⟩ := is_tN (lt_ok h1 h)
  unfold kxN
  have hx : atX x k = true := (atX_iff x k).2 (by rw [tM_lt hk, e])
  cases hf : (List.range 4052).find? (atX x) with
  | none =>
    rw [List.find?_eq_none] at hf
    exact absurd hx (hf k (List.mem_range.2 hk))
  | some j => exact (atX_iff x j).1 (List.find?_some hf)
/-- Does a spot that counts come of a place? -/
def fdN (x : Nat) : Bool := rtOk (sqI (x : Int)) && !(farI (kxN x * 4))
/-- The spot of a long number, from byte k on, so many bytes left. -/
def spF (n : Nat) : Nat → Nat → Nat
  | 0, _ => 4
  | m + 1, k => bif fdN (bhN n k % 4051) then kxN (bhN n k % 4051) * 4 else spF n m (k + 1)
def spN (n : Nat) : Nat := spF n 256 0
theorem spF_yes {n m k : Nat} (h : fdN (bhN n k % 4051) = true) : spF n (m + 1) k = kxN (bhN n k % 4051) * 4 := by
  show (bif _ then _ else _) = _; rw [h]; rfl
theorem spF_no {n m k : Nat} (h : fdN (bhN n k % 4051) = false) : spF n (m + 1) k = spF n m (k + 1) := by
  show (bif _ then _ else _) = _; rw [h]; rfl
theorem spF_good (n : Nat) : ∀ m k, farI (spF n m k) = false ∧ farI (spF n m k * 1013) = true
  | 0, k => by
    show farI 4 = false ∧ farI (4 * 1013) = true
    exact ⟨by rw [← Bool.not_eq_true, farI_iff]; omega, by rw [farI_iff]⟩
  | m + 1, k => by
    cases h : fdN (bhN n k % 4051) with
    | true =>
      rw [spF_yes h]
      refine ⟨?_, ?_⟩
      · unfold fdN at h; simp only [Bool.and_eq_true, Bool.not_eq_true'] at h; exact h.2
      · rw [farI_iff]; omega
    | false => rw [spF_no h]; exact spF_good n m (k + 1)
theorem sp_near (n : Nat) : farI (spN n) = false := (spF_good n 256 0).1
theorem sp_in (n : Nat) : farI (spN n * 1013) = true := (spF_good n 256 0).2
theorem sp_f (n : Nat) : (tM (spN n)).2.2 = false := by rw [tM_f]; exact sp_near n
end Go.Proofs.YtpkkclcjiobgoajGreatDoor
