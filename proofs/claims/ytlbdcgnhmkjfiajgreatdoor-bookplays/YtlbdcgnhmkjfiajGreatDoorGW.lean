/- Texts joined: BookIs Open OpenRing OpenDeal PlaysIs SameRows PlaysMore BookPlaysL BookPlaysN BookPlaysBy. What package book is to answer: Ask, Close, New, Excess, Do, Live, Coins, Total. A book is whatever the package makes of it: PB says of a memory that a value is a book, in which blocks it lies, how many coins it has, which ones, and which of them have gone. Slices of ints, of structs of two ints and of texts, opened at every place. A struct of an int and a slice of ints, opened. A slice of deals (two slices and a seal each), opened at every place. One deal, of the plain reckoning's book and of package book's, side by side: both answer alike, and leave books alike. stonesame.Ints, Shares, Spots of two lists that hold the same. Both books behind a deal; rows that both tell. stonelaw3.BookPlays, by what its callees answer: under way. stonelaw3.BookPlays where the coins are wrong, by what its callees answer. stonelaw3.BookPlays answers true, by what package book is to answer. -/
import Derived.Test.YtlbdcgnhmkjfiajGreatDoorBookRows
import Derived.Test.YtlbdcgnhmkjfiajGreatDoorGU
import Derived.Test.YtlbdcgnhmkjfiajGreatDoorComeIs
import Derived.Test.YtlbdcgnhmkjfiajGreatDoorRefSec
import Derived.Test.YtlbdcgnhmkjfiajGreatDoorRowE
import Derived.Test.YtlbdcgnhmkjfiajGreatDoorOwn
import Derived.SizedLaws
import Derived.Test.YtlbdcgnhmkjfiajGreatDoorGV
import Derived.Test.YtlbdcgnhmkjfiajGreatDoorTold
import Derived.BigQuiet
import Derived.Test.YtlbdcgnhmkjfiajGreatDoorStay
import Derived.Test.YtlbdcgnhmkjfiajGreatDoorLast
import Derived.Test.YtlbdcgnhmkjfiajGreatDoorGate
import Derived.Lib.QuietBelow
import Derived.Deep.RegionHeld3
import Derived.Deep.RegionWith
import Derived.Deep.CutRange
import Derived.Deep.CutBlock
import Derived.Test.YtlbdcgnhmkjfiajGreatDoorShell
/- BookIs -/
namespace Go.Proofs.YtlbdcgnhmkjfiajGreatDoor
open Go.RowKit Go.Sort
set_option linter.unusedVariables false
set_option linter.unusedSimpArgs false
def BAskIs : Prop :=
  (∀ (x1 y1 x2 y2 : Int) (f1 f2 : Bool) (w : World), ((rowE (twoR x1 x2) (twoR y1 y2) (twoR f1 f2) 2) == 0) = false → Calls Tryz.prog 6 #[.agg #[.int .i64 x1, .int .i64 y1, .bool f1], .agg #[.int .i64 x2, .int .i64 y2, .bool f2]] w fun ex w' => ex = .returned (.tuple #[.int .i64 0, errOf (rowE (twoR x1 x2) (twoR y1 y2) (twoR f1 f2) 2)]) ∧ Below w.heap.size w w') ∧
  (∀ (a b : Nat) (w : World), Calls Tryz.prog 6 #[.agg #[.int .i64 ((tM a).1 : Int), .int .i64 ((tM a).2.1 : Int), .bool (tM a).2.2], .agg #[.int .i64 ((tM b).1 : Int), .int .i64 ((tM b).2.1 : Int), .bool (tM b).2.2]] w fun ex w' => ex = .returned (.tuple #[.int .i64 (baN a b : Int), .nilIface]) ∧ Below w.heap.size w w')
def BCloseIs : Prop :=
  (∀ (r k x1 y1 : Int) (f1 : Bool) (w : World), (Lit.int .i64 r).wf = true → (Lit.int .i64 k).wf = true → (resB r && secB k) = false → Calls Tryz.prog 12 #[.int .i64 r, .int .i64 k, .agg #[.int .i64 x1, .int .i64 y1, .bool f1]] w fun ex w' => ex = .returned (.tuple #[.agg #[.int .i64 0, .int .i64 0, .bool false, .int .i64 0], errOf 1]) ∧ Below w.heap.size w w') ∧
  (∀ (r k x1 y1 : Int) (f1 : Bool) (w : World), (resB r && secB k) = true → (ckI x1 y1 f1 == 0) = false → Calls Tryz.prog 12 #[.int .i64 r, .int .i64 k, .agg #[.int .i64 x1, .int .i64 y1, .bool f1]] w fun ex w' => ex = .returned (.tuple #[.agg #[.int .i64 0, .int .i64 0, .bool false, .int .i64 0], errOf (ckI x1 y1 f1)]) ∧ Below w.heap.size w w') ∧
  (∀ (r k a : Nat) (w : World), r < 1013 → 1 ≤ k → k < 1013 → Calls Tryz.prog 12 #[.int .i64 (r : Int), .int .i64 (k : Int), .agg #[.int .i64 ((tM a).1 : Int), .int .i64 ((tM a).2.1 : Int), .bool (tM a).2.2]] w fun ex w' => ex = .returned (.tuple #[.agg #[.int .i64 ((tM (4 * clR k)).1 : Int), .int .i64 ((tM (4 * clR k)).2.1 : Int), .bool (tM (4 * clR k)).2.2, .int .i64 (clS r k a : Int)], .nilIface]) ∧ Below w.heap.size w w')
/-- What a thing's memory must keep to. -/
structure PBok (PB : World → Value → (Nat → Prop) → Nat → (Nat → Nat) → (Nat → Bool) → Prop) : Prop where
  lt : ∀ {W v Q n K G}, PB W v Q n K G → ∀ i, Q i → i < W.heap.size
  stay : ∀ {W W' v Q Q' n K G}, PB W v Q n K G → But Q' W W' → (∀ i, Q i → ¬ Q' i) → PB W' v Q n K G
def BNewIs (PB : World → Value → (Nat → Prop) → Nat → (Nat → Nat) → (Nat → Bool) → Prop) : Prop :=
  (∀ (sl : Option Addr) (n d : Nat) (X Y : Nat → Int) (F : Nat → Bool) (q : Int) (w : World), n ≤ d → (sl = none → d = 0) → (n = 0 ∨ ∃ b o : Nat, sl = some ⟨b, o, none⟩ ∧ RowO w b o n X Y F) → ComeIs X Y F n q → (q == 0) = false → Calls Tryz.prog 14 #[.slice sl n d] w fun ex w' => ex = .returned (.tuple #[.pointer none, errOf q]) ∧ Below w.heap.size w w') ∧
  (∀ (sl : Option Addr) (n d : Nat) (X Y : Nat → Int) (F : Nat → Bool) (K : Nat → Nat) (w : World), n ≤ 12 → n ≤ d → (sl = none → d = 0) → (n = 0 ∨ ∃ b o : Nat, sl = some ⟨b, o, none⟩ ∧ RowO w b o n X Y F) → isC X Y F K n →
    Calls Tryz.prog 14 #[.slice sl n d] w fun ex w' => ∃ (v : Value) (Q : Nat → Prop), ex = .returned (.tuple #[v, .nilIface]) ∧ PB w' v Q n K (fun _ => false) ∧ (∀ i, Q i → w.heap.size ≤ i) ∧ Below w.heap.size w w')
def BExcIs (PB : World → Value → (Nat → Prop) → Nat → (Nat → Nat) → (Nat → Bool) → Prop) : Prop :=
  (∀ (v : Value) (Q : Nat → Prop) (n m c d dz : Nat) (sz sl : Option Addr) (K : Nat → Nat) (G : Nat → Bool) (Z : Nat → Int) (X Y : Nat → Int) (F : Nat → Bool) (q : Int) (w : World), n ≤ 1000 → m ≤ 9223372036854775807 → m ≤ dz → c ≤ d → (sl = none → d = 0) → PB w v Q n K G → (m = 0 ∨ ∃ b o : Nat, sz = some ⟨b, o, none⟩ ∧ RowI w b o m Z) → (c = 0 ∨ ∃ b o : Nat, sl = some ⟨b, o, none⟩ ∧ RowO w b o c X Y F) → ComeIs X Y F c q → (exE n G Z m q == 0) = false → Calls Tryz.prog 17 #[v, .slice sz m dz, .slice sl c d] w fun ex w' => ex = .returned (.tuple #[.agg #[.int .i64 0, .int .i64 0, .bool false], errOf (exE n G Z m q)]) ∧ Below w.heap.size w w') ∧
  (∀ (v : Value) (Q : Nat → Prop) (n m c d dz : Nat) (sz sl : Option Addr) (K : Nat → Nat) (G : Nat → Bool) (Z : Nat → Int) (X Y : Nat → Int) (F : Nat → Bool) (J : Nat → Nat) (w : World), n ≤ 1000 → m ≤ 9223372036854775807 → m ≤ dz → c ≤ d → (sl = none → d = 0) → PB w v Q n K G → (m = 0 ∨ ∃ b o : Nat, sz = some ⟨b, o, none⟩ ∧ RowI w b o m Z) → (c = 0 ∨ ∃ b o : Nat, sl = some ⟨b, o, none⟩ ∧ RowO w b o c X Y F) → (∀ i, i < m → goE n G Z i = 0) → c ≤ 12 → isC X Y F J c → Calls Tryz.prog 17 #[v, .slice sz m dz, .slice sl c d] w fun ex w' => ex = .returned (.tuple #[.agg #[.int .i64 ((tM (4 * exN K Z m J c)).1 : Int), .int .i64 ((tM (4 * exN K Z m J c)).2.1 : Int), .bool (tM (4 * exN K Z m J c)).2.2], .nilIface]) ∧ Below w.heap.size w w')
/-- What a deal that is done leaves. -/
def PBdone (PB : World → Value → (Nat → Prop) → Nat → (Nat → Nat) → (Nat → Bool) → Prop) (w w' : World) (v : Value) (Q : Nat → Prop) (n : Nat) (K : Nat → Nat) (G : Nat → Bool) : Prop :=
  But Q w w' ∧ ∃ Q', PB w' v Q' n K G ∧ ∀ i, Q' i → Q i ∨ w.heap.size ≤ i
def BDoIs (PB : World → Value → (Nat → Prop) → Nat → (Nat → Nat) → (Nat → Bool) → Prop) : Prop :=
  (∀ (v : Value) (Q : Nat → Prop) (n m c d dz : Nat) (sz sl : Option Addr) (K : Nat → Nat) (G : Nat → Bool) (Z : Nat → Int) (X Y : Nat → Int) (F : Nat → Bool) (rx ry S q : Int) (rf : Bool) (w : World), n ≤ 1000 → m ≤ 9223372036854775807 → m ≤ dz → c ≤ d → (sl = none → d = 0) → PB w v Q n K G → (m = 0 ∨ ∃ b o : Nat, sz = some ⟨b, o, none⟩ ∧ RowI w b o m Z) → (c = 0 ∨ ∃ b o : Nat, sl = some ⟨b, o, none⟩ ∧ RowO w b o c X Y F) → ComeIs X Y F c q → (exE n G Z m q == 0) = false → Calls Tryz.prog 19 #[v, .agg #[.slice sz m dz, .slice sl c d, .int .i64 rx, .int .i64 ry, .bool rf, .int .i64 S]] w fun ex w' => ex = .returned (errOf (exE n G Z m q)) ∧ Below w.heap.size w w') ∧
  (∀ (v : Value) (Q : Nat → Prop) (n m c d dz : Nat) (sz sl : Option Addr) (K : Nat → Nat) (G : Nat → Bool) (Z : Nat → Int) (X Y : Nat → Int) (F : Nat → Bool) (J : Nat → Nat) (rx ry S : Int) (rf : Bool) (w : World), n ≤ 1000 → m ≤ 9223372036854775807 → m ≤ dz → c ≤ d → (sl = none → d = 0) → PB w v Q n K G → (m = 0 ∨ ∃ b o : Nat, sz = some ⟨b, o, none⟩ ∧ RowI w b o m Z) → (c = 0 ∨ ∃ b o : Nat, sl = some ⟨b, o, none⟩ ∧ RowO w b o c X Y F) → (∀ i, i < m → goE n G Z i = 0) → c ≤ 12 → isC X Y F J c → 1000 < n + c → Calls Tryz.prog 19 #[v, .agg #[.slice sz m dz, .slice sl c d, .int .i64 rx, .int .i64 ry, .bool rf, .int .i64 S]] w fun ex w' => ex = .returned (errOf 4) ∧ Below w.heap.size w w') ∧
  (∀ (v : Value) (Q : Nat → Prop) (n m c d dz : Nat) (sz sl : Option Addr) (K : Nat → Nat) (G : Nat → Bool) (Z : Nat → Int) (X Y : Nat → Int) (F : Nat → Bool) (J : Nat → Nat) (rx ry S : Int) (rf : Bool) (w : World), n ≤ 1000 → m ≤ 9223372036854775807 → m ≤ dz → c ≤ d → (sl = none → d = 0) → PB w v Q n K G → (m = 0 ∨ ∃ b o : Nat, sz = some ⟨b, o, none⟩ ∧ RowI w b o m Z) → (c = 0 ∨ ∃ b o : Nat, sl = some ⟨b, o, none⟩ ∧ RowO w b o c X Y F) → (∀ i, i < m → goE n G Z i = 0) → c ≤ 12 → isC X Y F J c → n + c ≤ 1000 → (Lit.int .i64 S).wf = true → resB S = false → Calls Tryz.prog 19 #[v, .agg #[.slice sz m dz, .slice sl c d, .int .i64 rx, .int .i64 ry, .bool rf, .int .i64 S]] w fun ex w' => ex = .returned (errOf 1) ∧ Below w.heap.size w w') ∧
  (∀ (v : Value) (Q : Nat → Prop) (n m c d dz : Nat) (sz sl : Option Addr) (K : Nat → Nat) (G : Nat → Bool) (Z : Nat → Int) (X Y : Nat → Int) (F : Nat → Bool) (J : Nat → Nat) (rx ry S : Int) (rf : Bool) (w : World), n ≤ 1000 → m ≤ 9223372036854775807 → m ≤ dz → c ≤ d → (sl = none → d = 0) → PB w v Q n K G → (m = 0 ∨ ∃ b o : Nat, sz = some ⟨b, o, none⟩ ∧ RowI w b o m Z) → (c = 0 ∨ ∃ b o : Nat, sl = some ⟨b, o, none⟩ ∧ RowO w b o c X Y F) → (∀ i, i < m → goE n G Z i = 0) → c ≤ 12 → isC X Y F J c → n + c ≤ 1000 → resB S = true → (ckI rx ry rf == 0) = false → Calls Tryz.prog 19 #[v, .agg #[.slice sz m dz, .slice sl c d, .int .i64 rx, .int .i64 ry, .bool rf, .int .i64 S]] w fun ex w' => ex = .returned (errOf (ckI rx ry rf)) ∧ Below w.heap.size w w') ∧
  (∀ (v : Value) (Q : Nat → Prop) (n m c d dz : Nat) (sz sl : Option Addr) (K : Nat → Nat) (G : Nat → Bool) (Z : Nat → Int) (X Y : Nat → Int) (F : Nat → Bool) (J : Nat → Nat) (a s : Nat) (w : World), n ≤ 1000 → m ≤ 9223372036854775807 → m ≤ dz → c ≤ d → (sl = none → d = 0) → PB w v Q n K G → (m = 0 ∨ ∃ b o : Nat, sz = some ⟨b, o, none⟩ ∧ RowI w b o m Z) → (c = 0 ∨ ∃ b o : Nat, sl = some ⟨b, o, none⟩ ∧ RowO w b o c X Y F) → (∀ i, i < m → goE n G Z i = 0) → c ≤ 12 → isC X Y F J c → n + c ≤ 1000 → s < 1013 → closeB a (exN K Z m J c) s = false → Calls Tryz.prog 19 #[v, .agg #[.slice sz m dz, .slice sl c d, .int .i64 ((tM a).1 : Int), .int .i64 ((tM a).2.1 : Int), .bool (tM a).2.2, .int .i64 (s : Int)]] w fun ex w' => ex = .returned (errOf 8) ∧ Below w.heap.size w w') ∧
  (∀ (v : Value) (Q : Nat → Prop) (n m c d dz : Nat) (sz sl : Option Addr) (K : Nat → Nat) (G : Nat → Bool) (Z : Nat → Int) (X Y : Nat → Int) (F : Nat → Bool) (J : Nat → Nat) (a s : Nat) (w : World), n ≤ 1000 → m ≤ 9223372036854775807 → m ≤ dz → c ≤ d → (sl = none → d = 0) → PB w v Q n K G → (m = 0 ∨ ∃ b o : Nat, sz = some ⟨b, o, none⟩ ∧ RowI w b o m Z) → (c = 0 ∨ ∃ b o : Nat, sl = some ⟨b, o, none⟩ ∧ RowO w b o c X Y F) → (m ≠ 0 → ∀ b o, sz = some ⟨b, o, none⟩ → ¬ Q b) → (c ≠ 0 → ∀ b o, sl = some ⟨b, o, none⟩ → ¬ Q b) → (∀ i, i < m → goE n G Z i = 0) → c ≤ 12 → isC X Y F J c → n + c ≤ 1000 → s < 1013 → closeB a (exN K Z m J c) s = true →
    Calls Tryz.prog 19 #[v, .agg #[.slice sz m dz, .slice sl c d, .int .i64 ((tM a).1 : Int), .int .i64 ((tM a).2.1 : Int), .bool (tM a).2.2, .int .i64 (s : Int)]] w fun ex w' => ex = .returned .nilIface ∧ PBdone PB w w' v Q (n + c) (appN K n J c) (appN (mkG G Z m) n (fun _ => false) c))
def BLiveIs (PB : World → Value → (Nat → Prop) → Nat → (Nat → Nat) → (Nat → Bool) → Prop) : Prop :=
  ∀ (v : Value) (Q : Nat → Prop) (n : Nat) (K : Nat → Nat) (G : Nat → Bool) (w : World), n ≤ 1000 → PB w v Q n K G →
    Calls Tryz.prog 21 #[v] w fun ex w' => ∃ q, ex = .returned q ∧ w'.ownsRow w.heap.size 3 1 q (lvL G n).length (lvC G n) ∧ Below w.heap.size w w'
def BCoinsIs (PB : World → Value → (Nat → Prop) → Nat → (Nat → Nat) → (Nat → Bool) → Prop) : Prop :=
  ∀ (v : Value) (Q : Nat → Prop) (n : Nat) (K : Nat → Nat) (G : Nat → Bool) (w : World), n ≤ 1000 → PB w v Q n K G →
    Calls Tryz.prog 24 #[v] w fun ex w' => ∃ q, ex = .returned q ∧ w'.ownsRow w.heap.size 25 3 q n (cellsK K n) ∧ Below w.heap.size w w'
def BTotalIs (PB : World → Value → (Nat → Prop) → Nat → (Nat → Nat) → (Nat → Bool) → Prop) : Prop :=
  ∀ (v : Value) (Q : Nat → Prop) (n : Nat) (K : Nat → Nat) (G : Nat → Bool) (w : World), n ≤ 1000 → PB w v Q n K G → Calls Tryz.prog 25 #[v] w fun ex w' => ex = .returned (.agg #[.int .i64 ((tM (4 * ttN K G n)).1 : Int), .int .i64 ((tM (4 * ttN K G n)).2.1 : Int), .bool (tM (4 * ttN K G n)).2.2]) ∧ Below w.heap.size w w'
end Go.Proofs.YtlbdcgnhmkjfiajGreatDoor
/- Open -/
namespace Go.Proofs.YtlbdcgnhmkjfiajGreatDoor
open Go.ChangeShapes Go.WideShapes Go.ChangeAt Go.RowKit Go.Joins Go.Deep Go.WideElems
set_option linter.unusedVariables false
set_option linter.unusedSimpArgs false

section
variable {H : Type} {enc : TypeId × Value → H} {P : Program} {w : World} {held : Bool}

theorem weights_in {e : TypeId} {d : DataW H} {x : Nat} : ∀ {l : List (DataW H)}, d ∈ l → x ∈ d.weights P e → x ∈ DataW.weightsAll P e l
  | [], h, _ => by cases h
  | c :: r, h, hx => by
    show x ∈ c.weights P e ++ DataW.weightsAll P e r
    rcases List.mem_cons.1 h with rfl | h
    · exact List.mem_append_left _ hx
    · exact List.mem_append_right _ (weights_in h hx)
/-- How long a slice is, by the form's own reach. -/
theorem len_slice {t e : TypeId} {sa : Option Addr} {n c : Nat} {d : DataW H} {p : List MemPlace} (ht : P.underlying t = some (.slice e))
    (h : DataW.Trod enc P w 0 (fun _ => true) held t (.slice sa n c) d p) (hw : ∀ x ∈ d.weights P t, x ≤ reachBytes) : n * P.bytesOf e ≤ reachBytes := by
  obtain ⟨fuel, hf⟩ := h
  rcases open_slice ht hf with ⟨hc, _⟩ | ⟨a, len, cap, m, k, D, Pl, hc, _, hl, hm, hmm, hx, hall⟩
  · simp [Value.cells] at hc
    obtain ⟨rfl, rfl, rfl⟩ := hc
    rw [Nat.zero_mul]; exact Nat.zero_le _
  · simp [Value.cells] at hc
    obtain ⟨rfl, rfl, rfl⟩ := hc
    simp only [if_true] at hmm
    subst hmm
    have hd : d = .slice ((List.range n).map D) ((List.range (m - n)).map fun j => D (n + j)) := congrArg Prod.fst hx
    have hmem : (n + (m - n)) * P.bytesOf e ∈ d.weights P t := by
      rw [hd]
      unfold DataW.weights
      rw [ht]
      simp
    have h1 := hw _ hmem
    have h2 : n * P.bytesOf e ≤ (n + (m - n)) * P.bytesOf e := Nat.mul_le_mul_right _ (by omega)
    exact Nat.le_trans h2 h1
/-- A slice has room for what it holds. -/
theorem room_slice {t e : TypeId} {sa : Option Addr} {n c : Nat} {d : DataW H} {p : List MemPlace} (ht : P.underlying t = some (.slice e))
    (h : DataW.Trod enc P w 0 (fun _ => true) held t (.slice sa n c) d p) : n ≤ c := by
  obtain ⟨fuel, hf⟩ := h
  rcases open_slice ht hf with ⟨hc, _⟩ | ⟨a, len, cap, m, k, D, Pl, hc, _, hl, hm, hmm, hx, hall⟩
  · simp [Value.cells] at hc
    obtain ⟨rfl, rfl, rfl⟩ := hc
    exact Nat.le_refl _
  · simp [Value.cells] at hc
    obtain ⟨rfl, rfl, rfl⟩ := hc
    exact hl
/-- A slice of texts: how long each one is, too. -/
theorem open_texts {r : Reach} {b0 : Nat} {t e : TypeId} {v : Value} {d : DataW H} {p : List MemPlace} (ht : P.underlying t = some (.slice e)) (he : P.underlying e = some .string) (ce : P.cellsOf e = 1)
    (hv : Value.okWide P w r b0 t v) (h : DataW.Trod enc P w 0 (fun _ => true) held t v d p) (hw : ∀ x ∈ d.weights P t, x ≤ reachBytes) :
    ∃ (sa : Option Addr) (n c : Nat), v = .slice sa n c ∧ n ≤ maxLen ∧ (n = 0 ∨ ∃ (b o : Nat) (T : Nat → ByteArray), sa = some ⟨b, o, none⟩ ∧ RowZ w b o n T ∧ ∀ i, i < n → (T i).size ≤ reachBytes) := by
  obtain ⟨sa, n, c, rfl⟩ := okWide_slice ht hv
  obtain ⟨fuel, hf⟩ := h
  rcases open_slice ht hf with ⟨hc, _⟩ | ⟨a, len, cap, m, k, D, Pl, hc, _, hl, hm, hmm, hx, hall⟩
  · simp [Value.cells] at hc
    obtain ⟨rfl, rfl, rfl⟩ := hc
    exact ⟨none, 0, 0, rfl, by decide, Or.inl rfl⟩
  · simp [Value.cells] at hc
    obtain ⟨rfl, rfl, rfl⟩ := hc
    simp only [if_true] at hmm
    subst hmm
    refine ⟨some a, n, m, rfl, by omega, ?_⟩
    rcases Nat.eq_zero_or_pos n with h0 | hn
    · exact Or.inl h0
    right
    have each : ∀ i, i < n → ∃ q : ByteArray, w.cell? (a.add i) = some (.string q) ∧ q.size ≤ reachBytes := by
      intro i hi
      obtain ⟨cs, h1, h2⟩ := hall i (by omega)
      rw [ce] at h1
      obtain ⟨_, hlen, hcell⟩ := World.cells?_some h1
      obtain ⟨s, rfl, hs, _⟩ := DataW.trod_string he h2
      have e0 := hcell 0 (by omega)
      refine ⟨s, by simpa [Addr.add, Nat.mul_one] using e0, ?_⟩
      have hd : d = .slice ((List.range n).map D) ((List.range (m - n)).map fun j => D (n + j)) := congrArg Prod.fst hx
      have hD : D i = .lit (.string s.data.toList) := congrArg Prod.fst hs
      have hmem : s.data.toList.length ∈ d.weights P t := by
        rw [hd]
        unfold DataW.weights
        rw [ht]
        refine List.mem_cons_of_mem _ (List.mem_append_left _ (weights_in (d := D i) (List.mem_map.2 ⟨i, List.mem_range.2 hi, rfl⟩) ?_))
        rw [hD]
        unfold DataW.weights
        simp
      have := hw _ hmem
      rw [Array.length_toList] at this
      exact this
    obtain ⟨q, hq⟩ := choose_lt (α := ByteArray) each
    obtain ⟨b, o, spot⟩ := a
    have hspot : spot = none := by simpa [Addr.add] using World.cell?_spot (hq 0 hn).1
    subst hspot
    refine ⟨b, o, q, rfl, ⟨?_, fun i hi => ?_⟩, fun i hi => (hq i hi).2⟩
    · have h1 := (hq 0 hn).1
      rw [Addr.add_lit] at h1; exact World.block_lt_of_cell? _ _ h1
    · have h1 := (hq i hi).1
      rwa [Addr.add_lit] at h1
/-- A slice of ints. -/
theorem open_nums {r : Reach} {b0 : Nat} {t e : TypeId} {v : Value} {d : DataW H} {p : List MemPlace} (ht : P.underlying t = some (.slice e)) (he : P.underlying e = some (.int .i64)) (ce : P.cellsOf e = 1)
    (hv : Value.okWide P w r b0 t v) (h : DataW.Trod enc P w 0 (fun _ => true) held t v d p) :
    ∃ (sa : Option Addr) (n c : Nat), v = .slice sa n c ∧ n ≤ maxLen ∧ (n = 0 ∨ ∃ (b o : Nat) (X : Nat → Int), sa = some ⟨b, o, none⟩ ∧ RowI w b o n X ∧ ∀ i, i < n → (Lit.int .i64 (X i)).wf = true) := by
  obtain ⟨sa, n, c, rfl⟩ := okWide_slice ht hv
  obtain ⟨fuel, hf⟩ := h
  rcases open_slice ht hf with ⟨hc, _⟩ | ⟨a, len, cap, m, k, D, Pl, hc, _, hl, hm, hmm, hx, hall⟩
  · simp [Value.cells] at hc
    obtain ⟨rfl, rfl, rfl⟩ := hc
    exact ⟨none, 0, 0, rfl, by decide, Or.inl rfl⟩
  · simp [Value.cells] at hc
    obtain ⟨rfl, rfl, rfl⟩ := hc
    simp only [if_true] at hmm
    subst hmm
    refine ⟨some a, n, m, rfl, by omega, ?_⟩
    rcases Nat.eq_zero_or_pos n with h0 | hn
    · exact Or.inl h0
    right
    have each : ∀ i, i < n → ∃ q : Int, w.cell? (a.add i) = some (.int .i64 q) ∧ (Lit.int .i64 q).wf = true := by
      intro i hi
      obtain ⟨cs, h1, h2⟩ := hall i (by omega)
      rw [ce] at h1
      obtain ⟨_, hlen, hcell⟩ := World.cells?_some h1
      obtain ⟨s, rfl, hs, ws⟩ := DataW.trod_int he h2
      have e0 := hcell 0 (by omega)
      exact ⟨s, by simpa [Addr.add, Nat.mul_one] using e0, ws⟩
    obtain ⟨q, hq⟩ := choose_lt (α := Int) each
    obtain ⟨b, o, spot⟩ := a
    have hspot : spot = none := by simpa [Addr.add] using World.cell?_spot (hq 0 hn).1
    subst hspot
    refine ⟨b, o, q, rfl, ⟨?_, fun i hi => ?_⟩, fun i hi => (hq i hi).2⟩
    · have h1 := (hq 0 hn).1
      rw [Addr.add_lit] at h1; exact World.block_lt_of_cell? _ _ h1
    · have h1 := (hq i hi).1
      rwa [Addr.add_lit] at h1
theorem cells_two {W : World} {base : Nat} {a : Addr} {cs : List Value} (h : W.cells? base a 2 = some cs) : ∃ v0 v1, cs = [v0, v1] ∧ W.cell? a = some v0 ∧ W.cell? (a.add 1) = some v1 := by
  obtain ⟨_, hlen, hcell⟩ := World.cells?_some h
  match cs, hlen with
  | [v0, v1], _ =>
    have e0 := hcell 0 (by omega)
    have e1 := hcell 1 (by omega)
    exact ⟨v0, v1, rfl, by simpa [Addr.add] using e0, by simpa using e1⟩
/-- A slice of structs of two ints. -/
theorem open_twos {r : Reach} {b0 : Nat} {t e : TypeId} {f0 f1 : Field} {v : Value} {d : DataW H} {p : List MemPlace} (ht : P.underlying t = some (.slice e)) (he : P.underlying e = some (.struct #[f0, f1])) (ce : P.cellsOf e = 2)
    (o0 : f0.offset = 0) (o1 : f1.offset = 1) (c0 : P.cellsOf f0.type = 1) (c1 : P.cellsOf f1.type = 1) (u0 : P.underlying f0.type = some (.int .i64)) (u1 : P.underlying f1.type = some (.int .i64))
    (hv : Value.okWide P w r b0 t v) (h : DataW.Trod enc P w 0 (fun _ => true) held t v d p) :
    ∃ (sa : Option Addr) (n c : Nat), v = .slice sa n c ∧ n ≤ maxLen ∧ (n = 0 ∨ ∃ (b o : Nat) (X Y : Nat → Int), sa = some ⟨b, o, none⟩ ∧ RowP w b o n X Y ∧ ∀ i, i < n → (Lit.int .i64 (X i)).wf = true ∧ (Lit.int .i64 (Y i)).wf = true) := by
  obtain ⟨sa, n, c, rfl⟩ := okWide_slice ht hv
  obtain ⟨fuel, hf⟩ := h
  rcases open_slice ht hf with ⟨hc, _⟩ | ⟨a, len, cap, m, k, D, Pl, hc, _, hl, hm, hmm, hx, hall⟩
  · simp [Value.cells] at hc
    obtain ⟨rfl, rfl, rfl⟩ := hc
    exact ⟨none, 0, 0, rfl, by decide, Or.inl rfl⟩
  · simp [Value.cells] at hc
    obtain ⟨rfl, rfl, rfl⟩ := hc
    simp only [if_true] at hmm
    subst hmm
    refine ⟨some a, n, m, rfl, by omega, ?_⟩
    rcases Nat.eq_zero_or_pos n with h0 | hn
    · exact Or.inl h0
    right
    have each : ∀ i, i < n → ∃ q : Int × Int, w.cell? (a.add (i * 2)) = some (.int .i64 q.1) ∧ w.cell? (a.add (i * 2 + 1)) = some (.int .i64 q.2) ∧ (Lit.int .i64 q.1).wf = true ∧ (Lit.int .i64 q.2).wf = true := by
      intro i hi
      obtain ⟨cs, h1, h2⟩ := hall i (by omega)
      rw [ce] at h1
      obtain ⟨v0, v1, rfl, g0, g1⟩ := cells_two h1
      rw [add_add] at g1
      obtain ⟨xs, k', hk, _, _, hxl, hfd⟩ := DataW.trod_struct he h2
      match xs, hxl with
      | [y0, y1], _ =>
        have q0 := hfd 0 f0 rfl
        have q1 := hfd 1 f1 rfl
        simp [o0, o1, c0, c1] at q0 q1
        obtain ⟨x, e0, _, wx⟩ := DataW.trod_int u0 q0
        obtain ⟨y, e1, _, wy⟩ := DataW.trod_int u1 q1
        simp at e0 e1
        subst e0 e1
        exact ⟨(x, y), g0, g1, wx, wy⟩
    obtain ⟨q, hq⟩ := choose_lt (α := Int × Int) each
    obtain ⟨b, o, spot⟩ := a
    have hspot : spot = none := by simpa [Addr.add] using World.cell?_spot (hq 0 hn).1
    subst hspot
    refine ⟨b, o, fun i => (q i).1, fun i => (q i).2, rfl, ⟨?_, fun i hi => ?_⟩, fun i hi => (hq i hi).2.2⟩
    · have h1 := (hq 0 hn).1
      rw [Addr.add_lit] at h1; exact World.block_lt_of_cell? _ _ h1
    · obtain ⟨h1, h2, _⟩ := hq i hi
      simp only [Addr.add_lit] at h1 h2
      exact ⟨h1, by rw [Nat.add_assoc]; exact h2⟩
end
end Go.Proofs.YtlbdcgnhmkjfiajGreatDoor
/- OpenRing -/
namespace Go.Proofs.YtlbdcgnhmkjfiajGreatDoor
open Go.ChangeShapes Go.WideShapes Go.ChangeAt Go.RowKit Go.Joins Go.Deep Go.WideElems
set_option linter.unusedVariables false
set_option linter.unusedSimpArgs false

section
variable {H : Type} {enc : TypeId × Value → H} {P : Program} {w : World} {held : Bool}

/-- Cells that hold a slice of ints. -/
theorem cells_nums {t e : TypeId} {fuel : Nat} {cs : List Value} {x : DataW H × List MemPlace} (ht : P.underlying t = some (.slice e)) (he : P.underlying e = some (.int .i64)) (ce : P.cellsOf e = 1)
    (hf : DataW.trod enc P w 0 (fun _ => true) held fuel t cs = some x) :
    ∃ (sa : Option Addr) (n c : Nat), cs = [.slice sa n c] ∧ n ≤ maxLen ∧ n ≤ c ∧ (n = 0 ∨ ∃ (b o : Nat) (X : Nat → Int), sa = some ⟨b, o, none⟩ ∧ RowI w b o n X ∧ ∀ i, i < n → (Lit.int .i64 (X i)).wf = true) := by
  rcases open_slice ht hf with ⟨hc, _⟩ | ⟨a, n, cap, m, k, D, Pl, hc, _, hl, hm, hmm, hx, hall⟩
  · exact ⟨none, 0, 0, hc, by decide, Nat.le_refl _, Or.inl rfl⟩
  · simp only [if_true] at hmm
    subst hmm
    refine ⟨some a, n, m, hc, by omega, hl, ?_⟩
    rcases Nat.eq_zero_or_pos n with h0 | hn
    · exact Or.inl h0
    right
    have each : ∀ i, i < n → ∃ q : Int, w.cell? (a.add i) = some (.int .i64 q) ∧ (Lit.int .i64 q).wf = true := by
      intro i hi
      obtain ⟨cs, h1, h2⟩ := hall i (by omega)
      rw [ce] at h1
      obtain ⟨_, hlen, hcell⟩ := World.cells?_some h1
      obtain ⟨s, rfl, hs, ws⟩ := DataW.trod_int he h2
      have e0 := hcell 0 (by omega)
      exact ⟨s, by simpa [Addr.add, Nat.mul_one] using e0, ws⟩
    obtain ⟨q, hq⟩ := choose_lt (α := Int) each
    obtain ⟨b, o, spot⟩ := a
    have hspot : spot = none := by simpa [Addr.add] using World.cell?_spot (hq 0 hn).1
    subst hspot
    refine ⟨b, o, q, rfl, ⟨?_, fun i hi => ?_⟩, fun i hi => (hq i hi).2⟩
    · have h1 := (hq 0 hn).1
      rw [Addr.add_lit] at h1; exact World.block_lt_of_cell? _ _ h1
    · have h1 := (hq i hi).1
      rwa [Addr.add_lit] at h1
theorem array_two {α : Type} {a : Array α} (h : a.size = 2) : ∃ x y, a = #[x, y] := by
  obtain ⟨l⟩ := a
  match l, h with
  | [x, y], _ => exact ⟨x, y, rfl⟩
/-- A struct of an int and a slice of ints. -/
theorem open_ringed {r : Reach} {b0 : Nat} {t e : TypeId} {f0 f1 : Field} {v : Value} {d : DataW H} {p : List MemPlace} (hs : P.underlying t = some (.struct #[f0, f1])) (hC : P.cellsOf t = 2)
    (o0 : f0.offset = 0) (o1 : f1.offset = 1) (c0 : P.cellsOf f0.type = 1) (c1 : P.cellsOf f1.type = 1)
    (u0 : P.underlying f0.type = some (.int .i64)) (u1 : P.underlying f1.type = some (.slice e)) (he : P.underlying e = some (.int .i64)) (ce : P.cellsOf e = 1)
    (hv : Value.okWide P w r b0 t v) (h : DataW.Trod enc P w 0 (fun _ => true) held t v d p) :
    ∃ (a : Int) (sa : Option Addr) (n c : Nat), v = .agg #[.int .i64 a, .slice sa n c] ∧ (Lit.int .i64 a).wf = true ∧ n ≤ maxLen ∧ n ≤ c ∧ (n = 0 ∨ ∃ (b o : Nat) (X : Nat → Int), sa = some ⟨b, o, none⟩ ∧ RowI w b o n X ∧ ∀ i, i < n → (Lit.int .i64 (X i)).wf = true) := by
  obtain ⟨cs, rfl, hsz⟩ := okWide_struct hs hv
  obtain ⟨v0, v1, rfl⟩ := array_two (hsz.trans hC)
  obtain ⟨fuel, hf⟩ := h
  obtain ⟨y0, y1, n, hx, _, h0, h1⟩ := trod_struct2 hs hf
  simp [Value.cells, o0, o1, c0, c1] at h0 h1
  obtain ⟨a, e0, _, wa⟩ := DataW.trod_int u0 h0
  obtain ⟨sa, m, c, e1, k1, k2, k3⟩ := cells_nums u1 he ce h1
  simp at e0 e1
  subst e0 e1
  exact ⟨a, sa, m, c, rfl, wa, k1, k2, k3⟩
end
end Go.Proofs.YtlbdcgnhmkjfiajGreatDoor
/- OpenDeal -/
namespace Go.Proofs.YtlbdcgnhmkjfiajGreatDoor
open Go.ChangeShapes Go.WideShapes Go.ChangeAt Go.RowKit Go.Joins Go.Deep Go.WideElems
set_option linter.unusedVariables false
set_option linter.unusedSimpArgs false

/-- A deal, as it lies: those that go, those that come, and the seal. -/
structure DealV where
  sz : Option Addr
  m : Nat
  dz : Nat
  sl : Option Addr
  c : Nat
  d : Nat
  rx : Int
  ry : Int
  rf : Bool
  s : Int
/-- What is known of a deal that came in. -/
structure DealOk (w : World) (D : DealV) : Prop where
  lm : D.m ≤ maxLen
  km : D.m ≤ D.dz
  um : D.m = 0 ∨ ∃ (b o : Nat) (Z : Nat → Int), D.sz = some ⟨b, o, none⟩ ∧ RowI w b o D.m Z ∧ ∀ i, i < D.m → (Lit.int .i64 (Z i)).wf = true
  lc : D.c ≤ maxLen
  kc : D.c ≤ D.d
  nc : D.sl = none → D.d = 0
  uc : D.c = 0 ∨ ∃ (b o : Nat) (X Y : Nat → Int) (F : Nat → Bool), D.sl = some ⟨b, o, none⟩ ∧ RowO w b o D.c X Y F
  wx : (Lit.int .i64 D.rx).wf = true
  wy : (Lit.int .i64 D.ry).wf = true
  ws : (Lit.int .i64 D.s).wf = true
/-- Its cells. -/
def DealV.cells (D : DealV) : List Value := [.slice D.sz D.m D.dz, .slice D.sl D.c D.d, .int .i64 D.rx, .int .i64 D.ry, .bool D.rf, .int .i64 D.s]
/-- In block b, from o on, lie so many deals in a row. -/
def RowD (w : World) (b o n : Nat) (D : Nat → DealV) : Prop :=
  b < w.heap.size ∧ ∀ i, i < n → (∀ j, j < 6 → w.cell? ⟨b, o + i * 6 + j, none⟩ = (D i).cells[j]?) ∧ DealOk w (D i)

section
variable {H : Type} {enc : TypeId × Value → H} {P : Program} {w : World} {held : Bool}
/-- A slice without a place has no room. -/
theorem nil_slice {t e : TypeId} {sa : Option Addr} {n c : Nat} {d : DataW H} {p : List MemPlace} (ht : P.underlying t = some (.slice e))
    (h : DataW.Trod enc P w 0 (fun _ => true) held t (.slice sa n c) d p) : sa = none → c = 0 := by
  obtain ⟨fuel, hf⟩ := h
  rcases open_slice ht hf with ⟨hc, _⟩ | ⟨a, len, cap, m, k, D, Pl, hc, _⟩
  · simp [Value.cells] at hc
    obtain ⟨rfl, rfl, rfl⟩ := hc
    exact fun _ => rfl
  · simp [Value.cells] at hc
    obtain ⟨rfl, rfl, rfl⟩ := hc
    intro e; cases e
/-- Cells that hold a slice of spots. -/
theorem cells_spots {t e : TypeId} {f0 f1 f2 : Field} {fuel : Nat} {cs : List Value} {x : DataW H × List MemPlace} (ht : P.underlying t = some (.slice e)) (he : P.underlying e = some (.struct #[f0, f1, f2])) (ce : P.cellsOf e = 3)
    (o0 : f0.offset = 0) (o1 : f1.offset = 1) (o2 : f2.offset = 2) (c0 : P.cellsOf f0.type = 1) (c1 : P.cellsOf f1.type = 1) (c2 : P.cellsOf f2.type = 1)
    (u0 : P.underlying f0.type = some (.int .i64)) (u1 : P.underlying f1.type = some (.int .i64)) (u2 : P.underlying f2.type = some .bool)
    (hf : DataW.trod enc P w 0 (fun _ => true) held fuel t cs = some x) :
    ∃ (sa : Option Addr) (n c : Nat), cs = [.slice sa n c] ∧ n ≤ maxLen ∧ n ≤ c ∧ (sa = none → c = 0) ∧ (n = 0 ∨ ∃ (b o : Nat) (X Y : Nat → Int) (F : Nat → Bool), sa = some ⟨b, o, none⟩ ∧ RowO w b o n X Y F) := by
  rcases open_slice ht hf with ⟨hc, _⟩ | ⟨a, n, cap, m, k, D, Pl, hc, _, hl, hm, hmm, hx, hall⟩
  · exact ⟨none, 0, 0, hc, by decide, Nat.le_refl _, fun _ => rfl, Or.inl rfl⟩
  · simp only [if_true] at hmm
    subst hmm
    refine ⟨some a, n, m, hc, by omega, hl, (fun e => by cases e), ?_⟩
    rcases Nat.eq_zero_or_pos n with h0 | hn
    · exact Or.inl h0
    right
    have each : ∀ i, i < n → ∃ q : Int × Int × Bool, w.cell? (a.add (i * 3)) = some (.int .i64 q.1) ∧ w.cell? (a.add (i * 3 + 1)) = some (.int .i64 q.2.1) ∧ w.cell? (a.add (i * 3 + 2)) = some (.bool q.2.2) := by
      intro i hi
      obtain ⟨cs, h1, h2⟩ := hall i (by omega)
      rw [ce] at h1
      obtain ⟨v0, v1, v2, rfl, g0, g1, g2⟩ := cells_three h1
      rw [add_add] at g1 g2
      obtain ⟨xs, k', hk, _, _, hxl, hfd⟩ := DataW.trod_struct he h2
      match xs, hxl with
      | [y0, y1, y2], _ =>
        have q0 := hfd 0 f0 rfl
        have q1 := hfd 1 f1 rfl
        have q2 := hfd 2 f2 rfl
        simp [o0, o1, o2, c0, c1, c2] at q0 q1 q2
        obtain ⟨x, e0, _, _⟩ := DataW.trod_int u0 q0
        obtain ⟨y, e1, _, _⟩ := DataW.trod_int u1 q1
        obtain ⟨z, e2, _⟩ := DataW.trod_bool u2 q2
        simp at e0 e1 e2
        subst e0 e1 e2
        exact ⟨(x, y, z), g0, g1, g2⟩
    obtain ⟨q, hq⟩ := choose_lt (α := Int × Int × Bool) each
    obtain ⟨b, o, spot⟩ := a
    have hspot : spot = none := by simpa [Addr.add] using World.cell?_spot (hq 0 hn).1
    subst hspot
    refine ⟨b, o, fun i => (q i).1, fun i => (q i).2.1, fun i => (q i).2.2, rfl, ?_, fun i hi => ?_⟩
    · have h1 := (hq 0 hn).1
      rw [Addr.add_lit] at h1; exact World.block_lt_of_cell? _ _ h1
    · obtain ⟨h1, h2, h3⟩ := hq i hi
      simp only [Addr.add_lit] at h1 h2 h3
      exact ⟨h1, by rw [Nat.add_assoc]; exact h2, by rw [Nat.add_assoc]; exact h3⟩
/-- Cells of a deal. -/
theorem cells_deal {t g sp : TypeId} {d0 d1 d2 f0 f1 f2 s0 s1 : Field} {fuel : Nat} {cs : List Value} {x : DataW H × List MemPlace} (hlen : cs.length = 6)
    (hs : P.underlying t = some (.struct #[d0, d1, d2])) (q0 : d0.offset = 0) (q1 : d1.offset = 1) (q2 : d2.offset = 2) (r0 : P.cellsOf d0.type = 1) (r1 : P.cellsOf d1.type = 1) (r2 : P.cellsOf d2.type = 4)
    (hz : P.underlying d0.type = some (.slice g)) (hg : P.underlying g = some (.int .i64)) (cg : P.cellsOf g = 1)
    (hl : P.underlying d1.type = some (.slice sp)) (he : P.underlying sp = some (.struct #[f0, f1, f2])) (ce : P.cellsOf sp = 3)
    (o0 : f0.offset = 0) (o1 : f1.offset = 1) (o2 : f2.offset = 2) (c0 : P.cellsOf f0.type = 1) (c1 : P.cellsOf f1.type = 1) (c2 : P.cellsOf f2.type = 1)
    (u0 : P.underlying f0.type = some (.int .i64)) (u1 : P.underlying f1.type = some (.int .i64)) (u2 : P.underlying f2.type = some .bool)
    (hS : P.underlying d2.type = some (.struct #[s0, s1])) (t0 : s0.offset = 0) (t1 : s1.offset = 3) (k0 : P.cellsOf s0.type = 3) (k1 : P.cellsOf s1.type = 1) (hR : P.underlying s0.type = some (.struct #[f0, f1, f2])) (u3 : P.underlying s1.type = some (.int .i64))
    (hf : DataW.trod enc P w 0 (fun _ => true) held fuel t cs = some x) : ∃ D : DealV, cs = D.cells ∧ DealOk w D := by
  match cs, hlen with
  | [v0, v1, v2, v3, v4, v5], _ =>
    obtain ⟨y0, y1, y2, n, _, _, h0, h1, h2⟩ := trod_struct3 hs hf
    simp [q0, q1, q2, r0, r1, r2] at h0 h1 h2
    obtain ⟨sz, m, dz, e0, a1, a2, a3⟩ := cells_nums hz hg cg h0
    obtain ⟨sl, c, d, e1, b1, b2, b3, b4⟩ := cells_spots hl he ce o0 o1 o2 c0 c1 c2 u0 u1 u2 h1
    obtain ⟨z0, z1, n2, _, _, h3, h4⟩ := trod_struct2 hS h2
    simp [t0, t1, k0, k1] at h3 h4
    obtain ⟨p0, p1, p2, n3, _, _, g0, g1, g2⟩ := trod_struct3 hR h3
    simp [o0, o1, o2, c0, c1, c2] at g0 g1 g2
    obtain ⟨rx, i0, _, wx⟩ := DataW.trod_int u0 g0
    obtain ⟨ry, i1, _, wy⟩ := DataW.trod_int u1 g1
    obtain ⟨rf, i2, _⟩ := DataW.trod_bool u2 g2
    obtain ⟨s, i3, _, ws⟩ := DataW.trod_int u3 h4
    simp at e0 e1 i0 i1 i2 i3
    subst e0 e1 i0 i1 i2 i3
    exact ⟨⟨sz, m, dz, sl, c, d, rx, ry, rf, s⟩, rfl, ⟨a1, a2, a3, b1, b2, b3, b4, wx, wy, ws⟩⟩
/-- A slice of deals. -/
theorem open_deals {r : Reach} {b0 : Nat} {t e g sp : TypeId} {d0 d1 d2 f0 f1 f2 s0 s1 : Field} {v : Value} {d : DataW H} {p : List MemPlace} (ht : P.underlying t = some (.slice e)) (cE : P.cellsOf e = 6)
    (hs : P.underlying e = some (.struct #[d0, d1, d2])) (q0 : d0.offset = 0) (q1 : d1.offset = 1) (q2 : d2.offset = 2) (r0 : P.cellsOf d0.type = 1) (r1 : P.cellsOf d1.type = 1) (r2 : P.cellsOf d2.type = 4)
    (hz : P.underlying d0.type = some (.slice g)) (hg : P.underlying g = some (.int .i64)) (cg : P.cellsOf g = 1)
    (hl : P.underlying d1.type = some (.slice sp)) (he : P.underlying sp = some (.struct #[f0, f1, f2])) (ce : P.cellsOf sp = 3)
    (o0 : f0.offset = 0) (o1 : f1.offset = 1) (o2 : f2.offset = 2) (c0 : P.cellsOf f0.type = 1) (c1 : P.cellsOf f1.type = 1) (c2 : P.cellsOf f2.type = 1)
    (u0 : P.underlying f0.type = some (.int .i64)) (u1 : P.underlying f1.type = some (.int .i64)) (u2 : P.underlying f2.type = some .bool)
    (hS : P.underlying d2.type = some (.struct #[s0, s1])) (t0 : s0.offset = 0) (t1 : s1.offset = 3) (k0 : P.cellsOf s0.type = 3) (k1 : P.cellsOf s1.type = 1) (hR : P.underlying s0.type = some (.struct #[f0, f1, f2])) (u3 : P.underlying s1.type = some (.int .i64))
    (hv : Value.okWide P w r b0 t v) (h : DataW.Trod enc P w 0 (fun _ => true) held t v d p) :
    ∃ (sa : Option Addr) (n c : Nat), v = .slice sa n c ∧ n ≤ maxLen ∧ (n = 0 ∨ ∃ (b o : Nat) (D : Nat → DealV), sa = some ⟨b, o, none⟩ ∧ RowD w b o n D) := by
  obtain ⟨sa, n, c, rfl⟩ := okWide_slice ht hv
  obtain ⟨fuel, hf⟩ := h
  rcases open_slice ht hf with ⟨hc, _⟩ | ⟨a, len, cap, m, k, D, Pl, hc, _, hl2, hm, hmm, hx, hall⟩
  · simp [Value.cells] at hc
    obtain ⟨rfl, rfl, rfl⟩ := hc
    exact ⟨none, 0, 0, rfl, by decide, Or.inl rfl⟩
  · simp [Value.cells] at hc
    obtain ⟨rfl, rfl, rfl⟩ := hc
    simp only [if_true] at hmm
    subst hmm
    refine ⟨some a, n, m, rfl, by omega, ?_⟩
    rcases Nat.eq_zero_or_pos n with h0 | hn
    · exact Or.inl h0
    right
    have each : ∀ i, i < n → ∃ q : DealV, (∀ j, j < 6 → w.cell? (a.add (i * 6 + j)) = q.cells[j]?) ∧ DealOk w q := by
      intro i hi
      obtain ⟨cs, h1, h2⟩ := hall i (by omega)
      rw [cE] at h1
      obtain ⟨_, hlen, hcell⟩ := World.cells?_some h1
      obtain ⟨q, rfl, hq⟩ := cells_deal hlen hs q0 q1 q2 r0 r1 r2 hz hg cg hl he ce o0 o1 o2 c0 c1 c2 u0 u1 u2 hS t0 t1 k0 k1 hR u3 h2
      refine ⟨q, fun j hj => ?_, hq⟩
      have := hcell j (by omega)
      rw [add_add] at this
      exact this
    haveI : Inhabited DealV := ⟨⟨none, 0, 0, none, 0, 0, 0, 0, false, 0⟩⟩
    obtain ⟨q, hq⟩ := choose_lt (α := DealV) each
    obtain ⟨b, o, spot⟩ := a
    have hspot : spot = none := by simpa [Addr.add] using World.cell?_spot ((hq 0 hn).1 0 (by omega))
    subst hspot
    refine ⟨b, o, q, rfl, ?_, fun i hi => ⟨fun j hj => ?_, (hq i hi).2⟩⟩
    · have h1 := (hq 0 hn).1 0 (by omega)
      rw [Addr.add_lit] at h1
      exact World.block_lt_of_cell? _ _ h1
    · have h1 := (hq i hi).1 j hj
      rw [Addr.add_lit] at h1
      rw [Nat.add_assoc]; exact h1
end
end Go.Proofs.YtlbdcgnhmkjfiajGreatDoor
/- PlaysIs -/
namespace Go.Proofs.YtlbdcgnhmkjfiajGreatDoor
open Go.RowKit Go.Sort
set_option linter.unusedVariables false
set_option linter.unusedSimpArgs false
/-- What both books are, side by side, in a memory; w: where the law began. -/
structure Side (PB : World → Value → (Nat → Prop) → Nat → (Nat → Nat) → (Nat → Bool) → Prop) (w W : World) (vb : Value) (Q : Nat → Prop) (p B : Nat) (u v : Value) (n : Nat) (K : Nat → Nat) (G : Nat → Bool) : Prop where
  one : PB W vb Q n K G
  two : BookAt 25 4 B W p u v n K G
  le : n ≤ 1000
  q : ∀ i, Q i → w.heap.size ≤ i
  b : w.heap.size ≤ B
  ap : ∀ i, Q i → ¬ ft p u v i
def Sides (PB : World → Value → (Nat → Prop) → Nat → (Nat → Nat) → (Nat → Bool) → Prop) (w W : World) (vb : Value) (p : Nat) : Prop := ∃ Q B u v n K G, Side PB w W vb Q p B u v n K G
theorem exc_is (PB : World → Value → (Nat → Prop) → Nat → (Nat → Nat) → (Nat → Bool) → Prop) (he : BExcIs PB) (w : World) (vb : Value) (Q : Nat → Prop) (p B : Nat) (u v : Value) (n : Nat) (K : Nat → Nat) (G : Nat → Bool) (D : DealV) (hD : DealOk w D) (hn : n ≤ 1000) :
    ∃ (X : Int × Int × Bool) (xe : Int) (xv : Value), IsErr xv ∧ (toldI xv == xe) = true ∧
      (∀ W, Below w.heap.size w W → BookAt 25 4 B W p u v n K G → Calls Tryz.prog 16 #[.pointer (some ⟨p, 0, none⟩), .slice D.sz D.m D.dz, .slice D.sl D.c D.d] W fun e w' => e = .returned (.tuple #[.agg #[.int .i64 X.1, .int .i64 X.2.1, .bool X.2.2], .int .i64 xe]) ∧ Below W.heap.size W w') ∧
      (∀ W, Below w.heap.size w W → PB W vb Q n K G → Calls Tryz.prog 17 #[vb, .slice D.sz D.m D.dz, .slice D.sl D.c D.d] W fun e w' => e = .returned (.tuple #[.agg #[.int .i64 X.1, .int .i64 X.2.1, .bool X.2.2], xv]) ∧ Below W.heap.size W w') := by
  obtain ⟨Z, hz⟩ : ∃ Z : Nat → Int, D.m = 0 ∨ ∃ b o : Nat, D.sz = some ⟨b, o, none⟩ ∧ RowI w b o D.m Z := by
    rcases hD.um with h | ⟨b, o, Z, e, r, _⟩
    · exact ⟨fun _ => 0, Or.inl h⟩
    · exact ⟨Z, Or.inr ⟨b, o, e, r⟩⟩
  obtain ⟨X, Y, F, hr⟩ : ∃ (X Y : Nat → Int) (F : Nat → Bool), D.c = 0 ∨ ∃ b o : Nat, D.sl = some ⟨b, o, none⟩ ∧ RowO w b o D.c X Y F := by
    rcases hD.uc with h | ⟨b, o, X, Y, F, e, r⟩
    · exact ⟨fun _ => 0, fun _ => 0, fun _ => false, Or.inl h⟩
    · exact ⟨X, Y, F, Or.inr ⟨b, o, e, r⟩⟩
  have hm : D.m ≤ 9223372036854775807 := by have := hD.lm; unfold maxLen at this; omega
  obtain ⟨q, hq⟩ := come_is X Y F D.c
  cases hx : exE n G Z D.m q == 0 with
  | false =>
    exact ⟨(0, 0, false), _, _, isErr_err _, by rw [toldI_err]; exact beq_self_eq_true _,
      fun W hW hb => rexc_no B p n D.m D.c D.d D.dz D.sz D.sl u v K G Z X Y F q W (by omega) hm hb (zrow_up hz hW) (xrow_up hr hW) hq hx,
      fun W hW hp => he.1 vb Q n D.m D.c D.d D.dz D.sz D.sl K G Z X Y F q W hn hm hD.km hD.kc hD.nc hp (zrow_up hz hW) (xrow_up hr hW) hq hx⟩
  | true =>
    obtain ⟨hok, rfl⟩ := exE_zero (show exE n G Z D.m q = 0 by simpa using hx)
    obtain ⟨hc, J, hJ⟩ := hq.ok
    exact ⟨(_, _, _), _, _, isErr_nil, by rw [toldI_nil]; exact beq_self_eq_true _,
      fun W hW hb => rexc_yes B p n D.m D.c D.d D.dz D.sz D.sl u v K G Z X Y F J W (by omega) hm hb (zrow_up hz hW) (xrow_up hr hW) hok hc hJ,
      fun W hW hp => he.2 vb Q n D.m D.c D.d D.dz D.sz D.sl K G Z X Y F J W hn hm hD.km hD.kc hD.nc hp (zrow_up hz hW) (xrow_up hr hW) hok hc hJ⟩
theorem apart_z {w : World} {sz : Option Addr} {m : Nat} {Z : Nat → Int} (hz : m = 0 ∨ ∃ b o : Nat, sz = some ⟨b, o, none⟩ ∧ RowI w b o m Z) {P : Nat → Prop} (hP : ∀ i, P i → w.heap.size ≤ i) : m ≠ 0 → ∀ b o, sz = some ⟨b, o, none⟩ → ¬ P b := fun h0 b o e hb => by
  obtain ⟨b2, o2, e2, r⟩ := hz.resolve_left h0
  rw [e2] at e
  injection e with e
  injection e with e
  have h1 := hP b hb
  have h2 := r.1
  omega
theorem apart_x {w : World} {sl : Option Addr} {c : Nat} {X Y : Nat → Int} {F : Nat → Bool} (hr : c = 0 ∨ ∃ b o : Nat, sl = some ⟨b, o, none⟩ ∧ RowO w b o c X Y F) {P : Nat → Prop} (hP : ∀ i, P i → w.heap.size ≤ i) : c ≠ 0 → ∀ b o, sl = some ⟨b, o, none⟩ → ¬ P b := fun h0 b o e hb => by
  obtain ⟨b2, o2, e2, r⟩ := hr.resolve_left h0
  rw [e2] at e
  injection e with e
  injection e with e
  have h1 := hP b hb
  have h2 := r.1
  omega
theorem done_same {eC eG : TypeId} {B p n : Nat} {w w' : World} {u v : Value} {K : Nat → Nat} {G : Nat → Bool} (h : BookAt eC eG B w p u v n K G) (hb : Below w.heap.size w w') : BookDone eC eG B w w' p u v n K G :=
  ⟨But.of_below _ hb, u, v, h.below hb, fun i hi => Or.inl hi⟩
theorem pbdone_same (PB : World → Value → (Nat → Prop) → Nat → (Nat → Nat) → (Nat → Bool) → Prop) (ho : PBok PB) {w w' : World} {vb : Value} {Q : Nat → Prop} {n : Nat} {K : Nat → Nat} {G : Nat → Bool} (h : PB w vb Q n K G) (hb : Below w.heap.size w w') : PBdone PB w w' vb Q n K G :=
  ⟨But.of_below _ hb, Q, ho.stay h (But.of_below (fun _ => False) hb) fun _ _ e => e, fun i hi => Or.inl hi⟩
theorem second_4 (w : World) : Calls Tryz.prog 11 #[] w fun e w' => e = .returned (.agg #[.int .i64 ((tM (4 * h2N)).1 : Int), .int .i64 ((tM (4 * h2N)).2.1 : Int), .bool (tM (4 * h2N)).2.2]) ∧ Below w.heap.size w w' := rsecond_w w
theorem deal_is (PB : World → Value → (Nat → Prop) → Nat → (Nat → Nat) → (Nat → Bool) → Prop) (ho : PBok PB) (hdo : BDoIs PB) (w : World) (vb : Value) (Q : Nat → Prop) (p B : Nat) (u v : Value) (n : Nat) (K : Nat → Nat) (G : Nat → Bool) (D : DealV) (hD : DealOk w D) (hn : n ≤ 1000) (hQ : ∀ i, Q i → w.heap.size ≤ i) (hB : w.heap.size ≤ B) :
    ∃ (de : Int) (dv : Value) (n' : Nat) (K' : Nat → Nat) (G' : Nat → Bool), IsErr dv ∧ (toldI dv == de) = true ∧ n' ≤ 1000 ∧
      (∀ W, Below w.heap.size w W → BookAt 25 4 B W p u v n K G → Calls Tryz.prog 18 #[.pointer (some ⟨p, 0, none⟩), .agg #[.slice D.sz D.m D.dz, .slice D.sl D.c D.d, .int .i64 D.rx, .int .i64 D.ry, .bool D.rf, .int .i64 D.s]] W fun e w' => e = .returned (.int .i64 de) ∧ BookDone 25 4 B W w' p u v n' K' G') ∧
      (∀ W, Below w.heap.size w W → PB W vb Q n K G → Calls Tryz.prog 19 #[vb, .agg #[.slice D.sz D.m D.dz, .slice D.sl D.c D.d, .int .i64 D.rx, .int .i64 D.ry, .bool D.rf, .int .i64 D.s]] W fun e w' => e = .returned dv ∧ PBdone PB W w' vb Q n' K' G') := by
  obtain ⟨Z, hz⟩ : ∃ Z : Nat → Int, D.m = 0 ∨ ∃ b o : Nat, D.sz = some ⟨b, o, none⟩ ∧ RowI w b o D.m Z := by
    rcases hD.um with h | ⟨b, o, Z, e, r, _⟩
    · exact ⟨fun _ => 0, Or.inl h⟩
    · exact ⟨Z, Or.inr ⟨b, o, e, r⟩⟩
  obtain ⟨X, Y, F, hr⟩ : ∃ (X Y : Nat → Int) (F : Nat → Bool), D.c = 0 ∨ ∃ b o : Nat, D.sl = some ⟨b, o, none⟩ ∧ RowO w b o D.c X Y F := by
    rcases hD.uc with h | ⟨b, o, X, Y, F, e, r⟩
    · exact ⟨fun _ => 0, fun _ => 0, fun _ => false, Or.inl h⟩
    · exact ⟨X, Y, F, Or.inr ⟨b, o, e, r⟩⟩
  have hm : D.m ≤ 9223372036854775807 := by have := hD.lm; unfold maxLen at this; omega
  obtain ⟨q, hq⟩ := come_is X Y F D.c
  cases hx : exE n G Z D.m q == 0 with
  | false =>
    exact ⟨_, _, n, K, G, isErr_err _, by rw [toldI_err]; exact beq_self_eq_true _, hn,
      fun W hW hb => (rdo_no1 B p n D.m D.c D.d D.dz D.sz D.sl u v K G Z X Y F D.rx D.ry D.s q D.rf W (by omega) hm hb (zrow_up hz hW) (xrow_up hr hW) hq hx).mono fun _ _ h => ⟨h.1, done_same hb h.2⟩,
      fun W hW hp => (hdo.1 vb Q n D.m D.c D.d D.dz D.sz D.sl K G Z X Y F D.rx D.ry D.s q D.rf W hn hm hD.km hD.kc hD.nc hp (zrow_up hz hW) (xrow_up hr hW) hq hx).mono fun _ _ h => ⟨h.1, pbdone_same PB ho hp h.2⟩⟩
  | true =>
    obtain ⟨hok, rfl⟩ := exE_zero (show exE n G Z D.m q = 0 by simpa using hx)
    obtain ⟨hc, J, hJ⟩ := hq.ok
    by_cases hf : 1000 < n + D.c
    · exact ⟨_, _, n, K, G, isErr_err 4, by rw [toldI_err]; exact beq_self_eq_true _, hn,
        fun W hW hb => (rdo_no2 B p n D.m D.c D.d D.dz D.sz D.sl u v K G Z X Y F J D.rx D.ry D.s D.rf W hn hm hb (zrow_up hz hW) (xrow_up hr hW) hok hc hJ hf).mono fun _ _ h => ⟨h.1, done_same hb h.2⟩,
        fun W hW hp => (hdo.2.1 vb Q n D.m D.c D.d D.dz D.sz D.sl K G Z X Y F J D.rx D.ry D.s D.rf W hn hm hD.km hD.kc hD.nc hp (zrow_up hz hW) (xrow_up hr hW) hok hc hJ hf).mono fun _ _ h => ⟨h.1, pbdone_same PB ho hp h.2⟩⟩
    have hf' : n + D.c ≤ 1000 := by omega
    cases hS : resB D.s with
    | false =>
      exact ⟨_, _, n, K, G, isErr_err 1, by rw [toldI_err]; exact beq_self_eq_true _, hn,
        fun W hW hb => (rdo_no3 B p n D.m D.c D.d D.dz D.sz D.sl u v K G Z X Y F J D.rx D.ry D.s D.rf W hn hm hb (zrow_up hz hW) (xrow_up hr hW) hok hc hJ hf' hS).mono fun _ _ h => ⟨h.1, done_same hb h.2⟩,
        fun W hW hp => (hdo.2.2.1 vb Q n D.m D.c D.d D.dz D.sz D.sl K G Z X Y F J D.rx D.ry D.s D.rf W hn hm hD.km hD.kc hD.nc hp (zrow_up hz hW) (xrow_up hr hW) hok hc hJ hf' hD.ws hS).mono fun _ _ h => ⟨h.1, pbdone_same PB ho hp h.2⟩⟩
    | true =>
    cases hR : ckI D.rx D.ry D.rf == 0 with
    | false =>
      exact ⟨_, _, n, K, G, isErr_err _, by rw [toldI_err]; exact beq_self_eq_true _, hn,
        fun W hW hb => (rdo_no4 B p n D.m D.c D.d D.dz D.sz D.sl u v K G Z X Y F J D.rx D.ry D.s D.rf W hn hm hb (zrow_up hz hW) (xrow_up hr hW) hok hc hJ hf' hS hR).mono fun _ _ h => ⟨h.1, done_same hb h.2⟩,
        fun W hW hp => (hdo.2.2.2.1 vb Q n D.m D.c D.d D.dz D.sz D.sl K G Z X Y F J D.rx D.ry D.s D.rf W hn hm hD.km hD.kc hD.nc hp (zrow_up hz hW) (xrow_up hr hW) hok hc hJ hf' hS hR).mono fun _ _ h => ⟨h.1, pbdone_same PB ho hp h.2⟩⟩
    | true =>
    obtain ⟨a, _, r1, r2, r3⟩ := ckI_tN (show ckI D.rx D.ry D.rf = 0 by simpa using hR)
    obtain ⟨s1, s2⟩ := of_decide_eq_true (show decide (0 ≤ D.s ∧ D.s < 1013) = true from hS)
    obtain ⟨s, hs⟩ : ∃ s : Nat, D.s = (s : Int) := ⟨D.s.toNat, by omega⟩
    have hs3 : s < 1013 := by omega
    rw [r1, r2, r3, hs]
    cases hw : closeB a (exN K Z D.m J D.c) s with
    | false =>
      exact ⟨_, _, n, K, G, isErr_err 8, by rw [toldI_err]; exact beq_self_eq_true _, hn,
        fun W hW hb => (rdo_no5 B p n D.m D.c D.d D.dz D.sz D.sl u v K G Z X Y F J a s h2N W hn hm hb (zrow_up hz hW) (xrow_up hr hW) hok hc hJ hf' hs3 second_4 ((close_is _ _ _).symm.trans hw)).mono fun _ _ h => ⟨h.1, done_same hb h.2⟩,
        fun W hW hp => (hdo.2.2.2.2.1 vb Q n D.m D.c D.d D.dz D.sz D.sl K G Z X Y F J a s W hn hm hD.km hD.kc hD.nc hp (zrow_up hz hW) (xrow_up hr hW) hok hc hJ hf' hs3 hw).mono fun _ _ h => ⟨h.1, pbdone_same PB ho hp h.2⟩⟩
    | true =>
      exact ⟨_, _, n + D.c, _, _, isErr_nil, by rw [toldI_nil]; exact beq_self_eq_true _, hf',
        fun W hW hb => rdo_yes B p n D.m D.c D.d D.dz D.sz D.sl u v K G Z X Y F J a s h2N W hn hm hb (zrow_up hz hW) (xrow_up hr hW) (apart_z hz fun i hi => Nat.le_trans hB (hb.ge hi)) (apart_x hr fun i hi => Nat.le_trans hB (hb.ge hi)) hok hc hJ hf' hs3 second_4 ((close_is _ _ _).symm.trans hw),
        fun W hW hp => hdo.2.2.2.2.2 vb Q n D.m D.c D.d D.dz D.sz D.sl K G Z X Y F J a s W hn hm hD.km hD.kc hD.nc hp (zrow_up hz hW) (xrow_up hr hW) (apart_z hz hQ) (apart_x hr hQ) hok hc hJ hf' hs3 hw⟩
end Go.Proofs.YtlbdcgnhmkjfiajGreatDoor
/- SameRows -/
namespace Go.Proofs.YtlbdcgnhmkjfiajGreatDoor
open Go.RowKit Go.Sort
set_option linter.unusedVariables false
set_option linter.unusedSimpArgs false
set_option maxRecDepth 100000 in
set_option maxHeartbeats 2000000 in
theorem sints_nil (sa sb : Option Addr) (c d : Nat) (w : World) : Calls Tryz.prog 20 #[.slice sa 0 c, .slice sb 0 d] w fun e w' => e = .returned (.bool true) ∧ Below w.heap.size w w' := by
  go_enter Tryz.func20, Tryz.ntmps20
  go_wp2_with fail
  go_loopw [5] (fun ti wl => ti = .int .i64 0 ∧ Below w.heap.size w wl) (fun _ _ => 0)
  case atStart => exact ⟨rfl, by repeat (first | (with_reducible exact Below.refl _ _) | (with_reducible assumption) | (with_reducible refine Below.setCell ?_ (by first | (simp; done) | (simp; omega) | omega) _) | (with_reducible refine Below.alloc ?_ (by first | (simp; done) | (simp; omega) | omega) _) | (refine bl_call ?_ (by assumption) (by first | (simp; done) | (simp; omega) | omega)) | (with_reducible refine bl_drewN ?_) | (with_reducible refine Below.drew ?_) | (with_reducible refine bl_grow ?_ (by first | (simp; done) | (simp; omega) | omega)))⟩
  case round =>
    obtain ⟨rfl, hqV⟩ := hrel
    go_wp2_with fail
    go_ret
    exact ⟨rfl, by repeat (first | (with_reducible exact Below.refl _ _) | (with_reducible assumption) | (with_reducible refine Below.setCell ?_ (by first | (simp; done) | (simp; omega) | omega) _) | (with_reducible refine Below.alloc ?_ (by first | (simp; done) | (simp; omega) | omega) _) | (refine bl_call ?_ (by assumption) (by first | (simp; done) | (simp; omega) | omega)) | (with_reducible refine bl_drewN ?_) | (with_reducible refine Below.drew ?_) | (with_reducible refine bl_grow ?_ (by first | (simp; done) | (simp; omega) | omega)))⟩
set_option maxRecDepth 100000 in
set_option maxHeartbeats 2000000 in
theorem sints_row (b o b' o' n c c' : Nat) (X : Nat → Int) (w : World) (hn : n ≤ 1000000) (hr : RowI w b o n X) (hr' : RowI w b' o' n X) :
    Calls Tryz.prog 20 #[.slice (some ⟨b, o, none⟩) n c, .slice (some ⟨b', o', none⟩) n c'] w fun e w' => e = .returned (.bool true) ∧ Below w.heap.size w w' := by
  have HR : Hid (RowI w b o n X) := hr
  have HR' : Hid (RowI w b' o' n X) := hr'
  have hb := hr.1
  have hb' := hr'.1
  clear hr hr'
  go_enter Tryz.func20, Tryz.ntmps20
  go_wp2_with fail
  go_loopw [5] (fun ti wl => ∃ k : Nat, k ≤ n ∧ ti = .int .i64 k ∧ Below w.heap.size w wl) (fun ti _ => n - (intOf ti).toNat)
  case atStart => exact ⟨0, by omega, rfl, by repeat (first | (with_reducible exact Below.refl _ _) | (with_reducible assumption) | (with_reducible refine Below.setCell ?_ (by first | (simp; done) | (simp; omega) | omega) _) | (with_reducible refine Below.alloc ?_ (by first | (simp; done) | (simp; omega) | omega) _) | (refine bl_call ?_ (by assumption) (by first | (simp; done) | (simp; omega) | omega)) | (with_reducible refine bl_drewN ?_) | (with_reducible refine Below.drew ?_) | (with_reducible refine bl_grow ?_ (by first | (simp; done) | (simp; omega) | omega)))⟩
  case round =>
    obtain ⟨k, hk, rfl, hqV⟩ := hrel
    have hzV := hqV.size
    by_cases hlt : k < n
    · have hlt' : (k : Int) < n := by omega
      have hbV := Nat.lt_of_lt_of_le hb hzV
      have hbV' := Nat.lt_of_lt_of_le hb' hzV
      have c0 := (HR.out.below hb hqV).2 k hlt
      have d0 := (HR'.out.below hb' hqV).2 k hlt
      go_wp2_with fail
      go_quiet (fail)
      go_wp2_with fail
      go_roundw
      case rel => exact ⟨k + 1, by omega, by simp, by repeat (first | (with_reducible exact Below.refl _ _) | (with_reducible assumption) | (with_reducible refine Below.setCell ?_ (by first | (simp; done) | (simp; omega) | omega) _) | (with_reducible refine Below.alloc ?_ (by first | (simp; done) | (simp; omega) | omega) _) | (refine bl_call ?_ (by assumption) (by first | (simp; done) | (simp; omega) | omega)) | (with_reducible refine bl_drewN ?_) | (with_reducible refine Below.drew ?_) | (with_reducible refine bl_grow ?_ (by first | (simp; done) | (simp; omega) | omega)))⟩
      case measure => simp [intOf]; omega
    · have hlt' : ¬ (k : Int) < n := by omega
      go_wp2_with fail
      go_ret
      exact ⟨rfl, by repeat (first | (with_reducible exact Below.refl _ _) | (with_reducible assumption) | (with_reducible refine Below.setCell ?_ (by first | (simp; done) | (simp; omega) | omega) _) | (with_reducible refine Below.alloc ?_ (by first | (simp; done) | (simp; omega) | omega) _) | (refine bl_call ?_ (by assumption) (by first | (simp; done) | (simp; omega) | omega)) | (with_reducible refine bl_drewN ?_) | (with_reducible refine Below.drew ?_) | (with_reducible refine bl_grow ?_ (by first | (simp; done) | (simp; omega) | omega)))⟩
set_option maxRecDepth 100000 in
set_option maxHeartbeats 2000000 in
theorem sspots_nil (sa sb : Option Addr) (c d : Nat) (w : World) : Calls Tryz.prog 23 #[.slice sa 0 c, .slice sb 0 d] w fun e w' => e = .returned (.bool true) ∧ Below w.heap.size w w' := by
  go_enter Tryz.func23, Tryz.ntmps23
  go_wp2_with fail
  go_loopw [5] (fun ti wl => ti = .int .i64 0 ∧ Below w.heap.size w wl) (fun _ _ => 0)
  case atStart => exact ⟨rfl, by repeat (first | (with_reducible exact Below.refl _ _) | (with_reducible assumption) | (with_reducible refine Below.setCell ?_ (by first | (simp; done) | (simp; omega) | omega) _) | (with_reducible refine Below.alloc ?_ (by first | (simp; done) | (simp; omega) | omega) _) | (refine bl_call ?_ (by assumption) (by first | (simp; done) | (simp; omega) | omega)) | (with_reducible refine bl_drewN ?_) | (with_reducible refine Below.drew ?_) | (with_reducible refine bl_grow ?_ (by first | (simp; done) | (simp; omega) | omega)))⟩
  case round =>
    obtain ⟨rfl, hqV⟩ := hrel
    go_wp2_with fail
    go_ret
    exact ⟨rfl, by repeat (first | (with_reducible exact Below.refl _ _) | (with_reducible assumption) | (with_reducible refine Below.setCell ?_ (by first | (simp; done) | (simp; omega) | omega) _) | (with_reducible refine Below.alloc ?_ (by first | (simp; done) | (simp; omega) | omega) _) | (refine bl_call ?_ (by assumption) (by first | (simp; done) | (simp; omega) | omega)) | (with_reducible refine bl_drewN ?_) | (with_reducible refine Below.drew ?_) | (with_reducible refine bl_grow ?_ (by first | (simp; done) | (simp; omega) | omega)))⟩
set_option maxRecDepth 100000 in
set_option maxHeartbeats 2000000 in
theorem sspots_row (b o b' o' n c c' : Nat) (X Y : Nat → Int) (F : Nat → Bool) (w : World) (hn : n ≤ 1000000) (hr : RowO w b o n X Y F) (hr' : RowO w b' o' n X Y F) :
    Calls Tryz.prog 23 #[.slice (some ⟨b, o, none⟩) n c, .slice (some ⟨b', o', none⟩) n c'] w fun e w' => e = .returned (.bool true) ∧ Below w.heap.size w w' := by
  have HR : Hid (RowO w b o n X Y F) := hr
  have HR' : Hid (RowO w b' o' n X Y F) := hr'
  have hb := hr.1
  have hb' := hr'.1
  clear hr hr'
  go_enter Tryz.func23, Tryz.ntmps23
  go_wp2_with fail
  go_loopw [5] (fun ti wl => ∃ k : Nat, k ≤ n ∧ ti = .int .i64 k ∧ Below w.heap.size w wl) (fun ti _ => n - (intOf ti).toNat)
  case atStart => exact ⟨0, by omega, rfl, by repeat (first | (with_reducible exact Below.refl _ _) | (with_reducible assumption) | (with_reducible refine Below.setCell ?_ (by first | (simp; done) | (simp; omega) | omega) _) | (with_reducible refine Below.alloc ?_ (by first | (simp; done) | (simp; omega) | omega) _) | (refine bl_call ?_ (by assumption) (by first | (simp; done) | (simp; omega) | omega)) | (with_reducible refine bl_drewN ?_) | (with_reducible refine Below.drew ?_) | (with_reducible refine bl_grow ?_ (by first | (simp; done) | (simp; omega) | omega)))⟩
  case round =>
    obtain ⟨k, hk, rfl, hqV⟩ := hrel
    have hzV := hqV.size
    by_cases hlt : k < n
    · have hlt' : (k : Int) < n := by omega
      have hbV := Nat.lt_of_lt_of_le hb hzV
      have hbV' := Nat.lt_of_lt_of_le hb' hzV
      obtain ⟨c0, c1, c2⟩ := (HR.out.below hb hqV).2 k hlt
      obtain ⟨d0, d1, d2⟩ := (HR'.out.below hb' hqV).2 k hlt
      go_wp2_with fail
      go_quiet (fail)
      go_wp2_with fail
      go_roundw
      case rel => exact ⟨k + 1, by omega, by simp, by repeat (first | (with_reducible exact Below.refl _ _) | (with_reducible assumption) | (with_reducible refine Below.setCell ?_ (by first | (simp; done) | (simp; omega) | omega) _) | (with_reducible refine Below.alloc ?_ (by first | (simp; done) | (simp; omega) | omega) _) | (refine bl_call ?_ (by assumption) (by first | (simp; done) | (simp; omega) | omega)) | (with_reducible refine bl_drewN ?_) | (with_reducible refine Below.drew ?_) | (with_reducible refine bl_grow ?_ (by first | (simp; done) | (simp; omega) | omega)))⟩
      case measure => simp [intOf]; omega
    · have hlt' : ¬ (k : Int) < n := by omega
      go_wp2_with fail
      go_ret
      exact ⟨rfl, by repeat (first | (with_reducible exact Below.refl _ _) | (with_reducible assumption) | (with_reducible refine Below.setCell ?_ (by first | (simp; done) | (simp; omega) | omega) _) | (with_reducible refine Below.alloc ?_ (by first | (simp; done) | (simp; omega) | omega) _) | (refine bl_call ?_ (by assumption) (by first | (simp; done) | (simp; omega) | omega)) | (with_reducible refine bl_drewN ?_) | (with_reducible refine Below.drew ?_) | (with_reducible refine bl_grow ?_ (by first | (simp; done) | (simp; omega) | omega)))⟩
end Go.Proofs.YtlbdcgnhmkjfiajGreatDoor
/- PlaysMore -/
namespace Go.Proofs.YtlbdcgnhmkjfiajGreatDoor
open Go.RowKit Go.Sort
set_option linter.unusedVariables false
set_option linter.unusedSimpArgs false
theorem Side.below {PB : World → Value → (Nat → Prop) → Nat → (Nat → Nat) → (Nat → Bool) → Prop} (ho : PBok PB) {w V W : World} {vb : Value} {Q : Nat → Prop} {p B : Nat} {u v : Value} {n : Nat} {K : Nat → Nat} {G : Nat → Bool} (h : Side PB w V vb Q p B u v n K G) (hb : Below V.heap.size V W) : Side PB w W vb Q p B u v n K G :=
  ⟨ho.stay h.one (But.of_below (fun _ => False) hb) fun _ _ e => e, h.two.below hb, h.le, h.q, h.b, h.ap⟩
/-- Behind a deal of both. -/
theorem side_next {PB : World → Value → (Nat → Prop) → Nat → (Nat → Nat) → (Nat → Bool) → Prop} (ho : PBok PB) {w W1 W2 W3 : World} {vb : Value} {Q : Nat → Prop} {p B : Nat} {u v : Value} {n n' : Nat} {K K' : Nat → Nat} {G G' : Nat → Bool} (h : Side PB w W1 vb Q p B u v n K G) (hw : w.heap.size ≤ W1.heap.size) (hn : n' ≤ 1000)
    (h1 : BookDone 25 4 B W1 W2 p u v n' K' G') (h2 : PBdone PB W2 W3 vb Q n' K' G') : ∃ Q' u' v', Side PB w W3 vb Q' p B u' v' n' K' G' := by
  obtain ⟨b1, u', v', k1, f1⟩ := h1
  obtain ⟨b2, Q', k2, f2⟩ := h2
  have d1 : ∀ i, ft p u' v' i → ¬ Q i := fun i hi hq => by
    rcases f1 i hi with e | e
    · exact h.ap i hq e
    · have := ho.lt h.one i hq; omega
  refine ⟨Q', u', v', k2, k1.but b2 d1, hn, fun i hi => ?_, h.b, fun i hi hf => ?_⟩
  · rcases f2 i hi with e | e
    · exact h.q i e
    · have := b1.size; omega
  · rcases f2 i hi with e | e
    · exact d1 i hf e
    · have := k1.lt hf; omega
/-- What the first of both is asked of behind the second. -/
theorem side_mid {PB : World → Value → (Nat → Prop) → Nat → (Nat → Nat) → (Nat → Bool) → Prop} (ho : PBok PB) {w W1 W2 : World} {vb : Value} {Q : Nat → Prop} {p B : Nat} {u v : Value} {n n' : Nat} {K K' : Nat → Nat} {G G' : Nat → Bool} (h : Side PB w W1 vb Q p B u v n K G) (h1 : BookDone 25 4 B W1 W2 p u v n' K' G') : PB W2 vb Q n K G :=
  ho.stay h.one h1.1 fun i hi => h.ap i hi
theorem done_under {w W1 W2 : World} {p B : Nat} {u v : Value} {n n' : Nat} {K K' : Nat → Nat} {G G' : Nat → Bool} (hq : Below w.heap.size w W1) (h0 : BookAt 25 4 B W1 p u v n K G) (hB : w.heap.size ≤ B) (h1 : BookDone 25 4 B W1 W2 p u v n' K' G') : Below w.heap.size w W2 :=
  But.under hq h1.1 (fun i hi => Nat.le_trans hB (h0.ge hi)) hq.size
theorem pbdone_under {PB : World → Value → (Nat → Prop) → Nat → (Nat → Nat) → (Nat → Bool) → Prop} {w W2 W3 : World} {vb : Value} {Q : Nat → Prop} {n' : Nat} {K' : Nat → Nat} {G' : Nat → Bool} (hq : Below w.heap.size w W2) (hQ : ∀ i, Q i → w.heap.size ≤ i) (h2 : PBdone PB W2 W3 vb Q n' K' G') : Below w.heap.size w W3 :=
  But.under hq h2.1 hQ hq.size
theorem lvC_cells (G : Nat → Bool) (n : Nat) : lvC G n = cellsI (fun i => (((lvL G n).getD i 0 : Nat) : Int)) (lvL G n).length := by
  unfold lvC cellsI
  refine List.ext_getElem? fun i => ?_
  by_cases h : i < (lvL G n).length
  · simp [h, List.getD_eq_getElem?_getD]
  · simp [h]
theorem ints_own {W : World} {B1 B2 : Nat} {q1 q2 : Value} {G : Nat → Bool} {n : Nat} (hn : n ≤ 1000) (h1 : W.ownsRow B1 3 1 q1 (lvL G n).length (lvC G n)) (h2 : W.ownsRow B2 3 1 q2 (lvL G n).length (lvC G n)) : Calls Tryz.prog 20 #[q1, q2] W fun e w' => e = .returned (.bool true) ∧ Below W.heap.size W w' := by
  rw [lvC_cells] at h1 h2
  have hl := lvL_len G n
  generalize (lvL G n).length = N at h1 h2 hl
  obtain ⟨s1, c1, rfl, r1⟩ := own_ints h1
  obtain ⟨s2, c2, rfl, r2⟩ := own_ints h2
  rcases r1 with h | ⟨g1, rfl, _, _, r1⟩
  · subst h; exact sints_nil s1 s2 c1 c2 W
  · rcases r2 with h | ⟨g2, rfl, _, _, r2⟩
    · subst h; exact sints_nil _ s2 c1 c2 W
    · exact sints_row g1 0 g2 0 N c1 c2 _ W (by omega) r1 r2
theorem spots_own {W : World} {B1 B2 : Nat} {q1 q2 : Value} {K : Nat → Nat} {n : Nat} (hn : n ≤ 1000) (h1 : W.ownsRow B1 25 3 q1 n (cellsK K n)) (h2 : W.ownsRow B2 25 3 q2 n (cellsK K n)) : Calls Tryz.prog 23 #[q1, q2] W fun e w' => e = .returned (.bool true) ∧ Below W.heap.size W w' := by
  obtain ⟨s1, c1, rfl, r1⟩ := own_spots h1
  obtain ⟨s2, c2, rfl, r2⟩ := own_spots h2
  rcases r1 with h | ⟨g1, rfl, _, _, r1⟩
  · subst h; exact sspots_nil s1 s2 c1 c2 W
  · rcases r2 with h | ⟨g2, rfl, _, _, r2⟩
    · subst h; exact sspots_nil _ s2 c1 c2 W
    · exact sspots_row g1 0 g2 0 n c1 c2 _ _ _ W (by omega) r1 r2
end Go.Proofs.YtlbdcgnhmkjfiajGreatDoor
/- BookPlaysL -/
namespace Go.Proofs.YtlbdcgnhmkjfiajGreatDoor
open Go.RowKit Go.Sort
set_option linter.unusedVariables false
set_option linter.unusedSimpArgs false
theorem dealS {w W : World} {b o k : Nat} {E : DealV} (h : ∀ W, Below w.heap.size w W → ∀ j, j < 6 → W.cell? ⟨b, o + k * 6 + j, none⟩ = E.cells[j]?) (hb : b < w.heap.size) (hW : Below w.heap.size w W) : b < W.heap.size ∧ W.cell? ⟨b, o + k * 6, none⟩ = some (.slice E.sz E.m E.dz) ∧ W.cell? ⟨b, o + k * 6 + 1, none⟩ = some (.slice E.sl E.c E.d) :=
  ⟨Nat.lt_of_lt_of_le hb hW.size, h W hW 0 (by omega), h W hW 1 (by omega)⟩
set_option maxRecDepth 100000 in
set_option maxHeartbeats 16000000 in
theorem bplays (PB : World → Value → (Nat → Prop) → Nat → (Nat → Nat) → (Nat → Bool) → Prop) (r k ax ay ux uy hx hy e0 e1 nb c wS : Int) (af uf hf x y c1 : Bool) (v1 v2 : Value) (n d L ca : Nat) (sl sa : Option Addr) (w : World) (hd : Door w) (K : Nat → Nat) (hn : n ≤ 12)
    (T1 : (toldI v1 == e0) = true) (T2 : (toldI v2 == e1) = true)
    (hHSP : ∀ w, Calls Tryz.prog 4 #[.agg #[.int .i64 ax, .int .i64 ay, .bool af]] w fun ex w' => ex = .returned (.int .i64 e0) ∧ Below w.heap.size w w')
    (hHBA : (e0 == 0) = true → ∀ w, Calls Tryz.prog 5 #[.agg #[.int .i64 ax, .int .i64 ay, .bool af], .agg #[.int .i64 ax, .int .i64 ay, .bool af]] w fun ex w' => ex = .returned (.int .i64 nb) ∧ Below w.heap.size w w')
    (hHBA0 : (e0 == 0) = false → nb = 0)
    (hHAS : ∀ w, Calls Tryz.prog 6 #[.agg #[.int .i64 ax, .int .i64 ay, .bool af], .agg #[.int .i64 ax, .int .i64 ay, .bool af]] w fun ex w' => ex = .returned (.tuple #[.int .i64 nb, v1]) ∧ Below w.heap.size w w')
    (hI1 : IsErr v1)
    (hHRE : ∀ w, Calls Tryz.prog 8 #[.int .i64 r] w fun ex w' => ex = .returned (.bool x) ∧ Below w.heap.size w w')
    (hHSE : ∀ w, Calls Tryz.prog 9 #[.int .i64 k] w fun ex w' => ex = .returned (.bool y) ∧ Below w.heap.size w w')
    (hHC : (!x || !y) = c1)
    (hC1f : c1 = false → e1 = e0)
    (hC1t : c1 = true → e1 = 1)
    (hHQ : (e1 == 0) = true → (∀ w, Calls Tryz.prog 11 #[] w fun ex w' => ex = .returned (.agg #[.int .i64 hx, .int .i64 hy, .bool hf]) ∧ Below w.heap.size w w') ∧ (∀ w, Calls Tryz.prog 10 #[.agg #[.int .i64 hx, .int .i64 hy, .bool hf], .int .i64 k] w fun ex w' => ex = .returned (.agg #[.int .i64 ux, .int .i64 uy, .bool uf]) ∧ Below w.heap.size w w') ∧ (∀ w, Calls Tryz.prog 5 #[.agg #[.int .i64 ux, .int .i64 uy, .bool uf], .agg #[.int .i64 ax, .int .i64 ay, .bool af]] w fun ex w' => ex = .returned (.int .i64 c) ∧ Below w.heap.size w w') ∧ (k + c * r) % 1013 = wS ∧ 0 ≤ k ∧ k < 1013 ∧ 0 ≤ c * r ∧ c * r ≤ 1100000)
    (hHQ0 : (e1 == 0) = false → ux = 0 ∧ uy = 0 ∧ uf = false ∧ wS = 0)
    (hHCL : ∀ w, Calls Tryz.prog 12 #[.int .i64 r, .int .i64 k, .agg #[.int .i64 ax, .int .i64 ay, .bool af]] w fun ex w' => ex = .returned (.tuple #[.agg #[.int .i64 ux, .int .i64 uy, .bool uf, .int .i64 wS], v2]) ∧ Below w.heap.size w w')
    (hI2 : IsErr v2)
    (hHCO : ∀ W, Below w.heap.size w W → Calls Tryz.prog 13 #[.slice sl n d] W fun ex w' => ex = .returned (.int .i64 0) ∧ Below W.heap.size W w')
    (hHNW : ∀ W, Below w.heap.size w W → Calls Tryz.prog 14 #[.slice sl n d] W fun ex w' => ∃ (v : Value) (Q : Nat → Prop), ex = .returned (.tuple #[v, .nilIface]) ∧ PB w' v Q n K (fun _ => false) ∧ (∀ i, Q i → W.heap.size ≤ i) ∧ Below W.heap.size W w')
    (hHNB : ∀ W, Below w.heap.size w W → Calls Tryz.prog 15 #[.slice sl n d] W fun ex w' => ∃ p, ex = .returned (.pointer (some ⟨p, 0, none⟩)) ∧ BookOf 25 4 W.heap.size w' p n K (fun _ => false) ∧ Below W.heap.size W w')
    (hHDL : L = 0 ∨ ∃ (b o : Nat) (D : Nat → DealV), sa = some ⟨b, o, none⟩ ∧ RowD w b o L D)
    (hHOK : PBok PB)
    (hHEX : BExcIs PB)
    (hHDO : BDoIs PB)
    (hHLV : BLiveIs PB)
    (hHCN : BCoinsIs PB)
    (hHTT : BTotalIs PB)
    : Calls Tryz.prog 3 #[.slice sl n d, .slice sa L ca, .int .i64 r, .int .i64 k, .agg #[.int .i64 ax, .int .i64 ay, .bool af]] w fun e w' => e = .returned (.bool true) ∧ Below w.heap.size w w' := by
  have HD : Hid (Door w) := hd
  have HSP : Hid (∀ w, Calls Tryz.prog 4 #[.agg #[.int .i64 ax, .int .i64 ay, .bool af]] w fun ex w' => ex = .returned (.int .i64 e0) ∧ Below w.heap.size w w') := hHSP
  have HBA : Hid ((e0 == 0) = true → ∀ w, Calls Tryz.prog 5 #[.agg #[.int .i64 ax, .int .i64 ay, .bool af], .agg #[.int .i64 ax, .int .i64 ay, .bool af]] w fun ex w' => ex = .returned (.int .i64 nb) ∧ Below w.heap.size w w') := hHBA
  have HBA0 : Hid ((e0 == 0) = false → nb = 0) := hHBA0
  have HAS : Hid (∀ w, Calls Tryz.prog 6 #[.agg #[.int .i64 ax, .int .i64 ay, .bool af], .agg #[.int .i64 ax, .int .i64 ay, .bool af]] w fun ex w' => ex = .returned (.tuple #[.int .i64 nb, v1]) ∧ Below w.heap.size w w') := hHAS
  have I1 : Hid (IsErr v1) := hI1
  have HRE : Hid (∀ w, Calls Tryz.prog 8 #[.int .i64 r] w fun ex w' => ex = .returned (.bool x) ∧ Below w.heap.size w w') := hHRE
  have HSE : Hid (∀ w, Calls Tryz.prog 9 #[.int .i64 k] w fun ex w' => ex = .returned (.bool y) ∧ Below w.heap.size w w') := hHSE
  have HC : Hid ((!x || !y) = c1) := hHC
  have C1f : Hid (c1 = false → e1 = e0) := hC1f
  have C1t : Hid (c1 = true → e1 = 1) := hC1t
  have HQ : Hid ((e1 == 0) = true → (∀ w, Calls Tryz.prog 11 #[] w fun ex w' => ex = .returned (.agg #[.int .i64 hx, .int .i64 hy, .bool hf]) ∧ Below w.heap.size w w') ∧ (∀ w, Calls Tryz.prog 10 #[.agg #[.int .i64 hx, .int .i64 hy, .bool hf], .int .i64 k] w fun ex w' => ex = .returned (.agg #[.int .i64 ux, .int .i64 uy, .bool uf]) ∧ Below w.heap.size w w') ∧ (∀ w, Calls Tryz.prog 5 #[.agg #[.int .i64 ux, .int .i64 uy, .bool uf], .agg #[.int .i64 ax, .int .i64 ay, .bool af]] w fun ex w' => ex = .returned (.int .i64 c) ∧ Below w.heap.size w w') ∧ (k + c * r) % 1013 = wS ∧ 0 ≤ k ∧ k < 1013 ∧ 0 ≤ c * r ∧ c * r ≤ 1100000) := hHQ
  have HQ0 : Hid ((e1 == 0) = false → ux = 0 ∧ uy = 0 ∧ uf = false ∧ wS = 0) := hHQ0
  have HCL : Hid (∀ w, Calls Tryz.prog 12 #[.int .i64 r, .int .i64 k, .agg #[.int .i64 ax, .int .i64 ay, .bool af]] w fun ex w' => ex = .returned (.tuple #[.agg #[.int .i64 ux, .int .i64 uy, .bool uf, .int .i64 wS], v2]) ∧ Below w.heap.size w w') := hHCL
  have I2 : Hid (IsErr v2) := hI2
  have HCO : Hid (∀ W, Below w.heap.size w W → Calls Tryz.prog 13 #[.slice sl n d] W fun ex w' => ex = .returned (.int .i64 0) ∧ Below W.heap.size W w') := hHCO
  have HNW : Hid (∀ W, Below w.heap.size w W → Calls Tryz.prog 14 #[.slice sl n d] W fun ex w' => ∃ (v : Value) (Q : Nat → Prop), ex = .returned (.tuple #[v, .nilIface]) ∧ PB w' v Q n K (fun _ => false) ∧ (∀ i, Q i → W.heap.size ≤ i) ∧ Below W.heap.size W w') := hHNW
  have HNB : Hid (∀ W, Below w.heap.size w W → Calls Tryz.prog 15 #[.slice sl n d] W fun ex w' => ∃ p, ex = .returned (.pointer (some ⟨p, 0, none⟩)) ∧ BookOf 25 4 W.heap.size w' p n K (fun _ => false) ∧ Below W.heap.size W w') := hHNB
  have HDL : Hid (L = 0 ∨ ∃ (b o : Nat) (D : Nat → DealV), sa = some ⟨b, o, none⟩ ∧ RowD w b o L D) := hHDL
  have HOK : Hid (PBok PB) := hHOK
  have HEX : Hid (BExcIs PB) := hHEX
  have HDO : Hid (BDoIs PB) := hHDO
  have HLV : Hid (BLiveIs PB) := hHLV
  have HCN : Hid (BCoinsIs PB) := hHCN
  have HTT : Hid (BTotalIs PB) := hHTT
  clear hd hHSP hHBA hHBA0 hHAS hI1 hHRE hHSE hHC hC1f hC1t hHQ hHQ0 hHCL hI2 hHCO hHNW hHNB hHDL hHOK hHEX hHDO hHLV hHCN hHTT
  have m1 : True := trivial; have m2 : True := trivial; have m3 : True := trivial; have m4 : True := trivial; have m5 : True := trivial; have m6 : True := trivial; have m7 : True := trivial; have m8 : True := trivial; have m9 : True := trivial; have m10 : True := trivial; have m11 : True := trivial; have m12 : True := trivial; have m13 : True := trivial; have m14 : True := trivial
  go_enter Tryz.func3, Tryz.ntmps3
  go_upto_if 32 with (first | (go_at_call 4; clear m1; refine (HSP.out _).mono ?_; rintro e w1 ⟨rfl, hbw1⟩; have kaw1 : At w1 (w.heap.size) [.int .i64 ax, .int .i64 ay, .bool af] := (by repeat (first | (with_reducible assumption) | ((with_reducible refine at_new' _ _ _ _ ?_); (first | rfl | (simp; done))) | (with_reducible refine At.alloc ?_ _) | (with_reducible refine At.drew ?_) | (with_reducible refine At.drewN ?_) | (with_reducible refine At.set ?_ (by omega)) | (with_reducible apply At.store4) | (with_reducible apply At.store3) | (with_reducible apply At.store2) | (with_reducible apply At.put43) | (refine At.below ?_ (by with_reducible assumption)))); have hqw1 : Below w.heap.size w w1 := (by repeat (first | (with_reducible exact Below.refl _ _) | (with_reducible assumption) | (with_reducible refine Below.setCell ?_ (by first | (simp; done) | (simp; omega) | omega) _) | (with_reducible refine Below.alloc ?_ (by first | (simp; done) | (simp; omega) | omega) _) | (refine bl_call ?_ (by assumption) (by first | (simp; done) | (simp; omega) | omega)) | (with_reducible refine bl_drewN ?_) | (with_reducible refine Below.drew ?_) | (with_reducible refine bl_grow ?_ (by first | (simp; done) | (simp; omega) | omega)))); have hzw1 := hqw1.size; obtain ⟨zaw1, ca0w1, ca1w1, ca2w1, fa0w1, fa1w1, fa2w1⟩ := kaw1.three; clear hbw1))
  go_cut [12] from 29 to 35 (fun t_ wx_ => t_ = .int .i64 nb ∧ At wx_ (w.heap.size) [.int .i64 ax, .int .i64 ay, .bool af] ∧ Below w.heap.size w wx_)
  case first => as_aux_lemma =>
    cases he : e0 == 0 with
    | false =>
      have hx : Hid (nb = 0) := HBA0.out he
      go_wp2_with fail
      go_meet
      case rel => exact ⟨by rw [hx.out], by repeat (first | (with_reducible assumption) | ((with_reducible refine at_new' _ _ _ _ ?_); (first | rfl | (simp; done))) | (with_reducible refine At.alloc ?_ _) | (with_reducible refine At.drew ?_) | (with_reducible refine At.drewN ?_) | (with_reducible refine At.set ?_ (by omega)) | (with_reducible apply At.store4) | (with_reducible apply At.store3) | (with_reducible apply At.store2) | (with_reducible apply At.put43) | (refine At.below ?_ (by with_reducible assumption))), by repeat (first | (with_reducible exact Below.refl _ _) | (with_reducible assumption) | (with_reducible refine Below.setCell ?_ (by first | (simp; done) | (simp; omega) | omega) _) | (with_reducible refine Below.alloc ?_ (by first | (simp; done) | (simp; omega) | omega) _) | (refine bl_call ?_ (by assumption) (by first | (simp; done) | (simp; omega) | omega)) | (with_reducible refine bl_drewN ?_) | (with_reducible refine Below.drew ?_) | (with_reducible refine bl_grow ?_ (by first | (simp; done) | (simp; omega) | omega)))⟩
    | true =>
      have HBB : Hid (∀ w, Calls Tryz.prog 5 #[.agg #[.int .i64 ax, .int .i64 ay, .bool af], .agg #[.int .i64 ax, .int .i64 ay, .bool af]] w fun ex w' => ex = .returned (.int .i64 nb) ∧ Below w.heap.size w w') := HBA.out he
      go_wp2_with (go_at_call 5; clear m2; refine (HBB.out _).mono ?_; rintro e v1_ ⟨rfl, hbv1_⟩; have kav1_ : At v1_ (w.heap.size) [.int .i64 ax, .int .i64 ay, .bool af] := (by repeat (first | (with_reducible assumption) | ((with_reducible refine at_new' _ _ _ _ ?_); (first | rfl | (simp; done))) | (with_reducible refine At.alloc ?_ _) | (with_reducible refine At.drew ?_) | (with_reducible refine At.drewN ?_) | (with_reducible refine At.set ?_ (by omega)) | (with_reducible apply At.store4) | (with_reducible apply At.store3) | (with_reducible apply At.store2) | (with_reducible apply At.put43) | (refine At.below ?_ (by with_reducible assumption)))); have hqv1_ : Below w.heap.size w v1_ := (by repeat (first | (with_reducible exact Below.refl _ _) | (with_reducible assumption) | (with_reducible refine Below.setCell ?_ (by first | (simp; done) | (simp; omega) | omega) _) | (with_reducible refine Below.alloc ?_ (by first | (simp; done) | (simp; omega) | omega) _) | (refine bl_call ?_ (by assumption) (by first | (simp; done) | (simp; omega) | omega)) | (with_reducible refine bl_drewN ?_) | (with_reducible refine Below.drew ?_) | (with_reducible refine bl_grow ?_ (by first | (simp; done) | (simp; omega) | omega)))); have hzv1_ := hqv1_.size; obtain ⟨zav1_, ca0v1_, ca1v1_, ca2v1_, fa0v1_, fa1v1_, fa2v1_⟩ := kav1_.three; clear kaw1 ca0w1 fa0w1 ca1w1 fa1w1 ca2w1 fa2w1 hqw1; clear hbv1_)
      go_meet
      case rel => exact ⟨rfl, by repeat (first | (with_reducible assumption) | ((with_reducible refine at_new' _ _ _ _ ?_); (first | rfl | (simp; done))) | (with_reducible refine At.alloc ?_ _) | (with_reducible refine At.drew ?_) | (with_reducible refine At.drewN ?_) | (with_reducible refine At.set ?_ (by omega)) | (with_reducible apply At.store4) | (with_reducible apply At.store3) | (with_reducible apply At.store2) | (with_reducible apply At.put43) | (refine At.below ?_ (by with_reducible assumption))), by repeat (first | (with_reducible exact Below.refl _ _) | (with_reducible assumption) | (with_reducible refine Below.setCell ?_ (by first | (simp; done) | (simp; omega) | omega) _) | (with_reducible refine Below.alloc ?_ (by first | (simp; done) | (simp; omega) | omega) _) | (refine bl_call ?_ (by assumption) (by first | (simp; done) | (simp; omega) | omega)) | (with_reducible refine bl_drewN ?_) | (with_reducible refine Below.drew ?_) | (with_reducible refine bl_grow ?_ (by first | (simp; done) | (simp; omega) | omega)))⟩
  case rest =>
  clear kaw1 ca0w1 fa0w1 ca1w1 fa1w1 ca2w1 fa2w1 hqw1
  rename World => y1
  obtain ⟨rfl, kay1, hqy1⟩ := hcut
  have hzy1 := hqy1.size
  obtain ⟨zay1, ca0y1, ca1y1, ca2y1, fa0y1, fa1y1, fa2y1⟩ := kay1.three
  go_upto_region 9 with (first | (go_at_call 6; clear m3; refine (HAS.out _).mono ?_; rintro e w2 ⟨rfl, hbw2⟩; have kaw2 : At w2 (w.heap.size) [.int .i64 ax, .int .i64 ay, .bool af] := (by repeat (first | (with_reducible assumption) | ((with_reducible refine at_new' _ _ _ _ ?_); (first | rfl | (simp; done))) | (with_reducible refine At.alloc ?_ _) | (with_reducible refine At.drew ?_) | (with_reducible refine At.drewN ?_) | (with_reducible refine At.set ?_ (by omega)) | (with_reducible apply At.store4) | (with_reducible apply At.store3) | (with_reducible apply At.store2) | (with_reducible apply At.put43) | (refine At.below ?_ (by with_reducible assumption)))); have hqw2 : Below w.heap.size w w2 := (by repeat (first | (with_reducible exact Below.refl _ _) | (with_reducible assumption) | (with_reducible refine Below.setCell ?_ (by first | (simp; done) | (simp; omega) | omega) _) | (with_reducible refine Below.alloc ?_ (by first | (simp; done) | (simp; omega) | omega) _) | (refine bl_call ?_ (by assumption) (by first | (simp; done) | (simp; omega) | omega)) | (with_reducible refine bl_drewN ?_) | (with_reducible refine Below.drew ?_) | (with_reducible refine bl_grow ?_ (by first | (simp; done) | (simp; omega) | omega)))); have hzw2 := hqw2.size; obtain ⟨zaw2, ca0w2, ca1w2, ca2w2, fa0w2, fa1w2, fa2w2⟩ := kaw2.three; clear kay1 ca0y1 fa0y1 ca1y1 fa1y1 ca2y1 fa2y1 hqy1; clear hbw2) | (go_at_call 7; clear m4; refine (same_below _ _ _ (I1.out) (HD.out.under (by repeat (first | (with_reducible exact Below.refl _ _) | (with_reducible assumption) | (with_reducible refine Below.setCell ?_ (by first | (simp; done) | (simp; omega) | omega) _) | (with_reducible refine Below.alloc ?_ (by first | (simp; done) | (simp; omega) | omega) _) | (refine bl_call ?_ (by assumption) (by first | (simp; done) | (simp; omega) | omega)) | (with_reducible refine bl_drewN ?_) | (with_reducible refine Below.drew ?_) | (with_reducible refine bl_grow ?_ (by first | (simp; done) | (simp; omega) | omega)))))).mono ?_; rintro e w3 ⟨rfl, hbw3⟩; have kaw3 : At w3 (w.heap.size) [.int .i64 ax, .int .i64 ay, .bool af] := (by repeat (first | (with_reducible assumption) | ((with_reducible refine at_new' _ _ _ _ ?_); (first | rfl | (simp; done))) | (with_reducible refine At.alloc ?_ _) | (with_reducible refine At.drew ?_) | (with_reducible refine At.drewN ?_) | (with_reducible refine At.set ?_ (by omega)) | (with_reducible apply At.store4) | (with_reducible apply At.store3) | (with_reducible apply At.store2) | (with_reducible apply At.put43) | (refine At.below ?_ (by with_reducible assumption)))); have hqw3 : Below w.heap.size w w3 := (by repeat (first | (with_reducible exact Below.refl _ _) | (with_reducible assumption) | (with_reducible refine Below.setCell ?_ (by first | (simp; done) | (simp; omega) | omega) _) | (with_reducible refine Below.alloc ?_ (by first | (simp; done) | (simp; omega) | omega) _) | (refine bl_call ?_ (by assumption) (by first | (simp; done) | (simp; omega) | omega)) | (with_reducible refine bl_drewN ?_) | (with_reducible refine Below.drew ?_) | (with_reducible refine bl_grow ?_ (by first | (simp; done) | (simp; omega) | omega)))); have hzw3 := hqw3.size; obtain ⟨zaw3, ca0w3, ca1w3, ca2w3, fa0w3, fa1w3, fa2w3⟩ := kaw3.three; clear kaw2 ca0w2 fa0w2 ca1w2 fa1w2 ca2w2 fa2w2 hqw2; clear hbw3) | (go_at_call 8; clear m5; refine (HRE.out _).mono ?_; rintro e w4 ⟨rfl, hbw4⟩; have kaw4 : At w4 (w.heap.size) [.int .i64 ax, .int .i64 ay, .bool af] := (by repeat (first | (with_reducible assumption) | ((with_reducible refine at_new' _ _ _ _ ?_); (first | rfl | (simp; done))) | (with_reducible refine At.alloc ?_ _) | (with_reducible refine At.drew ?_) | (with_reducible refine At.drewN ?_) | (with_reducible refine At.set ?_ (by omega)) | (with_reducible apply At.store4) | (with_reducible apply At.store3) | (with_reducible apply At.store2) | (with_reducible apply At.put43) | (refine At.below ?_ (by with_reducible assumption)))); have hqw4 : Below w.heap.size w w4 := (by repeat (first | (with_reducible exact Below.refl _ _) | (with_reducible assumption) | (with_reducible refine Below.setCell ?_ (by first | (simp; done) | (simp; omega) | omega) _) | (with_reducible refine Below.alloc ?_ (by first | (simp; done) | (simp; omega) | omega) _) | (refine bl_call ?_ (by assumption) (by first | (simp; done) | (simp; omega) | omega)) | (with_reducible refine bl_drewN ?_) | (with_reducible refine Below.drew ?_) | (with_reducible refine bl_grow ?_ (by first | (simp; done) | (simp; omega) | omega)))); have hzw4 := hqw4.size; obtain ⟨zaw4, ca0w4, ca1w4, ca2w4, fa0w4, fa1w4, fa2w4⟩ := kaw4.three; clear kaw3 ca0w3 fa0w3 ca1w3 fa1w3 ca2w3 fa2w3 hqw3; clear hbw4) | (go_at_call 9; clear m6; refine (HSE.out _).mono ?_; rintro e w5 ⟨rfl, hbw5⟩; have kaw5 : At w5 (w.heap.size) [.int .i64 ax, .int .i64 ay, .bool af] := (by repeat (first | (with_reducible assumption) | ((with_reducible refine at_new' _ _ _ _ ?_); (first | rfl | (simp; done))) | (with_reducible refine At.alloc ?_ _) | (with_reducible refine At.drew ?_) | (with_reducible refine At.drewN ?_) | (with_reducible refine At.set ?_ (by omega)) | (with_reducible apply At.store4) | (with_reducible apply At.store3) | (with_reducible apply At.store2) | (with_reducible apply At.put43) | (refine At.below ?_ (by with_reducible assumption)))); have hqw5 : Below w.heap.size w w5 := (by repeat (first | (with_reducible exact Below.refl _ _) | (with_reducible assumption) | (with_reducible refine Below.setCell ?_ (by first | (simp; done) | (simp; omega) | omega) _) | (with_reducible refine Below.alloc ?_ (by first | (simp; done) | (simp; omega) | omega) _) | (refine bl_call ?_ (by assumption) (by first | (simp; done) | (simp; omega) | omega)) | (with_reducible refine bl_drewN ?_) | (with_reducible refine Below.drew ?_) | (with_reducible refine bl_grow ?_ (by first | (simp; done) | (simp; omega) | omega)))); have hzw5 := hqw5.size; obtain ⟨zaw5, ca0w5, ca1w5, ca2w5, fa0w5, fa1w5, fa2w5⟩ := kaw5.three; clear kaw4 ca0w4 fa0w4 ca1w4 fa1w4 ca2w4 fa2w4 hqw4; clear hbw5))
  go_cut [59] from 29 to 59 (fun t_ wx_ => t_ = .bool c1 ∧ At wx_ (w.heap.size) [.int .i64 ax, .int .i64 ay, .bool af] ∧ Below w.heap.size w wx_)
  case first => as_aux_lemma =>
    have hc := HC.out
    subst hc
    cases x <;> cases y
    all_goals (
      go_wp2_with fail
      go_meet
      case rel => exact ⟨rfl, by repeat (first | (with_reducible assumption) | ((with_reducible refine at_new' _ _ _ _ ?_); (first | rfl | (simp; done))) | (with_reducible refine At.alloc ?_ _) | (with_reducible refine At.drew ?_) | (with_reducible refine At.drewN ?_) | (with_reducible refine At.set ?_ (by omega)) | (with_reducible apply At.store4) | (with_reducible apply At.store3) | (with_reducible apply At.store2) | (with_reducible apply At.put43) | (refine At.below ?_ (by with_reducible assumption))), by repeat (first | (with_reducible exact Below.refl _ _) | (with_reducible assumption) | (with_reducible refine Below.setCell ?_ (by first | (simp; done) | (simp; omega) | omega) _) | (with_reducible refine Below.alloc ?_ (by first | (simp; done) | (simp; omega) | omega) _) | (refine bl_call ?_ (by assumption) (by first | (simp; done) | (simp; omega) | omega)) | (with_reducible refine bl_drewN ?_) | (with_reducible refine Below.drew ?_) | (with_reducible refine bl_grow ?_ (by first | (simp; done) | (simp; omega) | omega)))⟩)
  case rest =>
  clear kaw5 ca0w5 fa0w5 ca1w5 fa1w5 ca2w5 fa2w5 hqw5
  rename World => y2
  obtain ⟨rfl, kay2, hqy2⟩ := hcut
  have hzy2 := hqy2.size
  obtain ⟨zay2, ca0y2, ca1y2, ca2y2, fa0y2, fa1y2, fa2y2⟩ := kay2.three
  go_upto_if 59 with fail
  go_cut [11] from 29 to 59 (fun t_ wx_ => t_ = .int .i64 e1 ∧ At wx_ (w.heap.size) [.int .i64 ax, .int .i64 ay, .bool af] ∧ Below w.heap.size w wx_)
  case first => as_aux_lemma =>
    cases c1 with
    | false =>
      have hx : Hid (e1 = e0) := C1f.out rfl
      go_wp2_with fail
      go_meet
      case rel => exact ⟨by rw [hx.out], by repeat (first | (with_reducible assumption) | ((with_reducible refine at_new' _ _ _ _ ?_); (first | rfl | (simp; done))) | (with_reducible refine At.alloc ?_ _) | (with_reducible refine At.drew ?_) | (with_reducible refine At.drewN ?_) | (with_reducible refine At.set ?_ (by omega)) | (with_reducible apply At.store4) | (with_reducible apply At.store3) | (with_reducible apply At.store2) | (with_reducible apply At.put43) | (refine At.below ?_ (by with_reducible assumption))), by repeat (first | (with_reducible exact Below.refl _ _) | (with_reducible assumption) | (with_reducible refine Below.setCell ?_ (by first | (simp; done) | (simp; omega) | omega) _) | (with_reducible refine Below.alloc ?_ (by first | (simp; done) | (simp; omega) | omega) _) | (refine bl_call ?_ (by assumption) (by first | (simp; done) | (simp; omega) | omega)) | (with_reducible refine bl_drewN ?_) | (with_reducible refine Below.drew ?_) | (with_reducible refine bl_grow ?_ (by first | (simp; done) | (simp; omega) | omega)))⟩
    | true =>
      have hx : Hid (e1 = 1) := C1t.out rfl
      go_wp2_with fail
      go_meet
      case rel => exact ⟨by rw [hx.out], by repeat (first | (with_reducible assumption) | ((with_reducible refine at_new' _ _ _ _ ?_); (first | rfl | (simp; done))) | (with_reducible refine At.alloc ?_ _) | (with_reducible refine At.drew ?_) | (with_reducible refine At.drewN ?_) | (with_reducible refine At.set ?_ (by omega)) | (with_reducible apply At.store4) | (with_reducible apply At.store3) | (with_reducible apply At.store2) | (with_reducible apply At.put43) | (refine At.below ?_ (by with_reducible assumption))), by repeat (first | (with_reducible exact Below.refl _ _) | (with_reducible assumption) | (with_reducible refine Below.setCell ?_ (by first | (simp; done) | (simp; omega) | omega) _) | (with_reducible refine Below.alloc ?_ (by first | (simp; done) | (simp; omega) | omega) _) | (refine bl_call ?_ (by assumption) (by first | (simp; done) | (simp; omega) | omega)) | (with_reducible refine bl_drewN ?_) | (with_reducible refine Below.drew ?_) | (with_reducible refine bl_grow ?_ (by first | (simp; done) | (simp; omega) | omega)))⟩
  case rest =>
  clear kay2 ca0y2 fa0y2 ca1y2 fa1y2 ca2y2 fa2y2 hqy2
  rename World => y3
  obtain ⟨rfl, kay3, hqy3⟩ := hcut
  have hzy3 := hqy3.size
  obtain ⟨zay3, ca0y3, ca1y3, ca2y3, fa0y3, fa1y3, fa2y3⟩ := kay3.three
  go_upto_if 61 with fail
  refine wp_gen (fun Y => At Y (w.heap.size) [.int .i64 ax, .int .i64 ay, .bool af] ∧ At Y (y3.heap.size) [.int .i64 0, .int .i64 0, .bool false, .int .i64 0] ∧ Below w.heap.size w Y) ⟨by repeat (first | (with_reducible assumption) | ((with_reducible refine at_new' _ _ _ _ ?_); (first | rfl | (simp; done))) | (with_reducible refine At.alloc ?_ _) | (with_reducible refine At.drew ?_) | (with_reducible refine At.drewN ?_) | (with_reducible refine At.set ?_ (by omega)) | (with_reducible apply At.store4) | (with_reducible apply At.store3) | (with_reducible apply At.store2) | (with_reducible apply At.put43) | (refine At.below ?_ (by with_reducible assumption))), by repeat (first | (with_reducible assumption) | ((with_reducible refine at_new' _ _ _ _ ?_); (first | rfl | (simp; done))) | (with_reducible refine At.alloc ?_ _) | (with_reducible refine At.drew ?_) | (with_reducible refine At.drewN ?_) | (with_reducible refine At.set ?_ (by omega)) | (with_reducible apply At.store4) | (with_reducible apply At.store3) | (with_reducible apply At.store2) | (with_reducible apply At.put43) | (refine At.below ?_ (by with_reducible assumption))), by repeat (first | (with_reducible exact Below.refl _ _) | (with_reducible assumption) | (with_reducible refine Below.setCell ?_ (by first | (simp; done) | (simp; omega) | omega) _) | (with_reducible refine Below.alloc ?_ (by first | (simp; done) | (simp; omega) | omega) _) | (refine bl_call ?_ (by assumption) (by first | (simp; done) | (simp; omega) | omega)) | (with_reducible refine bl_drewN ?_) | (with_reducible refine Below.drew ?_) | (with_reducible refine bl_grow ?_ (by first | (simp; done) | (simp; omega) | omega)))⟩ ?_
  rintro Y ⟨kaY, knY, hqY⟩
  have hzY := hqY.size
  clear kay3 ca0y3 fa0y3 ca1y3 fa1y3 ca2y3 fa2y3 hqy3
  obtain ⟨zaY, ca0Y, ca1Y, ca2Y, fa0Y, fa1Y, fa2Y⟩ := kaY.three
  obtain ⟨znY, cn0Y, cn1Y, cn2Y, cn3Y, fn0Y, fn1Y, fn2Y, fn3Y⟩ := knY.four

  go_cut [19] from 29 to 74 (fun _ wx_ => At wx_ (w.heap.size) [.int .i64 ax, .int .i64 ay, .bool af] ∧ At wx_ (y3.heap.size) [.int .i64 ux, .int .i64 uy, .bool uf, .int .i64 wS] ∧ Below w.heap.size w wx_)
  case first => as_aux_lemma =>
    cases he : e1 == 0 with
    | false =>
      obtain ⟨rfl, rfl, rfl, rfl⟩ := HQ0.out he
      go_wp2_with fail
      go_meet
      case rel => exact ⟨by repeat (first | (with_reducible assumption) | ((with_reducible refine at_new' _ _ _ _ ?_); (first | rfl | (simp; done))) | (with_reducible refine At.alloc ?_ _) | (with_reducible refine At.drew ?_) | (with_reducible refine At.drewN ?_) | (with_reducible refine At.set ?_ (by omega)) | (with_reducible apply At.store4) | (with_reducible apply At.store3) | (with_reducible apply At.store2) | (with_reducible apply At.put43) | (refine At.below ?_ (by with_reducible assumption))), by repeat (first | (with_reducible assumption) | ((with_reducible refine at_new' _ _ _ _ ?_); (first | rfl | (simp; done))) | (with_reducible refine At.alloc ?_ _) | (with_reducible refine At.drew ?_) | (with_reducible refine At.drewN ?_) | (with_reducible refine At.set ?_ (by omega)) | (with_reducible apply At.store4) | (with_reducible apply At.store3) | (with_reducible apply At.store2) | (with_reducible apply At.put43) | (refine At.below ?_ (by with_reducible assumption))), by repeat (first | (with_reducible exact Below.refl _ _) | (with_reducible assumption) | (with_reducible refine Below.setCell ?_ (by first | (simp; done) | (simp; omega) | omega) _) | (with_reducible refine Below.alloc ?_ (by first | (simp; done) | (simp; omega) | omega) _) | (refine bl_call ?_ (by assumption) (by first | (simp; done) | (simp; omega) | omega)) | (with_reducible refine bl_drewN ?_) | (with_reducible refine Below.drew ?_) | (with_reducible refine bl_grow ?_ (by first | (simp; done) | (simp; omega) | omega)))⟩
    | true =>
      obtain ⟨h1, h2, h3, h4, k0, k1, g0, g1⟩ := HQ.out he
      have B1_ : Hid (∀ w, Calls Tryz.prog 11 #[] w fun ex w' => ex = .returned (.agg #[.int .i64 hx, .int .i64 hy, .bool hf]) ∧ Below w.heap.size w w') := h1
      have B2_ : Hid (∀ w, Calls Tryz.prog 10 #[.agg #[.int .i64 hx, .int .i64 hy, .bool hf], .int .i64 k] w fun ex w' => ex = .returned (.agg #[.int .i64 ux, .int .i64 uy, .bool uf]) ∧ Below w.heap.size w w') := h2
      have B3_ : Hid (∀ w, Calls Tryz.prog 5 #[.agg #[.int .i64 ux, .int .i64 uy, .bool uf], .agg #[.int .i64 ax, .int .i64 ay, .bool af]] w fun ex w' => ex = .returned (.int .i64 c) ∧ Below w.heap.size w w') := h3
      clear h1 h2 h3
      go_upto_region 14 with (first | (go_at_call 11; clear m7; refine (B1_.out _).mono ?_; rintro e v2_ ⟨rfl, hbv2_⟩; have kav2_ : At v2_ (w.heap.size) [.int .i64 ax, .int .i64 ay, .bool af] := (by repeat (first | (with_reducible assumption) | ((with_reducible refine at_new' _ _ _ _ ?_); (first | rfl | (simp; done))) | (with_reducible refine At.alloc ?_ _) | (with_reducible refine At.drew ?_) | (with_reducible refine At.drewN ?_) | (with_reducible refine At.set ?_ (by omega)) | (with_reducible apply At.store4) | (with_reducible apply At.store3) | (with_reducible apply At.store2) | (with_reducible apply At.put43) | (refine At.below ?_ (by with_reducible assumption)))); have knv2_ : At v2_ (y3.heap.size) [.int .i64 0, .int .i64 0, .bool false, .int .i64 0] := (by repeat (first | (with_reducible assumption) | ((with_reducible refine at_new' _ _ _ _ ?_); (first | rfl | (simp; done))) | (with_reducible refine At.alloc ?_ _) | (with_reducible refine At.drew ?_) | (with_reducible refine At.drewN ?_) | (with_reducible refine At.set ?_ (by omega)) | (with_reducible apply At.store4) | (with_reducible apply At.store3) | (with_reducible apply At.store2) | (with_reducible apply At.put43) | (refine At.below ?_ (by with_reducible assumption)))); have hqv2_ : Below w.heap.size w v2_ := (by repeat (first | (with_reducible exact Below.refl _ _) | (with_reducible assumption) | (with_reducible refine Below.setCell ?_ (by first | (simp; done) | (simp; omega) | omega) _) | (with_reducible refine Below.alloc ?_ (by first | (simp; done) | (simp; omega) | omega) _) | (refine bl_call ?_ (by assumption) (by first | (simp; done) | (simp; omega) | omega)) | (with_reducible refine bl_drewN ?_) | (with_reducible refine Below.drew ?_) | (with_reducible refine bl_grow ?_ (by first | (simp; done) | (simp; omega) | omega)))); have hzv2_ := hqv2_.size; obtain ⟨zav2_, ca0v2_, ca1v2_, ca2v2_, fa0v2_, fa1v2_, fa2v2_⟩ := kav2_.three; obtain ⟨znv2_, cn0v2_, cn1v2_, cn2v2_, cn3v2_, fn0v2_, fn1v2_, fn2v2_, fn3v2_⟩ := knv2_.four; clear kaY ca0Y fa0Y ca1Y fa1Y ca2Y fa2Y knY cn0Y fn0Y cn1Y fn1Y cn2Y fn2Y cn3Y fn3Y hqY; clear hbv2_) | (go_at_call 10; clear m8; refine (B2_.out _).mono ?_; rintro e v3_ ⟨rfl, hbv3_⟩; have kav3_ : At v3_ (w.heap.size) [.int .i64 ax, .int .i64 ay, .bool af] := (by repeat (first | (with_reducible assumption) | ((with_reducible refine at_new' _ _ _ _ ?_); (first | rfl | (simp; done))) | (with_reducible refine At.alloc ?_ _) | (with_reducible refine At.drew ?_) | (with_reducible refine At.drewN ?_) | (with_reducible refine At.set ?_ (by omega)) | (with_reducible apply At.store4) | (with_reducible apply At.store3) | (with_reducible apply At.store2) | (with_reducible apply At.put43) | (refine At.below ?_ (by with_reducible assumption)))); have knv3_ : At v3_ (y3.heap.size) [.int .i64 0, .int .i64 0, .bool false, .int .i64 0] := (by repeat (first | (with_reducible assumption) | ((with_reducible refine at_new' _ _ _ _ ?_); (first | rfl | (simp; done))) | (with_reducible refine At.alloc ?_ _) | (with_reducible refine At.drew ?_) | (with_reducible refine At.drewN ?_) | (with_reducible refine At.set ?_ (by omega)) | (with_reducible apply At.store4) | (with_reducible apply At.store3) | (with_reducible apply At.store2) | (with_reducible apply At.put43) | (refine At.below ?_ (by with_reducible assumption)))); have hqv3_ : Below w.heap.size w v3_ := (by repeat (first | (with_reducible exact Below.refl _ _) | (with_reducible assumption) | (with_reducible refine Below.setCell ?_ (by first | (simp; done) | (simp; omega) | omega) _) | (with_reducible refine Below.alloc ?_ (by first | (simp; done) | (simp; omega) | omega) _) | (refine bl_call ?_ (by assumption) (by first | (simp; done) | (simp; omega) | omega)) | (with_reducible refine bl_drewN ?_) | (with_reducible refine Below.drew ?_) | (with_reducible refine bl_grow ?_ (by first | (simp; done) | (simp; omega) | omega)))); have hzv3_ := hqv3_.size; obtain ⟨zav3_, ca0v3_, ca1v3_, ca2v3_, fa0v3_, fa1v3_, fa2v3_⟩ := kav3_.three; obtain ⟨znv3_, cn0v3_, cn1v3_, cn2v3_, cn3v3_, fn0v3_, fn1v3_, fn2v3_, fn3v3_⟩ := knv3_.four; clear kav2_ ca0v2_ fa0v2_ ca1v2_ fa1v2_ ca2v2_ fa2v2_ knv2_ cn0v2_ fn0v2_ cn1v2_ fn1v2_ cn2v2_ fn2v2_ cn3v2_ fn3v2_ hqv2_; clear hbv3_))
      refine wp_gen (fun O => At O (w.heap.size) [.int .i64 ax, .int .i64 ay, .bool af] ∧ At O (y3.heap.size) [.int .i64 0, .int .i64 0, .bool false, .int .i64 0] ∧ At O (v3_.heap.size) [.int .i64 ux, .int .i64 uy, .bool uf] ∧ Below w.heap.size w O) ⟨by repeat (first | (with_reducible assumption) | ((with_reducible refine at_new' _ _ _ _ ?_); (first | rfl | (simp; done))) | (with_reducible refine At.alloc ?_ _) | (with_reducible refine At.drew ?_) | (with_reducible refine At.drewN ?_) | (with_reducible refine At.set ?_ (by omega)) | (with_reducible apply At.store4) | (with_reducible apply At.store3) | (with_reducible apply At.store2) | (with_reducible apply At.put43) | (refine At.below ?_ (by with_reducible assumption))), by repeat (first | (with_reducible assumption) | ((with_reducible refine at_new' _ _ _ _ ?_); (first | rfl | (simp; done))) | (with_reducible refine At.alloc ?_ _) | (with_reducible refine At.drew ?_) | (with_reducible refine At.drewN ?_) | (with_reducible refine At.set ?_ (by omega)) | (with_reducible apply At.store4) | (with_reducible apply At.store3) | (with_reducible apply At.store2) | (with_reducible apply At.put43) | (refine At.below ?_ (by with_reducible assumption))), by repeat (first | (with_reducible assumption) | ((with_reducible refine at_new' _ _ _ _ ?_); (first | rfl | (simp; done))) | (with_reducible refine At.alloc ?_ _) | (with_reducible refine At.drew ?_) | (with_reducible refine At.drewN ?_) | (with_reducible refine At.set ?_ (by omega)) | (with_reducible apply At.store4) | (with_reducible apply At.store3) | (with_reducible apply At.store2) | (with_reducible apply At.put43) | (refine At.below ?_ (by with_reducible assumption))), by repeat (first | (with_reducible exact Below.refl _ _) | (with_reducible assumption) | (with_reducible refine Below.setCell ?_ (by first | (simp; done) | (simp; omega) | omega) _) | (with_reducible refine Below.alloc ?_ (by first | (simp; done) | (simp; omega) | omega) _) | (refine bl_call ?_ (by assumption) (by first | (simp; done) | (simp; omega) | omega)) | (with_reducible refine bl_drewN ?_) | (with_reducible refine Below.drew ?_) | (with_reducible refine bl_grow ?_ (by first | (simp; done) | (simp; omega) | omega)))⟩ ?_
      rintro O ⟨kaO, knO, krO, hqO⟩
      have hzO := hqO.size
      clear kav3_ ca0v3_ fa0v3_ ca1v3_ fa1v3_ ca2v3_ fa2v3_ knv3_ cn0v3_ fn0v3_ cn1v3_ fn1v3_ cn2v3_ fn2v3_ cn3v3_ fn3v3_ hqv3_
      obtain ⟨zaO, ca0O, ca1O, ca2O, fa0O, fa1O, fa2O⟩ := kaO.three
      obtain ⟨znO, cn0O, cn1O, cn2O, cn3O, fn0O, fn1O, fn2O, fn3O⟩ := knO.four
      obtain ⟨zrO, cr0O, cr1O, cr2O, fr0O, fr1O, fr2O⟩ := krO.three
      refine below_gate 10 1 #[true, true, true, true, true, true, true, true, true, true, false] (by kernel_rfl) (by kernel_rfl) rfl rfl ?_
      dsimp only [List.take]
      repeat (go_big_quiet_step (first | (go_at_call 5; with_reducible exact Calls.regrown_of (B3_.out _))))
      refine wpQuiet_nil ?_
      intro O2 hw1
      have hrO2 := regrown_below hw1
      clear hw1
      have kaO2 := kaO.below hrO2
      have knO2 := knO.below hrO2
      have krO2 := krO.below hrO2
      have hqO2 := bl_call hqO hrO2 (by omega)
      have hzO2 := hqO2.size
      clear hrO2 kaO ca0O fa0O ca1O fa1O ca2O fa2O knO cn0O fn0O cn1O fn1O cn2O fn2O cn3O fn3O krO cr0O fr0O cr1O fr1O cr2O fr2O hqO
      obtain ⟨zaO2, ca0O2, ca1O2, ca2O2, fa0O2, fa1O2, fa2O2⟩ := kaO2.three
      obtain ⟨znO2, cn0O2, cn1O2, cn2O2, cn3O2, fn0O2, fn1O2, fn2O2, fn3O2⟩ := knO2.four
      obtain ⟨zrO2, cr0O2, cr1O2, cr2O2, fr0O2, fr1O2, fr2O2⟩ := krO2.three
      refine wpAny_ready (rs := [10]) (by kernel_rfl) (by simp) (AllReady.cons rfl (fun K hK => ?_) AllReady.nil)
      go_simp
      refine hK _ _ ?_
      clear hK K
      refine wpAny_done (by kernel_rfl) ?_ _

      go_wp2_with fail
      go_meet
      case rel => exact ⟨by repeat (first | (with_reducible assumption) | ((with_reducible refine at_new' _ _ _ _ ?_); (first | rfl | (simp; done))) | (with_reducible refine At.alloc ?_ _) | (with_reducible refine At.drew ?_) | (with_reducible refine At.drewN ?_) | (with_reducible refine At.set ?_ (by omega)) | (with_reducible apply At.store4) | (with_reducible apply At.store3) | (with_reducible apply At.store2) | (with_reducible apply At.put43) | (refine At.below ?_ (by with_reducible assumption))), by repeat (first | (with_reducible assumption) | ((with_reducible refine at_new' _ _ _ _ ?_); (first | rfl | (simp; done))) | (with_reducible refine At.alloc ?_ _) | (with_reducible refine At.drew ?_) | (with_reducible refine At.drewN ?_) | (with_reducible refine At.set ?_ (by omega)) | (with_reducible apply At.store4) | (with_reducible apply At.store3) | (with_reducible apply At.store2) | (with_reducible apply At.put43) | (refine At.below ?_ (by with_reducible assumption))), by repeat (first | (with_reducible exact Below.refl _ _) | (with_reducible assumption) | (with_reducible refine Below.setCell ?_ (by first | (simp; done) | (simp; omega) | omega) _) | (with_reducible refine Below.alloc ?_ (by first | (simp; done) | (simp; omega) | omega) _) | (refine bl_call ?_ (by assumption) (by first | (simp; done) | (simp; omega) | omega)) | (with_reducible refine bl_drewN ?_) | (with_reducible refine Below.drew ?_) | (with_reducible refine bl_grow ?_ (by first | (simp; done) | (simp; omega) | omega)))⟩
  case rest =>
  clear kaY ca0Y fa0Y ca1Y fa1Y ca2Y fa2Y knY cn0Y fn0Y cn1Y fn1Y cn2Y fn2Y cn3Y fn3Y hqY
  rename World => y5
  obtain ⟨kay5, kny5, hqy5⟩ := hcut
  have hzy5 := hqy5.size
  obtain ⟨zay5, ca0y5, ca1y5, ca2y5, fa0y5, fa1y5, fa2y5⟩ := kay5.three
  obtain ⟨zny5, cn0y5, cn1y5, cn2y5, cn3y5, fn0y5, fn1y5, fn2y5, fn3y5⟩ := kny5.four
  go_upto_region 19 with (first | (go_at_call 12; clear m9; refine (HCL.out _).mono ?_; rintro e w7 ⟨rfl, hbw7⟩; have kaw7 : At w7 (w.heap.size) [.int .i64 ax, .int .i64 ay, .bool af] := (by repeat (first | (with_reducible assumption) | ((with_reducible refine at_new' _ _ _ _ ?_); (first | rfl | (simp; done))) | (with_reducible refine At.alloc ?_ _) | (with_reducible refine At.drew ?_) | (with_reducible refine At.drewN ?_) | (with_reducible refine At.set ?_ (by omega)) | (with_reducible apply At.store4) | (with_reducible apply At.store3) | (with_reducible apply At.store2) | (with_reducible apply At.put43) | (refine At.below ?_ (by with_reducible assumption)))); have knw7 : At w7 (y3.heap.size) [.int .i64 ux, .int .i64 uy, .bool uf, .int .i64 wS] := (by repeat (first | (with_reducible assumption) | ((with_reducible refine at_new' _ _ _ _ ?_); (first | rfl | (simp; done))) | (with_reducible refine At.alloc ?_ _) | (with_reducible refine At.drew ?_) | (with_reducible refine At.drewN ?_) | (with_reducible refine At.set ?_ (by omega)) | (with_reducible apply At.store4) | (with_reducible apply At.store3) | (with_reducible apply At.store2) | (with_reducible apply At.put43) | (refine At.below ?_ (by with_reducible assumption)))); have hqw7 : Below w.heap.size w w7 := (by repeat (first | (with_reducible exact Below.refl _ _) | (with_reducible assumption) | (with_reducible refine Below.setCell ?_ (by first | (simp; done) | (simp; omega) | omega) _) | (with_reducible refine Below.alloc ?_ (by first | (simp; done) | (simp; omega) | omega) _) | (refine bl_call ?_ (by assumption) (by first | (simp; done) | (simp; omega) | omega)) | (with_reducible refine bl_drewN ?_) | (with_reducible refine Below.drew ?_) | (with_reducible refine bl_grow ?_ (by first | (simp; done) | (simp; omega) | omega)))); have hzw7 := hqw7.size; obtain ⟨zaw7, ca0w7, ca1w7, ca2w7, fa0w7, fa1w7, fa2w7⟩ := kaw7.three; obtain ⟨znw7, cn0w7, cn1w7, cn2w7, cn3w7, fn0w7, fn1w7, fn2w7, fn3w7⟩ := knw7.four; clear kay5 ca0y5 fa0y5 ca1y5 fa1y5 ca2y5 fa2y5 kny5 cn0y5 fn0y5 cn1y5 fn1y5 cn2y5 fn2y5 cn3y5 fn3y5 hqy5; clear hbw7) | (go_at_call 7; clear m10; refine (same_below _ _ _ (I2.out) (HD.out.under (by repeat (first | (with_reducible exact Below.refl _ _) | (with_reducible assumption) | (with_reducible refine Below.setCell ?_ (by first | (simp; done) | (simp; omega) | omega) _) | (with_reducible refine Below.alloc ?_ (by first | (simp; done) | (simp; omega) | omega) _) | (refine bl_call ?_ (by assumption) (by first | (simp; done) | (simp; omega) | omega)) | (with_reducible refine bl_drewN ?_) | (with_reducible refine Below.drew ?_) | (with_reducible refine bl_grow ?_ (by first | (simp; done) | (simp; omega) | omega)))))).mono ?_; rintro e w8 ⟨rfl, hbw8⟩; have kaw8 : At w8 (w.heap.size) [.int .i64 ax, .int .i64 ay, .bool af] := (by repeat (first | (with_reducible assumption) | ((with_reducible refine at_new' _ _ _ _ ?_); (first | rfl | (simp; done))) | (with_reducible refine At.alloc ?_ _) | (with_reducible refine At.drew ?_) | (with_reducible refine At.drewN ?_) | (with_reducible refine At.set ?_ (by omega)) | (with_reducible apply At.store4) | (with_reducible apply At.store3) | (with_reducible apply At.store2) | (with_reducible apply At.put43) | (refine At.below ?_ (by with_reducible assumption)))); have knw8 : At w8 (y3.heap.size) [.int .i64 ux, .int .i64 uy, .bool uf, .int .i64 wS] := (by repeat (first | (with_reducible assumption) | ((with_reducible refine at_new' _ _ _ _ ?_); (first | rfl | (simp; done))) | (with_reducible refine At.alloc ?_ _) | (with_reducible refine At.drew ?_) | (with_reducible refine At.drewN ?_) | (with_reducible refine At.set ?_ (by omega)) | (with_reducible apply At.store4) | (with_reducible apply At.store3) | (with_reducible apply At.store2) | (with_reducible apply At.put43) | (refine At.below ?_ (by with_reducible assumption)))); have kgw8 : At w8 (w7.heap.size) [.int .i64 ux, .int .i64 uy, .bool uf, .int .i64 wS] := (by repeat (first | (with_reducible assumption) | ((with_reducible refine at_new' _ _ _ _ ?_); (first | rfl | (simp; done))) | (with_reducible refine At.alloc ?_ _) | (with_reducible refine At.drew ?_) | (with_reducible refine At.drewN ?_) | (with_reducible refine At.set ?_ (by omega)) | (with_reducible apply At.store4) | (with_reducible apply At.store3) | (with_reducible apply At.store2) | (with_reducible apply At.put43) | (refine At.below ?_ (by with_reducible assumption)))); have hqw8 : Below w.heap.size w w8 := (by repeat (first | (with_reducible exact Below.refl _ _) | (with_reducible assumption) | (with_reducible refine Below.setCell ?_ (by first | (simp; done) | (simp; omega) | omega) _) | (with_reducible refine Below.alloc ?_ (by first | (simp; done) | (simp; omega) | omega) _) | (refine bl_call ?_ (by assumption) (by first | (simp; done) | (simp; omega) | omega)) | (with_reducible refine bl_drewN ?_) | (with_reducible refine Below.drew ?_) | (with_reducible refine bl_grow ?_ (by first | (simp; done) | (simp; omega) | omega)))); have hzw8 := hqw8.size; obtain ⟨zaw8, ca0w8, ca1w8, ca2w8, fa0w8, fa1w8, fa2w8⟩ := kaw8.three; obtain ⟨znw8, cn0w8, cn1w8, cn2w8, cn3w8, fn0w8, fn1w8, fn2w8, fn3w8⟩ := knw8.four; obtain ⟨zgw8, cg0w8, cg1w8, cg2w8, cg3w8, fg0w8, fg1w8, fg2w8, fg3w8⟩ := kgw8.four; clear kaw7 ca0w7 fa0w7 ca1w7 fa1w7 ca2w7 fa2w7 knw7 cn0w7 fn0w7 cn1w7 fn1w7 cn2w7 fn2w7 cn3w7 fn3w7 hqw7; clear hbw8))
  have hqS := hqw8
  clear kaw8 ca0w8 fa0w8 ca1w8 fa1w8 ca2w8 fa2w8 knw8 cn0w8 fn0w8 cn1w8 fn1w8 cn2w8 fn2w8 cn3w8 fn3w8 kgw8 cg0w8 fg0w8 cg1w8 fg1w8 cg2w8 fg2w8 cg3w8 fg3w8 hqw8
  refine wp_gen (fun S_ => Below w.heap.size w S_) (by first | exact hqS | (exact by repeat (first | (with_reducible exact Below.refl _ _) | (with_reducible assumption) | (with_reducible refine Below.setCell ?_ (by first | (simp; done) | (simp; omega) | omega) _) | (with_reducible refine Below.alloc ?_ (by first | (simp; done) | (simp; omega) | omega) _) | (refine bl_call ?_ (by assumption) (by first | (simp; done) | (simp; omega) | omega)) | (with_reducible refine bl_drewN ?_) | (with_reducible refine Below.drew ?_) | (with_reducible refine bl_grow ?_ (by first | (simp; done) | (simp; omega) | omega))))) ?_
  rintro S hqS2
  clear hqS
  have hzS := hqS2.size
  go_upto_region 25 with (first | (go_at_call 13; refine (HCO.out _ (by repeat (first | (with_reducible exact Below.refl _ _) | (with_reducible assumption) | (with_reducible refine Below.setCell ?_ (by first | (simp; done) | (simp; omega) | omega) _) | (with_reducible refine Below.alloc ?_ (by first | (simp; done) | (simp; omega) | omega) _) | (refine bl_call ?_ (by assumption) (by first | (simp; done) | (simp; omega) | omega)) | (with_reducible refine bl_drewN ?_) | (with_reducible refine Below.drew ?_) | (with_reducible refine bl_grow ?_ (by first | (simp; done) | (simp; omega) | omega))))).mono ?_; rintro e w9 ⟨rfl, hb9⟩; have hq9 : Below w.heap.size w w9 := (by repeat (first | (with_reducible exact Below.refl _ _) | (with_reducible assumption) | (with_reducible refine Below.setCell ?_ (by first | (simp; done) | (simp; omega) | omega) _) | (with_reducible refine Below.alloc ?_ (by first | (simp; done) | (simp; omega) | omega) _) | (refine bl_call ?_ (by assumption) (by first | (simp; done) | (simp; omega) | omega)) | (with_reducible refine bl_drewN ?_) | (with_reducible refine Below.drew ?_) | (with_reducible refine bl_grow ?_ (by first | (simp; done) | (simp; omega) | omega)))); have hz9 := hq9.size; clear hb9) | (go_at_call 14; refine (HNW.out _ hq9).mono ?_; rintro e w10 ⟨vb, Q0, rfl, hPB, hQ0, hb10⟩; have hq10 : Below w.heap.size w w10 := bl_call hq9 hb10 hz9; have hz10 := hq10.size) | (go_at_call 7; refine (same_below _ _ _ isErr_nil (HD.out.under hq10)).mono ?_; rintro e w11 ⟨rfl, hb11⟩; have hq11 : Below w.heap.size w w11 := bl_call hq10 hb11 hz10; have hz11 := hq11.size) | (go_at_call 15; refine (HNB.out _ hq11).mono ?_; rintro e w12 ⟨p, rfl, hRB, hb12⟩; have hq12 : Below w.heap.size w w12 := bl_call hq11 hb12 hz11; have hz12 := hq12.size))
  have hs0 : Sides PB w w12 vb p := by
    obtain ⟨u, v, hRB⟩ := hRB
    refine ⟨Q0, w11.heap.size, u, v, n, K, fun _ => false, HOK.out.stay hPB (But.of_below (fun _ => False) (Below.trans hb11 (hb12.mono hb11.size))) (fun _ _ e => e), hRB, by omega, fun i hi => ?_, hz11, fun i hi hf => ?_⟩
    · have := hQ0 i hi; omega
    · have h1 := HOK.out.lt hPB i hi
      have h2 := hRB.ge hf
      have h3 := hb11.size
      omega
  have HS0 : Hid (Sides PB w w12 vb p) := hs0
  clear hs0 hRB hPB hQ0 hb10 hb11 hb12 hq9 hq10 hq11 hz9 hz10 hz11
  go_wp2_with fail
  go_loopw [24] (fun ti wl => ∃ k : Nat, k ≤ L ∧ k ≤ 20 ∧ ti = .int .i64 k ∧ Sides PB w wl vb p ∧ Below w.heap.size w wl) (fun ti _ => 20 - (intOf ti).toNat)
  case atStart => exact ⟨0, by omega, by omega, rfl, HS0.out, hq12⟩
  case round =>
    clear HS0 hq12 hz12
    obtain ⟨k, hkL, hk20, rfl, hs, hqV⟩ := hrel
    rename World => V
    have hzV := hqV.size
    by_cases hlt : k < L ∧ k < 20
    · obtain ⟨hlt, hlt2⟩ := hlt
      have hlt' : (k : Int) < L := by omega
      have hlt3 : (k : Int) < 20 := by omega
      obtain ⟨b, o, D, rfl, hrow⟩ := HDL.out.resolve_left (by omega)
      obtain ⟨Q, B, u, v, n1, K1, G1, hS⟩ := hs
      obtain ⟨hdc, hD⟩ := hrow.2 k hlt
      obtain ⟨E, hE⟩ : ∃ E, D k = E := ⟨_, rfl⟩
      rw [hE] at hdc hD
      have HBW : Hid (b < w.heap.size) := hrow.1
      have HDC : Hid (∀ W, Below w.heap.size w W → ∀ j, j < 6 → W.cell? ⟨b, o + k * 6 + j, none⟩ = E.cells[j]?) := fun W hW j hj => (hW.cell (p := ⟨b, o + k * 6 + j, none⟩) HBW.out).trans (hdc j hj)
      clear hdc hE hrow
      obtain ⟨X, xe, xv, ie1, te1, hx1, hx2⟩ := exc_is PB HEX.out w vb Q p B u v n1 K1 G1 E hD hS.le
      obtain ⟨de, dv, n2, K2, G2, ie2, te2, hn2, hd1, hd2⟩ := deal_is PB HOK.out HDO.out w vb Q p B u v n1 K1 G1 E hD hS.le hS.q hS.b
      have HSV : Hid (Side PB w V vb Q p B u v n1 K1 G1) := hS
      have IE1 : Hid (IsErr xv) := ie1
      have IE2 : Hid (IsErr dv) := ie2
      have HX1 : Hid (∀ W, Below V.heap.size V W → Calls Tryz.prog 16 #[.pointer (some ⟨p, 0, none⟩), .slice E.sz E.m E.dz, .slice E.sl E.c E.d] W fun e w' => e = .returned (.tuple #[.agg #[.int .i64 X.1, .int .i64 X.2.1, .bool X.2.2], .int .i64 xe]) ∧ Below W.heap.size W w') := fun W hW => hx1 W (bl_call hqV hW hzV) (hS.below HOK.out hW).two
      have HX2 : Hid (∀ W, Below V.heap.size V W → Calls Tryz.prog 17 #[vb, .slice E.sz E.m E.dz, .slice E.sl E.c E.d] W fun e w' => e = .returned (.tuple #[.agg #[.int .i64 X.1, .int .i64 X.2.1, .bool X.2.2], xv]) ∧ Below W.heap.size W w') := fun W hW => hx2 W (bl_call hqV hW hzV) (hS.below HOK.out hW).one
      clear hx1 hx2 ie1 ie2 hS hD
      go_upto_region 28 with fail
      go_cut [25, 26] from 115 to 207 (fun t1_ t2_ wx_ => ∃ b25 : Nat, t1_ = .pointer (some ⟨b25, 0, none⟩) ∧ t2_ = .int .i64 xe ∧ At wx_ b25 [.int .i64 X.1, .int .i64 X.2.1, .bool X.2.2] ∧ V.heap.size ≤ b25 ∧ Below V.heap.size V wx_)
      case first => as_aux_lemma =>
        have c0 : V.cell? ⟨b, o + k * 6, none⟩ = some (.slice E.sz E.m E.dz) := HDC.out V hqV 0 (by omega)
        have c1 : V.cell? ⟨b, o + k * 6 + 1, none⟩ = some (.slice E.sl E.c E.d) := HDC.out V hqV 1 (by omega)
        have c2 : V.cell? ⟨b, o + k * 6 + 2, none⟩ = some (.int .i64 E.rx) := HDC.out V hqV 2 (by omega)
        have c3 : V.cell? ⟨b, o + k * 6 + 3, none⟩ = some (.int .i64 E.ry) := HDC.out V hqV 3 (by omega)
        have c4 : V.cell? ⟨b, o + k * 6 + 4, none⟩ = some (.bool E.rf) := HDC.out V hqV 4 (by omega)
        have c5 : V.cell? ⟨b, o + k * 6 + 5, none⟩ = some (.int .i64 E.s) := HDC.out V hqV 5 (by omega)
        have cb : b < V.heap.size := Nat.lt_of_lt_of_le HBW.out hqV.size
        have hV : Below V.heap.size V V := Below.refl _ _
        go_region_held3 (fun W_ => (b < W_.heap.size ∧ W_.cell? ⟨b, o + k * 6, none⟩ = some (.slice E.sz E.m E.dz) ∧ W_.cell? ⟨b, o + k * 6 + 1, none⟩ = some (.slice E.sl E.c E.d))) (exact dealS (HDC.out) HBW.out (bl_call hqV (show Below V.heap.size V _ from by repeat (first | (with_reducible exact Below.refl _ _) | (with_reducible assumption) | (with_reducible refine Below.setCell ?_ (by first | (simp; done) | (simp; omega) | omega) _) | (with_reducible refine Below.alloc ?_ (by first | (simp; done) | (simp; omega) | omega) _) | (refine bl_call ?_ (by assumption) (by first | (simp; done) | (simp; omega) | omega)) | (with_reducible refine bl_drewN ?_) | (with_reducible refine Below.drew ?_) | (with_reducible refine bl_grow ?_ (by first | (simp; done) | (simp; omega) | omega)))) hzV)) ((go_at_call 16; refine (HX1.out _ (show Below V.heap.size V _ from by repeat (first | (with_reducible exact Below.refl _ _) | (with_reducible assumption) | (with_reducible refine Below.setCell ?_ (by first | (simp; done) | (simp; omega) | omega) _) | (with_reducible refine Below.alloc ?_ (by first | (simp; done) | (simp; omega) | omega) _) | (refine bl_call ?_ (by assumption) (by first | (simp; done) | (simp; omega) | omega)) | (with_reducible refine bl_drewN ?_) | (with_reducible refine Below.drew ?_) | (with_reducible refine bl_grow ?_ (by first | (simp; done) | (simp; omega) | omega))))).mono ?_; rintro e w1 ⟨rfl, hb1⟩; have hs1 := hb1.size; (try simp at hs1); obtain ⟨hc1, hf1⟩ := bcell hb1))
        all_goals (go_wp2_with fail)
        all_goals go_meet
        all_goals (case rel => exact ⟨_, rfl, rfl, by repeat (first | (with_reducible assumption) | ((with_reducible refine at_new' _ _ _ _ ?_); (first | rfl | (simp; done))) | (with_reducible refine At.alloc ?_ _) | (with_reducible refine At.drew ?_) | (with_reducible refine At.drewN ?_) | (with_reducible refine At.set ?_ (by omega)) | (with_reducible apply At.store4) | (with_reducible apply At.store3) | (with_reducible apply At.store2) | (with_reducible apply At.put43) | (refine At.below ?_ (by with_reducible assumption))), by omega, by repeat (first | (with_reducible exact Below.refl _ _) | (with_reducible assumption) | (with_reducible refine Below.setCell ?_ (by first | (simp; done) | (simp; omega) | omega) _) | (with_reducible refine Below.alloc ?_ (by first | (simp; done) | (simp; omega) | omega) _) | (refine bl_call ?_ (by assumption) (by first | (simp; done) | (simp; omega) | omega)) | (with_reducible refine bl_drewN ?_) | (with_reducible refine Below.drew ?_) | (with_reducible refine bl_grow ?_ (by first | (simp; done) | (simp; omega) | omega)))⟩)
      case rest =>
      rename World => V1
      obtain ⟨b25, rfl, rfl, kx25V1, hg25, hrV1⟩ := hcut
      have hqV1 : Below w.heap.size w V1 := bl_call hqV hrV1 hzV
      have hzV1 := hqV1.size
      have HX2b : Hid (∀ W, Below V1.heap.size V1 W → Calls Tryz.prog 17 #[vb, .slice E.sz E.m E.dz, .slice E.sl E.c E.d] W fun e w' => e = .returned (.tuple #[.agg #[.int .i64 X.1, .int .i64 X.2.1, .bool X.2.2], xv]) ∧ Below W.heap.size W w') := fun W hW => HX2.out W (bl_call hrV1 hW hrV1.size)
      go_upto_region 29 with fail
      go_cut [27, 28] from 115 to 207 (fun t1_ t2_ wx_ => ∃ b27 : Nat, t1_ = .pointer (some ⟨b27, 0, none⟩) ∧ t2_ = xv ∧ At wx_ (b25) [.int .i64 X.1, .int .i64 X.2.1, .bool X.2.2] ∧ At wx_ b27 [.int .i64 X.1, .int .i64 X.2.1, .bool X.2.2] ∧ V1.heap.size ≤ b27 ∧ Below V1.heap.size V1 wx_)
      case first => as_aux_lemma =>
        have zz25 := kx25V1.1
        have c0 : V1.cell? ⟨b, o + k * 6, none⟩ = some (.slice E.sz E.m E.dz) := HDC.out V1 hqV1 0 (by omega)
        have c1 : V1.cell? ⟨b, o + k * 6 + 1, none⟩ = some (.slice E.sl E.c E.d) := HDC.out V1 hqV1 1 (by omega)
        have c2 : V1.cell? ⟨b, o + k * 6 + 2, none⟩ = some (.int .i64 E.rx) := HDC.out V1 hqV1 2 (by omega)
        have c3 : V1.cell? ⟨b, o + k * 6 + 3, none⟩ = some (.int .i64 E.ry) := HDC.out V1 hqV1 3 (by omega)
        have c4 : V1.cell? ⟨b, o + k * 6 + 4, none⟩ = some (.bool E.rf) := HDC.out V1 hqV1 4 (by omega)
        have c5 : V1.cell? ⟨b, o + k * 6 + 5, none⟩ = some (.int .i64 E.s) := HDC.out V1 hqV1 5 (by omega)
        have cb : b < V1.heap.size := Nat.lt_of_lt_of_le HBW.out hqV1.size
        have hV : Below V1.heap.size V1 V1 := Below.refl _ _
        go_region_held3 (fun W_ => (b < W_.heap.size ∧ W_.cell? ⟨b, o + k * 6, none⟩ = some (.slice E.sz E.m E.dz) ∧ W_.cell? ⟨b, o + k * 6 + 1, none⟩ = some (.slice E.sl E.c E.d))) (exact dealS (HDC.out) HBW.out (bl_call hqV1 (show Below V1.heap.size V1 _ from by repeat (first | (with_reducible exact Below.refl _ _) | (with_reducible assumption) | (with_reducible refine Below.setCell ?_ (by first | (simp; done) | (simp; omega) | omega) _) | (with_reducible refine Below.alloc ?_ (by first | (simp; done) | (simp; omega) | omega) _) | (refine bl_call ?_ (by assumption) (by first | (simp; done) | (simp; omega) | omega)) | (with_reducible refine bl_drewN ?_) | (with_reducible refine Below.drew ?_) | (with_reducible refine bl_grow ?_ (by first | (simp; done) | (simp; omega) | omega)))) hzV1)) ((go_at_call 17; refine (HX2b.out _ (show Below V1.heap.size V1 _ from by repeat (first | (with_reducible exact Below.refl _ _) | (with_reducible assumption) | (with_reducible refine Below.setCell ?_ (by first | (simp; done) | (simp; omega) | omega) _) | (with_reducible refine Below.alloc ?_ (by first | (simp; done) | (simp; omega) | omega) _) | (refine bl_call ?_ (by assumption) (by first | (simp; done) | (simp; omega) | omega)) | (with_reducible refine bl_drewN ?_) | (with_reducible refine Below.drew ?_) | (with_reducible refine bl_grow ?_ (by first | (simp; done) | (simp; omega) | omega))))).mono ?_; rintro e w1 ⟨rfl, hb1⟩; have hs1 := hb1.size; (try simp at hs1); obtain ⟨hc1, hf1⟩ := bcell hb1))
        all_goals (go_wp2_with fail)
        all_goals go_meet
        all_goals (case rel => exact ⟨_, rfl, rfl, by repeat (first | (with_reducible assumption) | ((with_reducible refine at_new' _ _ _ _ ?_); (first | rfl | (simp; done))) | (with_reducible refine At.alloc ?_ _) | (with_reducible refine At.drew ?_) | (with_reducible refine At.drewN ?_) | (with_reducible refine At.set ?_ (by omega)) | (with_reducible apply At.store4) | (with_reducible apply At.store3) | (with_reducible apply At.store2) | (with_reducible apply At.put43) | (refine At.below ?_ (by with_reducible assumption))), by repeat (first | (with_reducible assumption) | ((with_reducible refine at_new' _ _ _ _ ?_); (first | rfl | (simp; done))) | (with_reducible refine At.alloc ?_ _) | (with_reducible refine At.drew ?_) | (with_reducible refine At.drewN ?_) | (with_reducible refine At.set ?_ (by omega)) | (with_reducible apply At.store4) | (with_reducible apply At.store3) | (with_reducible apply At.store2) | (with_reducible apply At.put43) | (refine At.below ?_ (by with_reducible assumption))), by omega, by repeat (first | (with_reducible exact Below.refl _ _) | (with_reducible assumption) | (with_reducible refine Below.setCell ?_ (by first | (simp; done) | (simp; omega) | omega) _) | (with_reducible refine Below.alloc ?_ (by first | (simp; done) | (simp; omega) | omega) _) | (refine bl_call ?_ (by assumption) (by first | (simp; done) | (simp; omega) | omega)) | (with_reducible refine bl_drewN ?_) | (with_reducible refine Below.drew ?_) | (with_reducible refine bl_grow ?_ (by first | (simp; done) | (simp; omega) | omega)))⟩)
      case rest =>
      rename World => V2
      obtain ⟨b27, rfl, rfl, ksV2, kx27V2, hg27, hrV2⟩ := hcut
      have hqV2 : Below w.heap.size w V2 := bl_call hqV1 hrV2 hzV1
      have hzV2 := hqV2.size
      have hS2 := (HSV.out.below HOK.out hrV1).below HOK.out hrV2
      have HS2 : Hid (Side PB w V2 vb Q p B u v n1 K1 G1) := hS2
      have HD1 : Hid (_) := hd1
      have HD2 : Hid (_) := hd2
      clear hS2 hd1 hd2 HSV HX1 HX2 HX2b hrV1 hqV1 hzV1 hqV hzV kx25V1
      go_upto_region 33 with (first | (go_at_call 7; clear m11; refine (same_below _ _ _ IE1.out (HD.out.under hqV2)).mono ?_; rintro e w3 ⟨rfl, hb3⟩; have hq3 : Below w.heap.size w w3 := bl_call hqV2 hb3 hzV2; have hz3 := hq3.size; have HS3 : Hid (Side PB w w3 vb Q p B u v n1 K1 G1) := HS2.out.below HOK.out hb3; have ksw3 : At w3 b25 [.int .i64 X.1, .int .i64 X.2.1, .bool X.2.2] := ksV2.below hb3; have ktw3 : At w3 b27 [.int .i64 X.1, .int .i64 X.2.1, .bool X.2.2] := kx27V2.below hb3; obtain ⟨zsw3, cs0w3, cs1w3, cs2w3, fs0w3, fs1w3, fs2w3⟩ := ksw3.three; obtain ⟨ztw3, ct0w3, ct1w3, ct2w3, ft0w3, ft1w3, ft2w3⟩ := ktw3.three; have d0 : w3.cell? ⟨b, o + k * 6, none⟩ = some (.slice E.sz E.m E.dz) := HDC.out w3 hq3 0 (by omega); have d1 : w3.cell? ⟨b, o + k * 6 + 1, none⟩ = some (.slice E.sl E.c E.d) := HDC.out w3 hq3 1 (by omega); have d2 : w3.cell? ⟨b, o + k * 6 + 2, none⟩ = some (.int .i64 E.rx) := HDC.out w3 hq3 2 (by omega); have d3 : w3.cell? ⟨b, o + k * 6 + 3, none⟩ = some (.int .i64 E.ry) := HDC.out w3 hq3 3 (by omega); have d4 : w3.cell? ⟨b, o + k * 6 + 4, none⟩ = some (.bool E.rf) := HDC.out w3 hq3 4 (by omega); have d5 : w3.cell? ⟨b, o + k * 6 + 5, none⟩ = some (.int .i64 E.s) := HDC.out w3 hq3 5 (by omega); have db : b < w3.heap.size := Nat.lt_of_lt_of_le HBW.out hq3.size; clear hb3) | (go_at_call 18; clear m12; refine (HD1.out _ hq3 HS3.out.two).mono ?_; rintro e w4 ⟨rfl, hd4⟩; have hq4 : Below w.heap.size w w4 := done_under hq3 HS3.out.two HS3.out.b hd4; have hz4 := hq4.size; have HM4 : Hid (PB w4 vb Q n1 K1 G1) := side_mid HOK.out HS3.out hd4; have HF4 : Hid _ := hd4; clear hd4; have f0 : w4.cell? ⟨b, o + k * 6, none⟩ = some (.slice E.sz E.m E.dz) := HDC.out w4 hq4 0 (by omega); have f1 : w4.cell? ⟨b, o + k * 6 + 1, none⟩ = some (.slice E.sl E.c E.d) := HDC.out w4 hq4 1 (by omega); have f2 : w4.cell? ⟨b, o + k * 6 + 2, none⟩ = some (.int .i64 E.rx) := HDC.out w4 hq4 2 (by omega); have f3 : w4.cell? ⟨b, o + k * 6 + 3, none⟩ = some (.int .i64 E.ry) := HDC.out w4 hq4 3 (by omega); have f4 : w4.cell? ⟨b, o + k * 6 + 4, none⟩ = some (.bool E.rf) := HDC.out w4 hq4 4 (by omega); have f5 : w4.cell? ⟨b, o + k * 6 + 5, none⟩ = some (.int .i64 E.s) := HDC.out w4 hq4 5 (by omega); have fb : b < w4.heap.size := Nat.lt_of_lt_of_le HBW.out hq4.size) | (go_at_call 19; clear m13; refine (HD2.out _ hq4 HM4.out).mono ?_; rintro e w5 ⟨rfl, hd5⟩; have hq5 : Below w.heap.size w w5 := pbdone_under hq4 HS3.out.q hd5; have hz5 := hq5.size; have HE5 : Hid (∃ Q' u' v', Side PB w w5 vb Q' p B u' v' n2 K2 G2) := side_next HOK.out HS3.out hz3 hn2 HF4.out hd5; clear hd5) | (go_at_call 7; clear m14; refine (same_below _ _ _ IE2.out (HD.out.under hq5)).mono ?_; rintro e w6 ⟨rfl, hb6⟩; have hq6 : Below w.heap.size w w6 := bl_call hq5 hb6 hz5; have hz6 := hq6.size))
      obtain ⟨Q5, u5, v5, hS5⟩ := HE5.out
      have hS6 := hS5.below HOK.out hb6
      clear hS5 hb6 HE5 HF4 HM4 HS3 HS2 HD1 HD2 hq5 hz5 hq4 hz4 hq3 hz3 ksw3 cs0w3 fs0w3 cs1w3 fs1w3 cs2w3 fs2w3 ktw3 ct0w3 ft0w3 ct1w3 ft1w3 ct2w3 ft2w3 d0 f0 d1 f1 d2 f2 d3 f3 d4 f4 d5 f5
      refine wp_gen (fun O_ => Side PB w O_ vb Q5 p B u5 v5 n2 K2 G2 ∧ Below w.heap.size w O_) ⟨hS6, hq6⟩ ?_
      rintro O ⟨hSO, hqO⟩
      clear hS6 hq6 hz6
      have hzO := hqO.size
      obtain ⟨su, cu, sv, cv, rfl, rfl, _⟩ := hSO.two.slices
      have kpO := hSO.two.cells
      have HSO : Hid (Side PB w O vb Q5 p B (.slice su n2 cu) (.slice sv n2 cv) n2 K2 G2) := hSO
      clear hSO
      obtain ⟨zpO, cp0O, cp1O, fp0O, fp1O⟩ := kpO.two
      have hOO : Below O.heap.size O O := Below.refl _ _
      have HL1 : Hid (∀ W, Below O.heap.size O W → Calls Tryz.prog 21 #[vb] W fun ex w' => ∃ q, ex = .returned q ∧ w'.ownsRow W.heap.size 3 1 q (lvL G2 n2).length (lvC G2 n2) ∧ Below W.heap.size W w') := fun W hW => HLV.out vb Q5 n2 K2 G2 W hn2 (HSO.out.below HOK.out hW).one
      have HL2 : Hid (∀ W, Below O.heap.size O W → Calls Tryz.prog 22 #[.pointer (some ⟨p, 0, none⟩)] W fun ex w' => ∃ q, ex = .returned q ∧ w'.ownsRow W.heap.size 3 1 q (lvL G2 n2).length (lvC G2 n2) ∧ Below W.heap.size W w') := fun W hW => rlive B p n2 _ _ K2 G2 W (by omega) (HSO.out.below HOK.out hW).two
      have HL3 : Hid (∀ W, Below O.heap.size O W → Calls Tryz.prog 24 #[vb] W fun ex w' => ∃ q, ex = .returned q ∧ w'.ownsRow W.heap.size 25 3 q n2 (cellsK K2 n2) ∧ Below W.heap.size W w') := fun W hW => HCN.out vb Q5 n2 K2 G2 W hn2 (HSO.out.below HOK.out hW).one
      have HL4 : Hid (∀ W, Below O.heap.size O W → Calls Tryz.prog 25 #[vb] W fun ex w' => ex = .returned (.agg #[.int .i64 ((tM (4 * ttN K2 G2 n2)).1 : Int), .int .i64 ((tM (4 * ttN K2 G2 n2)).2.1 : Int), .bool (tM (4 * ttN K2 G2 n2)).2.2]) ∧ Below W.heap.size W w') := fun W hW => HTT.out vb Q5 n2 K2 G2 W hn2 (HSO.out.below HOK.out hW).one
      have HL5 : Hid (∀ W, Below O.heap.size O W → Calls Tryz.prog 26 #[.pointer (some ⟨p, 0, none⟩)] W fun ex w' => ex = .returned (.agg #[.int .i64 ((tM (4 * ttN K2 G2 n2)).1 : Int), .int .i64 ((tM (4 * ttN K2 G2 n2)).2.1 : Int), .bool (tM (4 * ttN K2 G2 n2)).2.2]) ∧ Below W.heap.size W w') := fun W hW => rtotal B p n2 _ _ K2 G2 W (by omega) (HSO.out.below HOK.out hW).two
      go_region_held3 (fun W => ((p) < W.heap.size ∧ W.cell? ⟨p, 0, none⟩ = some (.slice su n2 cu) ∧ W.cell? ⟨p, 1, none⟩ = some (.slice sv n2 cv) ∧ W.frozen? ⟨p, 0, none⟩ = false ∧ W.frozen? ⟨p, 1, none⟩ = false)) (exact At.two (by repeat (first | (with_reducible assumption) | ((with_reducible refine at_new' _ _ _ _ ?_); (first | rfl | (simp; done))) | (with_reducible refine At.alloc ?_ _) | (with_reducible refine At.drew ?_) | (with_reducible refine At.drewN ?_) | (with_reducible refine At.set ?_ (by omega)) | (with_reducible apply At.store4) | (with_reducible apply At.store3) | (with_reducible apply At.store2) | (with_reducible apply At.put43) | (refine At.below ?_ (by with_reducible assumption))))) (first | (go_at_call 21; refine (HL1.out _ (show Below O.heap.size O _ from by repeat (first | (with_reducible exact Below.refl _ _) | (with_reducible assumption) | (with_reducible refine Below.setCell ?_ (by first | (simp; done) | (simp; omega) | omega) _) | (with_reducible refine Below.alloc ?_ (by first | (simp; done) | (simp; omega) | omega) _) | (refine bl_call ?_ (by assumption) (by first | (simp; done) | (simp; omega) | omega)) | (with_reducible refine bl_drewN ?_) | (with_reducible refine Below.drew ?_) | (with_reducible refine bl_grow ?_ (by first | (simp; done) | (simp; omega) | omega))))).mono ?_; rintro e o1 ⟨q1, rfl, hw1, ho1b⟩; have hr1 : Below O.heap.size O o1 := (by repeat (first | (with_reducible exact Below.refl _ _) | (with_reducible assumption) | (with_reducible refine Below.setCell ?_ (by first | (simp; done) | (simp; omega) | omega) _) | (with_reducible refine Below.alloc ?_ (by first | (simp; done) | (simp; omega) | omega) _) | (refine bl_call ?_ (by assumption) (by first | (simp; done) | (simp; omega) | omega)) | (with_reducible refine bl_drewN ?_) | (with_reducible refine Below.drew ?_) | (with_reducible refine bl_grow ?_ (by first | (simp; done) | (simp; omega) | omega)))); have hr1z := hr1.size; have hw1c := hw1) | (go_at_call 22; refine (HL2.out _ (show Below O.heap.size O _ from by repeat (first | (with_reducible exact Below.refl _ _) | (with_reducible assumption) | (with_reducible refine Below.setCell ?_ (by first | (simp; done) | (simp; omega) | omega) _) | (with_reducible refine Below.alloc ?_ (by first | (simp; done) | (simp; omega) | omega) _) | (refine bl_call ?_ (by assumption) (by first | (simp; done) | (simp; omega) | omega)) | (with_reducible refine bl_drewN ?_) | (with_reducible refine Below.drew ?_) | (with_reducible refine bl_grow ?_ (by first | (simp; done) | (simp; omega) | omega))))).mono ?_; rintro e o2 ⟨q2, rfl, hw2, ho2b⟩; have hr2 : Below O.heap.size O o2 := (by repeat (first | (with_reducible exact Below.refl _ _) | (with_reducible assumption) | (with_reducible refine Below.setCell ?_ (by first | (simp; done) | (simp; omega) | omega) _) | (with_reducible refine Below.alloc ?_ (by first | (simp; done) | (simp; omega) | omega) _) | (refine bl_call ?_ (by assumption) (by first | (simp; done) | (simp; omega) | omega)) | (with_reducible refine bl_drewN ?_) | (with_reducible refine Below.drew ?_) | (with_reducible refine bl_grow ?_ (by first | (simp; done) | (simp; omega) | omega)))); have hr2z := hr2.size; have hw1d := own_stay hw1c (show Below o1.heap.size o1 o2 from ho2b)) | (go_at_call 20; refine (ints_own hn2 hw1d hw2).mono ?_; rintro e o3 ⟨rfl, ho3b⟩; have hr3 : Below O.heap.size O o3 := bl_call hr2 ho3b (by omega); have hr3z := hr3.size) | (go_at_call 24; refine (HL3.out _ (show Below O.heap.size O _ from by repeat (first | (with_reducible exact Below.refl _ _) | (with_reducible assumption) | (with_reducible refine Below.setCell ?_ (by first | (simp; done) | (simp; omega) | omega) _) | (with_reducible refine Below.alloc ?_ (by first | (simp; done) | (simp; omega) | omega) _) | (refine bl_call ?_ (by assumption) (by first | (simp; done) | (simp; omega) | omega)) | (with_reducible refine bl_drewN ?_) | (with_reducible refine Below.drew ?_) | (with_reducible refine bl_grow ?_ (by first | (simp; done) | (simp; omega) | omega))))).mono ?_; rintro e o4 ⟨q4, rfl, hw4, ho4b⟩; have hr4 : Below O.heap.size O o4 := (by repeat (first | (with_reducible exact Below.refl _ _) | (with_reducible assumption) | (with_reducible refine Below.setCell ?_ (by first | (simp; done) | (simp; omega) | omega) _) | (with_reducible refine Below.alloc ?_ (by first | (simp; done) | (simp; omega) | omega) _) | (refine bl_call ?_ (by assumption) (by first | (simp; done) | (simp; omega) | omega)) | (with_reducible refine bl_drewN ?_) | (with_reducible refine Below.drew ?_) | (with_reducible refine bl_grow ?_ (by first | (simp; done) | (simp; omega) | omega)))); have hr4z := hr4.size; obtain ⟨zp4, cp04, cp14, fp04, fp14⟩ := (kpO.below hr4).two) | (go_at_call 23; refine (spots_own hn2 hw4 (HSO.out.two.below hr4).coins).mono ?_; rintro e o5 ⟨rfl, ho5b⟩; have hr5 : Below O.heap.size O o5 := bl_call hr4 ho5b (by omega); have hr5z := hr5.size) | (go_at_call 25; refine (HL4.out _ (show Below O.heap.size O _ from by repeat (first | (with_reducible exact Below.refl _ _) | (with_reducible assumption) | (with_reducible refine Below.setCell ?_ (by first | (simp; done) | (simp; omega) | omega) _) | (with_reducible refine Below.alloc ?_ (by first | (simp; done) | (simp; omega) | omega) _) | (refine bl_call ?_ (by assumption) (by first | (simp; done) | (simp; omega) | omega)) | (with_reducible refine bl_drewN ?_) | (with_reducible refine Below.drew ?_) | (with_reducible refine bl_grow ?_ (by first | (simp; done) | (simp; omega) | omega))))).mono ?_; rintro e o6 ⟨rfl, ho6b⟩; have hr6 : Below O.heap.size O o6 := (by repeat (first | (with_reducible exact Below.refl _ _) | (with_reducible assumption) | (with_reducible refine Below.setCell ?_ (by first | (simp; done) | (simp; omega) | omega) _) | (with_reducible refine Below.alloc ?_ (by first | (simp; done) | (simp; omega) | omega) _) | (refine bl_call ?_ (by assumption) (by first | (simp; done) | (simp; omega) | omega)) | (with_reducible refine bl_drewN ?_) | (with_reducible refine Below.drew ?_) | (with_reducible refine bl_grow ?_ (by first | (simp; done) | (simp; omega) | omega)))); have hr6z := hr6.size; ) | (go_at_call 26; refine (HL5.out _ (show Below O.heap.size O _ from by repeat (first | (with_reducible exact Below.refl _ _) | (with_reducible assumption) | (with_reducible refine Below.setCell ?_ (by first | (simp; done) | (simp; omega) | omega) _) | (with_reducible refine Below.alloc ?_ (by first | (simp; done) | (simp; omega) | omega) _) | (refine bl_call ?_ (by assumption) (by first | (simp; done) | (simp; omega) | omega)) | (with_reducible refine bl_drewN ?_) | (with_reducible refine Below.drew ?_) | (with_reducible refine bl_grow ?_ (by first | (simp; done) | (simp; omega) | omega))))).mono ?_; rintro e o7 ⟨rfl, ho7b⟩; have hr7 : Below O.heap.size O o7 := (by repeat (first | (with_reducible exact Below.refl _ _) | (with_reducible assumption) | (with_reducible refine Below.setCell ?_ (by first | (simp; done) | (simp; omega) | omega) _) | (with_reducible refine Below.alloc ?_ (by first | (simp; done) | (simp; omega) | omega) _) | (refine bl_call ?_ (by assumption) (by first | (simp; done) | (simp; omega) | omega)) | (with_reducible refine bl_drewN ?_) | (with_reducible refine Below.drew ?_) | (with_reducible refine bl_grow ?_ (by first | (simp; done) | (simp; omega) | omega)))); have hr7z := hr7.size; ))
      all_goals (rename_i hheld; clear hheld)
      all_goals (refine ethen_gen2 (fun O2 => Sides PB w O2 vb p ∧ Below w.heap.size w O2) ⟨⟨_, _, _, _, _, _, _, HSO.out.below HOK.out (show Below O.heap.size O _ from by repeat (first | (with_reducible exact Below.refl _ _) | (with_reducible assumption) | (with_reducible refine Below.setCell ?_ (by first | (simp; done) | (simp; omega) | omega) _) | (with_reducible refine Below.alloc ?_ (by first | (simp; done) | (simp; omega) | omega) _) | (refine bl_call ?_ (by assumption) (by first | (simp; done) | (simp; omega) | omega)) | (with_reducible refine bl_drewN ?_) | (with_reducible refine Below.drew ?_) | (with_reducible refine bl_grow ?_ (by first | (simp; done) | (simp; omega) | omega))))⟩, bl_call hqO (show Below O.heap.size O _ from by repeat (first | (with_reducible exact Below.refl _ _) | (with_reducible assumption) | (with_reducible refine Below.setCell ?_ (by first | (simp; done) | (simp; omega) | omega) _) | (with_reducible refine Below.alloc ?_ (by first | (simp; done) | (simp; omega) | omega) _) | (refine bl_call ?_ (by assumption) (by first | (simp; done) | (simp; omega) | omega)) | (with_reducible refine bl_drewN ?_) | (with_reducible refine Below.drew ?_) | (with_reducible refine bl_grow ?_ (by first | (simp; done) | (simp; omega) | omega)))) hzO⟩ ?_)
      all_goals (rintro O2 ⟨hs2, hq2⟩)
      all_goals (have HS2 : Hid (Sides PB w O2 vb p) := hs2; clear hs2)
      all_goals (go_wp2_with fail)
      all_goals go_roundw
      all_goals (first | (case rel => (exact ⟨k + 1, by omega, by omega, by simp, HS2.out, hq2⟩)) | (case measure => (simp [intOf]; omega)))
    · have hlt' : ¬ ((k : Int) < L ∧ (k : Int) < 20) := by omega
      by_cases h1 : (k : Int) < L
      · have h2 : ¬ (k : Int) < 20 := by omega
        go_wp2_with fail
        go_ret
        exact ⟨rfl, hqV⟩
      · go_wp2_with fail
        go_ret
        exact ⟨rfl, hqV⟩
end Go.Proofs.YtlbdcgnhmkjfiajGreatDoor
/- BookPlaysN -/
namespace Go.Proofs.YtlbdcgnhmkjfiajGreatDoor
open Go.RowKit Go.Sort
set_option linter.unusedVariables false
set_option linter.unusedSimpArgs false
set_option maxRecDepth 100000 in
set_option maxHeartbeats 16000000 in
theorem bplays_no (r k ax ay ux uy hx hy e0 e1 nb c wS : Int) (af uf hf x y c1 : Bool) (v1 v2 : Value) (n d L ca : Nat) (sl sa : Option Addr) (w : World) (hd : Door w) (q : Int)
    (T1 : (toldI v1 == e0) = true) (T2 : (toldI v2 == e1) = true) (T3 : (toldI (errOf q) == q) = true) (z1 : (q == 0) = false)
    (hHSP : ∀ w, Calls Tryz.prog 4 #[.agg #[.int .i64 ax, .int .i64 ay, .bool af]] w fun ex w' => ex = .returned (.int .i64 e0) ∧ Below w.heap.size w w')
    (hHBA : (e0 == 0) = true → ∀ w, Calls Tryz.prog 5 #[.agg #[.int .i64 ax, .int .i64 ay, .bool af], .agg #[.int .i64 ax, .int .i64 ay, .bool af]] w fun ex w' => ex = .returned (.int .i64 nb) ∧ Below w.heap.size w w')
    (hHBA0 : (e0 == 0) = false → nb = 0)
    (hHAS : ∀ w, Calls Tryz.prog 6 #[.agg #[.int .i64 ax, .int .i64 ay, .bool af], .agg #[.int .i64 ax, .int .i64 ay, .bool af]] w fun ex w' => ex = .returned (.tuple #[.int .i64 nb, v1]) ∧ Below w.heap.size w w')
    (hI1 : IsErr v1)
    (hHRE : ∀ w, Calls Tryz.prog 8 #[.int .i64 r] w fun ex w' => ex = .returned (.bool x) ∧ Below w.heap.size w w')
    (hHSE : ∀ w, Calls Tryz.prog 9 #[.int .i64 k] w fun ex w' => ex = .returned (.bool y) ∧ Below w.heap.size w w')
    (hHC : (!x || !y) = c1)
    (hC1f : c1 = false → e1 = e0)
    (hC1t : c1 = true → e1 = 1)
    (hHQ : (e1 == 0) = true → (∀ w, Calls Tryz.prog 11 #[] w fun ex w' => ex = .returned (.agg #[.int .i64 hx, .int .i64 hy, .bool hf]) ∧ Below w.heap.size w w') ∧ (∀ w, Calls Tryz.prog 10 #[.agg #[.int .i64 hx, .int .i64 hy, .bool hf], .int .i64 k] w fun ex w' => ex = .returned (.agg #[.int .i64 ux, .int .i64 uy, .bool uf]) ∧ Below w.heap.size w w') ∧ (∀ w, Calls Tryz.prog 5 #[.agg #[.int .i64 ux, .int .i64 uy, .bool uf], .agg #[.int .i64 ax, .int .i64 ay, .bool af]] w fun ex w' => ex = .returned (.int .i64 c) ∧ Below w.heap.size w w') ∧ (k + c * r) % 1013 = wS ∧ 0 ≤ k ∧ k < 1013 ∧ 0 ≤ c * r ∧ c * r ≤ 1100000)
    (hHQ0 : (e1 == 0) = false → ux = 0 ∧ uy = 0 ∧ uf = false ∧ wS = 0)
    (hHCL : ∀ w, Calls Tryz.prog 12 #[.int .i64 r, .int .i64 k, .agg #[.int .i64 ax, .int .i64 ay, .bool af]] w fun ex w' => ex = .returned (.tuple #[.agg #[.int .i64 ux, .int .i64 uy, .bool uf, .int .i64 wS], v2]) ∧ Below w.heap.size w w')
    (hI2 : IsErr v2)
    (hHCO : ∀ W, Below w.heap.size w W → Calls Tryz.prog 13 #[.slice sl n d] W fun ex w' => ex = .returned (.int .i64 q) ∧ Below W.heap.size W w')
    (hHNW : ∀ W, Below w.heap.size w W → Calls Tryz.prog 14 #[.slice sl n d] W fun ex w' => ex = .returned (.tuple #[.pointer none, errOf q]) ∧ Below W.heap.size W w')
    : Calls Tryz.prog 3 #[.slice sl n d, .slice sa L ca, .int .i64 r, .int .i64 k, .agg #[.int .i64 ax, .int .i64 ay, .bool af]] w fun e w' => e = .returned (.bool true) ∧ Below w.heap.size w w' := by
  have HD : Hid (Door w) := hd
  have HSP : Hid (∀ w, Calls Tryz.prog 4 #[.agg #[.int .i64 ax, .int .i64 ay, .bool af]] w fun ex w' => ex = .returned (.int .i64 e0) ∧ Below w.heap.size w w') := hHSP
  have HBA : Hid ((e0 == 0) = true → ∀ w, Calls Tryz.prog 5 #[.agg #[.int .i64 ax, .int .i64 ay, .bool af], .agg #[.int .i64 ax, .int .i64 ay, .bool af]] w fun ex w' => ex = .returned (.int .i64 nb) ∧ Below w.heap.size w w') := hHBA
  have HBA0 : Hid ((e0 == 0) = false → nb = 0) := hHBA0
  have HAS : Hid (∀ w, Calls Tryz.prog 6 #[.agg #[.int .i64 ax, .int .i64 ay, .bool af], .agg #[.int .i64 ax, .int .i64 ay, .bool af]] w fun ex w' => ex = .returned (.tuple #[.int .i64 nb, v1]) ∧ Below w.heap.size w w') := hHAS
  have I1 : Hid (IsErr v1) := hI1
  have HRE : Hid (∀ w, Calls Tryz.prog 8 #[.int .i64 r] w fun ex w' => ex = .returned (.bool x) ∧ Below w.heap.size w w') := hHRE
  have HSE : Hid (∀ w, Calls Tryz.prog 9 #[.int .i64 k] w fun ex w' => ex = .returned (.bool y) ∧ Below w.heap.size w w') := hHSE
  have HC : Hid ((!x || !y) = c1) := hHC
  have C1f : Hid (c1 = false → e1 = e0) := hC1f
  have C1t : Hid (c1 = true → e1 = 1) := hC1t
  have HQ : Hid ((e1 == 0) = true → (∀ w, Calls Tryz.prog 11 #[] w fun ex w' => ex = .returned (.agg #[.int .i64 hx, .int .i64 hy, .bool hf]) ∧ Below w.heap.size w w') ∧ (∀ w, Calls Tryz.prog 10 #[.agg #[.int .i64 hx, .int .i64 hy, .bool hf], .int .i64 k] w fun ex w' => ex = .returned (.agg #[.int .i64 ux, .int .i64 uy, .bool uf]) ∧ Below w.heap.size w w') ∧ (∀ w, Calls Tryz.prog 5 #[.agg #[.int .i64 ux, .int .i64 uy, .bool uf], .agg #[.int .i64 ax, .int .i64 ay, .bool af]] w fun ex w' => ex = .returned (.int .i64 c) ∧ Below w.heap.size w w') ∧ (k + c * r) % 1013 = wS ∧ 0 ≤ k ∧ k < 1013 ∧ 0 ≤ c * r ∧ c * r ≤ 1100000) := hHQ
  have HQ0 : Hid ((e1 == 0) = false → ux = 0 ∧ uy = 0 ∧ uf = false ∧ wS = 0) := hHQ0
  have HCL : Hid (∀ w, Calls Tryz.prog 12 #[.int .i64 r, .int .i64 k, .agg #[.int .i64 ax, .int .i64 ay, .bool af]] w fun ex w' => ex = .returned (.tuple #[.agg #[.int .i64 ux, .int .i64 uy, .bool uf, .int .i64 wS], v2]) ∧ Below w.heap.size w w') := hHCL
  have I2 : Hid (IsErr v2) := hI2
  have HCO : Hid (∀ W, Below w.heap.size w W → Calls Tryz.prog 13 #[.slice sl n d] W fun ex w' => ex = .returned (.int .i64 q) ∧ Below W.heap.size W w') := hHCO
  have HNW : Hid (∀ W, Below w.heap.size w W → Calls Tryz.prog 14 #[.slice sl n d] W fun ex w' => ex = .returned (.tuple #[.pointer none, errOf q]) ∧ Below W.heap.size W w') := hHNW
  have z2 : (q != 0) = true := by rw [bne, z1]; rfl
  clear hd hHSP hHBA hHBA0 hHAS hI1 hHRE hHSE hHC hC1f hC1t hHQ hHQ0 hHCL hI2 hHCO hHNW
  have m1 : True := trivial; have m2 : True := trivial; have m3 : True := trivial; have m4 : True := trivial; have m5 : True := trivial; have m6 : True := trivial; have m7 : True := trivial; have m8 : True := trivial; have m9 : True := trivial; have m10 : True := trivial; have m11 : True := trivial; have m12 : True := trivial; have m13 : True := trivial; have m14 : True := trivial
  go_enter Tryz.func3, Tryz.ntmps3
  go_upto_if 32 with (first | (go_at_call 4; clear m1; refine (HSP.out _).mono ?_; rintro e w1 ⟨rfl, hbw1⟩; have kaw1 : At w1 (w.heap.size) [.int .i64 ax, .int .i64 ay, .bool af] := (by repeat (first | (with_reducible assumption) | ((with_reducible refine at_new' _ _ _ _ ?_); (first | rfl | (simp; done))) | (with_reducible refine At.alloc ?_ _) | (with_reducible refine At.drew ?_) | (with_reducible refine At.drewN ?_) | (with_reducible refine At.set ?_ (by omega)) | (with_reducible apply At.store4) | (with_reducible apply At.store3) | (with_reducible apply At.store2) | (with_reducible apply At.put43) | (refine At.below ?_ (by with_reducible assumption)))); have hqw1 : Below w.heap.size w w1 := (by repeat (first | (with_reducible exact Below.refl _ _) | (with_reducible assumption) | (with_reducible refine Below.setCell ?_ (by first | (simp; done) | (simp; omega) | omega) _) | (with_reducible refine Below.alloc ?_ (by first | (simp; done) | (simp; omega) | omega) _) | (refine bl_call ?_ (by assumption) (by first | (simp; done) | (simp; omega) | omega)) | (with_reducible refine bl_drewN ?_) | (with_reducible refine Below.drew ?_) | (with_reducible refine bl_grow ?_ (by first | (simp; done) | (simp; omega) | omega)))); have hzw1 := hqw1.size; obtain ⟨zaw1, ca0w1, ca1w1, ca2w1, fa0w1, fa1w1, fa2w1⟩ := kaw1.three; clear hbw1))
  go_cut [12] from 29 to 35 (fun t_ wx_ => t_ = .int .i64 nb ∧ At wx_ (w.heap.size) [.int .i64 ax, .int .i64 ay, .bool af] ∧ Below w.heap.size w wx_)
  case first => as_aux_lemma =>
    cases he : e0 == 0 with
    | false =>
      have hx : Hid (nb = 0) := HBA0.out he
      go_wp2_with fail
      go_meet
      case rel => exact ⟨by rw [hx.out], by repeat (first | (with_reducible assumption) | ((with_reducible refine at_new' _ _ _ _ ?_); (first | rfl | (simp; done))) | (with_reducible refine At.alloc ?_ _) | (with_reducible refine At.drew ?_) | (with_reducible refine At.drewN ?_) | (with_reducible refine At.set ?_ (by omega)) | (with_reducible apply At.store4) | (with_reducible apply At.store3) | (with_reducible apply At.store2) | (with_reducible apply At.put43) | (refine At.below ?_ (by with_reducible assumption))), by repeat (first | (with_reducible exact Below.refl _ _) | (with_reducible assumption) | (with_reducible refine Below.setCell ?_ (by first | (simp; done) | (simp; omega) | omega) _) | (with_reducible refine Below.alloc ?_ (by first | (simp; done) | (simp; omega) | omega) _) | (refine bl_call ?_ (by assumption) (by first | (simp; done) | (simp; omega) | omega)) | (with_reducible refine bl_drewN ?_) | (with_reducible refine Below.drew ?_) | (with_reducible refine bl_grow ?_ (by first | (simp; done) | (simp; omega) | omega)))⟩
    | true =>
      have HBB : Hid (∀ w, Calls Tryz.prog 5 #[.agg #[.int .i64 ax, .int .i64 ay, .bool af], .agg #[.int .i64 ax, .int .i64 ay, .bool af]] w fun ex w' => ex = .returned (.int .i64 nb) ∧ Below w.heap.size w w') := HBA.out he
      go_wp2_with (go_at_call 5; clear m2; refine (HBB.out _).mono ?_; rintro e v1_ ⟨rfl, hbv1_⟩; have kav1_ : At v1_ (w.heap.size) [.int .i64 ax, .int .i64 ay, .bool af] := (by repeat (first | (with_reducible assumption) | ((with_reducible refine at_new' _ _ _ _ ?_); (first | rfl | (simp; done))) | (with_reducible refine At.alloc ?_ _) | (with_reducible refine At.drew ?_) | (with_reducible refine At.drewN ?_) | (with_reducible refine At.set ?_ (by omega)) | (with_reducible apply At.store4) | (with_reducible apply At.store3) | (with_reducible apply At.store2) | (with_reducible apply At.put43) | (refine At.below ?_ (by with_reducible assumption)))); have hqv1_ : Below w.heap.size w v1_ := (by repeat (first | (with_reducible exact Below.refl _ _) | (with_reducible assumption) | (with_reducible refine Below.setCell ?_ (by first | (simp; done) | (simp; omega) | omega) _) | (with_reducible refine Below.alloc ?_ (by first | (simp; done) | (simp; omega) | omega) _) | (refine bl_call ?_ (by assumption) (by first | (simp; done) | (simp; omega) | omega)) | (with_reducible refine bl_drewN ?_) | (with_reducible refine Below.drew ?_) | (with_reducible refine bl_grow ?_ (by first | (simp; done) | (simp; omega) | omega)))); have hzv1_ := hqv1_.size; obtain ⟨zav1_, ca0v1_, ca1v1_, ca2v1_, fa0v1_, fa1v1_, fa2v1_⟩ := kav1_.three; clear kaw1 ca0w1 fa0w1 ca1w1 fa1w1 ca2w1 fa2w1 hqw1; clear hbv1_)
      go_meet
      case rel => exact ⟨rfl, by repeat (first | (with_reducible assumption) | ((with_reducible refine at_new' _ _ _ _ ?_); (first | rfl | (simp; done))) | (with_reducible refine At.alloc ?_ _) | (with_reducible refine At.drew ?_) | (with_reducible refine At.drewN ?_) | (with_reducible refine At.set ?_ (by omega)) | (with_reducible apply At.store4) | (with_reducible apply At.store3) | (with_reducible apply At.store2) | (with_reducible apply At.put43) | (refine At.below ?_ (by with_reducible assumption))), by repeat (first | (with_reducible exact Below.refl _ _) | (with_reducible assumption) | (with_reducible refine Below.setCell ?_ (by first | (simp; done) | (simp; omega) | omega) _) | (with_reducible refine Below.alloc ?_ (by first | (simp; done) | (simp; omega) | omega) _) | (refine bl_call ?_ (by assumption) (by first | (simp; done) | (simp; omega) | omega)) | (with_reducible refine bl_drewN ?_) | (with_reducible refine Below.drew ?_) | (with_reducible refine bl_grow ?_ (by first | (simp; done) | (simp; omega) | omega)))⟩
  case rest =>
  clear kaw1 ca0w1 fa0w1 ca1w1 fa1w1 ca2w1 fa2w1 hqw1
  rename World => y1
  obtain ⟨rfl, kay1, hqy1⟩ := hcut
  have hzy1 := hqy1.size
  obtain ⟨zay1, ca0y1, ca1y1, ca2y1, fa0y1, fa1y1, fa2y1⟩ := kay1.three
  go_upto_region 9 with (first | (go_at_call 6; clear m3; refine (HAS.out _).mono ?_; rintro e w2 ⟨rfl, hbw2⟩; have kaw2 : At w2 (w.heap.size) [.int .i64 ax, .int .i64 ay, .bool af] := (by repeat (first | (with_reducible assumption) | ((with_reducible refine at_new' _ _ _ _ ?_); (first | rfl | (simp; done))) | (with_reducible refine At.alloc ?_ _) | (with_reducible refine At.drew ?_) | (with_reducible refine At.drewN ?_) | (with_reducible refine At.set ?_ (by omega)) | (with_reducible apply At.store4) | (with_reducible apply At.store3) | (with_reducible apply At.store2) | (with_reducible apply At.put43) | (refine At.below ?_ (by with_reducible assumption)))); have hqw2 : Below w.heap.size w w2 := (by repeat (first | (with_reducible exact Below.refl _ _) | (with_reducible assumption) | (with_reducible refine Below.setCell ?_ (by first | (simp; done) | (simp; omega) | omega) _) | (with_reducible refine Below.alloc ?_ (by first | (simp; done) | (simp; omega) | omega) _) | (refine bl_call ?_ (by assumption) (by first | (simp; done) | (simp; omega) | omega)) | (with_reducible refine bl_drewN ?_) | (with_reducible refine Below.drew ?_) | (with_reducible refine bl_grow ?_ (by first | (simp; done) | (simp; omega) | omega)))); have hzw2 := hqw2.size; obtain ⟨zaw2, ca0w2, ca1w2, ca2w2, fa0w2, fa1w2, fa2w2⟩ := kaw2.three; clear kay1 ca0y1 fa0y1 ca1y1 fa1y1 ca2y1 fa2y1 hqy1; clear hbw2) | (go_at_call 7; clear m4; refine (same_below _ _ _ (I1.out) (HD.out.under (by repeat (first | (with_reducible exact Below.refl _ _) | (with_reducible assumption) | (with_reducible refine Below.setCell ?_ (by first | (simp; done) | (simp; omega) | omega) _) | (with_reducible refine Below.alloc ?_ (by first | (simp; done) | (simp; omega) | omega) _) | (refine bl_call ?_ (by assumption) (by first | (simp; done) | (simp; omega) | omega)) | (with_reducible refine bl_drewN ?_) | (with_reducible refine Below.drew ?_) | (with_reducible refine bl_grow ?_ (by first | (simp; done) | (simp; omega) | omega)))))).mono ?_; rintro e w3 ⟨rfl, hbw3⟩; have kaw3 : At w3 (w.heap.size) [.int .i64 ax, .int .i64 ay, .bool af] := (by repeat (first | (with_reducible assumption) | ((with_reducible refine at_new' _ _ _ _ ?_); (first | rfl | (simp; done))) | (with_reducible refine At.alloc ?_ _) | (with_reducible refine At.drew ?_) | (with_reducible refine At.drewN ?_) | (with_reducible refine At.set ?_ (by omega)) | (with_reducible apply At.store4) | (with_reducible apply At.store3) | (with_reducible apply At.store2) | (with_reducible apply At.put43) | (refine At.below ?_ (by with_reducible assumption)))); have hqw3 : Below w.heap.size w w3 := (by repeat (first | (with_reducible exact Below.refl _ _) | (with_reducible assumption) | (with_reducible refine Below.setCell ?_ (by first | (simp; done) | (simp; omega) | omega) _) | (with_reducible refine Below.alloc ?_ (by first | (simp; done) | (simp; omega) | omega) _) | (refine bl_call ?_ (by assumption) (by first | (simp; done) | (simp; omega) | omega)) | (with_reducible refine bl_drewN ?_) | (with_reducible refine Below.drew ?_) | (with_reducible refine bl_grow ?_ (by first | (simp; done) | (simp; omega) | omega)))); have hzw3 := hqw3.size; obtain ⟨zaw3, ca0w3, ca1w3, ca2w3, fa0w3, fa1w3, fa2w3⟩ := kaw3.three; clear kaw2 ca0w2 fa0w2 ca1w2 fa1w2 ca2w2 fa2w2 hqw2; clear hbw3) | (go_at_call 8; clear m5; refine (HRE.out _).mono ?_; rintro e w4 ⟨rfl, hbw4⟩; have kaw4 : At w4 (w.heap.size) [.int .i64 ax, .int .i64 ay, .bool af] := (by repeat (first | (with_reducible assumption) | ((with_reducible refine at_new' _ _ _ _ ?_); (first | rfl | (simp; done))) | (with_reducible refine At.alloc ?_ _) | (with_reducible refine At.drew ?_) | (with_reducible refine At.drewN ?_) | (with_reducible refine At.set ?_ (by omega)) | (with_reducible apply At.store4) | (with_reducible apply At.store3) | (with_reducible apply At.store2) | (with_reducible apply At.put43) | (refine At.below ?_ (by with_reducible assumption)))); have hqw4 : Below w.heap.size w w4 := (by repeat (first | (with_reducible exact Below.refl _ _) | (with_reducible assumption) | (with_reducible refine Below.setCell ?_ (by first | (simp; done) | (simp; omega) | omega) _) | (with_reducible refine Below.alloc ?_ (by first | (simp; done) | (simp; omega) | omega) _) | (refine bl_call ?_ (by assumption) (by first | (simp; done) | (simp; omega) | omega)) | (with_reducible refine bl_drewN ?_) | (with_reducible refine Below.drew ?_) | (with_reducible refine bl_grow ?_ (by first | (simp; done) | (simp; omega) | omega)))); have hzw4 := hqw4.size; obtain ⟨zaw4, ca0w4, ca1w4, ca2w4, fa0w4, fa1w4, fa2w4⟩ := kaw4.three; clear kaw3 ca0w3 fa0w3 ca1w3 fa1w3 ca2w3 fa2w3 hqw3; clear hbw4) | (go_at_call 9; clear m6; refine (HSE.out _).mono ?_; rintro e w5 ⟨rfl, hbw5⟩; have kaw5 : At w5 (w.heap.size) [.int .i64 ax, .int .i64 ay, .bool af] := (by repeat (first | (with_reducible assumption) | ((with_reducible refine at_new' _ _ _ _ ?_); (first | rfl | (simp; done))) | (with_reducible refine At.alloc ?_ _) | (with_reducible refine At.drew ?_) | (with_reducible refine At.drewN ?_) | (with_reducible refine At.set ?_ (by omega)) | (with_reducible apply At.store4) | (with_reducible apply At.store3) | (with_reducible apply At.store2) | (with_reducible apply At.put43) | (refine At.below ?_ (by with_reducible assumption)))); have hqw5 : Below w.heap.size w w5 := (by repeat (first | (with_reducible exact Below.refl _ _) | (with_reducible assumption) | (with_reducible refine Below.setCell ?_ (by first | (simp; done) | (simp; omega) | omega) _) | (with_reducible refine Below.alloc ?_ (by first | (simp; done) | (simp; omega) | omega) _) | (refine bl_call ?_ (by assumption) (by first | (simp; done) | (simp; omega) | omega)) | (with_reducible refine bl_drewN ?_) | (with_reducible refine Below.drew ?_) | (with_reducible refine bl_grow ?_ (by first | (simp; done) | (simp; omega) | omega)))); have hzw5 := hqw5.size; obtain ⟨zaw5, ca0w5, ca1w5, ca2w5, fa0w5, fa1w5, fa2w5⟩ := kaw5.three; clear kaw4 ca0w4 fa0w4 ca1w4 fa1w4 ca2w4 fa2w4 hqw4; clear hbw5))
  go_cut [59] from 29 to 59 (fun t_ wx_ => t_ = .bool c1 ∧ At wx_ (w.heap.size) [.int .i64 ax, .int .i64 ay, .bool af] ∧ Below w.heap.size w wx_)
  case first => as_aux_lemma =>
    have hc := HC.out
    subst hc
    cases x <;> cases y
    all_goals (
      go_wp2_with fail
      go_meet
      case rel => exact ⟨rfl, by repeat (first | (with_reducible assumption) | ((with_reducible refine at_new' _ _ _ _ ?_); (first | rfl | (simp; done))) | (with_reducible refine At.alloc ?_ _) | (with_reducible refine At.drew ?_) | (with_reducible refine At.drewN ?_) | (with_reducible refine At.set ?_ (by omega)) | (with_reducible apply At.store4) | (with_reducible apply At.store3) | (with_reducible apply At.store2) | (with_reducible apply At.put43) | (refine At.below ?_ (by with_reducible assumption))), by repeat (first | (with_reducible exact Below.refl _ _) | (with_reducible assumption) | (with_reducible refine Below.setCell ?_ (by first | (simp; done) | (simp; omega) | omega) _) | (with_reducible refine Below.alloc ?_ (by first | (simp; done) | (simp; omega) | omega) _) | (refine bl_call ?_ (by assumption) (by first | (simp; done) | (simp; omega) | omega)) | (with_reducible refine bl_drewN ?_) | (with_reducible refine Below.drew ?_) | (with_reducible refine bl_grow ?_ (by first | (simp; done) | (simp; omega) | omega)))⟩)
  case rest =>
  clear kaw5 ca0w5 fa0w5 ca1w5 fa1w5 ca2w5 fa2w5 hqw5
  rename World => y2
  obtain ⟨rfl, kay2, hqy2⟩ := hcut
  have hzy2 := hqy2.size
  obtain ⟨zay2, ca0y2, ca1y2, ca2y2, fa0y2, fa1y2, fa2y2⟩ := kay2.three
  go_upto_if 59 with fail
  go_cut [11] from 29 to 59 (fun t_ wx_ => t_ = .int .i64 e1 ∧ At wx_ (w.heap.size) [.int .i64 ax, .int .i64 ay, .bool af] ∧ Below w.heap.size w wx_)
  case first => as_aux_lemma =>
    cases c1 with
    | false =>
      have hx : Hid (e1 = e0) := C1f.out rfl
      go_wp2_with fail
      go_meet
      case rel => exact ⟨by rw [hx.out], by repeat (first | (with_reducible assumption) | ((with_reducible refine at_new' _ _ _ _ ?_); (first | rfl | (simp; done))) | (with_reducible refine At.alloc ?_ _) | (with_reducible refine At.drew ?_) | (with_reducible refine At.drewN ?_) | (with_reducible refine At.set ?_ (by omega)) | (with_reducible apply At.store4) | (with_reducible apply At.store3) | (with_reducible apply At.store2) | (with_reducible apply At.put43) | (refine At.below ?_ (by with_reducible assumption))), by repeat (first | (with_reducible exact Below.refl _ _) | (with_reducible assumption) | (with_reducible refine Below.setCell ?_ (by first | (simp; done) | (simp; omega) | omega) _) | (with_reducible refine Below.alloc ?_ (by first | (simp; done) | (simp; omega) | omega) _) | (refine bl_call ?_ (by assumption) (by first | (simp; done) | (simp; omega) | omega)) | (with_reducible refine bl_drewN ?_) | (with_reducible refine Below.drew ?_) | (with_reducible refine bl_grow ?_ (by first | (simp; done) | (simp; omega) | omega)))⟩
    | true =>
      have hx : Hid (e1 = 1) := C1t.out rfl
      go_wp2_with fail
      go_meet
      case rel => exact ⟨by rw [hx.out], by repeat (first | (with_reducible assumption) | ((with_reducible refine at_new' _ _ _ _ ?_); (first | rfl | (simp; done))) | (with_reducible refine At.alloc ?_ _) | (with_reducible refine At.drew ?_) | (with_reducible refine At.drewN ?_) | (with_reducible refine At.set ?_ (by omega)) | (with_reducible apply At.store4) | (with_reducible apply At.store3) | (with_reducible apply At.store2) | (with_reducible apply At.put43) | (refine At.below ?_ (by with_reducible assumption))), by repeat (first | (with_reducible exact Below.refl _ _) | (with_reducible assumption) | (with_reducible refine Below.setCell ?_ (by first | (simp; done) | (simp; omega) | omega) _) | (with_reducible refine Below.alloc ?_ (by first | (simp; done) | (simp; omega) | omega) _) | (refine bl_call ?_ (by assumption) (by first | (simp; done) | (simp; omega) | omega)) | (with_reducible refine bl_drewN ?_) | (with_reducible refine Below.drew ?_) | (with_reducible refine bl_grow ?_ (by first | (simp; done) | (simp; omega) | omega)))⟩
  case rest =>
  clear kay2 ca0y2 fa0y2 ca1y2 fa1y2 ca2y2 fa2y2 hqy2
  rename World => y3
  obtain ⟨rfl, kay3, hqy3⟩ := hcut
  have hzy3 := hqy3.size
  obtain ⟨zay3, ca0y3, ca1y3, ca2y3, fa0y3, fa1y3, fa2y3⟩ := kay3.three
  go_upto_if 61 with fail
  refine wp_gen (fun Y => At Y (w.heap.size) [.int .i64 ax, .int .i64 ay, .bool af] ∧ At Y (y3.heap.size) [.int .i64 0, .int .i64 0, .bool false, .int .i64 0] ∧ Below w.heap.size w Y) ⟨by repeat (first | (with_reducible assumption) | ((with_reducible refine at_new' _ _ _ _ ?_); (first | rfl | (simp; done))) | (with_reducible refine At.alloc ?_ _) | (with_reducible refine At.drew ?_) | (with_reducible refine At.drewN ?_) | (with_reducible refine At.set ?_ (by omega)) | (with_reducible apply At.store4) | (with_reducible apply At.store3) | (with_reducible apply At.store2) | (with_reducible apply At.put43) | (refine At.below ?_ (by with_reducible assumption))), by repeat (first | (with_reducible assumption) | ((with_reducible refine at_new' _ _ _ _ ?_); (first | rfl | (simp; done))) | (with_reducible refine At.alloc ?_ _) | (with_reducible refine At.drew ?_) | (with_reducible refine At.drewN ?_) | (with_reducible refine At.set ?_ (by omega)) | (with_reducible apply At.store4) | (with_reducible apply At.store3) | (with_reducible apply At.store2) | (with_reducible apply At.put43) | (refine At.below ?_ (by with_reducible assumption))), by repeat (first | (with_reducible exact Below.refl _ _) | (with_reducible assumption) | (with_reducible refine Below.setCell ?_ (by first | (simp; done) | (simp; omega) | omega) _) | (with_reducible refine Below.alloc ?_ (by first | (simp; done) | (simp; omega) | omega) _) | (refine bl_call ?_ (by assumption) (by first | (simp; done) | (simp; omega) | omega)) | (with_reducible refine bl_drewN ?_) | (with_reducible refine Below.drew ?_) | (with_reducible refine bl_grow ?_ (by first | (simp; done) | (simp; omega) | omega)))⟩ ?_
  rintro Y ⟨kaY, knY, hqY⟩
  have hzY := hqY.size
  clear kay3 ca0y3 fa0y3 ca1y3 fa1y3 ca2y3 fa2y3 hqy3
  obtain ⟨zaY, ca0Y, ca1Y, ca2Y, fa0Y, fa1Y, fa2Y⟩ := kaY.three
  obtain ⟨znY, cn0Y, cn1Y, cn2Y, cn3Y, fn0Y, fn1Y, fn2Y, fn3Y⟩ := knY.four

  go_cut [19] from 29 to 74 (fun _ wx_ => At wx_ (w.heap.size) [.int .i64 ax, .int .i64 ay, .bool af] ∧ At wx_ (y3.heap.size) [.int .i64 ux, .int .i64 uy, .bool uf, .int .i64 wS] ∧ Below w.heap.size w wx_)
  case first => as_aux_lemma =>
    cases he : e1 == 0 with
    | false =>
      obtain ⟨rfl, rfl, rfl, rfl⟩ := HQ0.out he
      go_wp2_with fail
      go_meet
      case rel => exact ⟨by repeat (first | (with_reducible assumption) | ((with_reducible refine at_new' _ _ _ _ ?_); (first | rfl | (simp; done))) | (with_reducible refine At.alloc ?_ _) | (with_reducible refine At.drew ?_) | (with_reducible refine At.drewN ?_) | (with_reducible refine At.set ?_ (by omega)) | (with_reducible apply At.store4) | (with_reducible apply At.store3) | (with_reducible apply At.store2) | (with_reducible apply At.put43) | (refine At.below ?_ (by with_reducible assumption))), by repeat (first | (with_reducible assumption) | ((with_reducible refine at_new' _ _ _ _ ?_); (first | rfl | (simp; done))) | (with_reducible refine At.alloc ?_ _) | (with_reducible refine At.drew ?_) | (with_reducible refine At.drewN ?_) | (with_reducible refine At.set ?_ (by omega)) | (with_reducible apply At.store4) | (with_reducible apply At.store3) | (with_reducible apply At.store2) | (with_reducible apply At.put43) | (refine At.below ?_ (by with_reducible assumption))), by repeat (first | (with_reducible exact Below.refl _ _) | (with_reducible assumption) | (with_reducible refine Below.setCell ?_ (by first | (simp; done) | (simp; omega) | omega) _) | (with_reducible refine Below.alloc ?_ (by first | (simp; done) | (simp; omega) | omega) _) | (refine bl_call ?_ (by assumption) (by first | (simp; done) | (simp; omega) | omega)) | (with_reducible refine bl_drewN ?_) | (with_reducible refine Below.drew ?_) | (with_reducible refine bl_grow ?_ (by first | (simp; done) | (simp; omega) | omega)))⟩
    | true =>
      obtain ⟨h1, h2, h3, h4, k0, k1, g0, g1⟩ := HQ.out he
      have B1_ : Hid (∀ w, Calls Tryz.prog 11 #[] w fun ex w' => ex = .returned (.agg #[.int .i64 hx, .int .i64 hy, .bool hf]) ∧ Below w.heap.size w w') := h1
      have B2_ : Hid (∀ w, Calls Tryz.prog 10 #[.agg #[.int .i64 hx, .int .i64 hy, .bool hf], .int .i64 k] w fun ex w' => ex = .returned (.agg #[.int .i64 ux, .int .i64 uy, .bool uf]) ∧ Below w.heap.size w w') := h2
      have B3_ : Hid (∀ w, Calls Tryz.prog 5 #[.agg #[.int .i64 ux, .int .i64 uy, .bool uf], .agg #[.int .i64 ax, .int .i64 ay, .bool af]] w fun ex w' => ex = .returned (.int .i64 c) ∧ Below w.heap.size w w') := h3
      clear h1 h2 h3
      go_upto_region 14 with (first | (go_at_call 11; clear m7; refine (B1_.out _).mono ?_; rintro e v2_ ⟨rfl, hbv2_⟩; have kav2_ : At v2_ (w.heap.size) [.int .i64 ax, .int .i64 ay, .bool af] := (by repeat (first | (with_reducible assumption) | ((with_reducible refine at_new' _ _ _ _ ?_); (first | rfl | (simp; done))) | (with_reducible refine At.alloc ?_ _) | (with_reducible refine At.drew ?_) | (with_reducible refine At.drewN ?_) | (with_reducible refine At.set ?_ (by omega)) | (with_reducible apply At.store4) | (with_reducible apply At.store3) | (with_reducible apply At.store2) | (with_reducible apply At.put43) | (refine At.below ?_ (by with_reducible assumption)))); have knv2_ : At v2_ (y3.heap.size) [.int .i64 0, .int .i64 0, .bool false, .int .i64 0] := (by repeat (first | (with_reducible assumption) | ((with_reducible refine at_new' _ _ _ _ ?_); (first | rfl | (simp; done))) | (with_reducible refine At.alloc ?_ _) | (with_reducible refine At.drew ?_) | (with_reducible refine At.drewN ?_) | (with_reducible refine At.set ?_ (by omega)) | (with_reducible apply At.store4) | (with_reducible apply At.store3) | (with_reducible apply At.store2) | (with_reducible apply At.put43) | (refine At.below ?_ (by with_reducible assumption)))); have hqv2_ : Below w.heap.size w v2_ := (by repeat (first | (with_reducible exact Below.refl _ _) | (with_reducible assumption) | (with_reducible refine Below.setCell ?_ (by first | (simp; done) | (simp; omega) | omega) _) | (with_reducible refine Below.alloc ?_ (by first | (simp; done) | (simp; omega) | omega) _) | (refine bl_call ?_ (by assumption) (by first | (simp; done) | (simp; omega) | omega)) | (with_reducible refine bl_drewN ?_) | (with_reducible refine Below.drew ?_) | (with_reducible refine bl_grow ?_ (by first | (simp; done) | (simp; omega) | omega)))); have hzv2_ := hqv2_.size; obtain ⟨zav2_, ca0v2_, ca1v2_, ca2v2_, fa0v2_, fa1v2_, fa2v2_⟩ := kav2_.three; obtain ⟨znv2_, cn0v2_, cn1v2_, cn2v2_, cn3v2_, fn0v2_, fn1v2_, fn2v2_, fn3v2_⟩ := knv2_.four; clear kaY ca0Y fa0Y ca1Y fa1Y ca2Y fa2Y knY cn0Y fn0Y cn1Y fn1Y cn2Y fn2Y cn3Y fn3Y hqY; clear hbv2_) | (go_at_call 10; clear m8; refine (B2_.out _).mono ?_; rintro e v3_ ⟨rfl, hbv3_⟩; have kav3_ : At v3_ (w.heap.size) [.int .i64 ax, .int .i64 ay, .bool af] := (by repeat (first | (with_reducible assumption) | ((with_reducible refine at_new' _ _ _ _ ?_); (first | rfl | (simp; done))) | (with_reducible refine At.alloc ?_ _) | (with_reducible refine At.drew ?_) | (with_reducible refine At.drewN ?_) | (with_reducible refine At.set ?_ (by omega)) | (with_reducible apply At.store4) | (with_reducible apply At.store3) | (with_reducible apply At.store2) | (with_reducible apply At.put43) | (refine At.below ?_ (by with_reducible assumption)))); have knv3_ : At v3_ (y3.heap.size) [.int .i64 0, .int .i64 0, .bool false, .int .i64 0] := (by repeat (first | (with_reducible assumption) | ((with_reducible refine at_new' _ _ _ _ ?_); (first | rfl | (simp; done))) | (with_reducible refine At.alloc ?_ _) | (with_reducible refine At.drew ?_) | (with_reducible refine At.drewN ?_) | (with_reducible refine At.set ?_ (by omega)) | (with_reducible apply At.store4) | (with_reducible apply At.store3) | (with_reducible apply At.store2) | (with_reducible apply At.put43) | (refine At.below ?_ (by with_reducible assumption)))); have hqv3_ : Below w.heap.size w v3_ := (by repeat (first | (with_reducible exact Below.refl _ _) | (with_reducible assumption) | (with_reducible refine Below.setCell ?_ (by first | (simp; done) | (simp; omega) | omega) _) | (with_reducible refine Below.alloc ?_ (by first | (simp; done) | (simp; omega) | omega) _) | (refine bl_call ?_ (by assumption) (by first | (simp; done) | (simp; omega) | omega)) | (with_reducible refine bl_drewN ?_) | (with_reducible refine Below.drew ?_) | (with_reducible refine bl_grow ?_ (by first | (simp; done) | (simp; omega) | omega)))); have hzv3_ := hqv3_.size; obtain ⟨zav3_, ca0v3_, ca1v3_, ca2v3_, fa0v3_, fa1v3_, fa2v3_⟩ := kav3_.three; obtain ⟨znv3_, cn0v3_, cn1v3_, cn2v3_, cn3v3_, fn0v3_, fn1v3_, fn2v3_, fn3v3_⟩ := knv3_.four; clear kav2_ ca0v2_ fa0v2_ ca1v2_ fa1v2_ ca2v2_ fa2v2_ knv2_ cn0v2_ fn0v2_ cn1v2_ fn1v2_ cn2v2_ fn2v2_ cn3v2_ fn3v2_ hqv2_; clear hbv3_))
      refine wp_gen (fun O => At O (w.heap.size) [.int .i64 ax, .int .i64 ay, .bool af] ∧ At O (y3.heap.size) [.int .i64 0, .int .i64 0, .bool false, .int .i64 0] ∧ At O (v3_.heap.size) [.int .i64 ux, .int .i64 uy, .bool uf] ∧ Below w.heap.size w O) ⟨by repeat (first | (with_reducible assumption) | ((with_reducible refine at_new' _ _ _ _ ?_); (first | rfl | (simp; done))) | (with_reducible refine At.alloc ?_ _) | (with_reducible refine At.drew ?_) | (with_reducible refine At.drewN ?_) | (with_reducible refine At.set ?_ (by omega)) | (with_reducible apply At.store4) | (with_reducible apply At.store3) | (with_reducible apply At.store2) | (with_reducible apply At.put43) | (refine At.below ?_ (by with_reducible assumption))), by repeat (first | (with_reducible assumption) | ((with_reducible refine at_new' _ _ _ _ ?_); (first | rfl | (simp; done))) | (with_reducible refine At.alloc ?_ _) | (with_reducible refine At.drew ?_) | (with_reducible refine At.drewN ?_) | (with_reducible refine At.set ?_ (by omega)) | (with_reducible apply At.store4) | (with_reducible apply At.store3) | (with_reducible apply At.store2) | (with_reducible apply At.put43) | (refine At.below ?_ (by with_reducible assumption))), by repeat (first | (with_reducible assumption) | ((with_reducible refine at_new' _ _ _ _ ?_); (first | rfl | (simp; done))) | (with_reducible refine At.alloc ?_ _) | (with_reducible refine At.drew ?_) | (with_reducible refine At.drewN ?_) | (with_reducible refine At.set ?_ (by omega)) | (with_reducible apply At.store4) | (with_reducible apply At.store3) | (with_reducible apply At.store2) | (with_reducible apply At.put43) | (refine At.below ?_ (by with_reducible assumption))), by repeat (first | (with_reducible exact Below.refl _ _) | (with_reducible assumption) | (with_reducible refine Below.setCell ?_ (by first | (simp; done) | (simp; omega) | omega) _) | (with_reducible refine Below.alloc ?_ (by first | (simp; done) | (simp; omega) | omega) _) | (refine bl_call ?_ (by assumption) (by first | (simp; done) | (simp; omega) | omega)) | (with_reducible refine bl_drewN ?_) | (with_reducible refine Below.drew ?_) | (with_reducible refine bl_grow ?_ (by first | (simp; done) | (simp; omega) | omega)))⟩ ?_
      rintro O ⟨kaO, knO, krO, hqO⟩
      have hzO := hqO.size
      clear kav3_ ca0v3_ fa0v3_ ca1v3_ fa1v3_ ca2v3_ fa2v3_ knv3_ cn0v3_ fn0v3_ cn1v3_ fn1v3_ cn2v3_ fn2v3_ cn3v3_ fn3v3_ hqv3_
      obtain ⟨zaO, ca0O, ca1O, ca2O, fa0O, fa1O, fa2O⟩ := kaO.three
      obtain ⟨znO, cn0O, cn1O, cn2O, cn3O, fn0O, fn1O, fn2O, fn3O⟩ := knO.four
      obtain ⟨zrO, cr0O, cr1O, cr2O, fr0O, fr1O, fr2O⟩ := krO.three
      refine below_gate 10 1 #[true, true, true, true, true, true, true, true, true, true, false] (by kernel_rfl) (by kernel_rfl) rfl rfl ?_
      dsimp only [List.take]
      repeat (go_big_quiet_step (first | (go_at_call 5; with_reducible exact Calls.regrown_of (B3_.out _))))
      refine wpQuiet_nil ?_
      intro O2 hw1
      have hrO2 := regrown_below hw1
      clear hw1
      have kaO2 := kaO.below hrO2
      have knO2 := knO.below hrO2
      have krO2 := krO.below hrO2
      have hqO2 := bl_call hqO hrO2 (by omega)
      have hzO2 := hqO2.size
      clear hrO2 kaO ca0O fa0O ca1O fa1O ca2O fa2O knO cn0O fn0O cn1O fn1O cn2O fn2O cn3O fn3O krO cr0O fr0O cr1O fr1O cr2O fr2O hqO
      obtain ⟨zaO2, ca0O2, ca1O2, ca2O2, fa0O2, fa1O2, fa2O2⟩ := kaO2.three
      obtain ⟨znO2, cn0O2, cn1O2, cn2O2, cn3O2, fn0O2, fn1O2, fn2O2, fn3O2⟩ := knO2.four
      obtain ⟨zrO2, cr0O2, cr1O2, cr2O2, fr0O2, fr1O2, fr2O2⟩ := krO2.three
      refine wpAny_ready (rs := [10]) (by kernel_rfl) (by simp) (AllReady.cons rfl (fun K hK => ?_) AllReady.nil)
      go_simp
      refine hK _ _ ?_
      clear hK K
      refine wpAny_done (by kernel_rfl) ?_ _

      go_wp2_with fail
      go_meet
      case rel => exact ⟨by repeat (first | (with_reducible assumption) | ((with_reducible refine at_new' _ _ _ _ ?_); (first | rfl | (simp; done))) | (with_reducible refine At.alloc ?_ _) | (with_reducible refine At.drew ?_) | (with_reducible refine At.drewN ?_) | (with_reducible refine At.set ?_ (by omega)) | (with_reducible apply At.store4) | (with_reducible apply At.store3) | (with_reducible apply At.store2) | (with_reducible apply At.put43) | (refine At.below ?_ (by with_reducible assumption))), by repeat (first | (with_reducible assumption) | ((with_reducible refine at_new' _ _ _ _ ?_); (first | rfl | (simp; done))) | (with_reducible refine At.alloc ?_ _) | (with_reducible refine At.drew ?_) | (with_reducible refine At.drewN ?_) | (with_reducible refine At.set ?_ (by omega)) | (with_reducible apply At.store4) | (with_reducible apply At.store3) | (with_reducible apply At.store2) | (with_reducible apply At.put43) | (refine At.below ?_ (by with_reducible assumption))), by repeat (first | (with_reducible exact Below.refl _ _) | (with_reducible assumption) | (with_reducible refine Below.setCell ?_ (by first | (simp; done) | (simp; omega) | omega) _) | (with_reducible refine Below.alloc ?_ (by first | (simp; done) | (simp; omega) | omega) _) | (refine bl_call ?_ (by assumption) (by first | (simp; done) | (simp; omega) | omega)) | (with_reducible refine bl_drewN ?_) | (with_reducible refine Below.drew ?_) | (with_reducible refine bl_grow ?_ (by first | (simp; done) | (simp; omega) | omega)))⟩
  case rest =>
  clear kaY ca0Y fa0Y ca1Y fa1Y ca2Y fa2Y knY cn0Y fn0Y cn1Y fn1Y cn2Y fn2Y cn3Y fn3Y hqY
  rename World => y5
  obtain ⟨kay5, kny5, hqy5⟩ := hcut
  have hzy5 := hqy5.size
  obtain ⟨zay5, ca0y5, ca1y5, ca2y5, fa0y5, fa1y5, fa2y5⟩ := kay5.three
  obtain ⟨zny5, cn0y5, cn1y5, cn2y5, cn3y5, fn0y5, fn1y5, fn2y5, fn3y5⟩ := kny5.four
  go_upto_region 19 with (first | (go_at_call 12; clear m9; refine (HCL.out _).mono ?_; rintro e w7 ⟨rfl, hbw7⟩; have kaw7 : At w7 (w.heap.size) [.int .i64 ax, .int .i64 ay, .bool af] := (by repeat (first | (with_reducible assumption) | ((with_reducible refine at_new' _ _ _ _ ?_); (first | rfl | (simp; done))) | (with_reducible refine At.alloc ?_ _) | (with_reducible refine At.drew ?_) | (with_reducible refine At.drewN ?_) | (with_reducible refine At.set ?_ (by omega)) | (with_reducible apply At.store4) | (with_reducible apply At.store3) | (with_reducible apply At.store2) | (with_reducible apply At.put43) | (refine At.below ?_ (by with_reducible assumption)))); have knw7 : At w7 (y3.heap.size) [.int .i64 ux, .int .i64 uy, .bool uf, .int .i64 wS] := (by repeat (first | (with_reducible assumption) | ((with_reducible refine at_new' _ _ _ _ ?_); (first | rfl | (simp; done))) | (with_reducible refine At.alloc ?_ _) | (with_reducible refine At.drew ?_) | (with_reducible refine At.drewN ?_) | (with_reducible refine At.set ?_ (by omega)) | (with_reducible apply At.store4) | (with_reducible apply At.store3) | (with_reducible apply At.store2) | (with_reducible apply At.put43) | (refine At.below ?_ (by with_reducible assumption)))); have hqw7 : Below w.heap.size w w7 := (by repeat (first | (with_reducible exact Below.refl _ _) | (with_reducible assumption) | (with_reducible refine Below.setCell ?_ (by first | (simp; done) | (simp; omega) | omega) _) | (with_reducible refine Below.alloc ?_ (by first | (simp; done) | (simp; omega) | omega) _) | (refine bl_call ?_ (by assumption) (by first | (simp; done) | (simp; omega) | omega)) | (with_reducible refine bl_drewN ?_) | (with_reducible refine Below.drew ?_) | (with_reducible refine bl_grow ?_ (by first | (simp; done) | (simp; omega) | omega)))); have hzw7 := hqw7.size; obtain ⟨zaw7, ca0w7, ca1w7, ca2w7, fa0w7, fa1w7, fa2w7⟩ := kaw7.three; obtain ⟨znw7, cn0w7, cn1w7, cn2w7, cn3w7, fn0w7, fn1w7, fn2w7, fn3w7⟩ := knw7.four; clear kay5 ca0y5 fa0y5 ca1y5 fa1y5 ca2y5 fa2y5 kny5 cn0y5 fn0y5 cn1y5 fn1y5 cn2y5 fn2y5 cn3y5 fn3y5 hqy5; clear hbw7) | (go_at_call 7; clear m10; refine (same_below _ _ _ (I2.out) (HD.out.under (by repeat (first | (with_reducible exact Below.refl _ _) | (with_reducible assumption) | (with_reducible refine Below.setCell ?_ (by first | (simp; done) | (simp; omega) | omega) _) | (with_reducible refine Below.alloc ?_ (by first | (simp; done) | (simp; omega) | omega) _) | (refine bl_call ?_ (by assumption) (by first | (simp; done) | (simp; omega) | omega)) | (with_reducible refine bl_drewN ?_) | (with_reducible refine Below.drew ?_) | (with_reducible refine bl_grow ?_ (by first | (simp; done) | (simp; omega) | omega)))))).mono ?_; rintro e w8 ⟨rfl, hbw8⟩; have kaw8 : At w8 (w.heap.size) [.int .i64 ax, .int .i64 ay, .bool af] := (by repeat (first | (with_reducible assumption) | ((with_reducible refine at_new' _ _ _ _ ?_); (first | rfl | (simp; done))) | (with_reducible refine At.alloc ?_ _) | (with_reducible refine At.drew ?_) | (with_reducible refine At.drewN ?_) | (with_reducible refine At.set ?_ (by omega)) | (with_reducible apply At.store4) | (with_reducible apply At.store3) | (with_reducible apply At.store2) | (with_reducible apply At.put43) | (refine At.below ?_ (by with_reducible assumption)))); have knw8 : At w8 (y3.heap.size) [.int .i64 ux, .int .i64 uy, .bool uf, .int .i64 wS] := (by repeat (first | (with_reducible assumption) | ((with_reducible refine at_new' _ _ _ _ ?_); (first | rfl | (simp; done))) | (with_reducible refine At.alloc ?_ _) | (with_reducible refine At.drew ?_) | (with_reducible refine At.drewN ?_) | (with_reducible refine At.set ?_ (by omega)) | (with_reducible apply At.store4) | (with_reducible apply At.store3) | (with_reducible apply At.store2) | (with_reducible apply At.put43) | (refine At.below ?_ (by with_reducible assumption)))); have kgw8 : At w8 (w7.heap.size) [.int .i64 ux, .int .i64 uy, .bool uf, .int .i64 wS] := (by repeat (first | (with_reducible assumption) | ((with_reducible refine at_new' _ _ _ _ ?_); (first | rfl | (simp; done))) | (with_reducible refine At.alloc ?_ _) | (with_reducible refine At.drew ?_) | (with_reducible refine At.drewN ?_) | (with_reducible refine At.set ?_ (by omega)) | (with_reducible apply At.store4) | (with_reducible apply At.store3) | (with_reducible apply At.store2) | (with_reducible apply At.put43) | (refine At.below ?_ (by with_reducible assumption)))); have hqw8 : Below w.heap.size w w8 := (by repeat (first | (with_reducible exact Below.refl _ _) | (with_reducible assumption) | (with_reducible refine Below.setCell ?_ (by first | (simp; done) | (simp; omega) | omega) _) | (with_reducible refine Below.alloc ?_ (by first | (simp; done) | (simp; omega) | omega) _) | (refine bl_call ?_ (by assumption) (by first | (simp; done) | (simp; omega) | omega)) | (with_reducible refine bl_drewN ?_) | (with_reducible refine Below.drew ?_) | (with_reducible refine bl_grow ?_ (by first | (simp; done) | (simp; omega) | omega)))); have hzw8 := hqw8.size; obtain ⟨zaw8, ca0w8, ca1w8, ca2w8, fa0w8, fa1w8, fa2w8⟩ := kaw8.three; obtain ⟨znw8, cn0w8, cn1w8, cn2w8, cn3w8, fn0w8, fn1w8, fn2w8, fn3w8⟩ := knw8.four; obtain ⟨zgw8, cg0w8, cg1w8, cg2w8, cg3w8, fg0w8, fg1w8, fg2w8, fg3w8⟩ := kgw8.four; clear kaw7 ca0w7 fa0w7 ca1w7 fa1w7 ca2w7 fa2w7 knw7 cn0w7 fn0w7 cn1w7 fn1w7 cn2w7 fn2w7 cn3w7 fn3w7 hqw7; clear hbw8))
  have hqS := hqw8
  clear kaw8 ca0w8 fa0w8 ca1w8 fa1w8 ca2w8 fa2w8 knw8 cn0w8 fn0w8 cn1w8 fn1w8 cn2w8 fn2w8 cn3w8 fn3w8 kgw8 cg0w8 fg0w8 cg1w8 fg1w8 cg2w8 fg2w8 cg3w8 fg3w8 hqw8
  refine wp_gen (fun S_ => Below w.heap.size w S_) (by first | exact hqS | (exact by repeat (first | (with_reducible exact Below.refl _ _) | (with_reducible assumption) | (with_reducible refine Below.setCell ?_ (by first | (simp; done) | (simp; omega) | omega) _) | (with_reducible refine Below.alloc ?_ (by first | (simp; done) | (simp; omega) | omega) _) | (refine bl_call ?_ (by assumption) (by first | (simp; done) | (simp; omega) | omega)) | (with_reducible refine bl_drewN ?_) | (with_reducible refine Below.drew ?_) | (with_reducible refine bl_grow ?_ (by first | (simp; done) | (simp; omega) | omega))))) ?_
  rintro S hqS2
  clear hqS
  have hzS := hqS2.size
  go_wp2_with (first | (go_at_call 13; refine (HCO.out _ (by repeat (first | (with_reducible exact Below.refl _ _) | (with_reducible assumption) | (with_reducible refine Below.setCell ?_ (by first | (simp; done) | (simp; omega) | omega) _) | (with_reducible refine Below.alloc ?_ (by first | (simp; done) | (simp; omega) | omega) _) | (refine bl_call ?_ (by assumption) (by first | (simp; done) | (simp; omega) | omega)) | (with_reducible refine bl_drewN ?_) | (with_reducible refine Below.drew ?_) | (with_reducible refine bl_grow ?_ (by first | (simp; done) | (simp; omega) | omega))))).mono ?_; rintro e w9 ⟨rfl, hb9⟩; have hq9 : Below w.heap.size w w9 := (by repeat (first | (with_reducible exact Below.refl _ _) | (with_reducible assumption) | (with_reducible refine Below.setCell ?_ (by first | (simp; done) | (simp; omega) | omega) _) | (with_reducible refine Below.alloc ?_ (by first | (simp; done) | (simp; omega) | omega) _) | (refine bl_call ?_ (by assumption) (by first | (simp; done) | (simp; omega) | omega)) | (with_reducible refine bl_drewN ?_) | (with_reducible refine Below.drew ?_) | (with_reducible refine bl_grow ?_ (by first | (simp; done) | (simp; omega) | omega)))); have hz9 := hq9.size; clear hb9) | (go_at_call 14; refine (HNW.out _ hq9).mono ?_; rintro e w10 ⟨rfl, hb10⟩; have hq10 : Below w.heap.size w w10 := bl_call hq9 hb10 hz9; have hz10 := hq10.size) | (go_at_call 7; refine (same_below _ _ _ (isErr_err q) (HD.out.under hq10)).mono ?_; rintro e w11 ⟨rfl, hb11⟩; have hq11 : Below w.heap.size w w11 := bl_call hq10 hb11 hz10; have hz11 := hq11.size))
  go_ret
  exact ⟨rfl, by repeat (first | (with_reducible exact Below.refl _ _) | (with_reducible assumption) | (with_reducible refine Below.setCell ?_ (by first | (simp; done) | (simp; omega) | omega) _) | (with_reducible refine Below.alloc ?_ (by first | (simp; done) | (simp; omega) | omega) _) | (refine bl_call ?_ (by assumption) (by first | (simp; done) | (simp; omega) | omega)) | (with_reducible refine bl_drewN ?_) | (with_reducible refine Below.drew ?_) | (with_reducible refine bl_grow ?_ (by first | (simp; done) | (simp; omega) | omega)))⟩
end Go.Proofs.YtlbdcgnhmkjfiajGreatDoor
/- BookPlaysBy -/
namespace Go.Proofs.YtlbdcgnhmkjfiajGreatDoor
open Go.RowKit Go.Sort
set_option linter.unusedVariables false
set_option linter.unusedSimpArgs false
theorem btold_it (e : Int) : (toldI (errOf e) == e) = true := by rw [toldI_err]; simp
theorem bsec_nat {v : Int} (h : secB v = true) : ∃ n : Nat, v = (n : Int) ∧ 1 ≤ n ∧ n < 1013 := by
  have := of_decide_eq_true (p := 1 ≤ v ∧ v < 1013) h
  exact ⟨v.toNat, by omega, by omega, by omega⟩
theorem bres_nat {v : Int} (h : resB v = true) : ∃ n : Nat, v = (n : Int) ∧ n < 1013 := by
  have := of_decide_eq_true (p := 0 ≤ v ∧ v < 1013) h
  exact ⟨v.toNat, by omega, by omega⟩
theorem brow2 {x y : Int} {f : Bool} (h : (ckI x y f == 0) = false) : rowE (twoR x x) (twoR y y) (twoR f f) 2 = ckI x y f := by
  have e1 : rowE (twoR x x) (twoR y y) (twoR f f) 1 = ckI x y f := rfl
  show (bif rowE (twoR x x) (twoR y y) (twoR f f) 1 == 0 then ckI (twoR x x 1) (twoR y y 1) (twoR f f 1) else rowE (twoR x x) (twoR y y) (twoR f f) 1) = _
  rw [e1, h]; rfl
theorem bp_q (h R r k j S : Nat) (hR : 4 * h * k = 4 * R) (hs : ∀ w, Calls Tryz.prog 11 #[] w fun ex w' => ex = .returned (.agg #[.int .i64 ((tM (4 * h)).1 : Int), .int .i64 ((tM (4 * h)).2.1 : Int), .bool (tM (4 * h)).2.2]) ∧ Below w.heap.size w w') (r1 : r < 1013) (k1 : 1 ≤ k) (k2 : k < 1013) (hS : S = (k + baN (4 * R) j * r) % 1013) :
    (∀ w, Calls Tryz.prog 11 #[] w fun ex w' => ex = .returned (.agg #[.int .i64 ((tM (4 * h)).1 : Int), .int .i64 ((tM (4 * h)).2.1 : Int), .bool (tM (4 * h)).2.2]) ∧ Below w.heap.size w w') ∧ (∀ w, Calls Tryz.prog 10 #[.agg #[.int .i64 ((tM (4 * h)).1 : Int), .int .i64 ((tM (4 * h)).2.1 : Int), .bool (tM (4 * h)).2.2], .int .i64 (k : Int)] w fun ex w' => ex = .returned (.agg #[.int .i64 ((tM (4 * R)).1 : Int), .int .i64 ((tM (4 * R)).2.1 : Int), .bool (tM (4 * R)).2.2]) ∧ Below w.heap.size w w') ∧ (∀ w, Calls Tryz.prog 5 #[.agg #[.int .i64 ((tM (4 * R)).1 : Int), .int .i64 ((tM (4 * R)).2.1 : Int), .bool (tM (4 * R)).2.2], .agg #[.int .i64 ((tM j).1 : Int), .int .i64 ((tM j).2.1 : Int), .bool (tM j).2.2]] w fun ex w' => ex = .returned (.int .i64 (baN (4 * R) j : Int)) ∧ Below w.heap.size w w') ∧ ((k : Int) + (baN (4 * R) j : Int) * (r : Int)) % 1013 = (S : Int) ∧ 0 ≤ (k : Int) ∧ (k : Int) < 1013 ∧ 0 ≤ (baN (4 * R) j : Int) * (r : Int) ∧ (baN (4 * R) j : Int) * (r : Int) ≤ 1100000 := by
  obtain ⟨b1, b2⟩ := sg_bd (baN_lt (4 * R) j) r1 k2
  exact ⟨hs, fun w => rtimes_eq (by rw [em_nat k2, hR]) w, fun w => rba_tM (4 * R) j w, by rw [hS, Int.natCast_emod, Int.natCast_add, Int.natCast_mul]; rfl, by omega, by omega, b2, b1⟩
theorem bp_one (hA : BAskIs) (hC : BCloseIs) (r k ax ay : Int) (af : Bool) (wr : (Lit.int .i64 r).wf = true) (wk : (Lit.int .i64 k).wf = true) : ∃ (e1 nb c wS ux uy hx hy : Int) (uf hf : Bool) (v1 v2 : Value), (((ckI ax ay af) == 0) = true → ∀ w, Calls Tryz.prog 5 #[.agg #[.int .i64 ax, .int .i64 ay, .bool af], .agg #[.int .i64 ax, .int .i64 ay, .bool af]] w fun ex w' => ex = .returned (.int .i64 nb) ∧ Below w.heap.size w w') ∧ (((ckI ax ay af) == 0) = false → nb = 0) ∧ (∀ w, Calls Tryz.prog 6 #[.agg #[.int .i64 ax, .int .i64 ay, .bool af], .agg #[.int .i64 ax, .int .i64 ay, .bool af]] w fun ex w' => ex = .returned (.tuple #[.int .i64 nb, v1]) ∧ Below w.heap.size w w') ∧ (IsErr v1) ∧ ((!resB r || !secB k) = false → e1 = (ckI ax ay af)) ∧ ((!resB r || !secB k) = true → e1 = 1) ∧ ((e1 == 0) = true → (∀ w, Calls Tryz.prog 11 #[] w fun ex w' => ex = .returned (.agg #[.int .i64 hx, .int .i64 hy, .bool hf]) ∧ Below w.heap.size w w') ∧ (∀ w, Calls Tryz.prog 10 #[.agg #[.int .i64 hx, .int .i64 hy, .bool hf], .int .i64 k] w fun ex w' => ex = .returned (.agg #[.int .i64 ux, .int .i64 uy, .bool uf]) ∧ Below w.heap.size w w') ∧ (∀ w, Calls Tryz.prog 5 #[.agg #[.int .i64 ux, .int .i64 uy, .bool uf], .agg #[.int .i64 ax, .int .i64 ay, .bool af]] w fun ex w' => ex = .returned (.int .i64 c) ∧ Below w.heap.size w w') ∧ (k + c * r) % 1013 = wS ∧ 0 ≤ k ∧ k < 1013 ∧ 0 ≤ c * r ∧ c * r ≤ 1100000) ∧ ((e1 == 0) = false → ux = 0 ∧ uy = 0 ∧ uf = false ∧ wS = 0) ∧ (∀ w, Calls Tryz.prog 12 #[.int .i64 r, .int .i64 k, .agg #[.int .i64 ax, .int .i64 ay, .bool af]] w fun ex w' => ex = .returned (.tuple #[.agg #[.int .i64 ux, .int .i64 uy, .bool uf, .int .i64 wS], v2]) ∧ Below w.heap.size w w') ∧ (IsErr v2) ∧ (toldI v1 == ckI ax ay af) = true ∧ (toldI v2 == e1) = true := by
  cases he : ckI ax ay af == 0 with
  | false =>
    have hask : ∀ w, Calls Tryz.prog 6 #[.agg #[.int .i64 ax, .int .i64 ay, .bool af], .agg #[.int .i64 ax, .int .i64 ay, .bool af]] w fun ex w' => ex = .returned (.tuple #[.int .i64 0, errOf (ckI ax ay af)]) ∧ Below w.heap.size w w' := fun w => by
      have := hA.1 ax ay ax ay af af w (by rw [brow2 he]; exact he)
      rwa [brow2 he] at this
    cases ha : resB r && secB k with
    | false =>
      have hc : (!resB r || !secB k) = true := by rw [← Bool.not_and, ha]; rfl
      exact ⟨1, 0, 0, 0, 0, 0, 0, 0, false, false, errOf (ckI ax ay af), errOf 1, (fun h => absurd h (by decide)), fun _ => rfl, hask, isErr_err _, (fun h => absurd (hc.symm.trans h) (by decide)), fun _ => rfl, (fun h => absurd h (by decide)), fun _ => ⟨rfl, rfl, rfl, rfl⟩, fun w => hC.1 r k ax ay af w wr wk ha, isErr_err 1, btold_it _, btold_it 1⟩
    | true =>
      have hc : (!resB r || !secB k) = false := by rw [← Bool.not_and, ha]; rfl
      exact ⟨ckI ax ay af, 0, 0, 0, 0, 0, 0, 0, false, false, errOf (ckI ax ay af), errOf (ckI ax ay af), (fun h => absurd h (by decide)), fun _ => rfl, hask, isErr_err _, fun _ => rfl, (fun h => absurd (hc.symm.trans h) (by decide)), (fun h => absurd (he.symm.trans h) (by decide)), fun _ => ⟨rfl, rfl, rfl, rfl⟩, fun w => hC.2.1 r k ax ay af w ha he, isErr_err _, btold_it _, btold_it _⟩
  | true =>
    have h0 : ckI ax ay af = 0 := by simpa using he
    obtain ⟨j, _, q0, q1, q2⟩ := ckI_tN h0
    subst q0 q1 q2
    cases ha : resB r && secB k with
    | false =>
      have hc : (!resB r || !secB k) = true := by rw [← Bool.not_and, ha]; rfl
      exact ⟨1, (baN j j : Int), 0, 0, 0, 0, 0, 0, false, false, .nilIface, errOf 1, fun _ w => rba_tM j j w, (fun h => absurd h (by decide)), fun w => hA.2 j j w, isErr_nil, (fun h => absurd (hc.symm.trans h) (by decide)), fun _ => rfl, (fun h => absurd h (by decide)), fun _ => ⟨rfl, rfl, rfl, rfl⟩, fun w => hC.1 r k _ _ _ w wr wk ha, isErr_err 1, by rw [h0]; rfl, btold_it 1⟩
    | true =>
      have hc : (!resB r || !secB k) = false := by rw [← Bool.not_and, ha]; rfl
      rw [Bool.and_eq_true] at ha
      obtain ⟨r, rfl, r1⟩ := bres_nat ha.1
      obtain ⟨k, rfl, k1, k2⟩ := bsec_nat ha.2
      have hcl := fun w => hC.2.2 r k j w r1 k1 k2
      have hq := bp_q h2N (clR k) r k j (clS r k j) (by rw [clR_is, Nat.mul_assoc]) rsecond_w r1 k1 k2 (by unfold clS; rfl)
      obtain ⟨h, hh⟩ : ∃ h, h2N = h := ⟨_, rfl⟩
      obtain ⟨R, hR⟩ : ∃ R, clR k = R := ⟨_, rfl⟩
      obtain ⟨S, hS⟩ : ∃ S, clS r k j = S := ⟨_, rfl⟩
      rw [hh, hR, hS] at hq
      rw [hR, hS] at hcl
      exact ⟨0, (baN j j : Int), (baN (4 * R) j : Int), (S : Int), ((tM (4 * R)).1 : Int), ((tM (4 * R)).2.1 : Int), ((tM (4 * h)).1 : Int), ((tM (4 * h)).2.1 : Int), (tM (4 * R)).2.2, (tM (4 * h)).2.2, .nilIface, .nilIface, fun _ w => rba_tM j j w, (fun h => absurd h (by decide)), fun w => hA.2 j j w, isErr_nil, fun _ => h0.symm, (fun h => absurd (hc.symm.trans h) (by decide)), fun _ => hq, (fun h => absurd h (by decide)), hcl, isErr_nil, by rw [h0]; rfl, rfl⟩
theorem bookPlays_by (PB : World → Value → (Nat → Prop) → Nat → (Nat → Nat) → (Nat → Bool) → Prop) (hO : PBok PB) (hA : BAskIs) (hC : BCloseIs) (hN : BNewIs PB) (hE : BExcIs PB) (hDo : BDoIs PB) (hL : BLiveIs PB) (hCn : BCoinsIs PB) (hT : BTotalIs PB) (w : World) (sl : Option Addr) (n d : Nat) (sa : Option Addr) (L ca : Nat) (r k ax ay : Int) (af : Bool)
    (uK : n = 0 ∨ ∃ (b o : Nat) (X Y : Nat → Int) (F : Nat → Bool), sl = some ⟨b, o, none⟩ ∧ RowO w b o n X Y F) (kd : n ≤ d) (nl : sl = none → d = 0) (uD : L = 0 ∨ ∃ (b o : Nat) (D : Nat → DealV), sa = some ⟨b, o, none⟩ ∧ RowD w b o L D) (wr : (Lit.int .i64 r).wf = true) (wk : (Lit.int .i64 k).wf = true) (hd : Door w) :
    Calls Tryz.prog 3 #[.slice sl n d, .slice sa L ca, .int .i64 r, .int .i64 k, .agg #[.int .i64 ax, .int .i64 ay, .bool af]] w fun e w' => e = .returned (.bool true) ∧ Below w.heap.size w w' := by
  obtain ⟨X, Y, F, hr⟩ : ∃ (X Y : Nat → Int) (F : Nat → Bool), n = 0 ∨ ∃ b o : Nat, sl = some ⟨b, o, none⟩ ∧ RowO w b o n X Y F := by
    rcases uK with h | ⟨b, o, X, Y, F, e, q⟩
    · exact ⟨fun _ => 0, fun _ => 0, fun _ => false, Or.inl h⟩
    · exact ⟨X, Y, F, Or.inr ⟨b, o, e, q⟩⟩
  obtain ⟨e1, nb, c, wS, ux, uy, hx, hy, uf, hf, v1, v2, a0, a1, a2, a3, a4, a5, a6, a7, a8, a9, T1, T2⟩ := bp_one hA hC r k ax ay af wr wk
  obtain ⟨q, hq⟩ := come_is X Y F n
  cases hz : q == 0 with
  | false =>
    exact bplays_no (L := L) (ca := ca) (sa := sa) (hd := hd) (T1 := T1) (T2 := T2) (T3 := btold_it q) (z1 := hz) (hHBA := a0) (hHBA0 := a1) (hHAS := a2) (hI1 := a3) (hC1f := a4) (hC1t := a5) (hHQ := a6) (hHQ0 := a7) (hHCL := a8) (hI2 := a9) (hHSP := fun w => rspot_any ax ay af w) (hHRE := rrest r) (hHSE := rsecret k) (hHC := rfl)
      (hHCO := fun W k => rcoins_is sl n d X Y F q W (xrow_up hr k) hq) (hHNW := fun W k => hN.1 sl n d X Y F q W kd nl (xrow_up hr k) hq hz)
  | true =>
    obtain rfl : q = 0 := by simpa using hz
    obtain ⟨h12, K, hK⟩ := hq.ok
    exact bplays (PB := PB) (L := L) (ca := ca) (sa := sa) (K := K) (hn := h12) (hd := hd) (T1 := T1) (T2 := T2) (hHBA := a0) (hHBA0 := a1) (hHAS := a2) (hI1 := a3) (hC1f := a4) (hC1t := a5) (hHQ := a6) (hHQ0 := a7) (hHCL := a8) (hI2 := a9) (hHSP := fun w => rspot_any ax ay af w) (hHRE := rrest r) (hHSE := rsecret k) (hHC := rfl)
      (hHCO := fun W k => rcoins_is sl n d X Y F 0 W (xrow_up hr k) hq) (hHNW := fun W k => hN.2 sl n d X Y F K W h12 kd nl (xrow_up hr k) hK) (hHNB := fun W k => rnew sl n d X Y F K W h12 nl (xrow_up hr k) hK) (hHDL := uD) (hHOK := hO) (hHEX := hE) (hHDO := hDo) (hHLV := hL) (hHCN := hCn) (hHTT := hT)
end Go.Proofs.YtlbdcgnhmkjfiajGreatDoor
