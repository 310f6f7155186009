/- stonelaw3.BookKeeps, in letters: by what its callees answer of things whose states are S0, St. -/
import Derived.Test.YtlbdcgnhmkjfiaiDoorTold
import Derived.Test.YtlbdcgnhmkjfiaiDoorStay
import Derived.Test.YtlbdcgnhmkjfiaiDoorOwn
import Derived.Test.YtlbdcgnhmkjfiaiDoorBookRows
import Derived.Test.YtlbdcgnhmkjfiaiDoorRefSec
import Derived.Test.YtlbdcgnhmkjfiaiDoorKeepMath
import Derived.Test.YtlbdcgnhmkjfiaiDoorRefMath
import Derived.Lib.QuietBelow
import Derived.BigQuiet
import Derived.Deep.RegionHeld3
import Derived.Deep.RegionLaw
import Derived.Deep.AppendLies
import Derived.Deep.RegionWith
import Derived.Deep.CutRange
import Derived.Deep.CutBlock
namespace Go.Proofs.YtlbdcgnhmkjfiaiDoor
open Go.RowKit Go.Sort
set_option linter.unusedVariables false
set_option linter.unusedSimpArgs false
theorem run_field_F (x y f : Value) (W : World) : (Instr.field 23 (.agg #[x, y, f]) 2).run Tryd.prog W = .ok f W := by
  simp [Instr.field, asAgg, go_sem]
attribute [go_sem] run_field_F
theorem kb_lt {W w1 : World} (hb : Below W.heap.size W w1) : ∀ b, b < W.heap.size → b < w1.heap.size := fun b h => Nat.lt_of_lt_of_le h hb.size
theorem kb_ne {W w1 : World} (hb : Below W.heap.size W w1) : ∀ b, b < W.heap.size → (b = w1.heap.size) = False := fun b h => eq_false (Nat.ne_of_lt (kb_lt hb b h))
theorem kb_ne2 {W w1 : World} (hb : Below W.heap.size W w1) : ∀ b, b < W.heap.size → (w1.heap.size = b) = False := fun b h => eq_false (Nat.ne_of_gt (kb_lt hb b h))
theorem krow_at {w W : World} {g q n : Nat} {F : Nat → Int} (h : RowI w g q n F) (k : Below w.heap.size w W) {i : Nat} (hi : i < n) : g < W.heap.size ∧ W.cell? ⟨g, q + i, none⟩ = some (.int .i64 (F i)) :=
  ⟨Nat.lt_of_lt_of_le h.1 k.size, (h.below h.1 k).2 i hi⟩
theorem kthree_new {w : World} {b : Nat} (h : w.heap.size = b) (x y z : Value) (t : TypeId) : ∀ j u, [x, y, z][j]? = some u → (w.alloc (.cells #[x, y, z] t)).cell? ((⟨b, 0, none⟩ : Addr).add j) = some u := by
  subst h
  intro j u hj
  rw [addr_add]
  match j, hj with
  | 0, hj => simp at hj; subst hj; simp
  | 1, hj => simp at hj; subst hj; simp
  | 2, hj => simp at hj; subst hj; simp
theorem kpinfo : (Tryd.prog.info? 23).map (fun i => (i.zero, i.size, i.bytes)) = some (some (.agg #[.int .i64 0, .int .i64 0, .bool false]), 3, 24) := by kernel_rfl
theorem kiinfo : (Tryd.prog.info? 3).map (fun i => (i.zero, i.size, i.bytes)) = some (some (.int .i64 0), 1, 8) := by kernel_rfl
theorem kone_at {w : World} {b : Nat} (h : w.heap.size = b) (x : Value) (t : TypeId) : ∀ j u, [x][j]? = some u → (w.alloc (.cells #[x] t)).cell? ((⟨b, 0, none⟩ : Addr).add j) = some u := by subst h; exact cell_one_new w x t
theorem ethen_gen2 {K : Act → World → Prop} {Q : Exit → Act → World → Prop} {x : Exit} {a : Act} {w : World} (S : World → Prop) (h : S w) (k : ∀ W, S W → Exit.then K Q x a W) : Exit.then K Q x a w := k w h
theorem kset {w : World} {b c o : Nat} {u : Value} {vs : List Value} (h : At w b vs) (hne : b ≠ c) : At (w.setCell ⟨c, o, none⟩ u) b vs := h.set hne
/-- What the second loop keeps. -/
def KL2 (B bI bD c : Nat) (X Y : Nat → Int) (W : World) (v r : Int) : Prop :=
  ∃ (m : Nat) (Z : Nat → Int) (f : Nat → Bool) (gs : Option Addr) (gc : Nat), Picks c X Y m Z f v r ∧ W.ownsRow B 3 1 (.slice gs m gc) m (cellsI Z m) ∧ At W bI (cellsB f 6) ∧ At W bD [.slice gs m gc, .slice none 0 0, .int .i64 0, .int .i64 0, .bool false, .int .i64 0]
/-- So many numbers that may be hidden, by numbers that may be. -/
def Goods (X Y : Nat → Int) (n : Nat) : Prop := ∀ j, j < n → resB (X j) = true ∧ resB (Y j) = true
theorem goods_zero (X Y : Nat → Int) : Goods X Y 0 := fun j hj => absurd hj (Nat.not_lt_zero _)
theorem goods_succ {X Y : Nat → Int} {n : Nat} (h : Goods X Y n) (hx : resB (X n) = true) (hy : resB (Y n) = true) : Goods X Y (n + 1) := fun j hj => (Nat.lt_succ_iff_lt_or_eq.1 hj).elim (fun h1 => h j h1) (fun h1 => by subst h1; exact ⟨hx, hy⟩)
/-- What the third loop keeps. -/
def KL3 (U : World) (bD : Nat) (H : Nat → Nat → Nat) (Xc Xb : Nat → Int) (v2 r2 : Int) (gs : Option Addr) (m gc i : Nat) (v r : Int) (W : World) : Prop :=
  ∃ (ns : Option Addr) (nc2 : Nat), W.ownsRow U.heap.size 23 3 (.slice ns i nc2) i (cellsK (fun i => H (Xc i).toNat (Xb i).toNat) i) ∧ At W bD [.slice gs m gc, .slice ns i nc2, .int .i64 0, .int .i64 0, .bool false, .int .i64 0] ∧ But (fun k => k = bD) U W ∧ Goods Xc Xb i ∧ v = v2 + sumI Xc i ∧ r = r2 + sumI Xb i
theorem krow_gone {U : World} {N m gc : Nat} {gs : Option Addr} {Z : Nat → Int} (h : U.ownsRow (N + 2) 3 1 (.slice gs m gc) m (cellsI Z m)) : m = 0 ∨ ∃ g : Nat, gs = some ⟨g, 0, none⟩ ∧ g ≠ N + 1 ∧ N ≤ g ∧ RowI U g 0 m Z := by
  obtain ⟨sa, c, e, h1⟩ := own_ints h
  injection e with e1 e2 e3
  subst e1
  rcases h1 with h1 | ⟨g, h2, _, h3, h4⟩
  · exact Or.inl h1
  · exact Or.inr ⟨g, h2, by omega, by omega, h4⟩
theorem kbelow_self {N S : World} (h : Below N.heap.size N S) : Below N.heap.size N S := h
theorem kwrap {c m i L : Nat} (hc : c ≤ 6) (hm : m ≤ 6) (hi : i ≤ 5) (h : L + m = c + i) : ((L : Int) != IntKind.i64.wrap (IntKind.i64.wrap ((c : Int) - (m : Int)) + (i : Int))) = false := by
  rw [IntKind.wrap_i64, IntKind.wrap_i64, bne_eq_false_iff_eq]
  omega
theorem khide {H : Nat → Nat → Nat} {x y : Int} (h : ∀ (a b : Nat) w, a < 1013 → b < 1013 → Calls Tryd.prog 31 #[.int .i64 (a : Int), .int .i64 (b : Int)] w fun ex w' => ex = .returned (.tuple #[.agg #[.int .i64 ((tM (4 * H a b)).1 : Int), .int .i64 ((tM (4 * H a b)).2.1 : Int), .bool (tM (4 * H a b)).2.2], .nilIface]) ∧ Below w.heap.size w w') (hx : resB x = true) (hy : resB y = true) (w : World) : Calls Tryd.prog 31 #[.int .i64 x, .int .i64 y] w fun ex w' => ex = .returned (.tuple #[.agg #[.int .i64 ((tM (4 * H x.toNat y.toNat)).1 : Int), .int .i64 ((tM (4 * H x.toNat y.toNat)).2.1 : Int), .bool (tM (4 * H x.toNat y.toNat)).2.2], .nilIface]) ∧ Below w.heap.size w w' := by
  obtain ⟨a0, a1⟩ := of_decide_eq_true (p := 0 ≤ x ∧ x < 1013) hx
  obtain ⟨b0, b1⟩ := of_decide_eq_true (p := 0 ≤ y ∧ y < 1013) hy
  have := h x.toNat y.toNat w (by omega) (by omega)
  rwa [Int.toNat_of_nonneg a0, Int.toNat_of_nonneg b0] at this
set_option maxRecDepth 100000 in
set_option maxHeartbeats 16000000 in
theorem bkeeps (S0 : World → Value → (Nat → Prop) → Prop) (St : Nat → World → Value → (Nat → Prop) → Prop) (H : Nat → Nat → Nat) (R0 : Sn) (z0 k : Int) (sv sr sg sc sb : Option Addr) (nv nr ng nc nb dv dr dg dc db : Nat) (Xv Xr Xg Xc Xb : Nat → Int) (w : World) (R : Sn) (z : Nat → Nat → Nat) (q tt : Nat → Nat) (cl : Nat → Nat → Bool) (xx : Nat → Nat → (Nat → Int) → Nat → Nat) (S2 : Nat → Nat → (Nat → Int) → Nat → World → Value → (Nat → Prop) → Prop) (hd : Door w) (hng : ng ≤ 9223372036854775807)
(hHN0 : ∀ W, Calls Tryd.prog 26 #[.slice none 0 0] W fun ex w' => ∃ vb Q, ex = .returned (.tuple #[vb, .nilIface]) ∧ S0 w' vb Q ∧ (∀ i, Q i → W.heap.size ≤ i) ∧ Below W.heap.size W w')
    (hHS0 : ∀ W W' vb Q, S0 W vb Q → Below W.heap.size W W' → S0 W' vb Q)
    (hHT0 : ∀ W vb Q, S0 W vb Q → Calls Tryd.prog 27 #[vb] W fun ex w' => ex = .returned (.agg #[.int .i64 0, .int .i64 0, .bool true]) ∧ Below W.heap.size W w')
    (hHL0 : ∀ W vb Q, S0 W vb Q → Calls Tryd.prog 28 #[vb] W fun ex w' => ∃ q e, ex = .returned (.slice q 0 e) ∧ Below W.heap.size W w')
    (hHC0 : ∀ w, Calls Tryd.prog 29 #[.int .i64 0, .int .i64 1, .agg #[.int .i64 0, .int .i64 0, .bool true]] w fun ex w' => ex = .returned (.tuple #[.agg #[.int .i64 ((R0).1 : Int), .int .i64 ((R0).2.1 : Int), .bool (R0).2.2, .int .i64 z0], .nilIface]) ∧ Below w.heap.size w w')
    (hHD0 : ∀ W vb Q, S0 W vb Q → Calls Tryd.prog 30 #[vb, .agg #[.slice none 0 0, .slice none 0 0, .int .i64 ((R0).1 : Int), .int .i64 ((R0).2.1 : Int), .bool (R0).2.2, .int .i64 z0]] W fun ex w' => ex = .returned .nilIface ∧ But Q W w')
    (hRV : (nv = 0 ∨ ∃ b o : Nat, sv = some ⟨b, o, none⟩ ∧ RowI w b o nv Xv))
    (hRR : (nr = 0 ∨ ∃ b o : Nat, sr = some ⟨b, o, none⟩ ∧ RowI w b o nr Xr))
    (hRG : (ng = 0 ∨ ∃ b o : Nat, sg = some ⟨b, o, none⟩ ∧ RowI w b o ng Xg))
    (hRC : (nc = 0 ∨ ∃ b o : Nat, sc = some ⟨b, o, none⟩ ∧ RowI w b o nc Xc))
    (hRB : (nb = 0 ∨ ∃ b o : Nat, sb = some ⟨b, o, none⟩ ∧ RowI w b o nb Xb))
    (hHH : ∀ (a b : Nat) w, a < 1013 → b < 1013 → Calls Tryd.prog 31 #[.int .i64 (a : Int), .int .i64 (b : Int)] w fun ex w' => ex = .returned (.tuple #[.agg #[.int .i64 ((tM (4 * H a b)).1 : Int), .int .i64 ((tM (4 * H a b)).2.1 : Int), .bool (tM (4 * H a b)).2.2], .nilIface]) ∧ Below w.heap.size w w')
    (hHHe1 : ∀ (i : Nat) w, i < nv → i < nr → (resB (Xv i) && resB (Xr i)) = false → Calls Tryd.prog 31 #[.int .i64 (Xv i), .int .i64 (Xr i)] w fun ex w' => ex = .returned (.tuple #[.agg #[.int .i64 0, .int .i64 0, .bool false], errOf 1]) ∧ Below w.heap.size w w')
    (hHHe2 : ∀ (i : Nat) w, i < nc → i < nb → (resB (Xc i) && resB (Xb i)) = false → Calls Tryd.prog 31 #[.int .i64 (Xc i), .int .i64 (Xb i)] w fun ex w' => ex = .returned (.tuple #[.agg #[.int .i64 0, .int .i64 0, .bool false], errOf 1]) ∧ Below w.heap.size w w')
    (hHLT : ∀ c W vb Q, St c W vb Q → ∀ j, Q j → j < W.heap.size)
    (hHN : ∀ W u c, c ≤ 6 → (∃ B, W.ownsRow B 23 3 u c (cellsK (fun i => H (Xv i).toNat (Xr i).toNat) c)) → Calls Tryd.prog 26 #[u] W fun ex w' => ∃ vb Q, ex = .returned (.tuple #[vb, .nilIface]) ∧ St c w' vb Q ∧ (∀ i, Q i → W.heap.size ≤ i) ∧ Below W.heap.size W w')
    (hHST1 : ∀ c W W' vb Q F, St c W vb Q → But F W W' → (∀ j, Q j → ¬ F j) → St c W' vb Q)
    (hHX : ∀ W vb Q (c m i gc nc2 : Nat) (Z : Nat → Int) (gs ns : Option Addr), St c W vb Q → c ≤ 6 → m ≤ 6 → i ≤ 5 → (∀ j, j < m → goE c (fun _ => false) Z j = 0) → m ≤ gc → i ≤ nc2 → (m = 0 ∨ ∃ g : Nat, gs = some ⟨g, 0, none⟩ ∧ RowI W g 0 m Z) → (∃ B, W.ownsRow B 23 3 (.slice ns i nc2) i (cellsK (fun i => H (Xc i).toNat (Xb i).toNat) i)) → Calls Tryd.prog 32 #[vb, .slice gs m gc, .slice ns i nc2] W fun ex w' => ex = .returned (.tuple #[.agg #[.int .i64 ((tM (4 * xx c m Z i)).1 : Int), .int .i64 ((tM (4 * xx c m Z i)).2.1 : Int), .bool (tM (4 * xx c m Z i)).2.2], .nilIface]) ∧ Below W.heap.size W w')
    (hHMO : ∀ (n : Int) w, Calls Tryd.prog 23 #[.int .i64 n, .int .i64 1013] w fun ex w' => ex = .returned (.int .i64 (n % 1013)) ∧ Below w.heap.size w w')
    (hHCB : ¬ (1 ≤ k ∧ k < 1013) → ∀ (n : Int) (x : Nat) w, Calls Tryd.prog 29 #[.int .i64 (n % 1013), .int .i64 k, .agg #[.int .i64 ((tM (4 * x)).1 : Int), .int .i64 ((tM (4 * x)).2.1 : Int), .bool (tM (4 * x)).2.2]] w fun ex w' => ex = .returned (.tuple #[.agg #[.int .i64 0, .int .i64 0, .bool false, .int .i64 0], errOf 1]) ∧ Below w.heap.size w w')
    (hHCO : 1 ≤ k → k < 1013 → ∀ (n : Int) (x : Nat) w, Calls Tryd.prog 29 #[.int .i64 (n % 1013), .int .i64 k, .agg #[.int .i64 ((tM (4 * x)).1 : Int), .int .i64 ((tM (4 * x)).2.1 : Int), .bool (tM (4 * x)).2.2]] w fun ex w' => ex = .returned (.tuple #[.agg #[.int .i64 ((R).1 : Int), .int .i64 ((R).2.1 : Int), .bool (R).2.2, .int .i64 (z (n % 1013).toNat x : Int)], .nilIface]) ∧ Below w.heap.size w w')
    (hHAK : ∀ (x : Nat) w, Calls Tryd.prog 33 #[.agg #[.int .i64 ((R).1 : Int), .int .i64 ((R).2.1 : Int), .bool (R).2.2], .agg #[.int .i64 ((tM (4 * x)).1 : Int), .int .i64 ((tM (4 * x)).2.1 : Int), .bool (tM (4 * x)).2.2]] w fun ex w' => ex = .returned (.tuple #[.int .i64 (q x : Int), .nilIface]) ∧ Below w.heap.size w w')
    (hHAD : ∀ (x y : Nat) w, Calls Tryd.prog 34 #[.agg #[.int .i64 ((tM (4 * x)).1 : Int), .int .i64 ((tM (4 * x)).2.1 : Int), .bool (tM (4 * x)).2.2], .agg #[.int .i64 ((tM (4 * y)).1 : Int), .int .i64 ((tM (4 * y)).2.1 : Int), .bool (tM (4 * y)).2.2]] w fun ex w' => ex = .returned (.tuple #[.agg #[.int .i64 ((tM (4 * x + 4 * y)).1 : Int), .int .i64 ((tM (4 * x + 4 * y)).2.1 : Int), .bool (tM (4 * x + 4 * y)).2.2], .nilIface]) ∧ Below w.heap.size w w')
    (hHTT : ∀ c W vb Q, St c W vb Q → c ≤ 6 → Calls Tryd.prog 27 #[vb] W fun ex w' => ex = .returned (.agg #[.int .i64 ((tM (4 * tt c)).1 : Int), .int .i64 ((tM (4 * tt c)).2.1 : Int), .bool (tM (4 * tt c)).2.2]) ∧ Below W.heap.size W w')
    (hHLV : ∀ c W vb Q, St c W vb Q → c ≤ 6 → Calls Tryd.prog 28 #[vb] W fun ex w' => ∃ q' e, ex = .returned (.slice q' c e) ∧ Below W.heap.size W w')
    (hHDN : 1 ≤ k → k < 1013 → ∀ W vb Q (c m i gc nc2 : Nat) (Z : Nat → Int) (gs ns : Option Addr) (ro : Nat), St c W vb Q → c ≤ 6 → m ≤ 6 → i ≤ 5 → (∀ j, j < m → goE c (fun _ => false) Z j = 0) → m ≤ gc → i ≤ nc2 → (m = 0 ∨ ∃ g : Nat, gs = some ⟨g, 0, none⟩ ∧ RowI W g 0 m Z) → (∃ B, W.ownsRow B 23 3 (.slice ns i nc2) i (cellsK (fun i => H (Xc i).toNat (Xb i).toNat) i)) → ro < 1013 → cl ro (xx c m Z i) = false → Calls Tryd.prog 30 #[vb, .agg #[.slice gs m gc, .slice ns i nc2, .int .i64 ((R).1 : Int), .int .i64 ((R).2.1 : Int), .bool (R).2.2, .int .i64 (z ro (xx c m Z i) : Int)]] W fun ex w' => ex = .returned (errOf 8) ∧ Below W.heap.size W w')
    (hHDY : 1 ≤ k → k < 1013 → ∀ W vb Q (c m i gc nc2 : Nat) (Z : Nat → Int) (gs ns : Option Addr) (ro : Nat), St c W vb Q → c ≤ 6 → m ≤ 6 → i ≤ 5 → (∀ j, j < m → goE c (fun _ => false) Z j = 0) → m ≤ gc → i ≤ nc2 → (m = 0 ∨ ∃ g : Nat, gs = some ⟨g, 0, none⟩ ∧ RowI W g 0 m Z) → (∃ B, W.ownsRow B 23 3 (.slice ns i nc2) i (cellsK (fun i => H (Xc i).toNat (Xb i).toNat) i)) → (m ≠ 0 → ∀ b o, gs = some ⟨b, o, none⟩ → ¬ Q b) → (i ≠ 0 → ∀ b o, ns = some ⟨b, o, none⟩ → ¬ Q b) → ro < 1013 → cl ro (xx c m Z i) = true → Calls Tryd.prog 30 #[vb, .agg #[.slice gs m gc, .slice ns i nc2, .int .i64 ((R).1 : Int), .int .i64 ((R).2.1 : Int), .bool (R).2.2, .int .i64 (z ro (xx c m Z i) : Int)]] W fun ex w' => ex = .returned .nilIface ∧ But Q W w' ∧ ∃ Q', S2 c m Z i w' vb Q' ∧ ∀ j, Q' j → Q j ∨ W.heap.size ≤ j)
    (hHS2 : ∀ c m Z i W W' vb Q, S2 c m Z i W vb Q → Below W.heap.size W W' → S2 c m Z i W' vb Q)
    (hHT2 : ∀ W vb Q (c m i gc nc2 : Nat) (Z : Nat → Int) (gs ns : Option Addr), S2 c m Z i W vb Q → c ≤ 6 → m ≤ 6 → i ≤ 5 → (∀ j, j < m → goE c (fun _ => false) Z j = 0) → Calls Tryd.prog 27 #[vb] W fun ex w' => ex = .returned (.agg #[.int .i64 ((tM (4 * tt c + 4 * xx c m Z i)).1 : Int), .int .i64 ((tM (4 * tt c + 4 * xx c m Z i)).2.1 : Int), .bool (tM (4 * tt c + 4 * xx c m Z i)).2.2]) ∧ Below W.heap.size W w')
    (hHL2 : ∀ W vb Q (c m i gc nc2 : Nat) (Z : Nat → Int) (gs ns : Option Addr), S2 c m Z i W vb Q → c ≤ 6 → m ≤ 6 → i ≤ 5 → (∀ j, j < m → goE c (fun _ => false) Z j = 0) → Calls Tryd.prog 28 #[vb] W fun ex w' => ∃ q' e L, ex = .returned (.slice q' L e) ∧ L + m = c + i ∧ Below W.heap.size W w')
    (hHD6 : ∀ W vb Q (c m i gc nc2 : Nat) (Z : Nat → Int) (gs ns : Option Addr) (ro : Nat), S2 c m Z i W vb Q → c ≤ 6 → m ≤ 6 → i ≤ 5 → (∀ j, j < m → goE c (fun _ => false) Z j = 0) → m ≤ gc → i ≤ nc2 → (m = 0 ∨ ∃ g : Nat, gs = some ⟨g, 0, none⟩ ∧ RowI W g 0 m Z) → (∃ B, W.ownsRow B 23 3 (.slice ns i nc2) i (cellsK (fun i => H (Xc i).toNat (Xb i).toNat) i)) → 0 < m → Calls Tryd.prog 30 #[vb, .agg #[.slice gs m gc, .slice ns i nc2, .int .i64 ((R).1 : Int), .int .i64 ((R).2.1 : Int), .bool (R).2.2, .int .i64 (z ro (xx c m Z i) : Int)]] W fun ex w' => ex = .returned (errOf 6) ∧ Below W.heap.size W w')
    (hHCL : 1 ≤ k → k < 1013 → ∀ c m Z f v2 r2 i, Picks c Xv Xr m Z f v2 r2 → Goods Xv Xr c → Goods Xc Xb i → c ≤ 6 → i ≤ 5 → cl ((r2 + sumI Xb i) % 1013).toNat (xx c m Z i) = ((v2 + sumI Xc i) % 1013 == 0 || (q (xx c m Z i) : Int) == 0))
    : Calls Tryd.prog 6 #[.slice sv nv dv, .slice sr nr dr, .slice sg ng dg, .slice sc nc dc, .slice sb nb db, .int .i64 k] w fun e w' => e = .returned (.bool true) ∧ Below w.heap.size w w' := by
  have HDr : Hid (Door w) := hd
  have HN0 : Hid (∀ W, Calls Tryd.prog 26 #[.slice none 0 0] W fun ex w' => ∃ vb Q, ex = .returned (.tuple #[vb, .nilIface]) ∧ S0 w' vb Q ∧ (∀ i, Q i → W.heap.size ≤ i) ∧ Below W.heap.size W w') := hHN0
  have HS0 : Hid (∀ W W' vb Q, S0 W vb Q → Below W.heap.size W W' → S0 W' vb Q) := hHS0
  have HT0 : Hid (∀ W vb Q, S0 W vb Q → Calls Tryd.prog 27 #[vb] W fun ex w' => ex = .returned (.agg #[.int .i64 0, .int .i64 0, .bool true]) ∧ Below W.heap.size W w') := hHT0
  have HL0 : Hid (∀ W vb Q, S0 W vb Q → Calls Tryd.prog 28 #[vb] W fun ex w' => ∃ q e, ex = .returned (.slice q 0 e) ∧ Below W.heap.size W w') := hHL0
  have HC0 : Hid (∀ w, Calls Tryd.prog 29 #[.int .i64 0, .int .i64 1, .agg #[.int .i64 0, .int .i64 0, .bool true]] w fun ex w' => ex = .returned (.tuple #[.agg #[.int .i64 ((R0).1 : Int), .int .i64 ((R0).2.1 : Int), .bool (R0).2.2, .int .i64 z0], .nilIface]) ∧ Below w.heap.size w w') := hHC0
  have HD0 : Hid (∀ W vb Q, S0 W vb Q → Calls Tryd.prog 30 #[vb, .agg #[.slice none 0 0, .slice none 0 0, .int .i64 ((R0).1 : Int), .int .i64 ((R0).2.1 : Int), .bool (R0).2.2, .int .i64 z0]] W fun ex w' => ex = .returned .nilIface ∧ But Q W w') := hHD0
  have RV : Hid ((nv = 0 ∨ ∃ b o : Nat, sv = some ⟨b, o, none⟩ ∧ RowI w b o nv Xv)) := hRV
  have RR : Hid ((nr = 0 ∨ ∃ b o : Nat, sr = some ⟨b, o, none⟩ ∧ RowI w b o nr Xr)) := hRR
  have RG : Hid ((ng = 0 ∨ ∃ b o : Nat, sg = some ⟨b, o, none⟩ ∧ RowI w b o ng Xg)) := hRG
  have RC : Hid ((nc = 0 ∨ ∃ b o : Nat, sc = some ⟨b, o, none⟩ ∧ RowI w b o nc Xc)) := hRC
  have RB : Hid ((nb = 0 ∨ ∃ b o : Nat, sb = some ⟨b, o, none⟩ ∧ RowI w b o nb Xb)) := hRB
  have HH : Hid (∀ (a b : Nat) w, a < 1013 → b < 1013 → Calls Tryd.prog 31 #[.int .i64 (a : Int), .int .i64 (b : Int)] w fun ex w' => ex = .returned (.tuple #[.agg #[.int .i64 ((tM (4 * H a b)).1 : Int), .int .i64 ((tM (4 * H a b)).2.1 : Int), .bool (tM (4 * H a b)).2.2], .nilIface]) ∧ Below w.heap.size w w') := hHH
  have HHe1 : Hid (∀ (i : Nat) w, i < nv → i < nr → (resB (Xv i) && resB (Xr i)) = false → Calls Tryd.prog 31 #[.int .i64 (Xv i), .int .i64 (Xr i)] w fun ex w' => ex = .returned (.tuple #[.agg #[.int .i64 0, .int .i64 0, .bool false], errOf 1]) ∧ Below w.heap.size w w') := hHHe1
  have HHe2 : Hid (∀ (i : Nat) w, i < nc → i < nb → (resB (Xc i) && resB (Xb i)) = false → Calls Tryd.prog 31 #[.int .i64 (Xc i), .int .i64 (Xb i)] w fun ex w' => ex = .returned (.tuple #[.agg #[.int .i64 0, .int .i64 0, .bool false], errOf 1]) ∧ Below w.heap.size w w') := hHHe2
  have HLT : Hid (∀ c W vb Q, St c W vb Q → ∀ j, Q j → j < W.heap.size) := hHLT
  have HN : Hid (∀ W u c, c ≤ 6 → (∃ B, W.ownsRow B 23 3 u c (cellsK (fun i => H (Xv i).toNat (Xr i).toNat) c)) → Calls Tryd.prog 26 #[u] W fun ex w' => ∃ vb Q, ex = .returned (.tuple #[vb, .nilIface]) ∧ St c w' vb Q ∧ (∀ i, Q i → W.heap.size ≤ i) ∧ Below W.heap.size W w') := hHN
  have HST1 : Hid (∀ c W W' vb Q F, St c W vb Q → But F W W' → (∀ j, Q j → ¬ F j) → St c W' vb Q) := hHST1
  have HX : Hid (∀ W vb Q (c m i gc nc2 : Nat) (Z : Nat → Int) (gs ns : Option Addr), St c W vb Q → c ≤ 6 → m ≤ 6 → i ≤ 5 → (∀ j, j < m → goE c (fun _ => false) Z j = 0) → m ≤ gc → i ≤ nc2 → (m = 0 ∨ ∃ g : Nat, gs = some ⟨g, 0, none⟩ ∧ RowI W g 0 m Z) → (∃ B, W.ownsRow B 23 3 (.slice ns i nc2) i (cellsK (fun i => H (Xc i).toNat (Xb i).toNat) i)) → Calls Tryd.prog 32 #[vb, .slice gs m gc, .slice ns i nc2] W fun ex w' => ex = .returned (.tuple #[.agg #[.int .i64 ((tM (4 * xx c m Z i)).1 : Int), .int .i64 ((tM (4 * xx c m Z i)).2.1 : Int), .bool (tM (4 * xx c m Z i)).2.2], .nilIface]) ∧ Below W.heap.size W w') := hHX
  have HMO : Hid (∀ (n : Int) w, Calls Tryd.prog 23 #[.int .i64 n, .int .i64 1013] w fun ex w' => ex = .returned (.int .i64 (n % 1013)) ∧ Below w.heap.size w w') := hHMO
  have HCB : Hid (¬ (1 ≤ k ∧ k < 1013) → ∀ (n : Int) (x : Nat) w, Calls Tryd.prog 29 #[.int .i64 (n % 1013), .int .i64 k, .agg #[.int .i64 ((tM (4 * x)).1 : Int), .int .i64 ((tM (4 * x)).2.1 : Int), .bool (tM (4 * x)).2.2]] w fun ex w' => ex = .returned (.tuple #[.agg #[.int .i64 0, .int .i64 0, .bool false, .int .i64 0], errOf 1]) ∧ Below w.heap.size w w') := hHCB
  have HCO : Hid (1 ≤ k → k < 1013 → ∀ (n : Int) (x : Nat) w, Calls Tryd.prog 29 #[.int .i64 (n % 1013), .int .i64 k, .agg #[.int .i64 ((tM (4 * x)).1 : Int), .int .i64 ((tM (4 * x)).2.1 : Int), .bool (tM (4 * x)).2.2]] w fun ex w' => ex = .returned (.tuple #[.agg #[.int .i64 ((R).1 : Int), .int .i64 ((R).2.1 : Int), .bool (R).2.2, .int .i64 (z (n % 1013).toNat x : Int)], .nilIface]) ∧ Below w.heap.size w w') := hHCO
  have HAK : Hid (∀ (x : Nat) w, Calls Tryd.prog 33 #[.agg #[.int .i64 ((R).1 : Int), .int .i64 ((R).2.1 : Int), .bool (R).2.2], .agg #[.int .i64 ((tM (4 * x)).1 : Int), .int .i64 ((tM (4 * x)).2.1 : Int), .bool (tM (4 * x)).2.2]] w fun ex w' => ex = .returned (.tuple #[.int .i64 (q x : Int), .nilIface]) ∧ Below w.heap.size w w') := hHAK
  have HAD : Hid (∀ (x y : Nat) w, Calls Tryd.prog 34 #[.agg #[.int .i64 ((tM (4 * x)).1 : Int), .int .i64 ((tM (4 * x)).2.1 : Int), .bool (tM (4 * x)).2.2], .agg #[.int .i64 ((tM (4 * y)).1 : Int), .int .i64 ((tM (4 * y)).2.1 : Int), .bool (tM (4 * y)).2.2]] w fun ex w' => ex = .returned (.tuple #[.agg #[.int .i64 ((tM (4 * x + 4 * y)).1 : Int), .int .i64 ((tM (4 * x + 4 * y)).2.1 : Int), .bool (tM (4 * x + 4 * y)).2.2], .nilIface]) ∧ Below w.heap.size w w') := hHAD
  have HTT : Hid (∀ c W vb Q, St c W vb Q → c ≤ 6 → Calls Tryd.prog 27 #[vb] W fun ex w' => ex = .returned (.agg #[.int .i64 ((tM (4 * tt c)).1 : Int), .int .i64 ((tM (4 * tt c)).2.1 : Int), .bool (tM (4 * tt c)).2.2]) ∧ Below W.heap.size W w') := hHTT
  have HLV : Hid (∀ c W vb Q, St c W vb Q → c ≤ 6 → Calls Tryd.prog 28 #[vb] W fun ex w' => ∃ q' e, ex = .returned (.slice q' c e) ∧ Below W.heap.size W w') := hHLV
  have HDN : Hid (1 ≤ k → k < 1013 → ∀ W vb Q (c m i gc nc2 : Nat) (Z : Nat → Int) (gs ns : Option Addr) (ro : Nat), St c W vb Q → c ≤ 6 → m ≤ 6 → i ≤ 5 → (∀ j, j < m → goE c (fun _ => false) Z j = 0) → m ≤ gc → i ≤ nc2 → (m = 0 ∨ ∃ g : Nat, gs = some ⟨g, 0, none⟩ ∧ RowI W g 0 m Z) → (∃ B, W.ownsRow B 23 3 (.slice ns i nc2) i (cellsK (fun i => H (Xc i).toNat (Xb i).toNat) i)) → ro < 1013 → cl ro (xx c m Z i) = false → Calls Tryd.prog 30 #[vb, .agg #[.slice gs m gc, .slice ns i nc2, .int .i64 ((R).1 : Int), .int .i64 ((R).2.1 : Int), .bool (R).2.2, .int .i64 (z ro (xx c m Z i) : Int)]] W fun ex w' => ex = .returned (errOf 8) ∧ Below W.heap.size W w') := hHDN
  have HDY : Hid (1 ≤ k → k < 1013 → ∀ W vb Q (c m i gc nc2 : Nat) (Z : Nat → Int) (gs ns : Option Addr) (ro : Nat), St c W vb Q → c ≤ 6 → m ≤ 6 → i ≤ 5 → (∀ j, j < m → goE c (fun _ => false) Z j = 0) → m ≤ gc → i ≤ nc2 → (m = 0 ∨ ∃ g : Nat, gs = some ⟨g, 0, none⟩ ∧ RowI W g 0 m Z) → (∃ B, W.ownsRow B 23 3 (.slice ns i nc2) i (cellsK (fun i => H (Xc i).toNat (Xb i).toNat) i)) → (m ≠ 0 → ∀ b o, gs = some ⟨b, o, none⟩ → ¬ Q b) → (i ≠ 0 → ∀ b o, ns = some ⟨b, o, none⟩ → ¬ Q b) → ro < 1013 → cl ro (xx c m Z i) = true → Calls Tryd.prog 30 #[vb, .agg #[.slice gs m gc, .slice ns i nc2, .int .i64 ((R).1 : Int), .int .i64 ((R).2.1 : Int), .bool (R).2.2, .int .i64 (z ro (xx c m Z i) : Int)]] W fun ex w' => ex = .returned .nilIface ∧ But Q W w' ∧ ∃ Q', S2 c m Z i w' vb Q' ∧ ∀ j, Q' j → Q j ∨ W.heap.size ≤ j) := hHDY
  have HS2 : Hid (∀ c m Z i W W' vb Q, S2 c m Z i W vb Q → Below W.heap.size W W' → S2 c m Z i W' vb Q) := hHS2
  have HT2 : Hid (∀ W vb Q (c m i gc nc2 : Nat) (Z : Nat → Int) (gs ns : Option Addr), S2 c m Z i W vb Q → c ≤ 6 → m ≤ 6 → i ≤ 5 → (∀ j, j < m → goE c (fun _ => false) Z j = 0) → Calls Tryd.prog 27 #[vb] W fun ex w' => ex = .returned (.agg #[.int .i64 ((tM (4 * tt c + 4 * xx c m Z i)).1 : Int), .int .i64 ((tM (4 * tt c + 4 * xx c m Z i)).2.1 : Int), .bool (tM (4 * tt c + 4 * xx c m Z i)).2.2]) ∧ Below W.heap.size W w') := hHT2
  have HL2 : Hid (∀ W vb Q (c m i gc nc2 : Nat) (Z : Nat → Int) (gs ns : Option Addr), S2 c m Z i W vb Q → c ≤ 6 → m ≤ 6 → i ≤ 5 → (∀ j, j < m → goE c (fun _ => false) Z j = 0) → Calls Tryd.prog 28 #[vb] W fun ex w' => ∃ q' e L, ex = .returned (.slice q' L e) ∧ L + m = c + i ∧ Below W.heap.size W w') := hHL2
  have HD6 : Hid (∀ W vb Q (c m i gc nc2 : Nat) (Z : Nat → Int) (gs ns : Option Addr) (ro : Nat), S2 c m Z i W vb Q → c ≤ 6 → m ≤ 6 → i ≤ 5 → (∀ j, j < m → goE c (fun _ => false) Z j = 0) → m ≤ gc → i ≤ nc2 → (m = 0 ∨ ∃ g : Nat, gs = some ⟨g, 0, none⟩ ∧ RowI W g 0 m Z) → (∃ B, W.ownsRow B 23 3 (.slice ns i nc2) i (cellsK (fun i => H (Xc i).toNat (Xb i).toNat) i)) → 0 < m → Calls Tryd.prog 30 #[vb, .agg #[.slice gs m gc, .slice ns i nc2, .int .i64 ((R).1 : Int), .int .i64 ((R).2.1 : Int), .bool (R).2.2, .int .i64 (z ro (xx c m Z i) : Int)]] W fun ex w' => ex = .returned (errOf 6) ∧ Below W.heap.size W w') := hHD6
  have HCL : Hid (1 ≤ k → k < 1013 → ∀ c m Z f v2 r2 i, Picks c Xv Xr m Z f v2 r2 → Goods Xv Xr c → Goods Xc Xb i → c ≤ 6 → i ≤ 5 → cl ((r2 + sumI Xb i) % 1013).toNat (xx c m Z i) = ((v2 + sumI Xc i) % 1013 == 0 || (q (xx c m Z i) : Int) == 0)) := hHCL
  clear hd hHN0 hHS0 hHT0 hHL0 hHC0 hHD0 hRV hRR hRG hRC hRB hHH hHHe1 hHHe2 hHLT hHN hHST1 hHX hHMO hHCB hHCO hHAK hHAD hHTT hHLV hHDN hHDY hHS2 hHT2 hHL2 hHD6 hHCL
  have m1 : True := trivial; have m2 : True := trivial; have m3 : True := trivial; have m4 : True := trivial; have m5 : True := trivial
  go_enter Tryd.func6, Tryd.ntmps6
  obtain ⟨i0, hi0, hv0, hv1, hv2⟩ := info_parts kpinfo
  go_upto_block 0 with (first | (go_at_call 26; clear m1; refine (HN0.out _).mono ?_; rintro e w1 ⟨vo, Q0, rfl, hs1, hQ0, hb1⟩; have hq1 : Below w.heap.size w w1 := (by repeat (first | (with_reducible exact Below.refl _ _) | (with_reducible assumption) | (with_reducible refine Below.setCell ?_ (by first | (simp; done) | (simp; omega) | omega) _) | (with_reducible refine Below.alloc ?_ (by first | (simp; done) | (simp; omega) | omega) _) | (refine bl_call ?_ (by assumption) (by first | (simp; done) | (simp; omega) | omega)) | (with_reducible refine bl_drewN ?_) | (with_reducible refine Below.drew ?_) | (with_reducible refine bl_grow ?_ (by first | (simp; done) | (simp; omega) | omega)))); have hz1 := hq1.size; have hQw : ∀ i, Q0 i → w.heap.size ≤ i := hQ0; clear hb1) | (go_at_call 27; clear m2; refine (HT0.out _ _ _ hs1).mono ?_; rintro e w2 ⟨rfl, hb2⟩; have hq2 : Below w.heap.size w w2 := (by repeat (first | (with_reducible exact Below.refl _ _) | (with_reducible assumption) | (with_reducible refine Below.setCell ?_ (by first | (simp; done) | (simp; omega) | omega) _) | (with_reducible refine Below.alloc ?_ (by first | (simp; done) | (simp; omega) | omega) _) | (refine bl_call ?_ (by assumption) (by first | (simp; done) | (simp; omega) | omega)) | (with_reducible refine bl_drewN ?_) | (with_reducible refine Below.drew ?_) | (with_reducible refine bl_grow ?_ (by first | (simp; done) | (simp; omega) | omega)))); have hz2 := hq2.size; have hs2 := HS0.out _ _ _ _ hs1 hb2; clear hb2 hs1) | (go_at_call 28; clear m3; refine (HL0.out _ _ _ hs2).mono ?_; rintro e w3 ⟨q3, e3, rfl, hb3⟩; have hq3 : Below w.heap.size w w3 := (by repeat (first | (with_reducible exact Below.refl _ _) | (with_reducible assumption) | (with_reducible refine Below.setCell ?_ (by first | (simp; done) | (simp; omega) | omega) _) | (with_reducible refine Below.alloc ?_ (by first | (simp; done) | (simp; omega) | omega) _) | (refine bl_call ?_ (by assumption) (by first | (simp; done) | (simp; omega) | omega)) | (with_reducible refine bl_drewN ?_) | (with_reducible refine Below.drew ?_) | (with_reducible refine bl_grow ?_ (by first | (simp; done) | (simp; omega) | omega)))); have hz3 := hq3.size; have hs3 := HS0.out _ _ _ _ hs2 hb3; clear hb3 hs2) | (go_at_call 29; clear m4; refine (HC0.out _).mono ?_; rintro e w4 ⟨rfl, hb4⟩; have hq4 : Below w.heap.size w w4 := (by repeat (first | (with_reducible exact Below.refl _ _) | (with_reducible assumption) | (with_reducible refine Below.setCell ?_ (by first | (simp; done) | (simp; omega) | omega) _) | (with_reducible refine Below.alloc ?_ (by first | (simp; done) | (simp; omega) | omega) _) | (refine bl_call ?_ (by assumption) (by first | (simp; done) | (simp; omega) | omega)) | (with_reducible refine bl_drewN ?_) | (with_reducible refine Below.drew ?_) | (with_reducible refine bl_grow ?_ (by first | (simp; done) | (simp; omega) | omega)))); have hz4 := hq4.size; have hs4 := HS0.out _ _ _ _ hs3 hb4; clear hb4 hs3) | (go_at_call 30; clear m5; refine (HD0.out _ _ _ (HS0.out _ _ _ _ hs4 (show Below w4.heap.size w4 _ from by repeat (first | (with_reducible exact Below.refl _ _) | (with_reducible assumption) | (with_reducible refine Below.setCell ?_ (by first | (simp; done) | (simp; omega) | omega) _) | (with_reducible refine Below.alloc ?_ (by first | (simp; done) | (simp; omega) | omega) _) | (refine bl_call ?_ (by assumption) (by first | (simp; done) | (simp; omega) | omega)) | (with_reducible refine bl_drewN ?_) | (with_reducible refine Below.drew ?_) | (with_reducible refine bl_grow ?_ (by first | (simp; done) | (simp; omega) | omega)))))).mono ?_; rintro e w5 ⟨rfl, hbut⟩; have hq5 : Below w.heap.size w w5 := But.under (show Below w.heap.size w _ from by repeat (first | (with_reducible exact Below.refl _ _) | (with_reducible assumption) | (with_reducible refine Below.setCell ?_ (by first | (simp; done) | (simp; omega) | omega) _) | (with_reducible refine Below.alloc ?_ (by first | (simp; done) | (simp; omega) | omega) _) | (refine bl_call ?_ (by assumption) (by first | (simp; done) | (simp; omega) | omega)) | (with_reducible refine bl_drewN ?_) | (with_reducible refine Below.drew ?_) | (with_reducible refine bl_grow ?_ (by first | (simp; done) | (simp; omega) | omega)))) hbut hQw (by first | (simp; done) | (simp; omega) | omega); have hz5 := hq5.size; clear hbut))
  refine wp_gen (fun V => Below w.heap.size w V) (by repeat (first | (with_reducible exact Below.refl _ _) | (with_reducible assumption) | (with_reducible refine Below.setCell ?_ (by first | (simp; done) | (simp; omega) | omega) _) | (with_reducible refine Below.alloc ?_ (by first | (simp; done) | (simp; omega) | omega) _) | (refine bl_call ?_ (by assumption) (by first | (simp; done) | (simp; omega) | omega)) | (with_reducible refine bl_drewN ?_) | (with_reducible refine Below.drew ?_) | (with_reducible refine bl_grow ?_ (by first | (simp; done) | (simp; omega) | omega)))) ?_
  rintro V hqV
  have hzV := hqV.size
  clear hq1 hq2 hq3 hq4 hq5 hs4 hQ0 hQw
  obtain ⟨c0, hcv, hcr, hc6, hcw⟩ : ∃ c, c ≤ nv ∧ c ≤ nr ∧ c ≤ 6 ∧ (c = nv ∨ c = nr ∨ c = 6) := ⟨min (min nv nr) 6, by omega, by omega, by omega, by omega⟩
  have HCW : Hid (c0 = nv ∨ c0 = nr ∨ c0 = 6) := hcw
  clear hcw
  go_wp2_with fail
  go_loopw [16, 17] (fun tv ti wl => ∃ i : Nat, i ≤ c0 ∧ ti = .int .i64 (i : Int) ∧ Goods Xv Xr i ∧ wl.ownsRow V.heap.size 23 3 tv i (cellsK (fun i => H (Xv i).toNat (Xr i).toNat) i) ∧ Below V.heap.size V wl) (fun _ ti _ => 6 - (intOf ti).toNat)
  case atStart => exact ⟨0, by omega, rfl, goods_zero _ _, World.ownsRow_nil _ _ _ _, Below.refl _ _⟩
  case round =>
    obtain ⟨i, hi, rfl, hgood, hown, hqU⟩ := hrel
    have HGD : Hid (Goods Xv Xr i) := hgood
    clear hgood
    rename World => U
    have hzU := hqU.size
    have hqwU : Below w.heap.size w U := bl_call hqV hqU hzV
    have hzwU := hqwU.size
    by_cases hlt : i < c0
    · as_aux_lemma =>
      have l1 : (i : Int) < nv := by omega
      have l2 : (i : Int) < nr := by omega
      have l3 : (i : Int) < 6 := by omega
      have i1 : i < nv := by omega
      have i2 : i < nr := by omega
      obtain ⟨bv, ov, rfl, hv⟩ := RV.out.resolve_left (by omega)
      obtain ⟨br, or, rfl, hr⟩ := RR.out.resolve_left (by omega)
      have HRV : Hid (RowI w bv ov nv Xv) := hv
      have HRR : Hid (RowI w br or nr Xr) := hr
      clear hv hr
      cases hg : resB (Xv i) && resB (Xr i) with
      | false =>
        have HE : Hid (∀ w, Calls Tryd.prog 31 #[.int .i64 (Xv i), .int .i64 (Xr i)] w fun ex w' => ex = .returned (.tuple #[.agg #[.int .i64 0, .int .i64 0, .bool false], errOf 1]) ∧ Below w.heap.size w w') := fun w => HHe1.out i w i1 i2 hg
        clear hg
        go_upto_region 11 with fail
        go_cut [18, 19] from 70 to 103 (fun t1_ t2_ wx_ => ∃ b18 : Nat, t1_ = .pointer (some ⟨b18, 0, none⟩) ∧ t2_ = errOf 1 ∧ At wx_ b18 [.int .i64 0, .int .i64 0, .bool false] ∧ U.heap.size ≤ b18 ∧ Below U.heap.size U wx_)
        case first => as_aux_lemma =>
          have hUU : Below U.heap.size U U := Below.refl _ _
          go_region_held3 (fun W_ => (bv < W_.heap.size ∧ W_.cell? ⟨bv, ov + i, none⟩ = some (.int .i64 (Xv i))) ∧ (br < W_.heap.size ∧ W_.cell? ⟨br, or + i, none⟩ = some (.int .i64 (Xr i)))) (exact ⟨krow_at HRV.out (by repeat (first | (with_reducible exact Below.refl _ _) | (with_reducible assumption) | (with_reducible refine Below.setCell ?_ (by first | (simp; done) | (simp; omega) | omega) _) | (with_reducible refine Below.alloc ?_ (by first | (simp; done) | (simp; omega) | omega) _) | (refine bl_call ?_ (by assumption) (by first | (simp; done) | (simp; omega) | omega)) | (with_reducible refine bl_drewN ?_) | (with_reducible refine Below.drew ?_) | (with_reducible refine bl_grow ?_ (by first | (simp; done) | (simp; omega) | omega)))) i1, krow_at HRR.out (by repeat (first | (with_reducible exact Below.refl _ _) | (with_reducible assumption) | (with_reducible refine Below.setCell ?_ (by first | (simp; done) | (simp; omega) | omega) _) | (with_reducible refine Below.alloc ?_ (by first | (simp; done) | (simp; omega) | omega) _) | (refine bl_call ?_ (by assumption) (by first | (simp; done) | (simp; omega) | omega)) | (with_reducible refine bl_drewN ?_) | (with_reducible refine Below.drew ?_) | (with_reducible refine bl_grow ?_ (by first | (simp; done) | (simp; omega) | omega)))) i2⟩) ((go_at_call 31; refine (HE.out _).mono ?_; rintro e w1 ⟨rfl, hb1⟩; have hs1 := hb1.size; (try simp at hs1); obtain ⟨hc1, hf1⟩ := bcell hb1; have hl1 := kb_lt hb1; have hn1 := kb_ne hb1; have hm1 := kb_ne2 hb1))
          all_goals (go_wp2_with fail)
          all_goals go_meet
          all_goals (case rel => exact ⟨_, rfl, rfl, by repeat (first | (with_reducible assumption) | ((with_reducible refine at_new' _ _ _ _ ?_); (first | rfl | (simp; done))) | (with_reducible refine At.alloc ?_ _) | (with_reducible refine At.drew ?_) | (with_reducible refine At.drewN ?_) | (with_reducible refine At.set ?_ (by omega)) | (with_reducible apply At.store4) | (with_reducible apply At.store3) | (with_reducible apply At.store2) | (with_reducible apply At.put43) | (refine At.below ?_ (by with_reducible assumption))), by omega, by repeat (first | (with_reducible exact Below.refl _ _) | (with_reducible assumption) | (with_reducible refine Below.setCell ?_ (by first | (simp; done) | (simp; omega) | omega) _) | (with_reducible refine Below.alloc ?_ (by first | (simp; done) | (simp; omega) | omega) _) | (refine bl_call ?_ (by assumption) (by first | (simp; done) | (simp; omega) | omega)) | (with_reducible refine bl_drewN ?_) | (with_reducible refine Below.drew ?_) | (with_reducible refine bl_grow ?_ (by first | (simp; done) | (simp; omega) | omega)))⟩)
        case rest =>
        rename World => U1
        obtain ⟨b18, rfl, rfl, kxU1, hg18, hrU1⟩ := hcut
        go_wp2_with fail
        go_ret
        exact ⟨rfl, bl_call hqwU hrU1 hzwU⟩
      | true =>
        have hg2 := hg
        rw [Bool.and_eq_true] at hg2
        have HGN : Hid (Goods Xv Xr (i + 1)) := goods_succ HGD.out hg2.1 hg2.2
        have HE : Hid (∀ w, Calls Tryd.prog 31 #[.int .i64 (Xv i), .int .i64 (Xr i)] w fun ex w' => ex = .returned (.tuple #[.agg #[.int .i64 ((tM (4 * H (Xv i).toNat (Xr i).toNat)).1 : Int), .int .i64 ((tM (4 * H (Xv i).toNat (Xr i).toNat)).2.1 : Int), .bool (tM (4 * H (Xv i).toNat (Xr i).toNat)).2.2], .nilIface]) ∧ Below w.heap.size w w') := fun w => khide HH.out hg2.1 hg2.2 w
        clear hg hg2
        go_upto_region 11 with fail
        go_cut [18, 19] from 70 to 103 (fun t1_ t2_ wx_ => ∃ b18 : Nat, t1_ = .pointer (some ⟨b18, 0, none⟩) ∧ t2_ = .nilIface ∧ At wx_ b18 [.int .i64 ((tM (4 * H (Xv i).toNat (Xr i).toNat)).1 : Int), .int .i64 ((tM (4 * H (Xv i).toNat (Xr i).toNat)).2.1 : Int), .bool (tM (4 * H (Xv i).toNat (Xr i).toNat)).2.2] ∧ U.heap.size ≤ b18 ∧ Below U.heap.size U wx_)
        case first => as_aux_lemma =>
          have hUU : Below U.heap.size U U := Below.refl _ _
          go_region_held3 (fun W_ => (bv < W_.heap.size ∧ W_.cell? ⟨bv, ov + i, none⟩ = some (.int .i64 (Xv i))) ∧ (br < W_.heap.size ∧ W_.cell? ⟨br, or + i, none⟩ = some (.int .i64 (Xr i)))) (exact ⟨krow_at HRV.out (by repeat (first | (with_reducible exact Below.refl _ _) | (with_reducible assumption) | (with_reducible refine Below.setCell ?_ (by first | (simp; done) | (simp; omega) | omega) _) | (with_reducible refine Below.alloc ?_ (by first | (simp; done) | (simp; omega) | omega) _) | (refine bl_call ?_ (by assumption) (by first | (simp; done) | (simp; omega) | omega)) | (with_reducible refine bl_drewN ?_) | (with_reducible refine Below.drew ?_) | (with_reducible refine bl_grow ?_ (by first | (simp; done) | (simp; omega) | omega)))) i1, krow_at HRR.out (by repeat (first | (with_reducible exact Below.refl _ _) | (with_reducible assumption) | (with_reducible refine Below.setCell ?_ (by first | (simp; done) | (simp; omega) | omega) _) | (with_reducible refine Below.alloc ?_ (by first | (simp; done) | (simp; omega) | omega) _) | (refine bl_call ?_ (by assumption) (by first | (simp; done) | (simp; omega) | omega)) | (with_reducible refine bl_drewN ?_) | (with_reducible refine Below.drew ?_) | (with_reducible refine bl_grow ?_ (by first | (simp; done) | (simp; omega) | omega)))) i2⟩) ((go_at_call 31; refine (HE.out _).mono ?_; rintro e w1 ⟨rfl, hb1⟩; have hs1 := hb1.size; (try simp at hs1); obtain ⟨hc1, hf1⟩ := bcell hb1; have hl1 := kb_lt hb1; have hn1 := kb_ne hb1; have hm1 := kb_ne2 hb1))
          all_goals (go_wp2_with fail)
          all_goals go_meet
          all_goals (case rel => exact ⟨_, rfl, rfl, by repeat (first | (with_reducible assumption) | ((with_reducible refine at_new' _ _ _ _ ?_); (first | rfl | (simp; done))) | (with_reducible refine At.alloc ?_ _) | (with_reducible refine At.drew ?_) | (with_reducible refine At.drewN ?_) | (with_reducible refine At.set ?_ (by omega)) | (with_reducible apply At.store4) | (with_reducible apply At.store3) | (with_reducible apply At.store2) | (with_reducible apply At.put43) | (refine At.below ?_ (by with_reducible assumption))), by omega, by repeat (first | (with_reducible exact Below.refl _ _) | (with_reducible assumption) | (with_reducible refine Below.setCell ?_ (by first | (simp; done) | (simp; omega) | omega) _) | (with_reducible refine Below.alloc ?_ (by first | (simp; done) | (simp; omega) | omega) _) | (refine bl_call ?_ (by assumption) (by first | (simp; done) | (simp; omega) | omega)) | (with_reducible refine bl_drewN ?_) | (with_reducible refine Below.drew ?_) | (with_reducible refine bl_grow ?_ (by first | (simp; done) | (simp; omega) | omega)))⟩)
        case rest =>
        rename World => U1
        obtain ⟨b18, rfl, rfl, kxU1, hg18, hrU1⟩ := hcut
        have hzU1 := hrU1.size
        have hqU1 : Below V.heap.size V U1 := bl_call hqU hrU1 hzU
        have hzV1 := hqU1.size
        have hown1 := own_stay hown hrU1
        obtain ⟨zxU1, cx0U1, cx1U1, cx2U1, fx0U1, fx1U1, fx2U1⟩ := kxU1.three
        clear hrU1 hown
        go_wp2_with (at_builtin; refine wpList_append_own_at _ rfl _ _ 36 rfl V.heap.size 23 i0 (.agg #[.int .i64 0, .int .i64 0, .bool false]) 3 24 Tryd.underlying36 hi0 hv0 hv1 hv2 rfl (by decide) _ _ _ rfl (own_stay hown1 (by repeat (first | (with_reducible exact Below.refl _ _) | (with_reducible assumption) | (with_reducible refine Below.setCell ?_ (by first | (simp; done) | (simp; omega) | omega) _) | (with_reducible refine Below.alloc ?_ (by first | (simp; done) | (simp; omega) | omega) _) | (refine bl_call ?_ (by assumption) (by first | (simp; done) | (simp; omega) | omega)) | (with_reducible refine bl_drewN ?_) | (with_reducible refine Below.drew ?_) | (with_reducible refine bl_grow ?_ (by first | (simp; done) | (simp; omega) | omega))))) ⟨_, 0, none⟩ 1 1 [.int .i64 ((tM (4 * H (Xv i).toNat (Xr i).toNat)).1 : Int), .int .i64 ((tM (4 * H (Xv i).toNat (Xr i).toNat)).2.1 : Int), .bool (tM (4 * H (Xv i).toNat (Xr i).toNat)).2.2] rfl rfl ?c1 ?c2 ?c3 ?c4 ?c5 ?_)
        case c1 => exact kthree_new (by simp) _ _ _ _
        case c2 => intro u hu; simp at hu; rcases hu with rfl | rfl | rfl <;> rfl
        case c3 => unfold maxLen; omega
        case c4 => omega
        case c5 => simp; omega
        · intro v' w13 hown' hgrow _ hat
          have hq13 : Below V.heap.size V w13 := grown_under (B := V.heap.size) (by repeat (first | (with_reducible exact Below.refl _ _) | (with_reducible assumption) | (with_reducible refine Below.setCell ?_ (by first | (simp; done) | (simp; omega) | omega) _) | (with_reducible refine Below.alloc ?_ (by first | (simp; done) | (simp; omega) | omega) _) | (refine bl_call ?_ (by assumption) (by first | (simp; done) | (simp; omega) | omega)) | (with_reducible refine bl_drewN ?_) | (with_reducible refine Below.drew ?_) | (with_reducible refine bl_grow ?_ (by first | (simp; done) | (simp; omega) | omega)))) (own_stay hown1 (by repeat (first | (with_reducible exact Below.refl _ _) | (with_reducible assumption) | (with_reducible refine Below.setCell ?_ (by first | (simp; done) | (simp; omega) | omega) _) | (with_reducible refine Below.alloc ?_ (by first | (simp; done) | (simp; omega) | omega) _) | (refine bl_call ?_ (by assumption) (by first | (simp; done) | (simp; omega) | omega)) | (with_reducible refine bl_drewN ?_) | (with_reducible refine Below.drew ?_) | (with_reducible refine bl_grow ?_ (by first | (simp; done) | (simp; omega) | omega))))) hgrow (by simp; omega) (Nat.le_refl _)
          rw [← cellsK_succ (fun i => H (Xv i).toNat (Xr i).toNat)] at hown'
          clear hgrow hat hown1
          go_wp2_with fail
          go_roundw
          case rel => exact ⟨i + 1, by omega, by simp, HGN.out, hown', hq13⟩
          case measure => simp [intOf]; omega
    · as_aux_lemma =>
      obtain rfl : i = c0 := by omega
      go_upto_region 9 with fail
      go_cut [83] from 70 to 83 (fun tb_ wx_ => tb_ = .bool false ∧ wx_ = U)
      case first =>
        by_cases l1 : (i : Int) < nv
        · by_cases l2 : (i : Int) < nr
          · have l3 : ¬ (i : Int) < 6 := by have := HCW.out; omega
            go_wp2_with fail
            go_meet
            case rel => exact ⟨rfl, rfl⟩
          · go_wp2_with fail
            go_meet
            case rel => exact ⟨rfl, rfl⟩
        · go_wp2_with fail
          go_meet
          case rel => exact ⟨rfl, rfl⟩
      case rest =>
      obtain ⟨rfl, rfl⟩ := hcut
      obtain ⟨sk, ck, rfl, hok⟩ := own_slice hown
      go_upto_region 22 with (go_at_call 26; refine (HN.out _ _ _ hc6 ⟨_, hown⟩).mono ?_; rintro e w1 ⟨vb, Q, rfl, hst, hQ, hb1⟩; have hq1 : Below w.heap.size w w1 := bl_call hqwU hb1 hzwU; have hz1 := hq1.size; have hown1 := own_stay hown hb1; have hQU : ∀ j, Q j → w.heap.size ≤ j := (fun j hj => Nat.le_trans hzwU (hQ j hj)))
      obtain ⟨c, hcc⟩ : ∃ c, c = i := ⟨_, rfl⟩
      subst hcc
      obtain ⟨N, hN⟩ : ∃ N, N = w1 := ⟨_, rfl⟩
      subst hN
      refine wp_gen (fun Y => At Y (N.heap.size) (cellsB (fun _ => false) 6) ∧ At Y (N.heap.size + 1) [.slice none 0 0, .slice none 0 0, .int .i64 0, .int .i64 0, .bool false, .int .i64 0] ∧ Below N.heap.size N Y) ⟨(show At _ (N.heap.size) [.bool false, .bool false, .bool false, .bool false, .bool false, .bool false] from (by repeat (first | (with_reducible assumption) | ((with_reducible refine at_new' _ _ _ _ ?_); (first | rfl | (simp; done))) | (with_reducible refine At.alloc ?_ _) | (with_reducible refine At.drew ?_) | (with_reducible refine At.drewN ?_) | (with_reducible refine At.set ?_ (by omega)) | (with_reducible apply At.store4) | (with_reducible apply At.store3) | (with_reducible apply At.store2) | (with_reducible apply At.put43) | (refine At.below ?_ (by with_reducible assumption))))), by repeat (first | (with_reducible assumption) | ((with_reducible refine at_new' _ _ _ _ ?_); (first | rfl | (simp; done))) | (with_reducible refine At.alloc ?_ _) | (with_reducible refine At.drew ?_) | (with_reducible refine At.drewN ?_) | (with_reducible refine At.set ?_ (by omega)) | (with_reducible apply At.store4) | (with_reducible apply At.store3) | (with_reducible apply At.store2) | (with_reducible apply At.put43) | (refine At.below ?_ (by with_reducible assumption))), by repeat (first | (with_reducible exact Below.refl _ _) | (with_reducible assumption) | (with_reducible refine Below.setCell ?_ (by first | (simp; done) | (simp; omega) | omega) _) | (with_reducible refine Below.alloc ?_ (by first | (simp; done) | (simp; omega) | omega) _) | (refine bl_call ?_ (by assumption) (by first | (simp; done) | (simp; omega) | omega)) | (with_reducible refine bl_drewN ?_) | (with_reducible refine Below.drew ?_) | (with_reducible refine bl_grow ?_ (by first | (simp; done) | (simp; omega) | omega)))⟩ ?_
      rintro Y ⟨kI, kD, hqY⟩
      have HST : Hid (St c N vb Q) := hst
      have HQ : Hid (∀ j, Q j → w.heap.size ≤ j) := hQU
      have HQN : Hid (∀ j, Q j → j < N.heap.size) := HLT.out _ _ _ _ hst
      have HK0 : Hid (KL2 (N.heap.size + 2) N.heap.size (N.heap.size + 1) c Xv Xr Y 0 0) := ⟨0, fun _ => 0, fun _ => false, none, 0, picks_none c Xv Xr, World.ownsRow_nil _ _ _ _, kI, kD⟩
      clear hst hQU hQ hown hown1 hb1 hqwU hzwU hqU hzU hqV hzV kI kD hok
      have hqN := hq1
      have hzN := hz1
      clear hq1
      obtain ⟨j0, hj0, hu0, hu1, hu2⟩ := info_parts kiinfo
      go_wp2_with fail
      go_loopw [22, 23, 26] (fun tv tr ti wl => ∃ (i : Nat) (v r : Int), i ≤ ng ∧ ti = .int .i64 (i : Int) ∧ tv = .int .i64 v ∧ tr = .int .i64 r ∧ KL2 (N.heap.size + 2) N.heap.size (N.heap.size + 1) c Xv Xr wl v r ∧ Below N.heap.size N wl) (fun _ _ ti _ => ng - (intOf ti).toNat)
      case atStart => exact ⟨0, 0, 0, by omega, rfl, rfl, rfl, HK0.out, hqY⟩
      case round =>
        clear HK0 hqY
        obtain ⟨i, v2, r2, hi, rfl, rfl, rfl, hK, hqU⟩ := hrel
        rename World => U
        have HKU : Hid (KL2 (N.heap.size + 2) N.heap.size (N.heap.size + 1) c Xv Xr U v2 r2) := hK
        have hzU := hqU.size
        have hqwU : Below w.heap.size w U := bl_call hqN hqU hzN
        have hzwU := hqwU.size
        by_cases hlt : i < ng
        · as_aux_lemma =>
          have l1 : (i : Int) < ng := by omega
          obtain ⟨bg, og, rfl, hg⟩ := RG.out.resolve_left (by omega)
          have HRG : Hid (RowI w bg og ng Xg) := hg
          have cg := (hg.below hg.1 hqwU).2 i hlt
          have hbg := Nat.lt_of_lt_of_le hg.1 hzwU
          clear hg hK
          by_cases g0 : Xg i ≥ 0
          · obtain ⟨q, hq⟩ : ∃ q : Nat, Xg i = (q : Int) := ⟨(Xg i).toNat, by omega⟩
            rw [hq] at cg g0
            have HXQ : Hid (Xg i = (q : Int)) := hq
            clear hq
            by_cases g1 : (q : Int) < (c : Int)
            · obtain ⟨m, Z, f, gs, gc, hP, hown, kI, kD⟩ := HKU.out
              have hq6 : q < 6 := by omega
              have q6 : (q : Int) < 6 := by omega
              obtain ⟨cf, ff⟩ := kI.flag hq6
              have zI := kI.1
              have zD := kD.1
              cases hfq : f q with
              | true =>
                rw [hfq] at cf
                clear hP hown kI kD hfq
                go_wp2_with fail
                go_roundw
                case rel => exact ⟨i + 1, v2, r2, by omega, by simp, rfl, rfl, HKU.out, hqU⟩
                case measure => simp [intOf]; omega
              | false =>
                rw [hfq] at cf
                have HP : Hid (Picks c Xv Xr m Z f v2 r2) := hP
                have HFQ : Hid (f q = false) := hfq
                have hm6 := hP.le
                obtain ⟨bd1, bd2, bd3, bd4⟩ := hP.bd (fun q hq => res_bd (HGD.out q hq).1) (fun q hq => res_bd (HGD.out q hq).2)
                clear hP hfq
                go_upto_region 27 with fail
                refine wp_gen (fun M => At M (N.heap.size) (cellsB (setB f q) 6) ∧ At M (N.heap.size + 1) [.slice gs m gc, .slice none 0 0, .int .i64 0, .int .i64 0, .bool false, .int .i64 0] ∧ M.ownsRow (N.heap.size + 2) 3 1 (.slice gs m gc) m (cellsI Z m) ∧ Below N.heap.size N M) ⟨At.flagged kI hq6, At.set kD (by omega), own_set hown (apart_above hown (by omega)) _, by repeat (first | (with_reducible exact Below.refl _ _) | (with_reducible assumption) | (with_reducible refine Below.setCell ?_ (by first | (simp; done) | (simp; omega) | omega) _) | (with_reducible refine Below.alloc ?_ (by first | (simp; done) | (simp; omega) | omega) _) | (refine bl_call ?_ (by assumption) (by first | (simp; done) | (simp; omega) | omega)) | (with_reducible refine bl_drewN ?_) | (with_reducible refine Below.drew ?_) | (with_reducible refine bl_grow ?_ (by first | (simp; done) | (simp; omega) | omega)))⟩ ?_
                rintro M ⟨kIM, kDM, hownM, hqM⟩
                have HOw : Hid (M.ownsRow (N.heap.size + 2) 3 1 (.slice gs m gc) m (cellsI Z m)) := hownM
                have HkD : Hid (At M (N.heap.size + 1) [.slice gs m gc, .slice none 0 0, .int .i64 0, .int .i64 0, .bool false, .int .i64 0]) := kDM
                have HkI : Hid (At M (N.heap.size) (cellsB (setB f q) 6)) := kIM
                have HAD : Hid ((.slice gs m gc : Value).ownBlock ≠ some (N.heap.size + 1)) := apart_above hownM (by omega)
                have HAI : Hid ((.slice gs m gc : Value).ownBlock ≠ some N.heap.size) := apart_above hownM (by omega)
                have hzM := hqM.size
                have hqwM : Below w.heap.size w M := bl_call hqN hqM hzN
                have cgM := (HRG.out.below HRG.out.1 hqwM).2 i hlt
                have hbgM := Nat.lt_of_lt_of_le HRG.out.1 hqwM.size
                rw [HXQ.out] at cgM
                have zDM := kDM.1
                obtain ⟨zd, cd0, cd1, cd2, cd3, cd4, cd5, fd0, fd1, fd2, fd3, fd4, fd5⟩ := kDM.six
                clear kI kD hown kIM kDM hownM hqU hqwU cg hbg zI zD cf ff HKU
                go_region_law ((refine step_append_lies _ (by rfl) _ _ 30 (by rfl) (N.heap.size + 2) 3 j0 (.int .i64 0) 1 8 Tryd.underlying30 hj0 hu0 hu1 hu2 (by rfl) (by decide) _ m _ (by rfl) ((own_drew HOw.out).alloc _) ⟨M.heap.size, 0, none⟩ 1 1 [.int .i64 (q : Int)] (by rfl) (by rfl) (kone_at rfl _ _) (by simp [Value.oneCell']) (by omega) (by unfold maxLen; omega) (by omega) (by simp; omega) (M.heap.size + 1) (by simp) ?_); (intro g7 cap7 w7 hown7 hgrow7 hat7 hlt7); (have kD7 := At.grown (At.alloc (At.drew HkD.out) _) hgrow7 HAD.out); (obtain ⟨zd7, cd07, cd17, cd27, cd37, cd47, cd57, fd07, fd17, fd27, fd37, fd47, fd57⟩ := kD7.six))

                all_goals (
                  have hown8 : w7.ownsRow (N.heap.size + 2) 3 1 (.slice (some ⟨g7, 0, none⟩) (m + 1) cap7) (m + 1) (cellsI (extN Z m (q : Int)) (m + 1)) := by rw [cellsI_ext]; exact hown7
                  have kI7 : At w7 (N.heap.size) (cellsB (setB f q) 6) := At.grown (At.alloc (At.drew HkI.out) _) hgrow7 HAI.out
                  have hq7 : Below N.heap.size N w7 := grown_under (B := N.heap.size + 2) (show Below N.heap.size N _ from hqM.drew.alloc (by first | (simp; omega) | omega) _) ((own_drew HOw.out).alloc _) hgrow7 (by simp; omega) (by omega)
                  have hap7 : (Value.slice (some ⟨g7, 0, none⟩) (m + 1) cap7).ownBlock ≠ some (N.heap.size + 1) := apart_above hown8 (by omega)
                  refine ethen_gen2 (fun O => At O (N.heap.size) (cellsB (setB f q) 6) ∧ At O (N.heap.size + 1) [.slice (some ⟨g7, 0, none⟩) (m + 1) cap7, .slice none 0 0, .int .i64 0, .int .i64 0, .bool false, .int .i64 0] ∧ O.ownsRow (N.heap.size + 2) 3 1 (.slice (some ⟨g7, 0, none⟩) (m + 1) cap7) (m + 1) (cellsI (extN Z m (q : Int)) (m + 1)) ∧ Below N.heap.size N O) ⟨kset kI7 (by omega), kD7.upd 0 _, own_set hown8 hap7 _, hq7.setCell (Nat.le_succ _) _⟩ ?_
                  rintro O ⟨kIO, kDO, hownO, hqO⟩
                  clear hown7 hown8 kI7 kD7 hq7 hgrow7 hat7 hlt7 cd07 cd17 cd27 cd37 cd47 cd57 fd07 fd17 fd27 fd37 fd47 fd57 hap7 cd0 cd1 cd2 cd3 cd4 cd5 fd0 fd1 fd2 fd3 fd4 fd5 cgM hbgM hqM hqwM
                  have HKO : Hid (KL2 (N.heap.size + 2) N.heap.size (N.heap.size + 1) c Xv Xr O (v2 - Xv q) (r2 - Xr q)) := ⟨m + 1, extN Z m (q : Int), setB f q, some ⟨g7, 0, none⟩, cap7, HP.out.more hc6 (by omega) HFQ.out, hownO, kIO, kDO⟩
                  have hzO := hqO.size
                  have hqwO : Below w.heap.size w O := bl_call hqN hqO hzN
                  have cgO := (HRG.out.below HRG.out.1 hqwO).2 i hlt
                  have hbgO := Nat.lt_of_lt_of_le HRG.out.1 hqwO.size
                  rw [HXQ.out] at cgO
                  obtain ⟨bv, ov, rfl, hrv⟩ := RV.out.resolve_left (by omega)
                  obtain ⟨br, or, rfl, hrr⟩ := RR.out.resolve_left (by omega)
                  have cvO := (hrv.below hrv.1 hqwO).2 q (by omega)
                  have crO := (hrr.below hrr.1 hqwO).2 q (by omega)
                  have hbvO := Nat.lt_of_lt_of_le hrv.1 hqwO.size
                  have hbrO := Nat.lt_of_lt_of_le hrr.1 hqwO.size
                  obtain ⟨x0, x1⟩ := res_bd (HGD.out q (by omega)).1
                  obtain ⟨x2, x3⟩ := res_bd (HGD.out q (by omega)).2
                  have q1 : (q : Int) < nv := by omega
                  have q2 : (q : Int) < nr := by omega
                  clear hrv hrr kIO kDO hownO hqwO
                  go_wp2_with fail
                  go_roundw
                  case rel => exact ⟨i + 1, v2 - Xv q, r2 - Xr q, by omega, by simp, rfl, rfl, HKO.out, hqO⟩
                  case measure => simp [intOf]; omega)
            · have g1' : ¬ (q : Int) < (c : Int) := g1
              go_wp2_with fail
              go_roundw
              case rel => exact ⟨i + 1, v2, r2, by omega, by simp, rfl, rfl, HKU.out, hqU⟩
              case measure => simp [intOf]; omega
          · go_wp2_with fail
            go_roundw
            case rel => exact ⟨i + 1, v2, r2, by omega, by simp, rfl, rfl, HKU.out, hqU⟩
            case measure => simp [intOf]; omega
        · as_aux_lemma =>
          have l1 : ¬ (i : Int) < ng := by omega
          obtain ⟨m, Z, f, gs, gc, hP, hownG, kI, kD⟩ := HKU.out
          have HP : Hid (Picks c Xv Xr m Z f v2 r2) := hP
          have hm6 := hP.le
          obtain ⟨bd1, bd2, bd3, bd4⟩ := hP.bd (fun q hq => res_bd (HGD.out q hq).1) (fun q hq => res_bd (HGD.out q hq).2)
          have hDU := kD.1
          have HKD : Hid (At U (N.heap.size + 1) [.slice gs m gc, .slice none 0 0, .int .i64 0, .int .i64 0, .bool false, .int .i64 0]) := kD
          have HRZ : Hid (m = 0 ∨ ∃ g : Nat, gs = some ⟨g, 0, none⟩ ∧ g ≠ N.heap.size + 1 ∧ N.heap.size ≤ g ∧ RowI U g 0 m Z) := krow_gone hownG
          have hgmc : m ≤ gc := own_room hownG
          clear hK hP hownG kI kD HKU
          obtain ⟨c3, hc3c, hc3b, hc35, hc3w⟩ : ∃ c, c ≤ nc ∧ c ≤ nb ∧ c ≤ 5 ∧ (c = nc ∨ c = nb ∨ c = 5) := ⟨min (min nc nb) 5, by omega, by omega, by omega, by omega⟩
          have HCW3 : Hid (c3 = nc ∨ c3 = nb ∨ c3 = 5) := hc3w
          clear hc3w
          go_wp2_with fail
          go_loopw [22, 23, 27] (fun tv tr ti wl => ∃ (i : Nat) (v r : Int), i ≤ c3 ∧ ti = .int .i64 (i : Int) ∧ tv = .int .i64 v ∧ tr = .int .i64 r ∧ KL3 U (N.heap.size + 1) H Xc Xb v2 r2 gs m gc i v r wl ∧ Below N.heap.size N wl) (fun _ _ ti _ => 5 - (intOf ti).toNat)
          case atStart => exact ⟨0, v2, r2, by omega, rfl, rfl, rfl, ⟨none, 0, World.ownsRow_nil _ _ _ _, HKD.out, But.refl _ _, goods_zero _ _, by show v2 = v2 + 0; omega, by show r2 = r2 + 0; omega⟩, hqU⟩
          case round =>
            clear hqU hqwU
            obtain ⟨i, v3, r3, hi, rfl, rfl, rfl, hK3, hqS⟩ := hrel
            rename World => S
            have HK3 : Hid (KL3 U (N.heap.size + 1) H Xc Xb v2 r2 gs m gc i v3 r3 S) := hK3
            have hzS := hqS.size
            have hqwS : Below w.heap.size w S := bl_call hqN hqS hzN
            have hzwS := hqwS.size
            by_cases hlt3 : i < c3
            · as_aux_lemma =>
              have l1 : (i : Int) < nc := by omega
              have l2 : (i : Int) < nb := by omega
              have l3 : (i : Int) < 5 := by omega
              have i1 : i < nc := by omega
              have i2 : i < nb := by omega
              obtain ⟨bc, oc, rfl, hrc⟩ := RC.out.resolve_left (by omega)
              obtain ⟨bb, ob, rfl, hrb⟩ := RB.out.resolve_left (by omega)
              have HRC : Hid (RowI w bc oc nc Xc) := hrc
              have HRB : Hid (RowI w bb ob nb Xb) := hrb
              clear hrc hrb hK3
              cases hg : resB (Xc i) && resB (Xb i) with
              | false =>
                have HE : Hid (∀ w, Calls Tryd.prog 31 #[.int .i64 (Xc i), .int .i64 (Xb i)] w fun ex w' => ex = .returned (.tuple #[.agg #[.int .i64 0, .int .i64 0, .bool false], errOf 1]) ∧ Below w.heap.size w w') := fun w => HHe2.out i w i1 i2 hg
                clear hg
                go_upto_region 33 with fail
                go_cut [28, 29] from 172 to 219 (fun t1_ t2_ wx_ => ∃ b28 : Nat, t1_ = .pointer (some ⟨b28, 0, none⟩) ∧ t2_ = errOf 1 ∧ At wx_ b28 [.int .i64 0, .int .i64 0, .bool false] ∧ S.heap.size ≤ b28 ∧ Below S.heap.size S wx_)
                case first => as_aux_lemma =>
                  have hUU : Below S.heap.size S S := Below.refl _ _
                  go_region_held3 (fun W_ => (bc < W_.heap.size ∧ W_.cell? ⟨bc, oc + i, none⟩ = some (.int .i64 (Xc i))) ∧ (bb < W_.heap.size ∧ W_.cell? ⟨bb, ob + i, none⟩ = some (.int .i64 (Xb i)))) (exact ⟨krow_at HRC.out (by repeat (first | (with_reducible exact Below.refl _ _) | (with_reducible assumption) | (with_reducible refine Below.setCell ?_ (by first | (simp; done) | (simp; omega) | omega) _) | (with_reducible refine Below.alloc ?_ (by first | (simp; done) | (simp; omega) | omega) _) | (refine bl_call ?_ (by assumption) (by first | (simp; done) | (simp; omega) | omega)) | (with_reducible refine bl_drewN ?_) | (with_reducible refine Below.drew ?_) | (with_reducible refine bl_grow ?_ (by first | (simp; done) | (simp; omega) | omega)))) i1, krow_at HRB.out (by repeat (first | (with_reducible exact Below.refl _ _) | (with_reducible assumption) | (with_reducible refine Below.setCell ?_ (by first | (simp; done) | (simp; omega) | omega) _) | (with_reducible refine Below.alloc ?_ (by first | (simp; done) | (simp; omega) | omega) _) | (refine bl_call ?_ (by assumption) (by first | (simp; done) | (simp; omega) | omega)) | (with_reducible refine bl_drewN ?_) | (with_reducible refine Below.drew ?_) | (with_reducible refine bl_grow ?_ (by first | (simp; done) | (simp; omega) | omega)))) i2⟩) ((go_at_call 31; refine (HE.out _).mono ?_; rintro e w1 ⟨rfl, hb1⟩; have hs1 := hb1.size; (try simp at hs1); obtain ⟨hc1, hf1⟩ := bcell hb1; have hl1 := kb_lt hb1; have hn1 := kb_ne hb1; have hm1 := kb_ne2 hb1))
                  all_goals (go_wp2_with fail)
                  all_goals go_meet
                  all_goals (case rel => exact ⟨_, rfl, rfl, by repeat (first | (with_reducible assumption) | ((with_reducible refine at_new' _ _ _ _ ?_); (first | rfl | (simp; done))) | (with_reducible refine At.alloc ?_ _) | (with_reducible refine At.drew ?_) | (with_reducible refine At.drewN ?_) | (with_reducible refine At.set ?_ (by omega)) | (with_reducible apply At.store4) | (with_reducible apply At.store3) | (with_reducible apply At.store2) | (with_reducible apply At.put43) | (refine At.below ?_ (by with_reducible assumption))), by omega, by repeat (first | (with_reducible exact Below.refl _ _) | (with_reducible assumption) | (with_reducible refine Below.setCell ?_ (by first | (simp; done) | (simp; omega) | omega) _) | (with_reducible refine Below.alloc ?_ (by first | (simp; done) | (simp; omega) | omega) _) | (refine bl_call ?_ (by assumption) (by first | (simp; done) | (simp; omega) | omega)) | (with_reducible refine bl_drewN ?_) | (with_reducible refine Below.drew ?_) | (with_reducible refine bl_grow ?_ (by first | (simp; done) | (simp; omega) | omega)))⟩)
                case rest =>
                rename World => S1
                obtain ⟨b28, rfl, rfl, kxS1, hg28, hrS1⟩ := hcut
                go_wp2_with fail
                go_ret
                exact ⟨rfl, bl_call hqwS hrS1 hzwS⟩
              | true =>
                have hg2 := hg
                rw [Bool.and_eq_true] at hg2
                have HE : Hid (∀ w, Calls Tryd.prog 31 #[.int .i64 (Xc i), .int .i64 (Xb i)] w fun ex w' => ex = .returned (.tuple #[.agg #[.int .i64 ((tM (4 * H (Xc i).toNat (Xb i).toNat)).1 : Int), .int .i64 ((tM (4 * H (Xc i).toNat (Xb i).toNat)).2.1 : Int), .bool (tM (4 * H (Xc i).toNat (Xb i).toNat)).2.2], .nilIface]) ∧ Below w.heap.size w w') := fun w => khide HH.out hg2.1 hg2.2 w
                have HG1 : Hid (resB (Xc i) = true) := hg2.1
                have HG2 : Hid (resB (Xb i) = true) := hg2.2
                clear hg hg2
                go_upto_region 33 with fail
                go_cut [28, 29] from 172 to 219 (fun t1_ t2_ wx_ => ∃ b28 : Nat, t1_ = .pointer (some ⟨b28, 0, none⟩) ∧ t2_ = .nilIface ∧ At wx_ b28 [.int .i64 ((tM (4 * H (Xc i).toNat (Xb i).toNat)).1 : Int), .int .i64 ((tM (4 * H (Xc i).toNat (Xb i).toNat)).2.1 : Int), .bool (tM (4 * H (Xc i).toNat (Xb i).toNat)).2.2] ∧ S.heap.size ≤ b28 ∧ Below S.heap.size S wx_)
                case first => as_aux_lemma =>
                  have hUU : Below S.heap.size S S := Below.refl _ _
                  go_region_held3 (fun W_ => (bc < W_.heap.size ∧ W_.cell? ⟨bc, oc + i, none⟩ = some (.int .i64 (Xc i))) ∧ (bb < W_.heap.size ∧ W_.cell? ⟨bb, ob + i, none⟩ = some (.int .i64 (Xb i)))) (exact ⟨krow_at HRC.out (by repeat (first | (with_reducible exact Below.refl _ _) | (with_reducible assumption) | (with_reducible refine Below.setCell ?_ (by first | (simp; done) | (simp; omega) | omega) _) | (with_reducible refine Below.alloc ?_ (by first | (simp; done) | (simp; omega) | omega) _) | (refine bl_call ?_ (by assumption) (by first | (simp; done) | (simp; omega) | omega)) | (with_reducible refine bl_drewN ?_) | (with_reducible refine Below.drew ?_) | (with_reducible refine bl_grow ?_ (by first | (simp; done) | (simp; omega) | omega)))) i1, krow_at HRB.out (by repeat (first | (with_reducible exact Below.refl _ _) | (with_reducible assumption) | (with_reducible refine Below.setCell ?_ (by first | (simp; done) | (simp; omega) | omega) _) | (with_reducible refine Below.alloc ?_ (by first | (simp; done) | (simp; omega) | omega) _) | (refine bl_call ?_ (by assumption) (by first | (simp; done) | (simp; omega) | omega)) | (with_reducible refine bl_drewN ?_) | (with_reducible refine Below.drew ?_) | (with_reducible refine bl_grow ?_ (by first | (simp; done) | (simp; omega) | omega)))) i2⟩) ((go_at_call 31; refine (HE.out _).mono ?_; rintro e w1 ⟨rfl, hb1⟩; have hs1 := hb1.size; (try simp at hs1); obtain ⟨hc1, hf1⟩ := bcell hb1; have hl1 := kb_lt hb1; have hn1 := kb_ne hb1; have hm1 := kb_ne2 hb1))
                  all_goals (go_wp2_with fail)
                  all_goals go_meet
                  all_goals (case rel => exact ⟨_, rfl, rfl, by repeat (first | (with_reducible assumption) | ((with_reducible refine at_new' _ _ _ _ ?_); (first | rfl | (simp; done))) | (with_reducible refine At.alloc ?_ _) | (with_reducible refine At.drew ?_) | (with_reducible refine At.drewN ?_) | (with_reducible refine At.set ?_ (by omega)) | (with_reducible apply At.store4) | (with_reducible apply At.store3) | (with_reducible apply At.store2) | (with_reducible apply At.put43) | (refine At.below ?_ (by with_reducible assumption))), by omega, by repeat (first | (with_reducible exact Below.refl _ _) | (with_reducible assumption) | (with_reducible refine Below.setCell ?_ (by first | (simp; done) | (simp; omega) | omega) _) | (with_reducible refine Below.alloc ?_ (by first | (simp; done) | (simp; omega) | omega) _) | (refine bl_call ?_ (by assumption) (by first | (simp; done) | (simp; omega) | omega)) | (with_reducible refine bl_drewN ?_) | (with_reducible refine Below.drew ?_) | (with_reducible refine bl_grow ?_ (by first | (simp; done) | (simp; omega) | omega)))⟩)
                case rest =>
                rename World => S1
                obtain ⟨b28, rfl, rfl, kxS1, hg28, hrS1⟩ := hcut
                obtain ⟨ns, nc2, hownN, kDS, hbutS, hgd, hv3, hr3⟩ := HK3.out
                have HV3 : Hid (v3 = v2 + sumI Xc i) := hv3
                have HR3 : Hid (r3 = r2 + sumI Xb i) := hr3
                obtain ⟨s0, s1⟩ := sumI_bd (F := Xc) (n := i) fun j hj => res_bd (hgd j hj).1
                obtain ⟨s2, s3⟩ := sumI_bd (F := Xb) (n := i) fun j hj => res_bd (hgd j hj).2
                have vb1 : -6078 ≤ v3 ∧ v3 ≤ 5065 := by rw [hv3]; omega
                have rb1 : -6078 ≤ r3 ∧ r3 ≤ 5065 := by rw [hr3]; omega
                obtain ⟨vb1, vb2⟩ := vb1
                obtain ⟨rb1, rb2⟩ := rb1
                have HGN : Hid (Goods Xc Xb (i + 1)) := goods_succ hgd HG1.out HG2.out
                obtain ⟨x0, x1⟩ := res_bd HG1.out
                obtain ⟨x2, x3⟩ := res_bd HG2.out
                have hzS1 := hrS1.size
                have hqS1 : Below N.heap.size N S1 := bl_call hqS hrS1 hzS
                have hzN1 := hqS1.size
                have hownN1 := own_stay hownN hrS1
                have kDS1 := kDS.below hrS1
                have HBU : Hid (But (fun k => k = N.heap.size + 1) U S1) := hbutS.call hrS1
                have hzUS : U.heap.size ≤ S1.heap.size := HBU.out.size
                have HAN : Hid ((Value.slice ns i nc2).ownBlock ≠ some (N.heap.size + 1)) := apart_above hownN1 (by omega)
                have HkD1 : Hid (At S1 (N.heap.size + 1) [.slice gs m gc, .slice ns i nc2, .int .i64 0, .int .i64 0, .bool false, .int .i64 0]) := kDS1
                have HON : Hid (S1.ownsRow U.heap.size 23 3 (.slice ns i nc2) i (cellsK (fun i => H (Xc i).toNat (Xb i).toNat) i)) := hownN1
                obtain ⟨zxS1, cx0S1, cx1S1, cx2S1, fx0S1, fx1S1, fx2S1⟩ := kxS1.three
                obtain ⟨zd, cd0, cd1, cd2, cd3, cd4, cd5, fd0, fd1, fd2, fd3, fd4, fd5⟩ := kDS1.six
                clear hrS1 hownN kDS hbutS hgd hv3 hr3 HK3 hownN1 kDS1 s0 s1 s2 s3 hqS hqwS
                go_wp2_with (at_builtin; refine wpList_append_own_at _ rfl _ _ 36 rfl U.heap.size 23 i0 (.agg #[.int .i64 0, .int .i64 0, .bool false]) 3 24 Tryd.underlying36 hi0 hv0 hv1 hv2 rfl (by decide) _ _ _ rfl (own_stay HON.out (by repeat (first | (with_reducible exact Below.refl _ _) | (with_reducible assumption) | (with_reducible refine Below.setCell ?_ (by first | (simp; done) | (simp; omega) | omega) _) | (with_reducible refine Below.alloc ?_ (by first | (simp; done) | (simp; omega) | omega) _) | (refine bl_call ?_ (by assumption) (by first | (simp; done) | (simp; omega) | omega)) | (with_reducible refine bl_drewN ?_) | (with_reducible refine Below.drew ?_) | (with_reducible refine bl_grow ?_ (by first | (simp; done) | (simp; omega) | omega))))) ⟨_, 0, none⟩ 1 1 [.int .i64 ((tM (4 * H (Xc i).toNat (Xb i).toNat)).1 : Int), .int .i64 ((tM (4 * H (Xc i).toNat (Xb i).toNat)).2.1 : Int), .bool (tM (4 * H (Xc i).toNat (Xb i).toNat)).2.2] rfl rfl ?c1 ?c2 ?c3 ?c4 ?c5 ?_)
                case c1 => exact kthree_new (by simp) _ _ _ _
                case c2 => intro u hu; simp at hu; rcases hu with rfl | rfl | rfl <;> rfl
                case c3 => unfold maxLen; omega
                case c4 => omega
                case c5 => simp; omega
                · intro v' w13 hown' hgrow _ hat
                  rw [← cellsK_succ (fun i => H (Xc i).toNat (Xb i).toNat)] at hown'
                  have hq13 : Below N.heap.size N w13 := grown_under (B := U.heap.size) (by repeat (first | (with_reducible exact Below.refl _ _) | (with_reducible assumption) | (with_reducible refine Below.setCell ?_ (by first | (simp; done) | (simp; omega) | omega) _) | (with_reducible refine Below.alloc ?_ (by first | (simp; done) | (simp; omega) | omega) _) | (refine bl_call ?_ (by assumption) (by first | (simp; done) | (simp; omega) | omega)) | (with_reducible refine bl_drewN ?_) | (with_reducible refine Below.drew ?_) | (with_reducible refine bl_grow ?_ (by first | (simp; done) | (simp; omega) | omega)))) (own_stay HON.out (by repeat (first | (with_reducible exact Below.refl _ _) | (with_reducible assumption) | (with_reducible refine Below.setCell ?_ (by first | (simp; done) | (simp; omega) | omega) _) | (with_reducible refine Below.alloc ?_ (by first | (simp; done) | (simp; omega) | omega) _) | (refine bl_call ?_ (by assumption) (by first | (simp; done) | (simp; omega) | omega)) | (with_reducible refine bl_drewN ?_) | (with_reducible refine Below.drew ?_) | (with_reducible refine bl_grow ?_ (by first | (simp; done) | (simp; omega) | omega))))) hgrow (by simp; omega) (by omega)
                  have kD13 : At w13 (N.heap.size + 1) [.slice gs m gc, .slice ns i nc2, .int .i64 0, .int .i64 0, .bool false, .int .i64 0] := At.grown (At.alloc HkD1.out _) hgrow HAN.out
                  have hbut13 : But (fun k => k = N.heap.size + 1) U w13 := (HBU.out.alloc _).grown hgrow (fun k hk => Or.inr ((own_stay HON.out (show Below S1.heap.size S1 _ from by repeat (first | (with_reducible exact Below.refl _ _) | (with_reducible assumption) | (with_reducible refine Below.setCell ?_ (by first | (simp; done) | (simp; omega) | omega) _) | (with_reducible refine Below.alloc ?_ (by first | (simp; done) | (simp; omega) | omega) _) | (refine bl_call ?_ (by assumption) (by first | (simp; done) | (simp; omega) | omega)) | (with_reducible refine bl_drewN ?_) | (with_reducible refine Below.drew ?_) | (with_reducible refine bl_grow ?_ (by first | (simp; done) | (simp; omega) | omega))))).lt k hk).1)
                  obtain ⟨sa3, ca3, rfl, _⟩ := own_slice hown'
                  have hap : (Value.slice sa3 (i + 1) ca3).ownBlock ≠ some (N.heap.size + 1) := apart_above hown' (by omega)
                  have HK3' : Hid (KL3 U (N.heap.size + 1) H Xc Xb v2 r2 gs m gc (i + 1) (v3 + Xc i) (r3 + Xb i) (w13.setCell ⟨N.heap.size + 1, 1, none⟩ (.slice sa3 (i + 1) ca3))) := ⟨sa3, ca3, own_set hown' hap _, kD13.upd 1 _, hbut13.setCell (Or.inl rfl) _, HGN.out, by rw [HV3.out]; show _ = v2 + (sumI Xc i + Xc i); omega, by rw [HR3.out]; show _ = r2 + (sumI Xb i + Xb i); omega⟩
                  have hq14 : Below N.heap.size N (w13.setCell ⟨N.heap.size + 1, 1, none⟩ (.slice sa3 (i + 1) ca3)) := hq13.setCell (Nat.le_succ _) _
                  have hz13 := hq13.size
                  have hqw13 : Below w.heap.size w w13 := bl_call hqN hq13 hzN
                  have ccO := (HRC.out.below HRC.out.1 hqw13).2 i i1
                  have cbO := (HRB.out.below HRB.out.1 hqw13).2 i i2
                  have hbcO := Nat.lt_of_lt_of_le HRC.out.1 hqw13.size
                  have hbbO := Nat.lt_of_lt_of_le HRB.out.1 hqw13.size
                  have hbc1 := HRC.out.1
                  have hbb1 := HRB.out.1
                  have nc1 : (bc = N.heap.size + 1) = False := eq_false (by omega)
                  have nb1 : (bb = N.heap.size + 1) = False := eq_false (by omega)
                  have nc3 : (N.heap.size + 1 = bc) = False := eq_false (by omega)
                  have nb3 : (N.heap.size + 1 = bb) = False := eq_false (by omega)
                  obtain ⟨zd7, cd07, cd17, cd27, cd37, cd47, cd57, fd07, fd17, fd27, fd37, fd47, fd57⟩ := kD13.six
                  clear hgrow hat hown' kD13 hbut13 hqw13
                  go_wp2_with fail
  
                  go_roundw
                  case rel => exact ⟨i + 1, v3 + Xc i, r3 + Xb i, by omega, by simp, rfl, rfl, HK3'.out, hq14⟩
                  case measure => simp [intOf]; omega
            · as_aux_lemma =>
              obtain rfl : i = c3 := by omega
              go_upto_region 31 with fail
              go_cut [185] from 172 to 185 (fun tb_ wx_ => tb_ = .bool false ∧ wx_ = S)
              case first =>
                by_cases l1 : (i : Int) < nc
                · by_cases l2 : (i : Int) < nb
                  · have l3 : ¬ (i : Int) < 5 := by have := HCW3.out; omega
                    go_wp2_with fail
                    go_meet
                    case rel => exact ⟨rfl, rfl⟩
                  · go_wp2_with fail
                    go_meet
                    case rel => exact ⟨rfl, rfl⟩
                · go_wp2_with fail
                  go_meet
                  case rel => exact ⟨rfl, rfl⟩
              case rest =>
              obtain ⟨rfl, hwc⟩ := hcut
              subst hwc
              rename World => S
              obtain ⟨ns, nc2, hownN, kDS, hbutS, hgd, hv3, hr3⟩ := HK3.out
              have HV3 : Hid (v3 = v2 + sumI Xc i) := hv3
              have HR3 : Hid (r3 = r2 + sumI Xb i) := hr3
              obtain ⟨s0, s1⟩ := sumI_bd (F := Xc) (n := i) fun j hj => res_bd (hgd j hj).1
              obtain ⟨s2, s3⟩ := sumI_bd (F := Xb) (n := i) fun j hj => res_bd (hgd j hj).2
              have vb1 : -6078 ≤ v3 ∧ v3 ≤ 5065 := by rw [hv3]; omega
              have rb1 : -6078 ≤ r3 ∧ r3 ≤ 5065 := by rw [hr3]; omega
              have HGO : Hid (∀ j, j < m → goE c (fun _ => false) Z j = 0) := HP.out.go
              have HG3 : Hid (Goods Xc Xb i) := hgd
              have hinc : i ≤ nc2 := own_room hownN
              have hQD : ∀ j, Q j → ¬ j = N.heap.size + 1 := fun j hj e => by have := HQN.out j hj; omega
              have HSS : Hid (St c S vb Q) := HST1.out _ _ _ _ _ _ HST.out (But.of_below (fun _ => False) (kbelow_self hqS)) (fun _ _ e => e)
              have HSW : Hid (∀ W, But (fun k => k = N.heap.size + 1) S W → St c W vb Q) := fun W hW => HST1.out _ _ _ _ _ _ HSS.out hW hQD
              have HRG2 : Hid (∀ W, But (fun k => k = N.heap.size + 1 ∨ Q k) S W → (m = 0 ∨ ∃ g : Nat, gs = some ⟨g, 0, none⟩ ∧ RowI W g 0 m Z)) := fun W hW => HRZ.out.imp_right fun ⟨g, e, h1, h2, hr⟩ => ⟨g, e, (hr.but hbutS h1).but hW (fun (h : g = N.heap.size + 1 ∨ Q g) => h.elim h1 (fun h => by have := HQN.out g h; omega))⟩
              have HNR : Hid (∀ W, But (fun k => k = N.heap.size + 1 ∨ Q k) S W → (∃ B, W.ownsRow B 23 3 (.slice ns i nc2) i (cellsK (fun i => H (Xc i).toNat (Xb i).toNat) i))) := fun W hW => ⟨_, own_but hownN hW fun g hg h => by
                have h1 := (hownN.lt g hg).1
                rcases h with h | h
                · omega
                · have := HQN.out g h; omega⟩
              have HAPG : Hid (m ≠ 0 → ∀ b o, gs = some ⟨b, o, none⟩ → ¬ Q b) := fun h0 b o e hq => by
                obtain ⟨g, e2, _, h2, _⟩ := HRZ.out.resolve_left h0
                rw [e2] at e; injection e with e; injection e with e; subst e
                have := HQN.out g hq; omega
              have HAPN : Hid (i ≠ 0 → ∀ b o, ns = some ⟨b, o, none⟩ → ¬ Q b) := fun h0 b o e hq => by
                subst e
                have := (hownN.lt b rfl).1
                have := HQN.out b hq; omega
              have zdS := kDS.1
              obtain ⟨zd, cd0, cd1, cd2, cd3, cd4, cd5, fd0, fd1, fd2, fd3, fd4, fd5⟩ := kDS.six
              clear hK3 hownN hgd hv3 hr3 HK3 hbutS s0 s1 s2 s3
              have HBW := But.refl (fun k => k = N.heap.size + 1 ∨ Q k) S
              go_upto_region 40 with (go_at_call 32; refine (HX.out _ vb Q c m i gc nc2 Z gs ns HSS.out hc6 hm6 (by omega) HGO.out hgmc hinc (HRG2.out _ HBW) (HNR.out _ HBW)).mono ?_; rintro e y1 ⟨rfl, hb1⟩; have kdy1 := kDS.below hb1; have hz1' := hb1.size)
              refine wp_gen (fun Y => At Y (N.heap.size + 1) [.slice gs m gc, .slice ns i nc2, .int .i64 0, .int .i64 0, .bool false, .int .i64 0] ∧ At Y (y1.heap.size) [.int .i64 ((tM (4 * xx c m Z i)).1 : Int), .int .i64 ((tM (4 * xx c m Z i)).2.1 : Int), .bool (tM (4 * xx c m Z i)).2.2] ∧ Below S.heap.size S Y) ⟨(kdy1).alloc _, by repeat (first | (with_reducible assumption) | ((with_reducible refine at_new' _ _ _ _ ?_); (first | rfl | (simp; done))) | (with_reducible refine At.alloc ?_ _) | (with_reducible refine At.drew ?_) | (with_reducible refine At.drewN ?_) | (with_reducible refine At.set ?_ (by omega)) | (with_reducible apply At.store4) | (with_reducible apply At.store3) | (with_reducible apply At.store2) | (with_reducible apply At.put43) | (refine At.below ?_ (by with_reducible assumption))), by repeat (first | (with_reducible exact Below.refl _ _) | (with_reducible assumption) | (with_reducible refine Below.setCell ?_ (by first | (simp; done) | (simp; omega) | omega) _) | (with_reducible refine Below.alloc ?_ (by first | (simp; done) | (simp; omega) | omega) _) | (refine bl_call ?_ (by assumption) (by first | (simp; done) | (simp; omega) | omega)) | (with_reducible refine bl_drewN ?_) | (with_reducible refine Below.drew ?_) | (with_reducible refine bl_grow ?_ (by first | (simp; done) | (simp; omega) | omega)))⟩ ?_
              rintro Y ⟨kdY, keY, hrY⟩
              have hzY := hrY.size
              have hqNY : Below N.heap.size N Y := bl_call hqS hrY hzS
              have hqY : Below w.heap.size w Y := bl_call hqwS hrY hzwS
              have hzwY := hqY.size
              have zeY := keY.1
              have zdY := kdY.1
              clear kDS kdy1 hb1 cd0 cd1 cd2 cd3 cd4 cd5 fd0 fd1 fd2 fd3 fd4 fd5 HBW
              by_cases hk : 1 ≤ k ∧ k < 1013
              · as_aux_lemma =>
                obtain ⟨hk1, hk2⟩ := hk
                go_cut [32, 33] from 220 to 336 (fun t1_ t2_ wx_ => ∃ b32 : Nat, t1_ = .pointer (some ⟨b32, 0, none⟩) ∧ t2_ = .nilIface ∧ At wx_ (N.heap.size + 1) [.slice gs m gc, .slice ns i nc2, .int .i64 0, .int .i64 0, .bool false, .int .i64 0] ∧ At wx_ (y1.heap.size) [.int .i64 ((tM (4 * xx c m Z i)).1 : Int), .int .i64 ((tM (4 * xx c m Z i)).2.1 : Int), .bool (tM (4 * xx c m Z i)).2.2] ∧ At wx_ b32 [.int .i64 ((R).1 : Int), .int .i64 ((R).2.1 : Int), .bool (R).2.2, .int .i64 (z (r3 % 1013).toNat (xx c m Z i) : Int)] ∧ Y.heap.size ≤ b32 ∧ Below Y.heap.size Y wx_)
                case first => as_aux_lemma =>
                  go_region_held3 (fun W => ((y1.heap.size) < W.heap.size ∧ W.cell? ⟨y1.heap.size, 0, none⟩ = some (.int .i64 ((tM (4 * xx c m Z i)).1 : Int)) ∧ W.cell? ⟨y1.heap.size, 1, none⟩ = some (.int .i64 ((tM (4 * xx c m Z i)).2.1 : Int)) ∧ W.cell? ⟨y1.heap.size, 2, none⟩ = some (.bool (tM (4 * xx c m Z i)).2.2) ∧ W.frozen? ⟨y1.heap.size, 0, none⟩ = false ∧ W.frozen? ⟨y1.heap.size, 1, none⟩ = false ∧ W.frozen? ⟨y1.heap.size, 2, none⟩ = false)) (exact At.three (by repeat (first | (with_reducible assumption) | ((with_reducible refine at_new' _ _ _ _ ?_); (first | rfl | (simp; done))) | (with_reducible refine At.alloc ?_ _) | (with_reducible refine At.drew ?_) | (with_reducible refine At.drewN ?_) | (with_reducible refine At.set ?_ (by omega)) | (with_reducible apply At.store4) | (with_reducible apply At.store3) | (with_reducible apply At.store2) | (with_reducible apply At.put43) | (refine At.below ?_ (by with_reducible assumption))))) (first | (go_at_call 23; refine (HMO.out _ _).mono ?_; rintro e w11 ⟨rfl, hb11⟩; have hs11 := hb11.size; (try simp at hs11); obtain ⟨hc11, hf11⟩ := bcell hb11; have hl11 := kb_lt hb11; have hn11 := kb_ne hb11; have hm11 := kb_ne2 hb11) | (go_at_call 29; refine (HCO.out hk1 hk2 _ _ _).mono ?_; rintro e w12 ⟨rfl, hb12⟩; have hs12 := hb12.size; (try simp at hs12); obtain ⟨hc12, hf12⟩ := bcell hb12; have hl12 := kb_lt hb12; have hn12 := kb_ne hb12; have hm12 := kb_ne2 hb12))
                  all_goals (go_wp2_with fail)
                  all_goals go_meet
                  all_goals (case rel => exact ⟨_, rfl, rfl, by repeat (first | (with_reducible assumption) | ((with_reducible refine at_new' _ _ _ _ ?_); (first | rfl | (simp; done))) | (with_reducible refine At.alloc ?_ _) | (with_reducible refine At.drew ?_) | (with_reducible refine At.drewN ?_) | (with_reducible refine At.set ?_ (by omega)) | (with_reducible apply At.store4) | (with_reducible apply At.store3) | (with_reducible apply At.store2) | (with_reducible apply At.put43) | (refine At.below ?_ (by with_reducible assumption))), by repeat (first | (with_reducible assumption) | ((with_reducible refine at_new' _ _ _ _ ?_); (first | rfl | (simp; done))) | (with_reducible refine At.alloc ?_ _) | (with_reducible refine At.drew ?_) | (with_reducible refine At.drewN ?_) | (with_reducible refine At.set ?_ (by omega)) | (with_reducible apply At.store4) | (with_reducible apply At.store3) | (with_reducible apply At.store2) | (with_reducible apply At.put43) | (refine At.below ?_ (by with_reducible assumption))), by repeat (first | (with_reducible assumption) | ((with_reducible refine at_new' _ _ _ _ ?_); (first | rfl | (simp; done))) | (with_reducible refine At.alloc ?_ _) | (with_reducible refine At.drew ?_) | (with_reducible refine At.drewN ?_) | (with_reducible refine At.set ?_ (by omega)) | (with_reducible apply At.store4) | (with_reducible apply At.store3) | (with_reducible apply At.store2) | (with_reducible apply At.put43) | (refine At.below ?_ (by with_reducible assumption))), by omega, by repeat (first | (with_reducible exact Below.refl _ _) | (with_reducible assumption) | (with_reducible refine Below.setCell ?_ (by first | (simp; done) | (simp; omega) | omega) _) | (with_reducible refine Below.alloc ?_ (by first | (simp; done) | (simp; omega) | omega) _) | (refine bl_call ?_ (by assumption) (by first | (simp; done) | (simp; omega) | omega)) | (with_reducible refine bl_drewN ?_) | (with_reducible refine Below.drew ?_) | (with_reducible refine bl_grow ?_ (by first | (simp; done) | (simp; omega) | omega)))⟩)
                case rest =>
                rename World => C
                obtain ⟨b32, rfl, rfl, kdC, keC, kzC, hb32, hrC⟩ := hcut
                have hrSC : Below S.heap.size S C := bl_call hrY hrC hzY
                have hzC := hrSC.size
                have hqC : Below w.heap.size w C := bl_call hqwS hrSC hzwS
                have hzwC := hqC.size
                obtain ⟨zdC, cd0C, cd1C, cd2C, cd3C, cd4C, cd5C, fd0C, fd1C, fd2C, fd3C, fd4C, fd5C⟩ := kdC.six
                obtain ⟨zeC, ce0C, ce1C, ce2C, fe0C, fe1C, fe2C⟩ := keC.three
                obtain ⟨zzC, cz0C, cz1C, cz2C, cz3C, fz0C, fz1C, fz2C, fz3C⟩ := kzC.four
                clear kdY keY hrY hqY hqNY hrC
                go_upto_region 47 with (go_at_call 33; refine (HAK.out _ _).mono ?_; rintro e y2 ⟨rfl, hb2⟩; have hrS2 : Below S.heap.size S y2 := bl_call hrSC hb2 hzC; have kdy2 := kdC.below hb2; have key2 := keC.below hb2; have kzy2 := kzC.below hb2; have hzy2 := hrS2.size; obtain ⟨zdy2, cd0y2, cd1y2, cd2y2, cd3y2, cd4y2, cd5y2, fd0y2, fd1y2, fd2y2, fd3y2, fd4y2, fd5y2⟩ := kdy2.six; obtain ⟨zey2, ce0y2, ce1y2, ce2y2, fe0y2, fe1y2, fe2y2⟩ := key2.three; obtain ⟨zzy2, cz0y2, cz1y2, cz2y2, cz3y2, fz0y2, fz1y2, fz2y2, fz3y2⟩ := kzy2.four; clear hb2)

                refine wp_gen (fun M => At M (N.heap.size + 1) [.slice gs m gc, .slice ns i nc2, .int .i64 ((R).1 : Int), .int .i64 ((R).2.1 : Int), .bool (R).2.2, .int .i64 (z (r3 % 1013).toNat (xx c m Z i) : Int)] ∧ At M (y1.heap.size) [.int .i64 ((tM (4 * xx c m Z i)).1 : Int), .int .i64 ((tM (4 * xx c m Z i)).2.1 : Int), .bool (tM (4 * xx c m Z i)).2.2] ∧ But (fun k => k = N.heap.size + 1) S M) ⟨((((kdy2.upd 2 _).upd 3 _).upd 4 _).upd 5 _), ((((key2.set (by omega)).set (by omega)).set (by omega)).set (by omega)), (((((But.of_below (fun k => k = N.heap.size + 1) hrS2).setCell (Or.inl rfl) _).setCell (Or.inl rfl) _).setCell (Or.inl rfl) _).setCell (Or.inl rfl) _)⟩ ?_
                rintro M ⟨kdM, keM, hbM⟩
                have hqM : Below w.heap.size w M := But.under hqwS hbM (fun k e => by omega) hzwS
                have hzM := hqM.size
                have hzSM := hbM.size
                have zeM := keM.1
                have zdM := kdM.1
                clear kdy2 cd0y2 fd0y2 cd1y2 fd1y2 cd2y2 fd2y2 cd3y2 fd3y2 cd4y2 fd4y2 cd5y2 fd5y2 key2 ce0y2 fe0y2 ce1y2 fe1y2 ce2y2 fe2y2 kzy2 cz0y2 fz0y2 cz1y2 fz1y2 cz2y2 fz2y2 cz3y2 fz3y2 kdC cd0C fd0C cd1C fd1C cd2C fd2C cd3C fd3C cd4C fd4C cd5C fd5C keC ce0C fe0C ce1C fe1C ce2C fe2C kzC cz0C fz0C cz1C fz1C cz2C fz2C cz3C fz3C hrS2 hrSC hqC hzC hzwC hzy2
                have hro : (r3 % 1013).toNat < 1013 := by omega
                have HCL1 := HCL.out hk1 hk2 c m Z f v2 r2 i HP.out HGD.out HG3.out hc6 (by omega)
                rw [← HV3.out, ← HR3.out] at HCL1
                cases htv : ((v3 % 1013 == 0) || ((q (xx c m Z i) : Int) == 0)) with
                | false => as_aux_lemma =>
                  rw [htv] at HCL1
                  have HCF : Hid (cl (r3 % 1013).toNat (xx c m Z i) = false) := HCL1
                  rw [Bool.or_eq_false_iff] at htv
                  obtain ⟨t1, t2⟩ := htv
                  obtain ⟨zdM, cd0M, cd1M, cd2M, cd3M, cd4M, cd5M, fd0M, fd1M, fd2M, fd3M, fd4M, fd5M⟩ := kdM.six
                  obtain ⟨zeM, ce0M, ce1M, ce2M, fe0M, fe1M, fe2M⟩ := keM.three
                  go_upto_region 52 with (first | (go_at_call 27; refine (HTT.out _ _ vb Q (HSW.out _ hbM) hc6).mono ?_; rintro e y3 ⟨rfl, hb3⟩; have hr3' : Below M.heap.size M y3 := hb3; have hz3' := hb3.size; have kdy3 := kdM.below hb3; have key3 := keM.below hb3; obtain ⟨zdy3, cd0y3, cd1y3, cd2y3, cd3y3, cd4y3, cd5y3, fd0y3, fd1y3, fd2y3, fd3y3, fd4y3, fd5y3⟩ := kdy3.six; obtain ⟨zey3, ce0y3, ce1y3, ce2y3, fe0y3, fe1y3, fe2y3⟩ := key3.three; have HB3 : Hid (But (fun k => k = N.heap.size + 1) S (y3.alloc (.cells #[.int .i64 ((tM (4 * tt c)).1 : Int), .int .i64 ((tM (4 * tt c)).2.1 : Int), .bool (tM (4 * tt c)).2.2] 23))) := (hbM.call hb3).alloc _; have HBQ : Hid (But (fun k => k = N.heap.size + 1 ∨ Q k) S (y3.alloc (.cells #[.int .i64 ((tM (4 * tt c)).1 : Int), .int .i64 ((tM (4 * tt c)).2.1 : Int), .bool (tM (4 * tt c)).2.2] 23))) := HB3.out.mono (fun _ _ h => Or.inl h); clear hb3) | (go_at_call 30; refine (HDN.out hk1 hk2 _ vb Q c m i gc nc2 Z gs ns (r3 % 1013).toNat (HSW.out _ HB3.out) hc6 hm6 (by omega) HGO.out hgmc hinc (HRG2.out _ HBQ.out) (HNR.out _ HBQ.out) hro HCF.out).mono ?_; rintro e y4 ⟨rfl, hb4⟩; have kty4 : At y4 (y3.heap.size) [.int .i64 ((tM (4 * tt c)).1 : Int), .int .i64 ((tM (4 * tt c)).2.1 : Int), .bool (tM (4 * tt c)).2.2] := At.below (at_new' _ _ _ _ rfl) hb4; have hr4 : Below M.heap.size M y4 := (by repeat (first | (with_reducible exact Below.refl _ _) | (with_reducible assumption) | (with_reducible refine Below.setCell ?_ (by first | (simp; done) | (simp; omega) | omega) _) | (with_reducible refine Below.alloc ?_ (by first | (simp; done) | (simp; omega) | omega) _) | (refine bl_call ?_ (by assumption) (by first | (simp; done) | (simp; omega) | omega)) | (with_reducible refine bl_drewN ?_) | (with_reducible refine Below.drew ?_) | (with_reducible refine bl_grow ?_ (by first | (simp; done) | (simp; omega) | omega)))); have hz4' := hr4.size; have hq4 : Below w.heap.size w y4 := bl_call hqM hr4 hzM; have hz4w := hq4.size; clear hb4) | (go_at_call 10; refine (same_below _ _ _ (isErr_err 8) (HDr.out.under hq4)).mono ?_; rintro e y5 ⟨rfl, hb5⟩; have hr5 : Below M.heap.size M y5 := bl_call hr4 hb5 hz4'; have kty5 := kty4.below hb5; have hz5' := hr5.size; have hq5' : Below w.heap.size w y5 := bl_call hqM hr5 hzM; have hz5w := hq5'.size; clear hb5))
  
                  refine wp_gen (fun O => At O (y3.heap.size) [.int .i64 ((tM (4 * tt c)).1 : Int), .int .i64 ((tM (4 * tt c)).2.1 : Int), .bool (tM (4 * tt c)).2.2] ∧ Below M.heap.size M O) ⟨kty5, hr5⟩ ?_
                  rintro O ⟨ktO, hrO⟩
                  have hzO := hrO.size
                  have hqO : Below w.heap.size w O := bl_call hqM hrO hzM
                  have hzwO := hqO.size
                  have HSO : Hid (∀ W, Below O.heap.size O W → St c W vb Q) := fun W hW => HSW.out W ((hbM.call hrO).call hW)
                  obtain ⟨ztO, ct0O, ct1O, ct2O, ft0O, ft1O, ft2O⟩ := ktO.three
                  clear kty5 hr5 kty4 hr4 hq4 hq5'
                  refine wp_region_quiet_below (by kernel_rfl) (by kernel_rfl) ?_
                  repeat (go_big_quiet_step (first | (go_at_call 23; with_reducible exact Calls.regrown_of (HMO.out _ _))))
                  refine wpQuiet_nil ?_
                  intro O2 hw1
                  have hrO2 := regrown_below hw1
                  clear hw1
  
                  have ktO2 := ktO.below hrO2
                  have hzO2 := hrO2.size
                  obtain ⟨ztO2, ct0O2, ct1O2, ct2O2, ft0O2, ft1O2, ft2O2⟩ := ktO2.three
                  go_upto_region 55 with fail
                  have y1_ : (((tM (4 * tt c)).1 : Int) == ((tM (4 * tt c)).1 : Int)) = true := by simp
                  have y2_ : (((tM (4 * tt c)).2.1 : Int) == ((tM (4 * tt c)).2.1 : Int)) = true := by simp
                  have y3_ : ((tM (4 * tt c)).2.2 == (tM (4 * tt c)).2.2) = true := by simp
                  have hO2O2 : Below O2.heap.size O2 O2 := Below.refl _ _
                  go_region_held3 (fun W => ((y3.heap.size) < W.heap.size ∧ W.cell? ⟨y3.heap.size, 0, none⟩ = some (.int .i64 ((tM (4 * tt c)).1 : Int)) ∧ W.cell? ⟨y3.heap.size, 1, none⟩ = some (.int .i64 ((tM (4 * tt c)).2.1 : Int)) ∧ W.cell? ⟨y3.heap.size, 2, none⟩ = some (.bool (tM (4 * tt c)).2.2) ∧ W.frozen? ⟨y3.heap.size, 0, none⟩ = false ∧ W.frozen? ⟨y3.heap.size, 1, none⟩ = false ∧ W.frozen? ⟨y3.heap.size, 2, none⟩ = false)) (exact At.three (by repeat (first | (with_reducible assumption) | ((with_reducible refine at_new' _ _ _ _ ?_); (first | rfl | (simp; done))) | (with_reducible refine At.alloc ?_ _) | (with_reducible refine At.drew ?_) | (with_reducible refine At.drewN ?_) | (with_reducible refine At.set ?_ (by omega)) | (with_reducible apply At.store4) | (with_reducible apply At.store3) | (with_reducible apply At.store2) | (with_reducible apply At.put43) | (refine At.below ?_ (by with_reducible assumption))))) (first | (go_at_call 27; refine (HTT.out _ _ vb Q (HSO.out _ (bl_call hrO2 (show Below O2.heap.size O2 _ from by repeat (first | (with_reducible exact Below.refl _ _) | (with_reducible assumption) | (with_reducible refine Below.setCell ?_ (by first | (simp; done) | (simp; omega) | omega) _) | (with_reducible refine Below.alloc ?_ (by first | (simp; done) | (simp; omega) | omega) _) | (refine bl_call ?_ (by assumption) (by first | (simp; done) | (simp; omega) | omega)) | (with_reducible refine bl_drewN ?_) | (with_reducible refine Below.drew ?_) | (with_reducible refine bl_grow ?_ (by first | (simp; done) | (simp; omega) | omega)))) hzO2)) hc6).mono ?_; rintro e w16 ⟨rfl, hb16⟩; have hs16 := hb16.size; have hr16 : Below O2.heap.size O2 w16 := (by repeat (first | (with_reducible exact Below.refl _ _) | (with_reducible assumption) | (with_reducible refine Below.setCell ?_ (by first | (simp; done) | (simp; omega) | omega) _) | (with_reducible refine Below.alloc ?_ (by first | (simp; done) | (simp; omega) | omega) _) | (refine bl_call ?_ (by assumption) (by first | (simp; done) | (simp; omega) | omega)) | (with_reducible refine bl_drewN ?_) | (with_reducible refine Below.drew ?_) | (with_reducible refine bl_grow ?_ (by first | (simp; done) | (simp; omega) | omega)))); have hv16 := hr16.size; obtain ⟨hc16, hf16⟩ := bcell hb16) | (go_at_call 28; refine (HLV.out _ _ vb Q (HSO.out _ (bl_call hrO2 (show Below O2.heap.size O2 _ from by repeat (first | (with_reducible exact Below.refl _ _) | (with_reducible assumption) | (with_reducible refine Below.setCell ?_ (by first | (simp; done) | (simp; omega) | omega) _) | (with_reducible refine Below.alloc ?_ (by first | (simp; done) | (simp; omega) | omega) _) | (refine bl_call ?_ (by assumption) (by first | (simp; done) | (simp; omega) | omega)) | (with_reducible refine bl_drewN ?_) | (with_reducible refine Below.drew ?_) | (with_reducible refine bl_grow ?_ (by first | (simp; done) | (simp; omega) | omega)))) hzO2)) hc6).mono ?_; rintro e w17 ⟨q7, e7, rfl, hb17⟩; have hs17 := hb17.size; have hr17 : Below O2.heap.size O2 w17 := (by repeat (first | (with_reducible exact Below.refl _ _) | (with_reducible assumption) | (with_reducible refine Below.setCell ?_ (by first | (simp; done) | (simp; omega) | omega) _) | (with_reducible refine Below.alloc ?_ (by first | (simp; done) | (simp; omega) | omega) _) | (refine bl_call ?_ (by assumption) (by first | (simp; done) | (simp; omega) | omega)) | (with_reducible refine bl_drewN ?_) | (with_reducible refine Below.drew ?_) | (with_reducible refine bl_grow ?_ (by first | (simp; done) | (simp; omega) | omega)))); have hv17 := hr17.size; obtain ⟨hc17, hf17⟩ := bcell hb17))
                  all_goals (try go_wp2_with fail)
  
                  all_goals (go_ret; exact ⟨rfl, bl_call hqO (bl_call hrO2 (show Below O2.heap.size O2 _ from by repeat (first | (with_reducible exact Below.refl _ _) | (with_reducible assumption) | (with_reducible refine Below.setCell ?_ (by first | (simp; done) | (simp; omega) | omega) _) | (with_reducible refine Below.alloc ?_ (by first | (simp; done) | (simp; omega) | omega) _) | (refine bl_call ?_ (by assumption) (by first | (simp; done) | (simp; omega) | omega)) | (with_reducible refine bl_drewN ?_) | (with_reducible refine Below.drew ?_) | (with_reducible refine bl_grow ?_ (by first | (simp; done) | (simp; omega) | omega)))) hzO2) hzwO⟩)
                | true => as_aux_lemma =>
                  rw [htv] at HCL1
                  have HCT : Hid (cl (r3 % 1013).toNat (xx c m Z i) = true) := HCL1
                  have HTV : Hid (((v3 % 1013 == 0) || ((q (xx c m Z i) : Int) == 0)) = true) := htv
                  clear htv HCL1
                  obtain ⟨zdM, cd0M, cd1M, cd2M, cd3M, cd4M, cd5M, fd0M, fd1M, fd2M, fd3M, fd4M, fd5M⟩ := kdM.six
                  obtain ⟨zeM, ce0M, ce1M, ce2M, fe0M, fe1M, fe2M⟩ := keM.three
                  go_upto_region 52 with (first | (go_at_call 27; refine (HTT.out _ _ vb Q (HSW.out _ hbM) hc6).mono ?_; rintro e y3 ⟨rfl, hb3⟩; have hr3' : Below M.heap.size M y3 := hb3; have hz3' := hb3.size; have kdy3 := kdM.below hb3; have key3 := keM.below hb3; obtain ⟨zdy3, cd0y3, cd1y3, cd2y3, cd3y3, cd4y3, cd5y3, fd0y3, fd1y3, fd2y3, fd3y3, fd4y3, fd5y3⟩ := kdy3.six; obtain ⟨zey3, ce0y3, ce1y3, ce2y3, fe0y3, fe1y3, fe2y3⟩ := key3.three; have HB3 : Hid (But (fun k => k = N.heap.size + 1) S (y3.alloc (.cells #[.int .i64 ((tM (4 * tt c)).1 : Int), .int .i64 ((tM (4 * tt c)).2.1 : Int), .bool (tM (4 * tt c)).2.2] 23))) := (hbM.call hb3).alloc _; have HBQ : Hid (But (fun k => k = N.heap.size + 1 ∨ Q k) S (y3.alloc (.cells #[.int .i64 ((tM (4 * tt c)).1 : Int), .int .i64 ((tM (4 * tt c)).2.1 : Int), .bool (tM (4 * tt c)).2.2] 23))) := HB3.out.mono (fun _ _ h => Or.inl h); clear hb3) | (go_at_call 30; refine (HDY.out hk1 hk2 _ vb Q c m i gc nc2 Z gs ns (r3 % 1013).toNat (HSW.out _ HB3.out) hc6 hm6 (by omega) HGO.out hgmc hinc (HRG2.out _ HBQ.out) (HNR.out _ HBQ.out) HAPG.out HAPN.out hro HCT.out).mono ?_; rintro e y4 ⟨rfl, hbut, Q2, hs4, hQ2⟩; have kty4 : At y4 (y3.heap.size) [.int .i64 ((tM (4 * tt c)).1 : Int), .int .i64 ((tM (4 * tt c)).2.1 : Int), .bool (tM (4 * tt c)).2.2] := At.but (at_new' _ _ _ _ rfl) hbut (fun h => by have := HQN.out _ h; omega); have key4 : At y4 (y1.heap.size) [.int .i64 ((tM (4 * xx c m Z i)).1 : Int), .int .i64 ((tM (4 * xx c m Z i)).2.1 : Int), .bool (tM (4 * xx c m Z i)).2.2] := At.but (key3.alloc _) hbut (fun h => by have := HQN.out _ h; omega); have kdy4 : At y4 (N.heap.size + 1) [.slice gs m gc, .slice ns i nc2, .int .i64 ((R).1 : Int), .int .i64 ((R).2.1 : Int), .bool (R).2.2, .int .i64 (z (r3 % 1013).toNat (xx c m Z i) : Int)] := At.but (kdy3.alloc _) hbut (fun h => by have := HQN.out _ h; omega); have hq4 : Below w.heap.size w y4 := But.under (show Below w.heap.size w _ from by repeat (first | (with_reducible exact Below.refl _ _) | (with_reducible assumption) | (with_reducible refine Below.setCell ?_ (by first | (simp; done) | (simp; omega) | omega) _) | (with_reducible refine Below.alloc ?_ (by first | (simp; done) | (simp; omega) | omega) _) | (refine bl_call ?_ (by assumption) (by first | (simp; done) | (simp; omega) | omega)) | (with_reducible refine bl_drewN ?_) | (with_reducible refine Below.drew ?_) | (with_reducible refine bl_grow ?_ (by first | (simp; done) | (simp; omega) | omega)))) hbut HQ.out (by first | (simp; done) | (simp; omega) | omega); have hbq4 : But (fun k => k = N.heap.size + 1 ∨ Q k) S y4 := HBQ.out.trans hbut (fun _ _ h => Or.inr h); have hz4w := hq4.size; clear hbut hQ2) | (go_at_call 10; refine (same_below _ _ _ isErr_nil (HDr.out.under hq4)).mono ?_; rintro e y5 ⟨rfl, hb5⟩; have kty5 := kty4.below hb5; have key5 := key4.below hb5; have kdy5 := kdy4.below hb5; have hs5 := HS2.out _ _ _ _ _ _ _ _ hs4 hb5; have hbq5 := hbq4.call hb5; have hq5' : Below w.heap.size w y5 := bl_call hq4 hb5 hz4w; have hz5w := hq5'.size; clear hb5 kty4 key4 kdy4 hs4 hbq4 hq4))
  
                  refine wp_gen (fun O => At O (y3.heap.size) [.int .i64 ((tM (4 * tt c)).1 : Int), .int .i64 ((tM (4 * tt c)).2.1 : Int), .bool (tM (4 * tt c)).2.2] ∧ At O (y1.heap.size) [.int .i64 ((tM (4 * xx c m Z i)).1 : Int), .int .i64 ((tM (4 * xx c m Z i)).2.1 : Int), .bool (tM (4 * xx c m Z i)).2.2] ∧ At O (N.heap.size + 1) [.slice gs m gc, .slice ns i nc2, .int .i64 ((R).1 : Int), .int .i64 ((R).2.1 : Int), .bool (R).2.2, .int .i64 (z (r3 % 1013).toNat (xx c m Z i) : Int)] ∧ S2 c m Z i O vb Q2 ∧ But (fun k => k = N.heap.size + 1 ∨ Q k) S O ∧ Below w.heap.size w O) ⟨kty5, key5, kdy5, hs5, hbq5, hq5'⟩ ?_
                  rintro O ⟨ktO, keO, kdO, hsO, hbO, hqO⟩
                  have hzO := hqO.size
                  have hzSO := hbO.size
                  have HSO : Hid (S2 c m Z i O vb Q2) := hsO
                  have HBO : Hid (But (fun k => k = N.heap.size + 1 ∨ Q k) S O) := hbO
                  clear kty5 key5 kdy5 hs5 hbq5 hq5' hsO hbO
                  go_cut [282] from 220 to 336 (fun tb_ wx_ => tb_ = .bool false ∧ Below O.heap.size O wx_)
                  case first =>
                    cases t1 : (v3 % 1013 == 0) with
                    | true =>
                      refine wp_region_quiet_below (by kernel_rfl) (by kernel_rfl) ?_
                      repeat (go_big_quiet_step (first | (go_at_call 23; with_reducible exact Calls.regrown_of (HMO.out _ _))))
                      refine wpQuiet_nil ?_
                      intro O2 hw1
                      have hrO2 := regrown_below hw1
                      clear hw1
                      (try go_wp2_with fail)
                      go_meet
                      case rel => exact ⟨rfl, hrO2⟩
                    | false =>
                      have t2 : ((q (xx c m Z i) : Int) == 0) = true := by have := HTV.out; rw [t1, Bool.false_or] at this; exact this
                      refine wp_region_quiet_below (by kernel_rfl) (by kernel_rfl) ?_
                      repeat (go_big_quiet_step (first | (go_at_call 23; with_reducible exact Calls.regrown_of (HMO.out _ _))))
                      refine wpQuiet_nil ?_
                      intro O2 hw1
                      have hrO2 := regrown_below hw1
                      clear hw1
                      (try go_wp2_with fail)
                      go_meet
                      case rel => exact ⟨rfl, hrO2⟩
                  case rest =>
                  rename World => V3
                  obtain ⟨rfl, hrV3⟩ := hcut
                  have hzV3 := hrV3.size
                  have ktV3 := ktO.below hrV3
                  have keV3 := keO.below hrV3
                  have kdV3 := kdO.below hrV3
                  have HSV : Hid (S2 c m Z i V3 vb Q2) := HS2.out _ _ _ _ _ _ _ _ HSO.out hrV3
                  have HBV : Hid (But (fun k => k = N.heap.size + 1 ∨ Q k) S V3) := HBO.out.call hrV3
                  have hqV3 : Below w.heap.size w V3 := bl_call hqO hrV3 hzO
                  have hzwV3 := hqV3.size
                  obtain ⟨ztV3, ct0V3, ct1V3, ct2V3, ft0V3, ft1V3, ft2V3⟩ := ktV3.three
                  obtain ⟨zeV3, ce0V3, ce1V3, ce2V3, fe0V3, fe1V3, fe2V3⟩ := keV3.three
                  obtain ⟨zdV3, cd0V3, cd1V3, cd2V3, cd3V3, cd4V3, cd5V3, fd0V3, fd1V3, fd2V3, fd3V3, fd4V3, fd5V3⟩ := kdV3.six
                  clear ktO keO kdO hrV3 hqO
                  go_upto_region 57 with (go_at_call 34; refine (HAD.out _ _ _).mono ?_; rintro e y6 ⟨rfl, hb6⟩; have kdy6 := kdV3.below hb6; have hs6 := HS2.out _ _ _ _ _ _ _ _ HSV.out hb6; have hbq6 := HBV.out.call hb6; have hq6' : Below w.heap.size w y6 := bl_call hqV3 hb6 hzwV3; have hz6' := hq6'.size)
  
                  refine wp_gen (fun P_ => At P_ (y6.heap.size) [.int .i64 ((tM (4 * tt c + 4 * xx c m Z i)).1 : Int), .int .i64 ((tM (4 * tt c + 4 * xx c m Z i)).2.1 : Int), .bool (tM (4 * tt c + 4 * xx c m Z i)).2.2] ∧ At P_ (N.heap.size + 1) [.slice gs m gc, .slice ns i nc2, .int .i64 ((R).1 : Int), .int .i64 ((R).2.1 : Int), .bool (R).2.2, .int .i64 (z (r3 % 1013).toNat (xx c m Z i) : Int)] ∧ S2 c m Z i P_ vb Q2 ∧ But (fun k => k = N.heap.size + 1 ∨ Q k) S P_ ∧ Below w.heap.size w P_) ⟨at_new' _ _ _ _ rfl, kdy6.alloc _, HS2.out _ _ _ _ _ _ _ _ hs6 ((Below.refl _ _).alloc (Nat.le_refl _) _), hbq6.alloc _, by repeat (first | (with_reducible exact Below.refl _ _) | (with_reducible assumption) | (with_reducible refine Below.setCell ?_ (by first | (simp; done) | (simp; omega) | omega) _) | (with_reducible refine Below.alloc ?_ (by first | (simp; done) | (simp; omega) | omega) _) | (refine bl_call ?_ (by assumption) (by first | (simp; done) | (simp; omega) | omega)) | (with_reducible refine bl_drewN ?_) | (with_reducible refine Below.drew ?_) | (with_reducible refine bl_grow ?_ (by first | (simp; done) | (simp; omega) | omega)))⟩ ?_
                  rintro P_ ⟨kuP, kdP, hsP, hbP, hqP⟩
                  have hzP := hqP.size
                  have zuP := kuP.1
                  have zdP := kdP.1
                  have HSP : Hid (S2 c m Z i P_ vb Q2) := hsP
                  have HBP : Hid (But (fun k => k = N.heap.size + 1 ∨ Q k) S P_) := hbP
                  clear ktV3 ct0V3 ft0V3 ct1V3 ft1V3 ct2V3 ft2V3 keV3 ce0V3 fe0V3 ce1V3 fe1V3 ce2V3 fe2V3 kdV3 cd0V3 fd0V3 cd1V3 fd1V3 cd2V3 fd2V3 cd3V3 fd3V3 cd4V3 fd4V3 cd5V3 fd5V3 kdy6 hs6 hbq6 hq6' hb6 hsP hbP hqV3
                  go_cut [326] from 297 to 336 (fun tb_ wx_ => tb_ = .bool false ∧ Below P_.heap.size P_ wx_)
                  case first => as_aux_lemma =>
                    have hPP : Below P_.heap.size P_ P_ := Below.refl _ _
                    have y1_ : (((tM (4 * tt c + 4 * xx c m Z i)).1 : Int) == ((tM (4 * tt c + 4 * xx c m Z i)).1 : Int)) = true := by simp
                    have y2_ : (((tM (4 * tt c + 4 * xx c m Z i)).2.1 : Int) == ((tM (4 * tt c + 4 * xx c m Z i)).2.1 : Int)) = true := by simp
                    have y3_ : ((tM (4 * tt c + 4 * xx c m Z i)).2.2 == (tM (4 * tt c + 4 * xx c m Z i)).2.2) = true := by simp
                    go_region_held3 (fun W => ((y6.heap.size) < W.heap.size ∧ W.cell? ⟨y6.heap.size, 0, none⟩ = some (.int .i64 ((tM (4 * tt c + 4 * xx c m Z i)).1 : Int)) ∧ W.cell? ⟨y6.heap.size, 1, none⟩ = some (.int .i64 ((tM (4 * tt c + 4 * xx c m Z i)).2.1 : Int)) ∧ W.cell? ⟨y6.heap.size, 2, none⟩ = some (.bool (tM (4 * tt c + 4 * xx c m Z i)).2.2) ∧ W.frozen? ⟨y6.heap.size, 0, none⟩ = false ∧ W.frozen? ⟨y6.heap.size, 1, none⟩ = false ∧ W.frozen? ⟨y6.heap.size, 2, none⟩ = false) ∧ ((N.heap.size + 1) < W.heap.size ∧ W.cell? ⟨N.heap.size + 1, 0, none⟩ = some (.slice gs m gc) ∧ W.cell? ⟨N.heap.size + 1, 1, none⟩ = some (.slice ns i nc2) ∧ W.cell? ⟨N.heap.size + 1, 2, none⟩ = some (.int .i64 ((R).1 : Int)) ∧ W.cell? ⟨N.heap.size + 1, 3, none⟩ = some (.int .i64 ((R).2.1 : Int)) ∧ W.cell? ⟨N.heap.size + 1, 4, none⟩ = some (.bool (R).2.2) ∧ W.cell? ⟨N.heap.size + 1, 5, none⟩ = some (.int .i64 (z (r3 % 1013).toNat (xx c m Z i) : Int)) ∧ W.frozen? ⟨N.heap.size + 1, 0, none⟩ = false ∧ W.frozen? ⟨N.heap.size + 1, 1, none⟩ = false ∧ W.frozen? ⟨N.heap.size + 1, 2, none⟩ = false ∧ W.frozen? ⟨N.heap.size + 1, 3, none⟩ = false ∧ W.frozen? ⟨N.heap.size + 1, 4, none⟩ = false ∧ W.frozen? ⟨N.heap.size + 1, 5, none⟩ = false)) (exact ⟨At.three (by repeat (first | (with_reducible assumption) | ((with_reducible refine at_new' _ _ _ _ ?_); (first | rfl | (simp; done))) | (with_reducible refine At.alloc ?_ _) | (with_reducible refine At.drew ?_) | (with_reducible refine At.drewN ?_) | (with_reducible refine At.set ?_ (by omega)) | (with_reducible apply At.store4) | (with_reducible apply At.store3) | (with_reducible apply At.store2) | (with_reducible apply At.put43) | (refine At.below ?_ (by with_reducible assumption)))), At.six (by repeat (first | (with_reducible assumption) | ((with_reducible refine at_new' _ _ _ _ ?_); (first | rfl | (simp; done))) | (with_reducible refine At.alloc ?_ _) | (with_reducible refine At.drew ?_) | (with_reducible refine At.drewN ?_) | (with_reducible refine At.set ?_ (by omega)) | (with_reducible apply At.store4) | (with_reducible apply At.store3) | (with_reducible apply At.store2) | (with_reducible apply At.put43) | (refine At.below ?_ (by with_reducible assumption))))⟩) (first | (go_at_call 27; refine (HT2.out _ vb Q2 c m i gc nc2 Z gs ns (HS2.out _ _ _ _ _ _ _ _ HSP.out (show Below P_.heap.size P_ _ from by repeat (first | (with_reducible exact Below.refl _ _) | (with_reducible assumption) | (with_reducible refine Below.setCell ?_ (by first | (simp; done) | (simp; omega) | omega) _) | (with_reducible refine Below.alloc ?_ (by first | (simp; done) | (simp; omega) | omega) _) | (refine bl_call ?_ (by assumption) (by first | (simp; done) | (simp; omega) | omega)) | (with_reducible refine bl_drewN ?_) | (with_reducible refine Below.drew ?_) | (with_reducible refine bl_grow ?_ (by first | (simp; done) | (simp; omega) | omega))))) hc6 hm6 (by omega) HGO.out).mono ?_; rintro e w16 ⟨rfl, hb16⟩; have hs16 := hb16.size; have hr16 : Below P_.heap.size P_ w16 := (by repeat (first | (with_reducible exact Below.refl _ _) | (with_reducible assumption) | (with_reducible refine Below.setCell ?_ (by first | (simp; done) | (simp; omega) | omega) _) | (with_reducible refine Below.alloc ?_ (by first | (simp; done) | (simp; omega) | omega) _) | (refine bl_call ?_ (by assumption) (by first | (simp; done) | (simp; omega) | omega)) | (with_reducible refine bl_drewN ?_) | (with_reducible refine Below.drew ?_) | (with_reducible refine bl_grow ?_ (by first | (simp; done) | (simp; omega) | omega)))); have hv16 := hr16.size; obtain ⟨hc16, hf16⟩ := bcell hb16) | (go_at_call 28; refine (HL2.out _ vb Q2 c m i gc nc2 Z gs ns (HS2.out _ _ _ _ _ _ _ _ HSP.out (show Below P_.heap.size P_ _ from by repeat (first | (with_reducible exact Below.refl _ _) | (with_reducible assumption) | (with_reducible refine Below.setCell ?_ (by first | (simp; done) | (simp; omega) | omega) _) | (with_reducible refine Below.alloc ?_ (by first | (simp; done) | (simp; omega) | omega) _) | (refine bl_call ?_ (by assumption) (by first | (simp; done) | (simp; omega) | omega)) | (with_reducible refine bl_drewN ?_) | (with_reducible refine Below.drew ?_) | (with_reducible refine bl_grow ?_ (by first | (simp; done) | (simp; omega) | omega))))) hc6 hm6 (by omega) HGO.out).mono ?_; rintro e w17 ⟨q7, e7, L7, rfl, hL7, hb17⟩; have hL8 : ((L7 : Int) != IntKind.i64.wrap (IntKind.i64.wrap ((c : Int) - (m : Int)) + (i : Int))) = false := (kwrap hc6 hm6 (by omega) hL7); have hs17 := hb17.size; have hr17 : Below P_.heap.size P_ w17 := (by repeat (first | (with_reducible exact Below.refl _ _) | (with_reducible assumption) | (with_reducible refine Below.setCell ?_ (by first | (simp; done) | (simp; omega) | omega) _) | (with_reducible refine Below.alloc ?_ (by first | (simp; done) | (simp; omega) | omega) _) | (refine bl_call ?_ (by assumption) (by first | (simp; done) | (simp; omega) | omega)) | (with_reducible refine bl_drewN ?_) | (with_reducible refine Below.drew ?_) | (with_reducible refine bl_grow ?_ (by first | (simp; done) | (simp; omega) | omega)))); have hv17 := hr17.size; obtain ⟨hc17, hf17⟩ := bcell hb17))
    
                    all_goals (try go_wp2_with fail)
                    all_goals go_meet
                    all_goals (case rel => first | exact ⟨rfl, by repeat (first | (with_reducible exact Below.refl _ _) | (with_reducible assumption) | (with_reducible refine Below.setCell ?_ (by first | (simp; done) | (simp; omega) | omega) _) | (with_reducible refine Below.alloc ?_ (by first | (simp; done) | (simp; omega) | omega) _) | (refine bl_call ?_ (by assumption) (by first | (simp; done) | (simp; omega) | omega)) | (with_reducible refine bl_drewN ?_) | (with_reducible refine Below.drew ?_) | (with_reducible refine bl_grow ?_ (by first | (simp; done) | (simp; omega) | omega)))⟩ | exact ⟨by rw [hL8], by repeat (first | (with_reducible exact Below.refl _ _) | (with_reducible assumption) | (with_reducible refine Below.setCell ?_ (by first | (simp; done) | (simp; omega) | omega) _) | (with_reducible refine Below.alloc ?_ (by first | (simp; done) | (simp; omega) | omega) _) | (refine bl_call ?_ (by assumption) (by first | (simp; done) | (simp; omega) | omega)) | (with_reducible refine bl_drewN ?_) | (with_reducible refine Below.drew ?_) | (with_reducible refine bl_grow ?_ (by first | (simp; done) | (simp; omega) | omega)))⟩)
                  case rest =>
                  rename World => V4
                  obtain ⟨rfl, hrV4⟩ := hcut
                  have hzV4 := hrV4.size
                  have kdV4 := kdP.below hrV4
                  have HSV4 : Hid (S2 c m Z i V4 vb Q2) := HS2.out _ _ _ _ _ _ _ _ HSP.out hrV4
                  have HBV4 : Hid (But (fun k => k = N.heap.size + 1 ∨ Q k) S V4) := HBP.out.call hrV4
                  have hqV4 : Below w.heap.size w V4 := bl_call hqP hrV4 hzP
                  have hzwV4 := hqV4.size
                  obtain ⟨zdV4, cd0V4, cd1V4, cd2V4, cd3V4, cd4V4, cd5V4, fd0V4, fd1V4, fd2V4, fd3V4, fd4V4, fd5V4⟩ := kdV4.six
                  clear kuP kdP hrV4 hqP
                  by_cases hm0 : m = 0
                  · have t0 : ((m : Int) == 0) = true := by rw [hm0]; rfl
                    clear hm0
                    go_wp2_with fail
                    go_ret
                    exact ⟨rfl, by repeat (first | (with_reducible exact Below.refl _ _) | (with_reducible assumption) | (with_reducible refine Below.setCell ?_ (by first | (simp; done) | (simp; omega) | omega) _) | (with_reducible refine Below.alloc ?_ (by first | (simp; done) | (simp; omega) | omega) _) | (refine bl_call ?_ (by assumption) (by first | (simp; done) | (simp; omega) | omega)) | (with_reducible refine bl_drewN ?_) | (with_reducible refine Below.drew ?_) | (with_reducible refine bl_grow ?_ (by first | (simp; done) | (simp; omega) | omega)))⟩
                  · have t0 : ((m : Int) == 0) = false := by rw [beq_eq_false_iff_ne]; omega
                    go_wp2_with (first | (go_at_call 30; refine (HD6.out _ vb Q2 c m i gc nc2 Z gs ns (r3 % 1013).toNat HSV4.out hc6 hm6 (by omega) HGO.out hgmc hinc (HRG2.out _ HBV4.out) (HNR.out _ HBV4.out) (by omega)).mono ?_; rintro e y7 ⟨rfl, hb7⟩; have hq7 : Below w.heap.size w y7 := bl_call hqV4 hb7 hzwV4; have hz7 := hq7.size; clear hb7) | (go_at_call 10; refine (same_below _ _ _ (isErr_err 6) (HDr.out.under hq7)).mono ?_; rintro e y8 ⟨rfl, hb8⟩; have hq8 : Below w.heap.size w y8 := bl_call hq7 hb8 hz7; clear hb8))
                    go_ret
                    exact ⟨rfl, by repeat (first | (with_reducible exact Below.refl _ _) | (with_reducible assumption) | (with_reducible refine Below.setCell ?_ (by first | (simp; done) | (simp; omega) | omega) _) | (with_reducible refine Below.alloc ?_ (by first | (simp; done) | (simp; omega) | omega) _) | (refine bl_call ?_ (by assumption) (by first | (simp; done) | (simp; omega) | omega)) | (with_reducible refine bl_drewN ?_) | (with_reducible refine Below.drew ?_) | (with_reducible refine bl_grow ?_ (by first | (simp; done) | (simp; omega) | omega)))⟩
              · as_aux_lemma =>
                have HKB : Hid (¬ (1 ≤ k ∧ k < 1013)) := hk
                have HCB2 := HCB.out hk
                have HCB3 : Hid _ := HCB2
                clear HCB2
                go_cut [32, 33] from 220 to 336 (fun t1_ t2_ wx_ => ∃ b32 : Nat, t1_ = .pointer (some ⟨b32, 0, none⟩) ∧ t2_ = errOf 1 ∧ At wx_ (N.heap.size + 1) [.slice gs m gc, .slice ns i nc2, .int .i64 0, .int .i64 0, .bool false, .int .i64 0] ∧ At wx_ (y1.heap.size) [.int .i64 ((tM (4 * xx c m Z i)).1 : Int), .int .i64 ((tM (4 * xx c m Z i)).2.1 : Int), .bool (tM (4 * xx c m Z i)).2.2] ∧ At wx_ b32 [.int .i64 0, .int .i64 0, .bool false, .int .i64 0] ∧ Y.heap.size ≤ b32 ∧ Below Y.heap.size Y wx_)
                case first => as_aux_lemma =>
                  go_region_held3 (fun W => ((y1.heap.size) < W.heap.size ∧ W.cell? ⟨y1.heap.size, 0, none⟩ = some (.int .i64 ((tM (4 * xx c m Z i)).1 : Int)) ∧ W.cell? ⟨y1.heap.size, 1, none⟩ = some (.int .i64 ((tM (4 * xx c m Z i)).2.1 : Int)) ∧ W.cell? ⟨y1.heap.size, 2, none⟩ = some (.bool (tM (4 * xx c m Z i)).2.2) ∧ W.frozen? ⟨y1.heap.size, 0, none⟩ = false ∧ W.frozen? ⟨y1.heap.size, 1, none⟩ = false ∧ W.frozen? ⟨y1.heap.size, 2, none⟩ = false)) (exact At.three (by repeat (first | (with_reducible assumption) | ((with_reducible refine at_new' _ _ _ _ ?_); (first | rfl | (simp; done))) | (with_reducible refine At.alloc ?_ _) | (with_reducible refine At.drew ?_) | (with_reducible refine At.drewN ?_) | (with_reducible refine At.set ?_ (by omega)) | (with_reducible apply At.store4) | (with_reducible apply At.store3) | (with_reducible apply At.store2) | (with_reducible apply At.put43) | (refine At.below ?_ (by with_reducible assumption))))) (first | (go_at_call 23; refine (HMO.out _ _).mono ?_; rintro e w11 ⟨rfl, hb11⟩; have hs11 := hb11.size; (try simp at hs11); obtain ⟨hc11, hf11⟩ := bcell hb11; have hl11 := kb_lt hb11; have hn11 := kb_ne hb11; have hm11 := kb_ne2 hb11) | (go_at_call 29; refine (HCB3.out _ _ _).mono ?_; rintro e w12 ⟨rfl, hb12⟩; have hs12 := hb12.size; (try simp at hs12); obtain ⟨hc12, hf12⟩ := bcell hb12; have hl12 := kb_lt hb12; have hn12 := kb_ne hb12; have hm12 := kb_ne2 hb12))
                  all_goals (go_wp2_with fail)
                  all_goals go_meet
                  all_goals (case rel => exact ⟨_, rfl, rfl, by repeat (first | (with_reducible assumption) | ((with_reducible refine at_new' _ _ _ _ ?_); (first | rfl | (simp; done))) | (with_reducible refine At.alloc ?_ _) | (with_reducible refine At.drew ?_) | (with_reducible refine At.drewN ?_) | (with_reducible refine At.set ?_ (by omega)) | (with_reducible apply At.store4) | (with_reducible apply At.store3) | (with_reducible apply At.store2) | (with_reducible apply At.put43) | (refine At.below ?_ (by with_reducible assumption))), by repeat (first | (with_reducible assumption) | ((with_reducible refine at_new' _ _ _ _ ?_); (first | rfl | (simp; done))) | (with_reducible refine At.alloc ?_ _) | (with_reducible refine At.drew ?_) | (with_reducible refine At.drewN ?_) | (with_reducible refine At.set ?_ (by omega)) | (with_reducible apply At.store4) | (with_reducible apply At.store3) | (with_reducible apply At.store2) | (with_reducible apply At.put43) | (refine At.below ?_ (by with_reducible assumption))), by repeat (first | (with_reducible assumption) | ((with_reducible refine at_new' _ _ _ _ ?_); (first | rfl | (simp; done))) | (with_reducible refine At.alloc ?_ _) | (with_reducible refine At.drew ?_) | (with_reducible refine At.drewN ?_) | (with_reducible refine At.set ?_ (by omega)) | (with_reducible apply At.store4) | (with_reducible apply At.store3) | (with_reducible apply At.store2) | (with_reducible apply At.put43) | (refine At.below ?_ (by with_reducible assumption))), by omega, by repeat (first | (with_reducible exact Below.refl _ _) | (with_reducible assumption) | (with_reducible refine Below.setCell ?_ (by first | (simp; done) | (simp; omega) | omega) _) | (with_reducible refine Below.alloc ?_ (by first | (simp; done) | (simp; omega) | omega) _) | (refine bl_call ?_ (by assumption) (by first | (simp; done) | (simp; omega) | omega)) | (with_reducible refine bl_drewN ?_) | (with_reducible refine Below.drew ?_) | (with_reducible refine bl_grow ?_ (by first | (simp; done) | (simp; omega) | omega)))⟩)
                case rest =>
                rename World => C
                obtain ⟨b32, rfl, rfl, kdC, keC, kzC, hb32, hrC⟩ := hcut
                have hqC : Below w.heap.size w C := bl_call hqY hrC hzwY
                by_cases k0 : k < 1
                · go_wp2_with fail
                  go_ret
                  exact ⟨rfl, hqC⟩
                · have k1 : k ≥ 1013 := by have := HKB.out; omega
                  go_wp2_with fail
                  go_ret
                  exact ⟨rfl, hqC⟩
end Go.Proofs.YtlbdcgnhmkjfiaiDoor
