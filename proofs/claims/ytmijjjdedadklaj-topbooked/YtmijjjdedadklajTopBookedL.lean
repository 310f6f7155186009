/- stonetop.TopBooked, in letters: by what its callees answer of a book and a log whose states are Sb, Sl. -/
import Derived.Test.YtmijjjdedadklajTopBookMem
import Derived.Test.YtmijjjdedadklajTopBookMath
import Derived.Test.YtmijjjdedadklajStay
import Derived.Test.YtmijjjdedadklajOwn
import Derived.Test.YtmijjjdedadklajRefSec
import Derived.Test.YtmijjjdedadklajRefMath
import Derived.Lib.QuietBelow
import Derived.BigQuiet
import Derived.Deep.RegionHeld3
import Derived.Deep.RegionLaw
import Derived.Deep.AppendLies
import Derived.Deep.RegionWith
import Derived.Deep.CutRange
import Derived.Deep.CutBlock
namespace Go.Proofs.Ytmijjjdedadklaj
open Go.RowKit Go.Sort
set_option linter.unusedVariables false
set_option linter.unusedSimpArgs false
theorem tk_lt {W w1 : World} (hb : Below W.heap.size W w1) : ∀ b, b < W.heap.size → b < w1.heap.size := fun b h => Nat.lt_of_lt_of_le h hb.size
theorem tk_ne {W w1 : World} (hb : Below W.heap.size W w1) : ∀ b, b < W.heap.size → (b = w1.heap.size) = False := fun b h => eq_false (Nat.ne_of_lt (tk_lt hb b h))
theorem tk_ne2 {W w1 : World} (hb : Below W.heap.size W w1) : ∀ b, b < W.heap.size → (w1.heap.size = b) = False := fun b h => eq_false (Nat.ne_of_gt (tk_lt hb b h))
theorem tk_at {w W : World} {g q n : Nat} {F : Nat → Int} (h : RowI w g q n F) (k : Below w.heap.size w W) {i : Nat} (hi : i < n) : g < W.heap.size ∧ W.cell? ⟨g, q + i, none⟩ = some (.int .i64 (F i)) :=
  ⟨Nat.lt_of_lt_of_le h.1 k.size, (h.below h.1 k).2 i hi⟩
theorem tk_own {w W : World} {g n : Nat} {F : Nat → Int} (h : RowI w g 0 n F) (k : Below w.heap.size w W) {i : Nat} (hi : i < n) : g < W.heap.size ∧ W.cell? ⟨g, i, none⟩ = some (.int .i64 (F i)) := by
  have := tk_at h k hi
  rwa [Nat.zero_add] at this
theorem trow {w : World} {B n d : Nat} {e : TypeId} {st : Option Addr} {F : Nat → Int} (h : w.ownsRow B e 1 (.slice st n d) n (cellsI F n)) (hn : 0 < n) : ∃ g, st = some ⟨g, 0, none⟩ ∧ RowI w g 0 n F := by
  obtain ⟨sa, c, e, h1⟩ := own_ints h
  injection e with e1 e2 e3
  subst e1
  obtain ⟨g, h2, _, _, h3⟩ := h1.resolve_left (by omega)
  exact ⟨g, h2, h3⟩
theorem tkthree_new {w : World} {b : Nat} (h : w.heap.size = b) (x y z : Value) (t : TypeId) : ∀ j u, [x, y, z][j]? = some u → (w.alloc (.cells #[x, y, z] t)).cell? ((⟨b, 0, none⟩ : Addr).add j) = some u := three_at h x y z t
theorem tkone_at {w : World} {b : Nat} (h : w.heap.size = b) (x : Value) (t : TypeId) : ∀ j u, [x][j]? = some u → (w.alloc (.cells #[x] t)).cell? ((⟨b, 0, none⟩ : Addr).add j) = some u := one_at h x t
theorem tkpinfo : (Try.prog.info? 26).map (fun i => (i.zero, i.size, i.bytes)) = some (some (.agg #[.int .i64 0, .int .i64 0, .bool false]), 3, 24) := by kernel_rfl
theorem tkiinfo : (Try.prog.info? 3).map (fun i => (i.zero, i.size, i.bytes)) = some (some (.int .i64 0), 1, 8) := by kernel_rfl
theorem ethen_gen4 {K : Act → World → Prop} {Q : Exit → Act → World → Prop} {x : Exit} {a : Act} {w : World} (S : World → Prop) (h : S w) (k : ∀ W, S W → Exit.then K Q x a W) : Exit.then K Q x a w := k w h
/-- So many numbers that may be hidden, by numbers that may be. -/
def Goods (X Y : Nat → Int) (n : Nat) : Prop := ∀ j, j < n → resB (X j) = true ∧ resB (Y j) = true
theorem goods_zero (X Y : Nat → Int) : Goods X Y 0 := fun j hj => absurd hj (Nat.not_lt_zero _)
theorem goods_succ {X Y : Nat → Int} {n : Nat} (h : Goods X Y n) (hx : resB (X n) = true) (hy : resB (Y n) = true) : Goods X Y (n + 1) := fun j hj => (Nat.lt_succ_iff_lt_or_eq.1 hj).elim (fun h1 => h j h1) (fun h1 => by subst h1; exact ⟨hx, hy⟩)
theorem tres {x : Int} (h : resB x = true) : 0 ≤ x ∧ x < 1013 := of_decide_eq_true (p := 0 ≤ x ∧ x < 1013) h
theorem tpn {x y : Int} (h0 : 0 ≤ x) (h1 : x < 1013) (h2 : 0 ≤ y) (h3 : y < 1013) : IntKind.i64.wrap (x - y) % 1013 = ((x.toNat + 1012 * y.toNat) % 1013 : Nat) := by
  rw [IntKind.wrap_i64, show (x - y + 9223372036854775808) % 18446744073709551616 - 9223372036854775808 = x - y by omega]
  omega
theorem tpn2 {x y : Int} (h0 : 0 ≤ x) (h1 : x < 1013) (h2 : 0 ≤ y) (h3 : y < 1013) : (x - y) % 1013 = ((x.toNat + 1012 * y.toNat) % 1013 : Nat) := by
  omega
theorem tpw (i : Nat) (h : i < 1000 := by omega) : IntKind.i64.wrap ((i : Int) + 1) = (i : Int) + 1 := by
  rw [IntKind.wrap_i64]
  omega
theorem tsn {x y s : Int} (h0 : 0 ≤ x) (h1 : x < 1013) (h2 : 0 ≤ y) (h3 : y < 1013) (h4 : 0 ≤ s) (h5 : s < 1013) : IntKind.i64.wrap (IntKind.i64.wrap (s + x) - y) = s + x - y := by
  rw [IntKind.wrap_i64, IntKind.wrap_i64]
  omega
theorem tbs_step (c : Nat) (R N : Nat → Nat) (i : Nat) {x y : Int} (h0 : 0 ≤ x) (h2 : 0 ≤ y) (e1 : N i = x.toNat := by rfl) (e2 : R i = y.toNat := by rfl) : ((tbS c R N i : Int) + x - y) % 1013 = (tbS c R N (i + 1) : Int) := by
  show _ = (((tbS c R N i + N i + 1012 * R i) % 1013 : Nat) : Int)
  rw [e1, e2]
  omega
theorem tb_step (V : Nat → Nat) (i : Nat) {x : Int} (h : 0 ≤ x) (e : V i = x.toNat := by rfl) : ((tbV V i : Int) + x) % 1013 = (tbV V (i + 1) : Int) := by
  show _ = (((tbV V i + V i) % 1013 : Nat) : Int)
  rw [e]
  omega
theorem khide {H : Nat → Nat → Nat} {x y : Int} (h : ∀ (a b : Nat) w, a < 1013 → b < 1013 → Calls Try.prog 6 #[.int .i64 (a : Int), .int .i64 (b : Int)] w fun ex w' => ex = .returned (.tuple #[.agg #[.int .i64 ((tM (4 * H a b)).1 : Int), .int .i64 ((tM (4 * H a b)).2.1 : Int), .bool (tM (4 * H a b)).2.2], .nilIface]) ∧ Below w.heap.size w w') (hx : resB x = true) (hy : resB y = true) (w : World) : Calls Try.prog 6 #[.int .i64 x, .int .i64 y] w fun ex w' => ex = .returned (.tuple #[.agg #[.int .i64 ((tM (4 * H x.toNat y.toNat)).1 : Int), .int .i64 ((tM (4 * H x.toNat y.toNat)).2.1 : Int), .bool (tM (4 * H x.toNat y.toNat)).2.2], .nilIface]) ∧ Below w.heap.size w w' := by
  obtain ⟨a0, a1⟩ := tres hx
  obtain ⟨b0, b1⟩ := tres hy
  have := h x.toNat y.toNat w (by omega) (by omega)
  rwa [Int.toNat_of_nonneg a0, Int.toNat_of_nonneg b0] at this
set_option maxRecDepth 100000 in
set_option maxHeartbeats 16000000 in
theorem tbooked (Sb : Nat → World → Value → (Nat → Prop) → Prop) (Sl : Nat → Nat → World → Value → (Nat → Prop) → Prop) (H : Nat → Nat → Nat) (X T z : Nat → Nat) (A : Nat → Sn) (ob : Nat → Nat → Bool) (c nv nr nn dv dr dn : Nat) (sv sr sn : Option Addr) (Xv Xr Xn : Nat → Int) (sy kp : Int) (w : World) (hcv : c ≤ nv) (hcr : c ≤ nr) (hc6 : c ≤ 6)
(hH1 : ∀ w, Calls Try.prog 5 #[] w fun ex w' => ex = .returned (.bool true) ∧ Below w.heap.size w w')
    (hHCW : c = nv ∨ c = nr ∨ c = 6)
    (hRV : (nv = 0 ∨ ∃ b o : Nat, sv = some ⟨b, o, none⟩ ∧ RowI w b o nv Xv))
    (hRR : (nr = 0 ∨ ∃ b o : Nat, sr = some ⟨b, o, none⟩ ∧ RowI w b o nr Xr))
    (hRN : (nn = 0 ∨ ∃ b o : Nat, sn = some ⟨b, o, none⟩ ∧ RowI w b o nn Xn))
    (hHH : ∀ (a b : Nat) w, a < 1013 → b < 1013 → Calls Try.prog 6 #[.int .i64 (a : Int), .int .i64 (b : Int)] w fun ex w' => ex = .returned (.tuple #[.agg #[.int .i64 ((tM (4 * H a b)).1 : Int), .int .i64 ((tM (4 * H a b)).2.1 : Int), .bool (tM (4 * H a b)).2.2], .nilIface]) ∧ Below w.heap.size w w')
    (hHHe1 : ∀ (i : Nat) w, i < nv → i < nr → (resB (Xv i) && resB (Xr i)) = false → Calls Try.prog 6 #[.int .i64 (Xv i), .int .i64 (Xr i)] w fun ex w' => ex = .returned (.tuple #[.agg #[.int .i64 0, .int .i64 0, .bool false], errOf 1]) ∧ Below w.heap.size w w')
    (hHHe2 : ∀ (i : Nat) w, i < nv → i < nn → (resB (Xv i) && resB (Xn i)) = false → Calls Try.prog 6 #[.int .i64 (Xv i), .int .i64 (Xn i)] w fun ex w' => ex = .returned (.tuple #[.agg #[.int .i64 0, .int .i64 0, .bool false], errOf 1]) ∧ Below w.heap.size w w')
    (hHOK : TBok Sb Sl)
    (hHN : ∀ W u, Goods Xv Xr c → (∃ B, W.ownsRow B 26 3 u c (cellsK (fun i => H (Xv i).toNat (Xr i).toNat) c)) → Calls Try.prog 7 #[u] W fun ex w' => ∃ vb Q, ex = .returned (.tuple #[vb, .nilIface]) ∧ Sb 0 w' vb Q ∧ (∀ i, Q i → W.heap.size ≤ i) ∧ Below W.heap.size W w')
    (hHNL : ∀ W u, Goods Xv Xr c → (∃ B, W.ownsRow B 26 3 u c (cellsK (fun i => H (Xv i).toNat (Xr i).toNat) c)) → Calls Try.prog 8 #[u] W fun ex w' => ∃ vb Q, ex = .returned (.tuple #[vb, .nilIface]) ∧ Sl 0 0 w' vb Q ∧ (∀ i, Q i → W.heap.size ≤ i) ∧ Below W.heap.size W w')
    (hHX : ∀ i W vb Q g1 g2, Goods Xv Xr c → i < c → (∀ j, j ≤ i → resB (Xn j) = true) → Sb i W vb Q → At W g1 [.int .i64 (i : Int)] → At W g2 [.int .i64 ((tM (4 * H (Xv i).toNat (Xn i).toNat)).1 : Int), .int .i64 ((tM (4 * H (Xv i).toNat (Xn i).toNat)).2.1 : Int), .bool (tM (4 * H (Xv i).toNat (Xn i).toNat)).2.2] → Calls Try.prog 9 #[vb, .slice (some ⟨g1, 0, none⟩) 1 1, .slice (some ⟨g2, 0, none⟩) 1 1] W fun ex w' => ex = .returned (.tuple #[.agg #[.int .i64 ((tM (4 * X i)).1 : Int), .int .i64 ((tM (4 * X i)).2.1 : Int), .bool (tM (4 * X i)).2.2], .nilIface]) ∧ Below W.heap.size W w')
    (hHMO : ∀ a w, Calls Try.prog 11 #[.int .i64 a, .int .i64 1013] w fun ex w' => ex = .returned (.int .i64 (a % 1013)) ∧ Below w.heap.size w w')
    (hHCL : ∀ i (p q : Int) w, p = ((((Xn i).toNat + 1012 * (Xr i).toNat) % 1013 : Nat) : Int) → q = (i : Int) + 1 → Goods Xv Xr c → i < c → (∀ j, j ≤ i → resB (Xn j) = true) → Calls Try.prog 10 #[.int .i64 p, .int .i64 q, .agg #[.int .i64 ((tM (4 * X i)).1 : Int), .int .i64 ((tM (4 * X i)).2.1 : Int), .bool (tM (4 * X i)).2.2]] w fun ex w' => ex = .returned (.tuple #[.agg #[.int .i64 ((A i).1 : Int), .int .i64 ((A i).2.1 : Int), .bool (A i).2.2, .int .i64 (z i : Int)], .nilIface]) ∧ Below w.heap.size w w')
    (hHDB : ∀ i W vb Q g1 g2, Goods Xv Xr c → i < c → (∀ j, j ≤ i → resB (Xn j) = true) → Sb i W vb Q → At W g1 [.int .i64 (i : Int)] → At W g2 [.int .i64 ((tM (4 * H (Xv i).toNat (Xn i).toNat)).1 : Int), .int .i64 ((tM (4 * H (Xv i).toNat (Xn i).toNat)).2.1 : Int), .bool (tM (4 * H (Xv i).toNat (Xn i).toNat)).2.2] → ¬ Q g1 → ¬ Q g2 → Calls Try.prog 12 #[vb, .agg #[.slice (some ⟨g1, 0, none⟩) 1 1, .slice (some ⟨g2, 0, none⟩) 1 1, .int .i64 ((A i).1 : Int), .int .i64 ((A i).2.1 : Int), .bool (A i).2.2, .int .i64 (z i : Int)]] W fun ex w' => ex = .returned .nilIface ∧ But Q W w' ∧ ∃ Q', Sb (i + 1) w' vb Q' ∧ ∀ j, Q' j → Q j ∨ W.heap.size ≤ j)
    (hHDL : ∀ i a W vj Q g1 g2, Goods Xv Xr c → i < c → (∀ j, j ≤ i → resB (Xn j) = true) → Sl i a W vj Q → At W g1 [.int .i64 (i : Int)] → At W g2 [.int .i64 ((tM (4 * H (Xv i).toNat (Xn i).toNat)).1 : Int), .int .i64 ((tM (4 * H (Xv i).toNat (Xn i).toNat)).2.1 : Int), .bool (tM (4 * H (Xv i).toNat (Xn i).toNat)).2.2] → ¬ Q g1 → ¬ Q g2 → Calls Try.prog 13 #[vj, .agg #[.slice (some ⟨g1, 0, none⟩) 1 1, .slice (some ⟨g2, 0, none⟩) 1 1, .int .i64 ((A i).1 : Int), .int .i64 ((A i).2.1 : Int), .bool (A i).2.2, .int .i64 (z i : Int)]] W fun ex w' => ex = .returned .nilIface ∧ But Q W w' ∧ ∃ Q', Sl (i + 1) a w' vj Q' ∧ ∀ j, Q' j → Q j ∨ W.heap.size ≤ j)
    (hHSY : ∀ i a W vj Q, i ≤ c → Sl i a W vj Q → Calls Try.prog 14 #[vj] W fun ex w' => ex = .returned .nilIface ∧ But Q W w' ∧ ∃ Q', Sl i i w' vj Q' ∧ ∀ j, Q' j → Q j ∨ W.heap.size ≤ j)
    (hHTB : ∀ i W vb Q, i ≤ c → Sb i W vb Q → Calls Try.prog 16 #[vb] W fun ex w' => ex = .returned (.agg #[.int .i64 ((tM (4 * T i)).1 : Int), .int .i64 ((tM (4 * T i)).2.1 : Int), .bool (tM (4 * T i)).2.2]) ∧ Below W.heap.size W w')
    (hHTL : ∀ i a W vj Q, i ≤ c → Sl i a W vj Q → Calls Try.prog 17 #[vj] W fun ex w' => ex = .returned (.agg #[.int .i64 ((tM (4 * T i)).1 : Int), .int .i64 ((tM (4 * T i)).2.1 : Int), .bool (tM (4 * T i)).2.2]) ∧ Below W.heap.size W w')
    (hHOP : ∀ i j w, i ≤ c → j ≤ c → Calls Try.prog 15 #[.agg #[.int .i64 ((tM (4 * T i)).1 : Int), .int .i64 ((tM (4 * T i)).2.1 : Int), .bool (tM (4 * T i)).2.2], .int .i64 (tbV (fun i => (Xv i).toNat) c : Int), .int .i64 (tbS c (fun i => (Xr i).toNat) (fun i => (Xn i).toNat) j : Int)] w fun ex w' => ex = .returned (.tuple #[.bool (ob i j), .nilIface]) ∧ Below w.heap.size w w')
    (hHOB : ∀ i, i ≤ c → Goods Xv Xr c → (∀ j, j < i → resB (Xn j) = true) → ob i i = true)
    (hHCR : ∀ i a W vj Q, i ≤ c → Sl i a W vj Q → Calls Try.prog 18 #[vj, .int .i64 kp] W fun ex w' => ex = .returned (.tuple #[]) ∧ But Q W w' ∧ ∃ i' a' Q', a ≤ i' ∧ i' ≤ i ∧ Sl i' a' w' vj Q' ∧ ∀ j, Q' j → Q j ∨ W.heap.size ≤ j)
    (hHLV : ∀ i a W vj Q, i ≤ c → Sl i a W vj Q → Calls Try.prog 19 #[vj] W fun ex w' => ∃ q e, ex = .returned (.slice q c e) ∧ Below W.heap.size W w')
    : Calls Try.prog 3 #[.slice sv nv dv, .slice sr nr dr, .slice sn nn dn, .int .i64 sy, .int .i64 kp] w fun e w' => e = .returned (.bool true) ∧ Below w.heap.size w w' := by
  have H1 : Hid (∀ w, Calls Try.prog 5 #[] w fun ex w' => ex = .returned (.bool true) ∧ Below w.heap.size w w') := hH1
  have HCW : Hid (c = nv ∨ c = nr ∨ c = 6) := hHCW
  have RV : Hid ((nv = 0 ∨ ∃ b o : Nat, sv = some ⟨b, o, none⟩ ∧ RowI w b o nv Xv)) := hRV
  have RR : Hid ((nr = 0 ∨ ∃ b o : Nat, sr = some ⟨b, o, none⟩ ∧ RowI w b o nr Xr)) := hRR
  have RN : Hid ((nn = 0 ∨ ∃ b o : Nat, sn = some ⟨b, o, none⟩ ∧ RowI w b o nn Xn)) := hRN
  have HH : Hid (∀ (a b : Nat) w, a < 1013 → b < 1013 → Calls Try.prog 6 #[.int .i64 (a : Int), .int .i64 (b : Int)] w fun ex w' => ex = .returned (.tuple #[.agg #[.int .i64 ((tM (4 * H a b)).1 : Int), .int .i64 ((tM (4 * H a b)).2.1 : Int), .bool (tM (4 * H a b)).2.2], .nilIface]) ∧ Below w.heap.size w w') := hHH
  have HHe1 : Hid (∀ (i : Nat) w, i < nv → i < nr → (resB (Xv i) && resB (Xr i)) = false → Calls Try.prog 6 #[.int .i64 (Xv i), .int .i64 (Xr i)] w fun ex w' => ex = .returned (.tuple #[.agg #[.int .i64 0, .int .i64 0, .bool false], errOf 1]) ∧ Below w.heap.size w w') := hHHe1
  have HHe2 : Hid (∀ (i : Nat) w, i < nv → i < nn → (resB (Xv i) && resB (Xn i)) = false → Calls Try.prog 6 #[.int .i64 (Xv i), .int .i64 (Xn i)] w fun ex w' => ex = .returned (.tuple #[.agg #[.int .i64 0, .int .i64 0, .bool false], errOf 1]) ∧ Below w.heap.size w w') := hHHe2
  have HOK : Hid (TBok Sb Sl) := hHOK
  have HN : Hid (∀ W u, Goods Xv Xr c → (∃ B, W.ownsRow B 26 3 u c (cellsK (fun i => H (Xv i).toNat (Xr i).toNat) c)) → Calls Try.prog 7 #[u] W fun ex w' => ∃ vb Q, ex = .returned (.tuple #[vb, .nilIface]) ∧ Sb 0 w' vb Q ∧ (∀ i, Q i → W.heap.size ≤ i) ∧ Below W.heap.size W w') := hHN
  have HNL : Hid (∀ W u, Goods Xv Xr c → (∃ B, W.ownsRow B 26 3 u c (cellsK (fun i => H (Xv i).toNat (Xr i).toNat) c)) → Calls Try.prog 8 #[u] W fun ex w' => ∃ vb Q, ex = .returned (.tuple #[vb, .nilIface]) ∧ Sl 0 0 w' vb Q ∧ (∀ i, Q i → W.heap.size ≤ i) ∧ Below W.heap.size W w') := hHNL
  have HX : Hid (∀ i W vb Q g1 g2, Goods Xv Xr c → i < c → (∀ j, j ≤ i → resB (Xn j) = true) → Sb i W vb Q → At W g1 [.int .i64 (i : Int)] → At W g2 [.int .i64 ((tM (4 * H (Xv i).toNat (Xn i).toNat)).1 : Int), .int .i64 ((tM (4 * H (Xv i).toNat (Xn i).toNat)).2.1 : Int), .bool (tM (4 * H (Xv i).toNat (Xn i).toNat)).2.2] → Calls Try.prog 9 #[vb, .slice (some ⟨g1, 0, none⟩) 1 1, .slice (some ⟨g2, 0, none⟩) 1 1] W fun ex w' => ex = .returned (.tuple #[.agg #[.int .i64 ((tM (4 * X i)).1 : Int), .int .i64 ((tM (4 * X i)).2.1 : Int), .bool (tM (4 * X i)).2.2], .nilIface]) ∧ Below W.heap.size W w') := hHX
  have HMO : Hid (∀ a w, Calls Try.prog 11 #[.int .i64 a, .int .i64 1013] w fun ex w' => ex = .returned (.int .i64 (a % 1013)) ∧ Below w.heap.size w w') := hHMO
  have HCL : Hid (∀ i (p q : Int) w, p = ((((Xn i).toNat + 1012 * (Xr i).toNat) % 1013 : Nat) : Int) → q = (i : Int) + 1 → Goods Xv Xr c → i < c → (∀ j, j ≤ i → resB (Xn j) = true) → Calls Try.prog 10 #[.int .i64 p, .int .i64 q, .agg #[.int .i64 ((tM (4 * X i)).1 : Int), .int .i64 ((tM (4 * X i)).2.1 : Int), .bool (tM (4 * X i)).2.2]] w fun ex w' => ex = .returned (.tuple #[.agg #[.int .i64 ((A i).1 : Int), .int .i64 ((A i).2.1 : Int), .bool (A i).2.2, .int .i64 (z i : Int)], .nilIface]) ∧ Below w.heap.size w w') := hHCL
  have HDB : Hid (∀ i W vb Q g1 g2, Goods Xv Xr c → i < c → (∀ j, j ≤ i → resB (Xn j) = true) → Sb i W vb Q → At W g1 [.int .i64 (i : Int)] → At W g2 [.int .i64 ((tM (4 * H (Xv i).toNat (Xn i).toNat)).1 : Int), .int .i64 ((tM (4 * H (Xv i).toNat (Xn i).toNat)).2.1 : Int), .bool (tM (4 * H (Xv i).toNat (Xn i).toNat)).2.2] → ¬ Q g1 → ¬ Q g2 → Calls Try.prog 12 #[vb, .agg #[.slice (some ⟨g1, 0, none⟩) 1 1, .slice (some ⟨g2, 0, none⟩) 1 1, .int .i64 ((A i).1 : Int), .int .i64 ((A i).2.1 : Int), .bool (A i).2.2, .int .i64 (z i : Int)]] W fun ex w' => ex = .returned .nilIface ∧ But Q W w' ∧ ∃ Q', Sb (i + 1) w' vb Q' ∧ ∀ j, Q' j → Q j ∨ W.heap.size ≤ j) := hHDB
  have HDL : Hid (∀ i a W vj Q g1 g2, Goods Xv Xr c → i < c → (∀ j, j ≤ i → resB (Xn j) = true) → Sl i a W vj Q → At W g1 [.int .i64 (i : Int)] → At W g2 [.int .i64 ((tM (4 * H (Xv i).toNat (Xn i).toNat)).1 : Int), .int .i64 ((tM (4 * H (Xv i).toNat (Xn i).toNat)).2.1 : Int), .bool (tM (4 * H (Xv i).toNat (Xn i).toNat)).2.2] → ¬ Q g1 → ¬ Q g2 → Calls Try.prog 13 #[vj, .agg #[.slice (some ⟨g1, 0, none⟩) 1 1, .slice (some ⟨g2, 0, none⟩) 1 1, .int .i64 ((A i).1 : Int), .int .i64 ((A i).2.1 : Int), .bool (A i).2.2, .int .i64 (z i : Int)]] W fun ex w' => ex = .returned .nilIface ∧ But Q W w' ∧ ∃ Q', Sl (i + 1) a w' vj Q' ∧ ∀ j, Q' j → Q j ∨ W.heap.size ≤ j) := hHDL
  have HSY : Hid (∀ i a W vj Q, i ≤ c → Sl i a W vj Q → Calls Try.prog 14 #[vj] W fun ex w' => ex = .returned .nilIface ∧ But Q W w' ∧ ∃ Q', Sl i i w' vj Q' ∧ ∀ j, Q' j → Q j ∨ W.heap.size ≤ j) := hHSY
  have HTB : Hid (∀ i W vb Q, i ≤ c → Sb i W vb Q → Calls Try.prog 16 #[vb] W fun ex w' => ex = .returned (.agg #[.int .i64 ((tM (4 * T i)).1 : Int), .int .i64 ((tM (4 * T i)).2.1 : Int), .bool (tM (4 * T i)).2.2]) ∧ Below W.heap.size W w') := hHTB
  have HTL : Hid (∀ i a W vj Q, i ≤ c → Sl i a W vj Q → Calls Try.prog 17 #[vj] W fun ex w' => ex = .returned (.agg #[.int .i64 ((tM (4 * T i)).1 : Int), .int .i64 ((tM (4 * T i)).2.1 : Int), .bool (tM (4 * T i)).2.2]) ∧ Below W.heap.size W w') := hHTL
  have HOP : Hid (∀ i j w, i ≤ c → j ≤ c → Calls Try.prog 15 #[.agg #[.int .i64 ((tM (4 * T i)).1 : Int), .int .i64 ((tM (4 * T i)).2.1 : Int), .bool (tM (4 * T i)).2.2], .int .i64 (tbV (fun i => (Xv i).toNat) c : Int), .int .i64 (tbS c (fun i => (Xr i).toNat) (fun i => (Xn i).toNat) j : Int)] w fun ex w' => ex = .returned (.tuple #[.bool (ob i j), .nilIface]) ∧ Below w.heap.size w w') := hHOP
  have HOB : Hid (∀ i, i ≤ c → Goods Xv Xr c → (∀ j, j < i → resB (Xn j) = true) → ob i i = true) := hHOB
  have HCR : Hid (∀ i a W vj Q, i ≤ c → Sl i a W vj Q → Calls Try.prog 18 #[vj, .int .i64 kp] W fun ex w' => ex = .returned (.tuple #[]) ∧ But Q W w' ∧ ∃ i' a' Q', a ≤ i' ∧ i' ≤ i ∧ Sl i' a' w' vj Q' ∧ ∀ j, Q' j → Q j ∨ W.heap.size ≤ j) := hHCR
  have HLV : Hid (∀ i a W vj Q, i ≤ c → Sl i a W vj Q → Calls Try.prog 19 #[vj] W fun ex w' => ∃ q e, ex = .returned (.slice q c e) ∧ Below W.heap.size W w') := hHLV
  clear hH1 hHCW hRV hRR hRN hHH hHHe1 hHHe2 hHOK hHN hHNL hHX hHMO hHCL hHDB hHDL hHSY hHTB hHTL hHOP hHOB hHCR hHLV
  have m1 : True := trivial
  go_enter Try.func3, Try.ntmps3
  obtain ⟨i0, hi0, hv0, hv1, hv2⟩ := info_parts tkpinfo
  obtain ⟨j0, hj0, hu0, hu1, hu2⟩ := info_parts tkiinfo
  go_wp2_with (go_at_call 5; clear m1; refine (H1.out _).mono ?_; rintro e w1 ⟨rfl, hb1⟩; have hq1 : Below w.heap.size w w1 := (by repeat (first | (with_reducible exact Below.refl _ _) | (with_reducible assumption) | (with_reducible refine Below.setCell ?_ (by first | (simp; done) | (simp; omega) | omega) _) | (with_reducible refine Below.alloc ?_ (by first | (simp; done) | (simp; omega) | omega) _) | (refine bl_call ?_ (by assumption) (by first | (simp; done) | (simp; omega) | omega)) | (with_reducible refine bl_drewN ?_) | (with_reducible refine Below.drew ?_) | (with_reducible refine bl_grow ?_ (by first | (simp; done) | (simp; omega) | omega)))); have hz1 := hq1.size; clear hb1)
  go_loopw [12, 13, 14, 15, 16] (fun tu tv_ tr_ tt ti wl => ∃ i : Nat, i ≤ c ∧ ti = .int .i64 (i : Int) ∧ tv_ = .int .i64 (tbV (fun i => (Xv i).toNat) i : Int) ∧ tr_ = .int .i64 (tbV (fun i => (Xr i).toNat) i : Int) ∧ Goods Xv Xr i ∧ TR 26 3 w.heap.size (fun i => H (Xv i).toNat (Xr i).toNat) Xr wl i tu tt ∧ Below w.heap.size w wl) (fun _ _ _ _ ti _ => 6 - (intOf ti).toNat)
  case atStart => exact ⟨0, by omega, rfl, rfl, rfl, goods_zero _ _, TR.nil _ _ _ _ _ _, hq1⟩
  case round =>
    obtain ⟨i, hi, rfl, rfl, rfl, hgood, hTR, hqU⟩ := hrel
    have HGD : Hid (Goods Xv Xr i) := hgood
    clear hgood hq1
    rename World => U
    have HTR : Hid (TR 26 3 w.heap.size (fun i => H (Xv i).toNat (Xr i).toNat) Xr U i u12 u15) := hTR
    clear hTR
    have hzU := hqU.size
    by_cases hlt : i < c
    · as_aux_lemma =>
      have l1 : (i : Int) < nv := by omega
      have l2 : (i : Int) < nr := by omega
      have l3 : (i : Int) < 6 := by omega
      have i1 : i < nv := by omega
      have i2 : i < nr := by omega
      obtain ⟨bv, ov, rfl, hv⟩ := RV.out.resolve_left (by omega)
      obtain ⟨br, or, rfl, hr⟩ := RR.out.resolve_left (by omega)
      have HRV : Hid (RowI w bv ov nv Xv) := hv
      have HRR : Hid (RowI w br or nr Xr) := hr
      clear hv hr
      cases hg : resB (Xv i) && resB (Xr i) with
      | false =>
        have HE : Hid (∀ w, Calls Try.prog 6 #[.int .i64 (Xv i), .int .i64 (Xr i)] w fun ex w' => ex = .returned (.tuple #[.agg #[.int .i64 0, .int .i64 0, .bool false], errOf 1]) ∧ Below w.heap.size w w') := fun w => HHe1.out i w i1 i2 hg
        clear hg
        go_upto_region 11 with fail
        go_cut [17, 18] from 43 to 97 (fun t1_ t2_ wx_ => ∃ b17 : Nat, t1_ = .pointer (some ⟨b17, 0, none⟩) ∧ t2_ = errOf 1 ∧ At wx_ b17 [.int .i64 0, .int .i64 0, .bool false] ∧ U.heap.size ≤ b17 ∧ Below U.heap.size U wx_)
        case first => as_aux_lemma =>
          have hUU : Below U.heap.size U U := Below.refl _ _
          go_region_held3 (fun W_ => (bv < W_.heap.size ∧ W_.cell? ⟨bv, ov + i, none⟩ = some (.int .i64 (Xv i))) ∧ (br < W_.heap.size ∧ W_.cell? ⟨br, or + i, none⟩ = some (.int .i64 (Xr i)))) (exact ⟨tk_at HRV.out (by repeat (first | (with_reducible exact Below.refl _ _) | (with_reducible assumption) | (with_reducible refine Below.setCell ?_ (by first | (simp; done) | (simp; omega) | omega) _) | (with_reducible refine Below.alloc ?_ (by first | (simp; done) | (simp; omega) | omega) _) | (refine bl_call ?_ (by assumption) (by first | (simp; done) | (simp; omega) | omega)) | (with_reducible refine bl_drewN ?_) | (with_reducible refine Below.drew ?_) | (with_reducible refine bl_grow ?_ (by first | (simp; done) | (simp; omega) | omega)))) i1, tk_at HRR.out (by repeat (first | (with_reducible exact Below.refl _ _) | (with_reducible assumption) | (with_reducible refine Below.setCell ?_ (by first | (simp; done) | (simp; omega) | omega) _) | (with_reducible refine Below.alloc ?_ (by first | (simp; done) | (simp; omega) | omega) _) | (refine bl_call ?_ (by assumption) (by first | (simp; done) | (simp; omega) | omega)) | (with_reducible refine bl_drewN ?_) | (with_reducible refine Below.drew ?_) | (with_reducible refine bl_grow ?_ (by first | (simp; done) | (simp; omega) | omega)))) i2⟩) ((go_at_call 6; refine (HE.out _).mono ?_; rintro e w1 ⟨rfl, hb1⟩; have hs1 := hb1.size; (try simp at hs1); obtain ⟨hc1, hf1⟩ := bcell hb1; have hl1 := tk_lt hb1; have hn1 := tk_ne hb1; have hm1 := tk_ne2 hb1))
          all_goals (go_wp2_with fail)
          all_goals go_meet
          all_goals (case rel => exact ⟨_, rfl, rfl, by repeat (first | (with_reducible assumption) | ((with_reducible refine at_new' _ _ _ _ ?_); (first | rfl | (simp; done))) | (with_reducible refine At.alloc ?_ _) | (with_reducible refine At.drew ?_) | (with_reducible refine At.drewN ?_) | (with_reducible refine At.set ?_ (by omega)) | (with_reducible apply At.store4) | (with_reducible apply At.store3) | (with_reducible apply At.store2) | (with_reducible apply At.put43) | (refine At.below ?_ (by with_reducible assumption))), by omega, by repeat (first | (with_reducible exact Below.refl _ _) | (with_reducible assumption) | (with_reducible refine Below.setCell ?_ (by first | (simp; done) | (simp; omega) | omega) _) | (with_reducible refine Below.alloc ?_ (by first | (simp; done) | (simp; omega) | omega) _) | (refine bl_call ?_ (by assumption) (by first | (simp; done) | (simp; omega) | omega)) | (with_reducible refine bl_drewN ?_) | (with_reducible refine Below.drew ?_) | (with_reducible refine bl_grow ?_ (by first | (simp; done) | (simp; omega) | omega)))⟩)
        case rest =>
        rename World => U1
        obtain ⟨b17, rfl, rfl, kxU1, hg17, hrU1⟩ := hcut
        go_wp2_with fail
        go_ret
        exact ⟨rfl, bl_call hqU hrU1 hzU⟩
      | true =>
        have hg2 := hg
        rw [Bool.and_eq_true] at hg2
        have HGN : Hid (Goods Xv Xr (i + 1)) := goods_succ HGD.out hg2.1 hg2.2
        have HE : Hid (∀ w, Calls Try.prog 6 #[.int .i64 (Xv i), .int .i64 (Xr i)] w fun ex w' => ex = .returned (.tuple #[.agg #[.int .i64 ((tM (4 * H (Xv i).toNat (Xr i).toNat)).1 : Int), .int .i64 ((tM (4 * H (Xv i).toNat (Xr i).toNat)).2.1 : Int), .bool (tM (4 * H (Xv i).toNat (Xr i).toNat)).2.2], .nilIface]) ∧ Below w.heap.size w w') := fun w => khide HH.out hg2.1 hg2.2 w
        obtain ⟨x0, x1⟩ := tres hg2.1
        obtain ⟨x2, x3⟩ := tres hg2.2
        have HV1 : Hid (((tbV (fun i => (Xv i).toNat) i : Int) + Xv i) % 1013 = (tbV (fun i => (Xv i).toNat) (i + 1) : Int)) := tb_step (fun i => (Xv i).toNat) i x0
        have HR1 : Hid (((tbV (fun i => (Xr i).toNat) i : Int) + Xr i) % 1013 = (tbV (fun i => (Xr i).toNat) (i + 1) : Int)) := tb_step (fun i => (Xr i).toNat) i x2
        have bv0 := tbV_lt (fun i => (Xv i).toNat) i
        have br0 := tbV_lt (fun i => (Xr i).toNat) i
        clear hg hg2
        go_upto_region 11 with fail
        go_cut [17, 18] from 43 to 97 (fun t1_ t2_ wx_ => ∃ b17 : Nat, t1_ = .pointer (some ⟨b17, 0, none⟩) ∧ t2_ = .nilIface ∧ At wx_ b17 [.int .i64 ((tM (4 * H (Xv i).toNat (Xr i).toNat)).1 : Int), .int .i64 ((tM (4 * H (Xv i).toNat (Xr i).toNat)).2.1 : Int), .bool (tM (4 * H (Xv i).toNat (Xr i).toNat)).2.2] ∧ U.heap.size ≤ b17 ∧ Below U.heap.size U wx_)
        case first => as_aux_lemma =>
          have hUU : Below U.heap.size U U := Below.refl _ _
          go_region_held3 (fun W_ => (bv < W_.heap.size ∧ W_.cell? ⟨bv, ov + i, none⟩ = some (.int .i64 (Xv i))) ∧ (br < W_.heap.size ∧ W_.cell? ⟨br, or + i, none⟩ = some (.int .i64 (Xr i)))) (exact ⟨tk_at HRV.out (by repeat (first | (with_reducible exact Below.refl _ _) | (with_reducible assumption) | (with_reducible refine Below.setCell ?_ (by first | (simp; done) | (simp; omega) | omega) _) | (with_reducible refine Below.alloc ?_ (by first | (simp; done) | (simp; omega) | omega) _) | (refine bl_call ?_ (by assumption) (by first | (simp; done) | (simp; omega) | omega)) | (with_reducible refine bl_drewN ?_) | (with_reducible refine Below.drew ?_) | (with_reducible refine bl_grow ?_ (by first | (simp; done) | (simp; omega) | omega)))) i1, tk_at HRR.out (by repeat (first | (with_reducible exact Below.refl _ _) | (with_reducible assumption) | (with_reducible refine Below.setCell ?_ (by first | (simp; done) | (simp; omega) | omega) _) | (with_reducible refine Below.alloc ?_ (by first | (simp; done) | (simp; omega) | omega) _) | (refine bl_call ?_ (by assumption) (by first | (simp; done) | (simp; omega) | omega)) | (with_reducible refine bl_drewN ?_) | (with_reducible refine Below.drew ?_) | (with_reducible refine bl_grow ?_ (by first | (simp; done) | (simp; omega) | omega)))) i2⟩) ((go_at_call 6; refine (HE.out _).mono ?_; rintro e w1 ⟨rfl, hb1⟩; have hs1 := hb1.size; (try simp at hs1); obtain ⟨hc1, hf1⟩ := bcell hb1; have hl1 := tk_lt hb1; have hn1 := tk_ne hb1; have hm1 := tk_ne2 hb1))
          all_goals (go_wp2_with fail)
          all_goals go_meet
          all_goals (case rel => exact ⟨_, rfl, rfl, by repeat (first | (with_reducible assumption) | ((with_reducible refine at_new' _ _ _ _ ?_); (first | rfl | (simp; done))) | (with_reducible refine At.alloc ?_ _) | (with_reducible refine At.drew ?_) | (with_reducible refine At.drewN ?_) | (with_reducible refine At.set ?_ (by omega)) | (with_reducible apply At.store4) | (with_reducible apply At.store3) | (with_reducible apply At.store2) | (with_reducible apply At.put43) | (refine At.below ?_ (by with_reducible assumption))), by omega, by repeat (first | (with_reducible exact Below.refl _ _) | (with_reducible assumption) | (with_reducible refine Below.setCell ?_ (by first | (simp; done) | (simp; omega) | omega) _) | (with_reducible refine Below.alloc ?_ (by first | (simp; done) | (simp; omega) | omega) _) | (refine bl_call ?_ (by assumption) (by first | (simp; done) | (simp; omega) | omega)) | (with_reducible refine bl_drewN ?_) | (with_reducible refine Below.drew ?_) | (with_reducible refine bl_grow ?_ (by first | (simp; done) | (simp; omega) | omega)))⟩)
        case rest =>
        rename World => U1
        obtain ⟨b17, rfl, rfl, kxU1, hg17, hrU1⟩ := hcut
        have hzU1 := hrU1.size
        have hqU1 : Below w.heap.size w U1 := bl_call hqU hrU1 hzU
        have hzw1 := hqU1.size
        have hTR1 := HTR.out.below hrU1
        have hown1 := hTR1.uu
        obtain ⟨zxU1, cx0U1, cx1U1, cx2U1, fx0U1, fx1U1, fx2U1⟩ := kxU1.three
        clear hrU1
        go_wp2_with (at_builtin; refine wpList_append_own_at _ rfl _ _ 24 rfl w.heap.size 26 i0 (.agg #[.int .i64 0, .int .i64 0, .bool false]) 3 24 Try.underlying24 hi0 hv0 hv1 hv2 rfl (by decide) _ _ _ rfl (own_stay hown1 (by repeat (first | (with_reducible exact Below.refl _ _) | (with_reducible assumption) | (with_reducible refine Below.setCell ?_ (by first | (simp; done) | (simp; omega) | omega) _) | (with_reducible refine Below.alloc ?_ (by first | (simp; done) | (simp; omega) | omega) _) | (refine bl_call ?_ (by assumption) (by first | (simp; done) | (simp; omega) | omega)) | (with_reducible refine bl_drewN ?_) | (with_reducible refine Below.drew ?_) | (with_reducible refine bl_grow ?_ (by first | (simp; done) | (simp; omega) | omega))))) ⟨_, 0, none⟩ 1 1 [.int .i64 ((tM (4 * H (Xv i).toNat (Xr i).toNat)).1 : Int), .int .i64 ((tM (4 * H (Xv i).toNat (Xr i).toNat)).2.1 : Int), .bool (tM (4 * H (Xv i).toNat (Xr i).toNat)).2.2] rfl rfl ?c1 ?c2 ?c3 ?c4 ?c5 ?_)
        case c1 => exact tkthree_new (by simp) _ _ _ _
        case c2 => intro u hu; simp at hu; rcases hu with rfl | rfl | rfl <;> rfl
        case c3 => unfold maxLen; omega
        case c4 => omega
        case c5 => simp; omega
        intro u2 U2 hown2 hgrow2 _ hat2
        have hk1 : Below U1.heap.size U1 (U1.alloc (.cells #[.int .i64 ((tM (4 * H (Xv i).toNat (Xr i).toNat)).1 : Int), .int .i64 ((tM (4 * H (Xv i).toNat (Xr i).toNat)).2.1 : Int), .bool (tM (4 * H (Xv i).toNat (Xr i).toNat)).2.2] 26)) := (Below.refl _ _).alloc (Nat.le_refl _) _
        have hq2 : Below w.heap.size w U2 := grown_under (B := w.heap.size) (hqU1.alloc hzw1 _) (own_stay hown1 hk1) hgrow2 (by simp; omega) (Nat.le_refl _)
        have hz2 := hq2.size
        rw [← cellsK_succ (fun i => H (Xv i).toNat (Xr i).toNat)] at hown2
        have ht2 : U2.ownsRow w.heap.size 3 1 u15 i (cellsI Xr i) := own_other (own_stay hTR1.tt hk1) hgrow2 hTR1.ap.symm
        have hap2 : Ap2 u15 u2 := ap_grown hTR1.tt hTR1.ap.symm hk1 (by simpa using hat2)
        have cr2 := (HRR.out.below HRR.out.1 hq2).2 i i2
        have hbr2 := Nat.lt_of_lt_of_le HRR.out.1 hz2
        have HOu : Hid (U2.ownsRow w.heap.size 26 3 u2 (i + 1) (cellsK (fun i => H (Xv i).toNat (Xr i).toNat) (i + 1))) := hown2
        have HAp : Hid (Ap2 u15 u2) := hap2
        clear hgrow2 hat2 hown1 hTR1 hk1 hqU1 kxU1 cx0U1 cx1U1 cx2U1 fx0U1 fx1U1 fx2U1 hown2 hap2 hqU HTR

        go_wp2_with (at_builtin; refine wpList_append_own_at _ rfl _ _ 22 rfl w.heap.size 3 j0 (.int .i64 0) 1 8 Try.underlying22 hj0 hu0 hu1 hu2 rfl (by decide) _ _ _ rfl (own_stay ht2 (by repeat (first | (with_reducible exact Below.refl _ _) | (with_reducible assumption) | (with_reducible refine Below.setCell ?_ (by first | (simp; done) | (simp; omega) | omega) _) | (with_reducible refine Below.alloc ?_ (by first | (simp; done) | (simp; omega) | omega) _) | (refine bl_call ?_ (by assumption) (by first | (simp; done) | (simp; omega) | omega)) | (with_reducible refine bl_drewN ?_) | (with_reducible refine Below.drew ?_) | (with_reducible refine bl_grow ?_ (by first | (simp; done) | (simp; omega) | omega))))) ⟨_, 0, none⟩ 1 1 [.int .i64 (Xr i)] rfl rfl ?c1 ?c2 ?c3 ?c4 ?c5 ?_)
        case c1 => exact tkone_at (by simp) _ _
        case c2 => intro u hu; simp at hu; subst hu; rfl
        case c3 => unfold maxLen; omega
        case c4 => omega
        case c5 => simp; omega
        intro t3 U3 hown3 hgrow3 _ hat3
        have hk2 : Below U2.heap.size U2 (U2.alloc (.cells #[.int .i64 (Xr i)] 3)) := (Below.refl _ _).alloc (Nat.le_refl _) _
        have hq3 : Below w.heap.size w U3 := grown_under (B := w.heap.size) (hq2.alloc hz2 _) (own_stay ht2 hk2) hgrow3 (by simp; omega) (Nat.le_refl _)
        have hz3 := hq3.size
        rw [← cellsI_succ Xr] at hown3
        have HT3 : Hid (TR 26 3 w.heap.size (fun i => H (Xv i).toNat (Xr i).toNat) Xr U3 (i + 1) u2 t3) := ⟨own_other (own_stay HOu.out hk2) hgrow3 HAp.out.symm, hown3, ap_grown HOu.out HAp.out.symm hk2 (by simpa using hat3)⟩
        have cr3 := (HRR.out.below HRR.out.1 hq3).2 i i2
        have hbr3 := Nat.lt_of_lt_of_le HRR.out.1 hz3
        have cv3 := (HRV.out.below HRV.out.1 hq3).2 i i1
        have hbv3 := Nat.lt_of_lt_of_le HRV.out.1 hz3
        clear hgrow3 hat3 ht2 hk2 cr2 hbr2 hq2 hown3
        have y1 := HV1.out
        have y2 := HR1.out

        go_wp2_with fail
        go_roundw
        case rel => exact ⟨i + 1, by omega, by simp, by rw [HV1.out], by rw [HR1.out], HGN.out, HT3.out, hq3⟩
        case measure => simp [intOf]; omega
    · obtain rfl : c = i := by omega
      go_upto_region 9 with fail
      go_cut [56] from 43 to 56 (fun tb_ wx_ => tb_ = .bool false ∧ wx_ = U)
      case first =>
        by_cases l1 : (c : Int) < nv
        · by_cases l2 : (c : Int) < nr
          · have l3 : ¬ (c : Int) < 6 := by have := HCW.out; omega
            go_wp2_with fail
            go_meet
            case rel => exact ⟨rfl, rfl⟩
          · go_wp2_with fail
            go_meet
            case rel => exact ⟨rfl, rfl⟩
        · go_wp2_with fail
          go_meet
          case rel => exact ⟨rfl, rfl⟩
      case rest =>
      obtain ⟨rfl, rfl⟩ := hcut
      obtain ⟨su, du, rfl, _⟩ := own_slice HTR.out.uu
      obtain ⟨st, dt, rfl, _⟩ := own_slice HTR.out.tt
      have htt := HTR.out.tt
      have m1 : True := trivial; have m2 : True := trivial; have m3 : True := trivial
      go_upto_region 24 with (first | (go_at_call 7; clear m2; refine (HN.out _ _ HGD.out ⟨_, HTR.out.uu⟩).mono ?_; rintro e w2 ⟨vb, Qb, rfl, hsb, hQb, hb2⟩; have hu2 := own_stay HTR.out.uu hb2; have hz2 := hb2.size) | (go_at_call 8; clear m3; refine (HNL.out _ _ HGD.out ⟨_, hu2⟩).mono ?_; rintro e w3 ⟨vj, Qj, rfl, hsl, hQj, hb3⟩; have hz3 := hb3.size; clear hu2))
      have hTS := TB.start (S := (fun i => (tbS c (fun i => (Xr i).toNat) (fun i => (Xn i).toNat) i : Int))) HOK.out hzU htt hsb hQb hb2 hsl hQj hb3
      have hqS : Below w.heap.size w (w3.alloc (.cells #[.int .i64 (tbV (fun i => (Xr i).toNat) c : Int)] 3)) := ((bl_call (bl_call hqU hb2 hzU) hb3 (by omega)).alloc (by omega) _)
      obtain ⟨ss0, hs0⟩ : ∃ x, x = w3.heap.size := ⟨_, rfl⟩
      rw [← hs0] at hTS
      rw [← hs0]
      refine wp_gen (fun Y => TL2 Sb Sl 3 w.heap.size c Xr (fun i => (tbS c (fun i => (Xr i).toNat) (fun i => (Xn i).toNat) i : Int)) vb vj (.slice st c dt) Y 0 0 (.slice (some ⟨ss0, 0, none⟩) 1 1) ∧ Below w.heap.size w Y) ⟨⟨Nat.le_refl _, _, _, hTS⟩, hqS⟩ ?_
      rintro Y ⟨hTY, hqY⟩
      have HTY : Hid (TL2 Sb Sl 3 w.heap.size c Xr (fun i => (tbS c (fun i => (Xr i).toNat) (fun i => (Xn i).toNat) i : Int)) vb vj (.slice st c dt) Y 0 0 (.slice (some ⟨ss0, 0, none⟩) 1 1)) := hTY
      have HGC : Hid (Goods Xv Xr c) := HGD.out
      clear hTS hqS hTY hb2 hb3 hsb hsl hQb hQj hqU htt HTR HGD hs0 hz2 hz3 hzU hlt hi

      obtain ⟨c2, hn2, hcc, hcw⟩ : ∃ x, x ≤ nn ∧ x ≤ c ∧ (x = nn ∨ x = c) := ⟨min nn c, by omega, by omega, by omega⟩
      have HCW2 : Hid (c2 = nn ∨ c2 = c) := hcw
      clear hcw
      go_wp2_with fail
      go_loopw [23, 24, 25] (fun ts_ ta_ ti wl => ∃ i a : Nat, i ≤ c2 ∧ ti = .int .i64 (i : Int) ∧ ta_ = .int .i64 (a : Int) ∧ (∀ j, j < i → resB (Xn j) = true) ∧ TL2 Sb Sl 3 w.heap.size c Xr (fun i => (tbS c (fun i => (Xr i).toNat) (fun i => (Xn i).toNat) i : Int)) vb vj (.slice st c dt) wl i a ts_ ∧ Below w.heap.size w wl) (fun _ _ ti _ => 6 - (intOf ti).toNat)
      case atStart => exact ⟨0, 0, by omega, rfl, rfl, (fun j hj => absurd hj (Nat.not_lt_zero _)), HTY.out, hqY⟩
      case round =>
        clear HTY hqY
        obtain ⟨i, a, hi, rfl, rfl, hng, hT, hqU⟩ := hrel
        rename World => U
        have HNG : Hid ((∀ j, j < i → resB (Xn j) = true)) := hng
        have HT : Hid (TL2 Sb Sl 3 w.heap.size c Xr (fun i => (tbS c (fun i => (Xr i).toNat) (fun i => (Xn i).toNat) i : Int)) vb vj (.slice st c dt) U i a u23) := hT
        clear hng hT
        have hzU := hqU.size
        by_cases hlt : i < c2
        · have l1 : (i : Int) < nn := by omega
          have l2 : (i : Int) < c := by omega
          have l3 : (i : Int) < nv := by omega
          have i1 : i < nv := by omega
          have i2 : i < nn := by omega
          have i3 : i < c := by omega
          obtain ⟨bv, ov, rfl, hv⟩ := RV.out.resolve_left (by omega)
          obtain ⟨bn, on, rfl, hn⟩ := RN.out.resolve_left (by omega)
          have HRV : Hid (RowI w bv ov nv Xv) := hv
          have HRN : Hid (RowI w bn on nn Xn) := hn
          clear hv hn
          cases hg : resB (Xv i) && resB (Xn i) with
          | false =>
            have HE : Hid (∀ w, Calls Try.prog 6 #[.int .i64 (Xv i), .int .i64 (Xn i)] w fun ex w' => ex = .returned (.tuple #[.agg #[.int .i64 0, .int .i64 0, .bool false], errOf 1]) ∧ Below w.heap.size w w') := fun w => HHe2.out i w i1 i2 hg
            clear hg
            go_upto_region 27 with fail
            go_cut [26, 27] from 116 to 217 (fun t1_ t2_ wx_ => ∃ b26 : Nat, t1_ = .pointer (some ⟨b26, 0, none⟩) ∧ t2_ = errOf 1 ∧ At wx_ b26 [.int .i64 0, .int .i64 0, .bool false] ∧ U.heap.size ≤ b26 ∧ Below U.heap.size U wx_)
            case first => as_aux_lemma =>
              have hUU : Below U.heap.size U U := Below.refl _ _
              go_region_held3 (fun W_ => (bv < W_.heap.size ∧ W_.cell? ⟨bv, ov + i, none⟩ = some (.int .i64 (Xv i))) ∧ (bn < W_.heap.size ∧ W_.cell? ⟨bn, on + i, none⟩ = some (.int .i64 (Xn i)))) (exact ⟨tk_at HRV.out (by repeat (first | (with_reducible exact Below.refl _ _) | (with_reducible assumption) | (with_reducible refine Below.setCell ?_ (by first | (simp; done) | (simp; omega) | omega) _) | (with_reducible refine Below.alloc ?_ (by first | (simp; done) | (simp; omega) | omega) _) | (refine bl_call ?_ (by assumption) (by first | (simp; done) | (simp; omega) | omega)) | (with_reducible refine bl_drewN ?_) | (with_reducible refine Below.drew ?_) | (with_reducible refine bl_grow ?_ (by first | (simp; done) | (simp; omega) | omega)))) i1, tk_at HRN.out (by repeat (first | (with_reducible exact Below.refl _ _) | (with_reducible assumption) | (with_reducible refine Below.setCell ?_ (by first | (simp; done) | (simp; omega) | omega) _) | (with_reducible refine Below.alloc ?_ (by first | (simp; done) | (simp; omega) | omega) _) | (refine bl_call ?_ (by assumption) (by first | (simp; done) | (simp; omega) | omega)) | (with_reducible refine bl_drewN ?_) | (with_reducible refine Below.drew ?_) | (with_reducible refine bl_grow ?_ (by first | (simp; done) | (simp; omega) | omega)))) i2⟩) ((go_at_call 6; refine (HE.out _).mono ?_; rintro e w1 ⟨rfl, hb1⟩; have hs1 := hb1.size; (try simp at hs1); obtain ⟨hc1, hf1⟩ := bcell hb1; have hl1 := tk_lt hb1; have hn1 := tk_ne hb1; have hm1 := tk_ne2 hb1))
              all_goals (go_wp2_with fail)
              all_goals go_meet
              all_goals (case rel => exact ⟨_, rfl, rfl, by repeat (first | (with_reducible assumption) | ((with_reducible refine at_new' _ _ _ _ ?_); (first | rfl | (simp; done))) | (with_reducible refine At.alloc ?_ _) | (with_reducible refine At.drew ?_) | (with_reducible refine At.drewN ?_) | (with_reducible refine At.set ?_ (by omega)) | (with_reducible apply At.store4) | (with_reducible apply At.store3) | (with_reducible apply At.store2) | (with_reducible apply At.put43) | (refine At.below ?_ (by with_reducible assumption))), by omega, by repeat (first | (with_reducible exact Below.refl _ _) | (with_reducible assumption) | (with_reducible refine Below.setCell ?_ (by first | (simp; done) | (simp; omega) | omega) _) | (with_reducible refine Below.alloc ?_ (by first | (simp; done) | (simp; omega) | omega) _) | (refine bl_call ?_ (by assumption) (by first | (simp; done) | (simp; omega) | omega)) | (with_reducible refine bl_drewN ?_) | (with_reducible refine Below.drew ?_) | (with_reducible refine bl_grow ?_ (by first | (simp; done) | (simp; omega) | omega)))⟩)
            case rest =>
            rename World => U1
            obtain ⟨b26, rfl, rfl, kxU1, hg26, hrU1⟩ := hcut
            go_wp2_with fail
            go_ret
            exact ⟨rfl, bl_call hqU hrU1 hzU⟩
          | true =>
            have hg2 := hg
            rw [Bool.and_eq_true] at hg2
            have HE : Hid (∀ w, Calls Try.prog 6 #[.int .i64 (Xv i), .int .i64 (Xn i)] w fun ex w' => ex = .returned (.tuple #[.agg #[.int .i64 ((tM (4 * H (Xv i).toNat (Xn i).toNat)).1 : Int), .int .i64 ((tM (4 * H (Xv i).toNat (Xn i).toNat)).2.1 : Int), .bool (tM (4 * H (Xv i).toNat (Xn i).toNat)).2.2], .nilIface]) ∧ Below w.heap.size w w') := fun w => khide HH.out hg2.1 hg2.2 w
            have HNI : Hid (∀ j, j ≤ i → resB (Xn j) = true) := fun j hj => (Nat.lt_or_eq_of_le hj).elim (fun h => HNG.out j h) (fun h => by subst h; exact hg2.2)
            obtain ⟨x0, x1⟩ := tres hg2.2
            obtain ⟨x2, x3⟩ := tres (HGC.out i i3).2
            clear hg hg2
            go_upto_region 27 with fail
            go_cut [26, 27] from 116 to 217 (fun t1_ t2_ wx_ => ∃ b26 : Nat, t1_ = .pointer (some ⟨b26, 0, none⟩) ∧ t2_ = .nilIface ∧ At wx_ b26 [.int .i64 ((tM (4 * H (Xv i).toNat (Xn i).toNat)).1 : Int), .int .i64 ((tM (4 * H (Xv i).toNat (Xn i).toNat)).2.1 : Int), .bool (tM (4 * H (Xv i).toNat (Xn i).toNat)).2.2] ∧ U.heap.size ≤ b26 ∧ Below U.heap.size U wx_)
            case first => as_aux_lemma =>
              have hUU : Below U.heap.size U U := Below.refl _ _
              go_region_held3 (fun W_ => (bv < W_.heap.size ∧ W_.cell? ⟨bv, ov + i, none⟩ = some (.int .i64 (Xv i))) ∧ (bn < W_.heap.size ∧ W_.cell? ⟨bn, on + i, none⟩ = some (.int .i64 (Xn i)))) (exact ⟨tk_at HRV.out (by repeat (first | (with_reducible exact Below.refl _ _) | (with_reducible assumption) | (with_reducible refine Below.setCell ?_ (by first | (simp; done) | (simp; omega) | omega) _) | (with_reducible refine Below.alloc ?_ (by first | (simp; done) | (simp; omega) | omega) _) | (refine bl_call ?_ (by assumption) (by first | (simp; done) | (simp; omega) | omega)) | (with_reducible refine bl_drewN ?_) | (with_reducible refine Below.drew ?_) | (with_reducible refine bl_grow ?_ (by first | (simp; done) | (simp; omega) | omega)))) i1, tk_at HRN.out (by repeat (first | (with_reducible exact Below.refl _ _) | (with_reducible assumption) | (with_reducible refine Below.setCell ?_ (by first | (simp; done) | (simp; omega) | omega) _) | (with_reducible refine Below.alloc ?_ (by first | (simp; done) | (simp; omega) | omega) _) | (refine bl_call ?_ (by assumption) (by first | (simp; done) | (simp; omega) | omega)) | (with_reducible refine bl_drewN ?_) | (with_reducible refine Below.drew ?_) | (with_reducible refine bl_grow ?_ (by first | (simp; done) | (simp; omega) | omega)))) i2⟩) ((go_at_call 6; refine (HE.out _).mono ?_; rintro e w1 ⟨rfl, hb1⟩; have hs1 := hb1.size; (try simp at hs1); obtain ⟨hc1, hf1⟩ := bcell hb1; have hl1 := tk_lt hb1; have hn1 := tk_ne hb1; have hm1 := tk_ne2 hb1))
              all_goals (go_wp2_with fail)
              all_goals go_meet
              all_goals (case rel => exact ⟨_, rfl, rfl, by repeat (first | (with_reducible assumption) | ((with_reducible refine at_new' _ _ _ _ ?_); (first | rfl | (simp; done))) | (with_reducible refine At.alloc ?_ _) | (with_reducible refine At.drew ?_) | (with_reducible refine At.drewN ?_) | (with_reducible refine At.set ?_ (by omega)) | (with_reducible apply At.store4) | (with_reducible apply At.store3) | (with_reducible apply At.store2) | (with_reducible apply At.put43) | (refine At.below ?_ (by with_reducible assumption))), by omega, by repeat (first | (with_reducible exact Below.refl _ _) | (with_reducible assumption) | (with_reducible refine Below.setCell ?_ (by first | (simp; done) | (simp; omega) | omega) _) | (with_reducible refine Below.alloc ?_ (by first | (simp; done) | (simp; omega) | omega) _) | (refine bl_call ?_ (by assumption) (by first | (simp; done) | (simp; omega) | omega)) | (with_reducible refine bl_drewN ?_) | (with_reducible refine Below.drew ?_) | (with_reducible refine bl_grow ?_ (by first | (simp; done) | (simp; omega) | omega)))⟩)
            case rest =>
            rename World => U1
            obtain ⟨b26, rfl, rfl, kxU1, hg26, hrU1⟩ := hcut
            obtain ⟨haI, Qb, Qj, hTB⟩ := HT.out
            have hTB1 := hTB.below HOK.out hrU1
            have hzU1 := hrU1.size
            have hqU1 : Below w.heap.size w U1 := bl_call hqU hrU1 hzU
            have hzw1 := hqU1.size
            have HSB : Hid (∀ W, Below U1.heap.size U1 W → Sb i W vb Qb) := fun W hW => HOK.out.bst hTB1.bb (But.of_below (fun _ => False) hW) (fun _ _ e => e)
            have HTB1 : Hid (TB Sb Sl 3 w.heap.size c Xr (fun i => (tbS c (fun i => (Xr i).toNat) (fun i => (Xn i).toNat) i : Int)) U1 i i a (i + 1) vb vj (.slice st c dt) u23 Qb Qj) := hTB1
            obtain ⟨zxU1, cx0U1, cx1U1, cx2U1, fx0U1, fx1U1, fx2U1⟩ := kxU1.three
            clear hTB hTB1 hrU1 HT hqU hg26
            go_upto_region 31 with (go_at_call 9; refine (HX.out i _ vb Qb U1.heap.size (U1.heap.size + 1) HGC.out i3 HNI.out (HSB.out _ (show Below U1.heap.size U1 _ from by repeat (first | (with_reducible exact Below.refl _ _) | (with_reducible assumption) | (with_reducible refine Below.setCell ?_ (by first | (simp; done) | (simp; omega) | omega) _) | (with_reducible refine Below.alloc ?_ (by first | (simp; done) | (simp; omega) | omega) _) | (refine bl_call ?_ (by assumption) (by first | (simp; done) | (simp; omega) | omega)) | (with_reducible refine bl_drewN ?_) | (with_reducible refine Below.drew ?_) | (with_reducible refine bl_grow ?_ (by first | (simp; done) | (simp; omega) | omega))))) (by repeat (first | (with_reducible assumption) | ((with_reducible refine at_new' _ _ _ _ ?_); (first | rfl | (simp; done))) | (with_reducible refine At.alloc ?_ _) | (with_reducible refine At.drew ?_) | (with_reducible refine At.drewN ?_) | (with_reducible refine At.set ?_ (by omega)) | (with_reducible apply At.store4) | (with_reducible apply At.store3) | (with_reducible apply At.store2) | (with_reducible apply At.put43) | (refine At.below ?_ (by with_reducible assumption)))) (by repeat (first | (with_reducible assumption) | ((with_reducible refine at_new' _ _ _ _ ?_); (first | rfl | (simp; done))) | (with_reducible refine At.alloc ?_ _) | (with_reducible refine At.drew ?_) | (with_reducible refine At.drewN ?_) | (with_reducible refine At.set ?_ (by omega)) | (with_reducible apply At.store4) | (with_reducible apply At.store3) | (with_reducible apply At.store2) | (with_reducible apply At.put43) | (refine At.below ?_ (by with_reducible assumption))))).mono ?_; rintro e y1 ⟨rfl, hb1⟩; have kxy1 : At y1 b26 [.int .i64 ((tM (4 * H (Xv i).toNat (Xn i).toNat)).1 : Int), .int .i64 ((tM (4 * H (Xv i).toNat (Xn i).toNat)).2.1 : Int), .bool (tM (4 * H (Xv i).toNat (Xn i).toNat)).2.2] := (by repeat (first | (with_reducible assumption) | ((with_reducible refine at_new' _ _ _ _ ?_); (first | rfl | (simp; done))) | (with_reducible refine At.alloc ?_ _) | (with_reducible refine At.drew ?_) | (with_reducible refine At.drewN ?_) | (with_reducible refine At.set ?_ (by omega)) | (with_reducible apply At.store4) | (with_reducible apply At.store3) | (with_reducible apply At.store2) | (with_reducible apply At.put43) | (refine At.below ?_ (by with_reducible assumption)))); have hry1 : Below U1.heap.size U1 y1 := (by repeat (first | (with_reducible exact Below.refl _ _) | (with_reducible assumption) | (with_reducible refine Below.setCell ?_ (by first | (simp; done) | (simp; omega) | omega) _) | (with_reducible refine Below.alloc ?_ (by first | (simp; done) | (simp; omega) | omega) _) | (refine bl_call ?_ (by assumption) (by first | (simp; done) | (simp; omega) | omega)) | (with_reducible refine bl_drewN ?_) | (with_reducible refine Below.drew ?_) | (with_reducible refine bl_grow ?_ (by first | (simp; done) | (simp; omega) | omega)))); have hzy1 := hry1.size; obtain ⟨zxy1, cx0y1, cx1y1, cx2y1, fx0y1, fx1y1, fx2y1⟩ := kxy1.three; clear hb1)
            refine wp_gen (fun Y => At Y b26 [.int .i64 ((tM (4 * H (Xv i).toNat (Xn i).toNat)).1 : Int), .int .i64 ((tM (4 * H (Xv i).toNat (Xn i).toNat)).2.1 : Int), .bool (tM (4 * H (Xv i).toNat (Xn i).toNat)).2.2] ∧ At Y y1.heap.size [.int .i64 ((tM (4 * X i)).1 : Int), .int .i64 ((tM (4 * X i)).2.1 : Int), .bool (tM (4 * X i)).2.2] ∧ Below U1.heap.size U1 Y) ⟨by repeat (first | (with_reducible assumption) | ((with_reducible refine at_new' _ _ _ _ ?_); (first | rfl | (simp; done))) | (with_reducible refine At.alloc ?_ _) | (with_reducible refine At.drew ?_) | (with_reducible refine At.drewN ?_) | (with_reducible refine At.set ?_ (by omega)) | (with_reducible apply At.store4) | (with_reducible apply At.store3) | (with_reducible apply At.store2) | (with_reducible apply At.put43) | (refine At.below ?_ (by with_reducible assumption))), by repeat (first | (with_reducible assumption) | ((with_reducible refine at_new' _ _ _ _ ?_); (first | rfl | (simp; done))) | (with_reducible refine At.alloc ?_ _) | (with_reducible refine At.drew ?_) | (with_reducible refine At.drewN ?_) | (with_reducible refine At.set ?_ (by omega)) | (with_reducible apply At.store4) | (with_reducible apply At.store3) | (with_reducible apply At.store2) | (with_reducible apply At.put43) | (refine At.below ?_ (by with_reducible assumption))), by repeat (first | (with_reducible exact Below.refl _ _) | (with_reducible assumption) | (with_reducible refine Below.setCell ?_ (by first | (simp; done) | (simp; omega) | omega) _) | (with_reducible refine Below.alloc ?_ (by first | (simp; done) | (simp; omega) | omega) _) | (refine bl_call ?_ (by assumption) (by first | (simp; done) | (simp; omega) | omega)) | (with_reducible refine bl_drewN ?_) | (with_reducible refine Below.drew ?_) | (with_reducible refine bl_grow ?_ (by first | (simp; done) | (simp; omega) | omega)))⟩ ?_
            rintro Y ⟨kcY, kxY, hrY⟩
            have hzY := hrY.size
            have hqY : Below w.heap.size w Y := bl_call hqU1 hrY hzw1
            have hzwY := hqY.size
            have HTB2 : Hid (TB Sb Sl 3 w.heap.size c Xr (fun i => (tbS c (fun i => (Xr i).toNat) (fun i => (Xn i).toNat) i : Int)) Y i i a (i + 1) vb vj (.slice st c dt) u23 Qb Qj) := HTB1.out.below HOK.out hrY
            obtain ⟨zcY, zxY⟩ := (⟨kcY.1, kxY.1⟩ : b26 < Y.heap.size ∧ y1.heap.size < Y.heap.size)
            clear kxy1 cx0y1 cx1y1 cx2y1 fx0y1 fx1y1 fx2y1 hry1 kxU1 cx0U1 cx1U1 cx2U1 fx0U1 fx1U1 fx2U1 HSB HTB1 hrY hqU1
            obtain ⟨gr, e9, hrs⟩ : ∃ gr, st = some ⟨gr, 0, none⟩ ∧ RowI Y gr 0 c Xr := trow HTB2.out.tt (by omega)
            subst e9
            have HRS : Hid (RowI Y gr 0 c Xr) := hrs
            clear hrs

            go_cut [30, 31] from 116 to 217 (fun t1_ t2_ wx_ => ∃ b30 : Nat, t1_ = .pointer (some ⟨b30, 0, none⟩) ∧ t2_ = .nilIface ∧ At wx_ b26 [.int .i64 ((tM (4 * H (Xv i).toNat (Xn i).toNat)).1 : Int), .int .i64 ((tM (4 * H (Xv i).toNat (Xn i).toNat)).2.1 : Int), .bool (tM (4 * H (Xv i).toNat (Xn i).toNat)).2.2] ∧ At wx_ b30 [.int .i64 ((A i).1 : Int), .int .i64 ((A i).2.1 : Int), .bool (A i).2.2, .int .i64 (z i : Int)] ∧ Y.heap.size ≤ b30 ∧ Below Y.heap.size Y wx_)
            case first => as_aux_lemma =>
              clear H1 HCW RR HH HHe1 HHe2 HN HNL HX HDB HDL HSY HTB HTL HOP HOB HCR HLV HE
              have hYY : Below Y.heap.size Y Y := Below.refl _ _
              go_region_held3 (fun W_ => (bn < W_.heap.size ∧ W_.cell? ⟨bn, on + i, none⟩ = some (.int .i64 (Xn i))) ∧ (gr < W_.heap.size ∧ W_.cell? ⟨gr, i, none⟩ = some (.int .i64 (Xr i))) ∧ ((y1.heap.size) < W_.heap.size ∧ W_.cell? ⟨y1.heap.size, 0, none⟩ = some (.int .i64 ((tM (4 * X i)).1 : Int)) ∧ W_.cell? ⟨y1.heap.size, 1, none⟩ = some (.int .i64 ((tM (4 * X i)).2.1 : Int)) ∧ W_.cell? ⟨y1.heap.size, 2, none⟩ = some (.bool (tM (4 * X i)).2.2) ∧ W_.frozen? ⟨y1.heap.size, 0, none⟩ = false ∧ W_.frozen? ⟨y1.heap.size, 1, none⟩ = false ∧ W_.frozen? ⟨y1.heap.size, 2, none⟩ = false)) (exact ⟨tk_at HRN.out (bl_call hqY (show Below Y.heap.size Y _ from by repeat (first | (with_reducible exact Below.refl _ _) | (with_reducible assumption) | (with_reducible refine Below.setCell ?_ (by first | (simp; done) | (simp; omega) | omega) _) | (with_reducible refine Below.alloc ?_ (by first | (simp; done) | (simp; omega) | omega) _) | (refine bl_call ?_ (by assumption) (by first | (simp; done) | (simp; omega) | omega)) | (with_reducible refine bl_drewN ?_) | (with_reducible refine Below.drew ?_) | (with_reducible refine bl_grow ?_ (by first | (simp; done) | (simp; omega) | omega)))) hzwY) i2, tk_own HRS.out (by repeat (first | (with_reducible exact Below.refl _ _) | (with_reducible assumption) | (with_reducible refine Below.setCell ?_ (by first | (simp; done) | (simp; omega) | omega) _) | (with_reducible refine Below.alloc ?_ (by first | (simp; done) | (simp; omega) | omega) _) | (refine bl_call ?_ (by assumption) (by first | (simp; done) | (simp; omega) | omega)) | (with_reducible refine bl_drewN ?_) | (with_reducible refine Below.drew ?_) | (with_reducible refine bl_grow ?_ (by first | (simp; done) | (simp; omega) | omega)))) i3, At.three (by repeat (first | (with_reducible assumption) | ((with_reducible refine at_new' _ _ _ _ ?_); (first | rfl | (simp; done))) | (with_reducible refine At.alloc ?_ _) | (with_reducible refine At.drew ?_) | (with_reducible refine At.drewN ?_) | (with_reducible refine At.set ?_ (by omega)) | (with_reducible apply At.store4) | (with_reducible apply At.store3) | (with_reducible apply At.store2) | (with_reducible apply At.put43) | (refine At.below ?_ (by with_reducible assumption))))⟩) (first | (go_at_call 11; refine (HMO.out _ _).mono ?_; rintro e w5 ⟨rfl, hb5⟩; have hs5 := hb5.size; (try simp at hs5); obtain ⟨hc5, hf5⟩ := bcell hb5; have hl5 := tk_lt hb5; have hn5 := tk_ne hb5; have hm5 := tk_ne2 hb5) | (go_at_call 10; refine (HCL.out i _ _ _ (by first | exact tpn x0 x1 x2 x3 | exact tpn2 x0 x1 x2 x3) (by first | rfl | exact tpw i) HGC.out i3 HNI.out).mono ?_; rintro e w6 ⟨rfl, hb6⟩; have hs6 := hb6.size; (try simp at hs6); obtain ⟨hc6, hf6⟩ := bcell hb6; have hl6 := tk_lt hb6; have hn6 := tk_ne hb6; have hm6 := tk_ne2 hb6))
  
              all_goals (go_wp2_with fail)
              all_goals go_meet
              all_goals (case rel => exact ⟨_, rfl, rfl, by repeat (first | (with_reducible assumption) | ((with_reducible refine at_new' _ _ _ _ ?_); (first | rfl | (simp; done))) | (with_reducible refine At.alloc ?_ _) | (with_reducible refine At.drew ?_) | (with_reducible refine At.drewN ?_) | (with_reducible refine At.set ?_ (by omega)) | (with_reducible apply At.store4) | (with_reducible apply At.store3) | (with_reducible apply At.store2) | (with_reducible apply At.put43) | (refine At.below ?_ (by with_reducible assumption))), by repeat (first | (with_reducible assumption) | ((with_reducible refine at_new' _ _ _ _ ?_); (first | rfl | (simp; done))) | (with_reducible refine At.alloc ?_ _) | (with_reducible refine At.drew ?_) | (with_reducible refine At.drewN ?_) | (with_reducible refine At.set ?_ (by omega)) | (with_reducible apply At.store4) | (with_reducible apply At.store3) | (with_reducible apply At.store2) | (with_reducible apply At.put43) | (refine At.below ?_ (by with_reducible assumption))), by omega, by repeat (first | (with_reducible exact Below.refl _ _) | (with_reducible assumption) | (with_reducible refine Below.setCell ?_ (by first | (simp; done) | (simp; omega) | omega) _) | (with_reducible refine Below.alloc ?_ (by first | (simp; done) | (simp; omega) | omega) _) | (refine bl_call ?_ (by assumption) (by first | (simp; done) | (simp; omega) | omega)) | (with_reducible refine bl_drewN ?_) | (with_reducible refine Below.drew ?_) | (with_reducible refine bl_grow ?_ (by first | (simp; done) | (simp; omega) | omega)))⟩)
            case rest =>
            rename World => C
            obtain ⟨b30, rfl, rfl, kcC, kzC, hg30, hrC⟩ := hcut
            have HTC : Hid (TB Sb Sl 3 w.heap.size c Xr (fun i => (tbS c (fun i => (Xr i).toNat) (fun i => (Xn i).toNat) i : Int)) C i i a (i + 1) vb vj (.slice (some ⟨gr, 0, none⟩) c dt) u23 Qb Qj) := HTB2.out.below HOK.out hrC
            have hzC := hrC.size
            have hqC : Below w.heap.size w C := bl_call hqY hrC hzwY
            have hzwC := hqC.size
            obtain ⟨zcC, cc0C, cc1C, cc2C, fc0C, fc1C, fc2C⟩ := kcC.three
            obtain ⟨zzC, cz0C, cz1C, cz2C, cz3C, fz0C, fz1C, fz2C, fz3C⟩ := kzC.four
            have HbC : Hid (∀ j, Qb j → j < C.heap.size) := HOK.out.blt HTC.out.bb
            have HlC : Hid (∀ j, Qj j → j < C.heap.size) := HOK.out.llt HTC.out.ll
            clear kcY kxY HTB2 HRS hrC hqY
            go_upto_region 33 with fail
            refine wp_gen (fun M => At M (C.heap.size) [.int .i64 (i : Int)] ∧ At M (C.heap.size + 1) [.int .i64 ((tM (4 * H (Xv i).toNat (Xn i).toNat)).1 : Int), .int .i64 ((tM (4 * H (Xv i).toNat (Xn i).toNat)).2.1 : Int), .bool (tM (4 * H (Xv i).toNat (Xn i).toNat)).2.2] ∧ At M (C.heap.size + 2) [.slice (some ⟨C.heap.size, 0, none⟩) 1 1, .slice (some ⟨C.heap.size + 1, 0, none⟩) 1 1, .int .i64 ((A i).1 : Int), .int .i64 ((A i).2.1 : Int), .bool (A i).2.2, .int .i64 (z i : Int)] ∧ Below C.heap.size C M) ⟨by repeat (first | (with_reducible assumption) | ((with_reducible refine at_new' _ _ _ _ ?_); (first | rfl | (simp; done))) | (with_reducible refine At.alloc ?_ _) | (with_reducible refine At.drew ?_) | (with_reducible refine At.drewN ?_) | (with_reducible refine At.set ?_ (by omega)) | (with_reducible apply At.store4) | (with_reducible apply At.store3) | (with_reducible apply At.store2) | (with_reducible apply At.put43) | (refine At.below ?_ (by with_reducible assumption))), by repeat (first | (with_reducible assumption) | ((with_reducible refine at_new' _ _ _ _ ?_); (first | rfl | (simp; done))) | (with_reducible refine At.alloc ?_ _) | (with_reducible refine At.drew ?_) | (with_reducible refine At.drewN ?_) | (with_reducible refine At.set ?_ (by omega)) | (with_reducible apply At.store4) | (with_reducible apply At.store3) | (with_reducible apply At.store2) | (with_reducible apply At.put43) | (refine At.below ?_ (by with_reducible assumption))), by repeat (first | (with_reducible assumption) | ((with_reducible refine at_new' _ _ _ _ ?_); (first | rfl | (simp; done))) | (with_reducible refine At.alloc ?_ _) | (with_reducible refine At.drew ?_) | (with_reducible refine At.drewN ?_) | (with_reducible refine At.set ?_ (by omega)) | (with_reducible apply At.store4) | (with_reducible apply At.store3) | (with_reducible apply At.store2) | (with_reducible apply At.put43) | (refine At.below ?_ (by with_reducible assumption))), by repeat (first | (with_reducible exact Below.refl _ _) | (with_reducible assumption) | (with_reducible refine Below.setCell ?_ (by first | (simp; done) | (simp; omega) | omega) _) | (with_reducible refine Below.alloc ?_ (by first | (simp; done) | (simp; omega) | omega) _) | (refine bl_call ?_ (by assumption) (by first | (simp; done) | (simp; omega) | omega)) | (with_reducible refine bl_drewN ?_) | (with_reducible refine Below.drew ?_) | (with_reducible refine bl_grow ?_ (by first | (simp; done) | (simp; omega) | omega)))⟩ ?_
            rintro M ⟨kgM, khM, kdM, hrM⟩
            have HTM : Hid (TB Sb Sl 3 w.heap.size c Xr (fun i => (tbS c (fun i => (Xr i).toNat) (fun i => (Xn i).toNat) i : Int)) M i i a (i + 1) vb vj (.slice (some ⟨gr, 0, none⟩) c dt) u23 Qb Qj) := HTC.out.below HOK.out hrM
            have hqM : Below w.heap.size w M := bl_call hqC hrM hzwC
            have hzM := hqM.size
            have HnB1 : Hid (¬ Qb (C.heap.size)) := fun h => by have := HbC.out _ h; omega
            have HnB2 : Hid (¬ Qb (C.heap.size + 1)) := fun h => by have := HbC.out _ h; omega
            have HnB3 : Hid (¬ Qb (C.heap.size + 2)) := fun h => by have := HbC.out _ h; omega
            have HnL1 : Hid (¬ Qj (C.heap.size)) := fun h => by have := HlC.out _ h; omega
            have HnL2 : Hid (¬ Qj (C.heap.size + 1)) := fun h => by have := HlC.out _ h; omega
            obtain ⟨zdM, cd0M, cd1M, cd2M, cd3M, cd4M, cd5M, fd0M, fd1M, fd2M, fd3M, fd4M, fd5M⟩ := kdM.six
            clear cc0C cc1C cc2C fc0C fc1C fc2C cz0C cz1C cz2C cz3C fz0C fz1C fz2C fz3C kcC kzC hrM hqC HTC

            go_upto_region 35 with (first | (go_at_call 12; refine (HDB.out i _ vb Qb (C.heap.size) (C.heap.size + 1) HGC.out i3 HNI.out HTM.out.bb kgM khM HnB1.out HnB2.out).mono ?_; rintro e y5 ⟨rfl, hbut5, Qb5, hs5, hQ5⟩; have HT5 : Hid (TB Sb Sl 3 w.heap.size c Xr (fun i => (tbS c (fun i => (Xr i).toNat) (fun i => (Xn i).toNat) i : Int)) y5 (i + 1) i a (i + 1) vb vj (.slice (some ⟨gr, 0, none⟩) c dt) u23 Qb5 Qj) := HTM.out.deal HOK.out hbut5 hs5 hQ5; have kg5 := kgM.but hbut5 HnB1.out; have kh5 := khM.but hbut5 HnB2.out; have kd5 := kdM.but hbut5 HnB3.out; have hq5 : Below w.heap.size w y5 := But.under hqM hbut5 HTM.out.gb hzM; have hz5 := hq5.size; obtain ⟨zd5, cd05, cd15, cd25, cd35, cd45, cd55, fd05, fd15, fd25, fd35, fd45, fd55⟩ := kd5.six; clear hbut5 hs5 hQ5 kdM cd0M fd0M cd1M fd1M cd2M fd2M cd3M fd3M cd4M fd4M cd5M fd5M kgM khM hqM) | (go_at_call 13; refine (HDL.out i a _ vj Qj (C.heap.size) (C.heap.size + 1) HGC.out i3 HNI.out HT5.out.ll kg5 kh5 HnL1.out HnL2.out).mono ?_; rintro e y6 ⟨rfl, hbut6, Qj6, hs6, hQ6⟩; have HT6 : Hid (TB Sb Sl 3 w.heap.size c Xr (fun i => (tbS c (fun i => (Xr i).toNat) (fun i => (Xn i).toNat) i : Int)) y6 (i + 1) (i + 1) a (i + 1) vb vj (.slice (some ⟨gr, 0, none⟩) c dt) u23 Qb5 Qj6) := HT5.out.log HOK.out hbut6 hs6 hQ6; have hq6 : Below w.heap.size w y6 := But.under hq5 hbut6 HT5.out.gl hz5; have hz6 := hq6.size; clear hbut6 hs6 hQ6 kd5 cd05 fd05 cd15 fd15 cd25 fd25 cd35 fd35 cd45 fd45 cd55 fd55 kg5 kh5 hq5))

            refine wp_gen (fun O => TB Sb Sl 3 w.heap.size c Xr (fun i => (tbS c (fun i => (Xr i).toNat) (fun i => (Xn i).toNat) i : Int)) O (i + 1) (i + 1) a (i + 1) vb vj (.slice (some ⟨gr, 0, none⟩) c dt) u23 Qb5 Qj6 ∧ Below w.heap.size w O) ⟨HT6.out, hq6⟩ ?_
            rintro O ⟨hTO, hqO⟩
            have HTO : Hid (TB Sb Sl 3 w.heap.size c Xr (fun i => (tbS c (fun i => (Xr i).toNat) (fun i => (Xn i).toNat) i : Int)) O (i + 1) (i + 1) a (i + 1) vb vj (.slice (some ⟨gr, 0, none⟩) c dt) u23 Qb5 Qj6) := hTO
            have hzO := hqO.size
            clear hTO HT6 hq6 HT5 HTM HnB1 HnB2 HnB3 HnL1 HnL2 HbC HlC

            obtain ⟨n1, hn1⟩ : ∃ n1, n1 = i + 1 := ⟨_, rfl⟩
            have hss := HTO.out.ss
            rw [← hn1] at hss
            obtain ⟨sa0, d0, rfl, hg0⟩ := own_slice hss
            obtain ⟨g0, rfl, _, _, _⟩ := hg0.resolve_left (by omega)
            have HN1 : Hid (n1 = i + 1) := hn1
            have HTO2 : Hid (TB Sb Sl 3 w.heap.size c Xr (fun i => (tbS c (fun i => (Xr i).toNat) (fun i => (Xn i).toNat) i : Int)) O n1 n1 a n1 vb vj (.slice (some ⟨gr, 0, none⟩) c dt) (.slice (some ⟨g0, 0, none⟩) n1 d0) Qb5 Qj6) := by rw [hn1]; rw [hn1] at HTO; exact HTO
            have hn1a : i < n1 := by omega
            have hn1b : n1 ≤ 6 := by omega
            clear hss hg0 hn1 HTO

            go_cut [23] from 116 to 217 (fun t1_ wx_ => TL2 Sb Sl 3 w.heap.size c Xr (fun i => (tbS c (fun i => (Xr i).toNat) (fun i => (Xn i).toNat) i : Int)) vb vj (.slice (some ⟨gr, 0, none⟩) c dt) wx_ n1 a t1_ ∧ Below w.heap.size w wx_)
            case first =>
              clear H1 HCW RR HH HHe1 HHe2 HN HNL HX HCL HDB HDL HSY HTB HTL HOP HOB HCR HLV HE
              have hss := HTO2.out.ss
              have HSO : Hid (O.ownsRow w.heap.size 3 1 (.slice (some ⟨g0, 0, none⟩) n1 d0) n1 (cellsI (fun i => (tbS c (fun i => (Xr i).toNat) (fun i => (Xn i).toNat) i : Int)) n1)) := hss
              have cs0 := hss.cellAt i (by omega)
              rw [cellsI_at _ (by omega)] at cs0
              have zs0 := (hss.lt g0 rfl).2
              obtain ⟨zn0, cn0⟩ := tk_at HRN.out hqO i2
              have hrr := HTO2.out.tt
              have cr0 := hrr.cellAt i (by omega)
              rw [cellsI_at _ i3] at cr0
              have zr0 := (hrr.lt gr rfl).2
              have l4 : (i : Int) < (n1 : Int) := by omega
              have bs0 := tbS_lt c (fun i => (Xr i).toNat) (fun i => (Xn i).toNat) i
              have HSN : Hid (((tbS c (fun i => (Xr i).toNat) (fun i => (Xn i).toNat) i : Int) + Xn i - Xr i) % 1013 = (tbS c (fun i => (Xr i).toNat) (fun i => (Xn i).toNat) (i + 1) : Int)) := tbs_step c (fun i => (Xr i).toNat) (fun i => (Xn i).toNat) i x0 x2
              have HM2 : Hid (∀ (p : Int) w, p % 1013 = (tbS c (fun i => (Xr i).toNat) (fun i => (Xn i).toNat) (i + 1) : Int) → Calls Try.prog 11 #[.int .i64 p, .int .i64 1013] w fun ex w' => ex = .returned (.int .i64 (tbS c (fun i => (Xr i).toNat) (fun i => (Xn i).toNat) (i + 1) : Int)) ∧ Below w.heap.size w w') := fun p w h => by have := HMO.out p w; rwa [h] at this
              obtain ⟨s0, s1⟩ : (0 : Int) ≤ (tbS c (fun i => (Xr i).toNat) (fun i => (Xn i).toNat) i : Int) ∧ (tbS c (fun i => (Xr i).toNat) (fun i => (Xn i).toNat) i : Int) < 1013 := ⟨by omega, by omega⟩
              clear hss hrr bs0
  
              go_region_law (first | ((refine step_append_lies _ (by rfl) _ _ 22 (by rfl) w.heap.size 3 j0 (.int .i64 0) 1 8 Try.underlying22 hj0 hu0 hu1 hu2 (by rfl) (by decide) _ n1 _ (by rfl) (HS8.out.alloc _) ⟨w8.heap.size, 0, none⟩ 1 1 [.int .i64 (tbS c (fun i => (Xr i).toNat) (fun i => (Xn i).toNat) (i + 1) : Int)] (by rfl) (by rfl) (tkone_at rfl _ _) (by simp [Value.oneCell']) (by omega) (by unfold maxLen; omega) (by omega) (Nat.le_trans (Nat.le_trans hzO HB8.out.size) (by simp)) (w8.heap.size + 1) (by simp) ?_); (intro g7 cap7 w7 hown7 hgrow7 hat7 hlt7)) | ((go_simp); (go_at_call 11); (refine (HM2.out _ _ (by first | exact HSN.out | exact (congrArg (· % 1013) (tsn x0 x1 x2 x3 s0 s1)).trans HSN.out)).mono ?_); (rintro e w8 ⟨rfl, hb8⟩); (have HS8 : Hid (w8.ownsRow w.heap.size 3 1 (.slice (some ⟨g0, 0, none⟩) n1 d0) n1 (cellsI (fun i => (tbS c (fun i => (Xr i).toNat) (fun i => (Xn i).toNat) i : Int)) n1)) := own_stay (own_drew HSO.out) hb8); (have HB8 : Hid (Below O.drew.heap.size O.drew w8) := hb8); (clear hb8); (go_wp2_with fail)))
  
              all_goals (
              have hk8 : Below O.heap.size O (w8.alloc (.cells #[.int .i64 (tbS c (fun i => (Xr i).toNat) (fun i => (Xn i).toNat) (i + 1) : Int)] 3)) := ((Below.drew (Below.refl _ _)).trans HB8.out).alloc (Nat.le_trans (Nat.le_of_eq (by simp)) HB8.out.size) _
              have hown8 : w7.ownsRow w.heap.size 3 1 (.slice (some ⟨g7, 0, none⟩) (n1 + 1) cap7) (n1 + 1) (cellsI (fun i => (tbS c (fun i => (Xr i).toNat) (fun i => (Xn i).toNat) i : Int)) (n1 + 1)) := by
                rw [cellsI_succ, HN1.out]
                rw [HN1.out] at hown7
                exact hown7
              have hat8 : (Value.slice (some ⟨g7, 0, none⟩) (n1 + 1) cap7).ownBlock = (Value.slice (some ⟨g0, 0, none⟩) n1 d0).ownBlock ∨ (Value.slice (some ⟨g7, 0, none⟩) (n1 + 1) cap7).ownBlock = some (w8.alloc (.cells #[.int .i64 (tbS c (fun i => (Xr i).toNat) (fun i => (Xn i).toNat) (i + 1) : Int)] 3)).heap.size := by
                rcases hat7 with e | e
                · exact Or.inl e.symm
                · exact Or.inr (by rw [e]; simp [Value.ownBlock])
              have hT7 := HTO2.out.grow HOK.out hk8 hgrow7 hown8 hat8
              have hq7 : Below w.heap.size w w7 := grown_under (B := w.heap.size) (bl_call hqO hk8 hzO) (HS8.out.alloc _) hgrow7 (Nat.le_trans hzO hk8.size) (Nat.le_refl _)
              clear hown7 hown8 hat7 hat8 hgrow7 hk8
              (try go_wp2_with fail)
              go_meet
              case rel => exact ⟨⟨by omega, _, _, hT7⟩, hq7⟩)
            case rest =>

            rename World => P_
            obtain ⟨hTP, hqP⟩ := hcut
            have HTP : Hid (TL2 Sb Sl 3 w.heap.size c Xr (fun i => (tbS c (fun i => (Xr i).toNat) (fun i => (Xn i).toNat) i : Int)) vb vj (.slice (some ⟨gr, 0, none⟩) c dt) P_ (i + 1) a u23) := by rw [← HN1.out]; exact hTP
            have hzP := hqP.size
            clear hTP HTO2 hqO HN1 hn1a hn1b
            cases hsy : ((i : Int) == sy) with
            | false => as_aux_lemma =>
              go_wp2_with fail
              go_roundw
              case rel => exact ⟨i + 1, a, by omega, by simp, rfl, (fun j hj => HNI.out j (by omega)), HTP.out, hqP⟩
              case measure => simp [intOf]; omega
            | true => as_aux_lemma =>
              obtain ⟨_, Qb7, Qj7, hT7⟩ := HTP.out
              go_wp2_with (go_at_call 14; refine (HSY.out (i + 1) a _ vj Qj7 (by omega) hT7.ll).mono ?_; rintro e y8 ⟨rfl, hbut8, Qj8, hs8, hQ8⟩; have hT8 := hT7.log HOK.out hbut8 hs8 hQ8; have hq8 : Below w.heap.size w y8 := But.under hqP hbut8 hT7.gl hzP; clear hbut8 hs8 hQ8)
              go_roundw
              case rel => exact ⟨i + 1, i + 1, by omega, by simp, by simp, (fun j hj => HNI.out j (by omega)), ⟨Nat.le_refl _, _, _, hT8⟩, hq8⟩
              case measure => simp [intOf]; omega
        · obtain rfl : c2 = i := by omega
          go_upto_region 25 with fail
          go_cut [125] from 116 to 125 (fun tb_ wx_ => tb_ = .bool false ∧ wx_ = U)
          case first =>
            by_cases l1 : (c2 : Int) < nn
            · have l2 : ¬ (c2 : Int) < c := by have := HCW2.out; omega
              go_wp2_with fail
              go_meet
              case rel => exact ⟨rfl, rfl⟩
            · go_wp2_with fail
              go_meet
              case rel => exact ⟨rfl, rfl⟩
          case rest => as_aux_lemma =>
          obtain ⟨rfl, rfl⟩ := hcut
          rename World => O
          have hqO := hqU
          have hzO := hqO.size
          obtain ⟨haI, Qb, Qj, hTB⟩ := HT.out
          obtain ⟨n1, hn1⟩ : ∃ n1, n1 = c2 + 1 := ⟨_, rfl⟩
          have hss := hTB.ss
          rw [← hn1] at hss
          obtain ⟨sa0, d0, rfl, hg0⟩ := own_slice hss
          obtain ⟨g0, rfl, _, _, _⟩ := hg0.resolve_left (by omega)
          have HN1 : Hid (n1 = c2 + 1) := hn1
          have HTU : Hid (TB Sb Sl 3 w.heap.size c Xr (fun i => (tbS c (fun i => (Xr i).toNat) (fun i => (Xn i).toNat) i : Int)) O c2 c2 a n1 vb vj (.slice st c dt) (.slice (some ⟨g0, 0, none⟩) n1 d0) Qb Qj) := by rw [hn1]; rw [hn1] at hTB; exact hTB
          have hn1a : c2 < n1 := by omega
          have hn1b : n1 ≤ 7 := by omega
          have hn1c : (n1 : Int) - 1 = (c2 : Int) := by omega
          have l4 : (c2 : Int) < (n1 : Int) := by omega
          have cs0 := hss.cellAt c2 (by omega)
          rw [cellsI_at _ hn1a] at cs0
          have zs0 := (hss.lt g0 rfl).2
          have HBr : Hid (∀ W, Below O.heap.size O W → Calls Try.prog 16 #[vb] W fun ex w' => ex = .returned (.agg #[.int .i64 ((tM (4 * T c2)).1 : Int), .int .i64 ((tM (4 * T c2)).2.1 : Int), .bool (tM (4 * T c2)).2.2]) ∧ Below W.heap.size W w') := fun W hW => HTB.out c2 W vb Qb hcc (HTU.out.below HOK.out hW).bb
          have HOr : Hid (∀ w, Calls Try.prog 15 #[.agg #[.int .i64 ((tM (4 * T c2)).1 : Int), .int .i64 ((tM (4 * T c2)).2.1 : Int), .bool (tM (4 * T c2)).2.2], .int .i64 (tbV (fun i => (Xv i).toNat) c : Int), .int .i64 (tbS c (fun i => (Xr i).toNat) (fun i => (Xn i).toNat) c2 : Int)] w fun ex w' => ex = .returned (.tuple #[.bool true, .nilIface]) ∧ Below w.heap.size w w') := fun w => by
            have := HOP.out c2 c2 w hcc hcc
            rwa [HOB.out c2 hcc HGC.out HNG.out] at this
          clear hss hg0 hn1 hTB HT hlt hqU

          go_upto_region 40 with fail
          refine wp_region_quiet_below (by kernel_rfl) (by kernel_rfl) ?_
          repeat (go_big_quiet_step (first | (go_at_call 16; with_reducible exact Calls.regrown_of (HBr.out _ (below_regrown _ _ _))) | (go_at_call 15; with_reducible exact Calls.regrown_of (HOr.out _))))
          refine wpQuiet_nil ?_
          intro V hw1
          have hrV := regrown_below hw1
          clear hw1

          have HTV : Hid (TB Sb Sl 3 w.heap.size c Xr (fun i => (tbS c (fun i => (Xr i).toNat) (fun i => (Xn i).toNat) i : Int)) V c2 c2 a n1 vb vj (.slice st c dt) (.slice (some ⟨g0, 0, none⟩) n1 d0) Qb Qj) := HTU.out.below HOK.out hrV
          have hqV : Below w.heap.size w V := bl_call hqO hrV hzO
          have hzV := hqV.size
          have HBV1 : Hid (∀ W, Below V.heap.size V W → Sb c2 W vb Qb) := fun W hW => (HTV.out.below HOK.out hW).bb
          have HLV1 : Hid (∀ W, Below V.heap.size V W → Sl c2 a W vj Qj) := fun W hW => (HTV.out.below HOK.out hW).ll
          have hVV : Below V.heap.size V V := Below.refl _ _
          clear hrV hqO cs0 zs0 HTU HBr HOr
          have y1_ : (((tM (4 * T c2)).1 : Int) == ((tM (4 * T c2)).1 : Int)) = true := by simp
          have y2_ : (((tM (4 * T c2)).2.1 : Int) == ((tM (4 * T c2)).2.1 : Int)) = true := by simp
          have y3_ : ((tM (4 * T c2)).2.2 == (tM (4 * T c2)).2.2) = true := by simp
          go_upto_region 43 with (first | (go_at_call 17; refine (HTL.out c2 a _ vj Qj hcc (HLV1.out _ (show Below V.heap.size V _ from by repeat (first | (with_reducible exact Below.refl _ _) | (with_reducible assumption) | (with_reducible refine Below.setCell ?_ (by first | (simp; done) | (simp; omega) | omega) _) | (with_reducible refine Below.alloc ?_ (by first | (simp; done) | (simp; omega) | omega) _) | (refine bl_call ?_ (by assumption) (by first | (simp; done) | (simp; omega) | omega)) | (with_reducible refine bl_drewN ?_) | (with_reducible refine Below.drew ?_) | (with_reducible refine bl_grow ?_ (by first | (simp; done) | (simp; omega) | omega)))))).mono ?_; rintro e y2 ⟨rfl, hb2⟩; have hr2 : Below V.heap.size V y2 := (by repeat (first | (with_reducible exact Below.refl _ _) | (with_reducible assumption) | (with_reducible refine Below.setCell ?_ (by first | (simp; done) | (simp; omega) | omega) _) | (with_reducible refine Below.alloc ?_ (by first | (simp; done) | (simp; omega) | omega) _) | (refine bl_call ?_ (by assumption) (by first | (simp; done) | (simp; omega) | omega)) | (with_reducible refine bl_drewN ?_) | (with_reducible refine Below.drew ?_) | (with_reducible refine bl_grow ?_ (by first | (simp; done) | (simp; omega) | omega)))); have hz2 := hr2.size; clear hb2) | (go_at_call 16; refine (HTB.out c2 _ vb Qb hcc (HBV1.out _ (show Below V.heap.size V _ from by repeat (first | (with_reducible exact Below.refl _ _) | (with_reducible assumption) | (with_reducible refine Below.setCell ?_ (by first | (simp; done) | (simp; omega) | omega) _) | (with_reducible refine Below.alloc ?_ (by first | (simp; done) | (simp; omega) | omega) _) | (refine bl_call ?_ (by assumption) (by first | (simp; done) | (simp; omega) | omega)) | (with_reducible refine bl_drewN ?_) | (with_reducible refine Below.drew ?_) | (with_reducible refine bl_grow ?_ (by first | (simp; done) | (simp; omega) | omega)))))).mono ?_; rintro e y3 ⟨rfl, hb3⟩; have hr3 : Below V.heap.size V y3 := bl_call hr2 hb3 hz2; have hz3 := hr3.size; clear hb3))

          refine wp_gen (fun M => TB Sb Sl 3 w.heap.size c Xr (fun i => (tbS c (fun i => (Xr i).toNat) (fun i => (Xn i).toNat) i : Int)) M c2 c2 a n1 vb vj (.slice st c dt) (.slice (some ⟨g0, 0, none⟩) n1 d0) Qb Qj ∧ Below w.heap.size w M) ⟨HTV.out.below HOK.out hr3, bl_call hqV hr3 hzV⟩ ?_
          rintro M ⟨hTM, hqM⟩
          have HTM : Hid (TB Sb Sl 3 w.heap.size c Xr (fun i => (tbS c (fun i => (Xr i).toNat) (fun i => (Xn i).toNat) i : Int)) M c2 c2 a n1 vb vj (.slice st c dt) (.slice (some ⟨g0, 0, none⟩) n1 d0) Qb Qj) := hTM
          have hzM := hqM.size
          clear hTM HTV hqV HBV1 HLV1 hVV hr2 hr3 y1_ y2_ y3_
          go_upto_region 46 with (first | (go_at_call 18; refine (HCR.out c2 a _ vj Qj hcc HTM.out.ll).mono ?_; rintro e y4 ⟨rfl, hbut4, i4, a4, Qj4, h41, h42, hs4, hQ4⟩; have HT4 : Hid (TB Sb Sl 3 w.heap.size c Xr (fun i => (tbS c (fun i => (Xr i).toNat) (fun i => (Xn i).toNat) i : Int)) y4 c2 i4 a4 n1 vb vj (.slice st c dt) (.slice (some ⟨g0, 0, none⟩) n1 d0) Qb Qj4) := HTM.out.log HOK.out hbut4 hs4 hQ4; have hq4 : Below w.heap.size w y4 := But.under hqM hbut4 HTM.out.gl hzM; have hz4 := hq4.size; clear hbut4 hs4 hQ4) | (go_at_call 17; refine (HTL.out i4 a4 _ vj Qj4 (Nat.le_trans h42 hcc) HT4.out.ll).mono ?_; rintro e y5 ⟨rfl, hb5⟩; have HT5 : Hid (TB Sb Sl 3 w.heap.size c Xr (fun i => (tbS c (fun i => (Xr i).toNat) (fun i => (Xn i).toNat) i : Int)) y5 c2 i4 a4 n1 vb vj (.slice st c dt) (.slice (some ⟨g0, 0, none⟩) n1 d0) Qb Qj4) := HT4.out.below HOK.out hb5; have hq5 : Below w.heap.size w y5 := bl_call hq4 hb5 hz4; have hz5 := hq5.size; clear hb5 hq4 HT4))

          refine wp_gen (fun F => At F y5.heap.size [.int .i64 ((tM (4 * T i4)).1 : Int), .int .i64 ((tM (4 * T i4)).2.1 : Int), .bool (tM (4 * T i4)).2.2] ∧ TB Sb Sl 3 w.heap.size c Xr (fun i => (tbS c (fun i => (Xr i).toNat) (fun i => (Xn i).toNat) i : Int)) F c2 i4 a4 n1 vb vj (.slice st c dt) (.slice (some ⟨g0, 0, none⟩) n1 d0) Qb Qj4 ∧ Below w.heap.size w F) ⟨by repeat (first | (with_reducible assumption) | ((with_reducible refine at_new' _ _ _ _ ?_); (first | rfl | (simp; done))) | (with_reducible refine At.alloc ?_ _) | (with_reducible refine At.drew ?_) | (with_reducible refine At.drewN ?_) | (with_reducible refine At.set ?_ (by omega)) | (with_reducible apply At.store4) | (with_reducible apply At.store3) | (with_reducible apply At.store2) | (with_reducible apply At.put43) | (refine At.below ?_ (by with_reducible assumption))), HT5.out.below HOK.out ((Below.refl _ _).alloc (Nat.le_refl _) _), hq5.alloc hz5 _⟩ ?_
          rintro F ⟨ktF, hTF, hqF⟩
          have HTF : Hid (TB Sb Sl 3 w.heap.size c Xr (fun i => (tbS c (fun i => (Xr i).toNat) (fun i => (Xn i).toNat) i : Int)) F c2 i4 a4 n1 vb vj (.slice st c dt) (.slice (some ⟨g0, 0, none⟩) n1 d0) Qb Qj4) := hTF
          have HKF : Hid (At F y5.heap.size [.int .i64 ((tM (4 * T i4)).1 : Int), .int .i64 ((tM (4 * T i4)).2.1 : Int), .bool (tM (4 * T i4)).2.2]) := ktF
          have hzF := hqF.size
          have HL6 : Hid (∀ W, Below F.heap.size F W → Sl i4 a4 W vj Qj4) := fun W hW => (HTF.out.below HOK.out hW).ll
          clear hTF ktF HT5 hq5 HTM hqM
          go_wp2_with fail
          go_loopw [36, 37] (fun tf_ ti wl => ∃ (i : Nat) (f : Bool), i ≤ n1 ∧ ti = .int .i64 (i : Int) ∧ tf_ = .bool f ∧ (i4 < i → f = true) ∧ Below F.heap.size F wl) (fun _ ti _ => n1 - (intOf ti).toNat)
          case atStart => exact ⟨a, false, by omega, rfl, rfl, (fun h => absurd h (by omega)), Below.refl _ _⟩
          case round =>
            obtain ⟨i, f, hi, rfl, rfl, hf, hrU⟩ := hrel
            rename World => U
            have HF : Hid (i4 < i → f = true) := hf
            have hzU := hrU.size
            have hqU : Below w.heap.size w U := bl_call hqF hrU hzF
            have hzwU := hqU.size
            clear hf
            by_cases hlt : i < n1
            · as_aux_lemma =>
              have hlt' : (i : Int) < (n1 : Int) := by omega
              have hss := (HTF.out.below HOK.out hrU).ss
              have cs0 := hss.cellAt i (by omega)
              rw [cellsI_at _ hlt] at cs0
              have zs0 := (hss.lt g0 rfl).2
              have ktU := HKF.out.below hrU
              obtain ⟨ztU, ct0U, ct1U, ct2U, ft0U, ft1U, ft2U⟩ := ktU.three
              have hic : i ≤ c := by have := HN1.out; omega
              have HOi : Hid (∀ w, Calls Try.prog 15 #[.agg #[.int .i64 ((tM (4 * T i4)).1 : Int), .int .i64 ((tM (4 * T i4)).2.1 : Int), .bool (tM (4 * T i4)).2.2], .int .i64 (tbV (fun i => (Xv i).toNat) c : Int), .int .i64 (tbS c (fun i => (Xr i).toNat) (fun i => (Xn i).toNat) i : Int)] w fun ex w' => ex = .returned (.tuple #[.bool (ob i4 i), .nilIface]) ∧ Below w.heap.size w w') := fun w => HOP.out i4 i w (Nat.le_trans h42 hcc) hic
              have HOt : Hid (i = i4 → ob i4 i = true) := fun e => by subst e; exact HOB.out i hic HGC.out (fun j hj => HNG.out j (by omega))
              generalize ob i4 i = b4 at HOi HOt
              clear hss ktU
    
              go_upto_region 49 with fail
              refine wp_region_quiet_below (by kernel_rfl) (by kernel_rfl) ?_
              repeat (go_big_quiet_step (first | (go_at_call 15; with_reducible exact Calls.regrown_of (HOi.out _))))
              refine wpQuiet_nil ?_
              intro V2 hw1
              have hrV2 := regrown_below hw1
              clear hw1
              have hrV3 : Below F.heap.size F V2 := bl_call hrU hrV2 hzU
              have HFB : Hid (i4 < i + 1 → (f || b4) = true) := fun h => by
                rcases Nat.lt_succ_iff_lt_or_eq.1 h with h1 | h1
                · rw [HF.out h1]; rfl
                · rw [HOt.out h1.symm, Bool.or_true]
              clear HF HOt
              cases f <;> cases b4
              all_goals (
              go_wp2_with fail
              go_roundw
              case rel => exact ⟨i + 1, _, by omega, by simp, rfl, HFB.out, hrV3⟩
              case measure => simp [intOf]; omega)
            · as_aux_lemma =>
              have hlt' : ¬ (i : Int) < (n1 : Int) := by omega
              obtain rfl : f = true := HF.out (by omega)
              have hUU : Below F.heap.size F U := hrU
              have hcc2 : ((c : Int) == (c : Int)) = true := by simp
              go_wp2_with (go_at_call 19; refine (HLV.out i4 a4 _ vj Qj4 (Nat.le_trans h42 hcc) (HL6.out _ (show Below F.heap.size F _ from by repeat (first | (with_reducible exact Below.refl _ _) | (with_reducible assumption) | (with_reducible refine Below.setCell ?_ (by first | (simp; done) | (simp; omega) | omega) _) | (with_reducible refine Below.alloc ?_ (by first | (simp; done) | (simp; omega) | omega) _) | (refine bl_call ?_ (by assumption) (by first | (simp; done) | (simp; omega) | omega)) | (with_reducible refine bl_drewN ?_) | (with_reducible refine Below.drew ?_) | (with_reducible refine bl_grow ?_ (by first | (simp; done) | (simp; omega) | omega)))))).mono ?_; rintro e y7 ⟨q7, e7, rfl, hb7⟩; have hr7 : Below F.heap.size F y7 := (by repeat (first | (with_reducible exact Below.refl _ _) | (with_reducible assumption) | (with_reducible refine Below.setCell ?_ (by first | (simp; done) | (simp; omega) | omega) _) | (with_reducible refine Below.alloc ?_ (by first | (simp; done) | (simp; omega) | omega) _) | (refine bl_call ?_ (by assumption) (by first | (simp; done) | (simp; omega) | omega)) | (with_reducible refine bl_drewN ?_) | (with_reducible refine Below.drew ?_) | (with_reducible refine bl_grow ?_ (by first | (simp; done) | (simp; omega) | omega)))); clear hb7)
              go_ret
              exact ⟨rfl, bl_call hqF hr7 hzF⟩
end Go.Proofs.Ytmijjjdedadklaj
