/- stonelaw2.QuorumTells answers true, by what its callees answer. -/
import Derived.Test.YtkhpmnehjifdcafDoorRefShare
import Derived.Test.YtkhpmnehjifdcafDoorSameRows
import Derived.Test.YtkhpmnehjifdcafDoorRefSec
import Derived.Test.YtkhpmnehjifdcafDoorTold
import Derived.Test.YtkhpmnehjifdcafDoorStay
import Derived.Deep.RegionHeld3
import Derived.Deep.CutRange
import Derived.Deep.CutBlock
namespace Go.Proofs.YtkhpmnehjifdcafDoor
open Go.RowKit Go.Sort
set_option linter.unusedVariables false
set_option linter.unusedSimpArgs false
theorem sinfoD : (Tryd.prog.info? 45).map (fun i => (i.zero, i.size, i.bytes)) = some (some (.agg #[.int .i64 0, .int .i64 0, .bool false]), 3, 24) := by kernel_rfl
/-- The weights' row, which lies apart from what was there ahead. -/
def RWk (B : Nat) (s4 : Option Addr) (q : Nat) (WX : Nat → Int) (W : World) : Prop := q = 0 ∨ ∃ g, s4 = some ⟨g, 0, none⟩ ∧ B ≤ g ∧ RowI W g 0 q WX
theorem RWk.below {B : Nat} {s4 : Option Addr} {q : Nat} {WX : Nat → Int} {W W' : World} (h : RWk B s4 q WX W) (k : Below W.heap.size W W') : RWk B s4 q WX W' :=
  h.imp_right fun ⟨g, e, hB, r⟩ => ⟨g, e, hB, r.below r.1 k⟩
theorem RWk.set {B : Nat} {s4 : Option Addr} {q : Nat} {WX : Nat → Int} {W : World} (h : RWk B s4 q WX W) {c o : Nat} (hc : c < B) (u : Value) : RWk B s4 q WX (W.setCell ⟨c, o, none⟩ u) :=
  h.imp_right fun ⟨g, e, hB, r⟩ => ⟨g, e, hB, by simpa [World.setCell] using r.1, fun i hi => by
    rw [World.cell?_setCell_other _ _ _ _ (by intro e; injection e with e; omega)]; exact r.2 i hi⟩
theorem three_newD {w : World} {b : Nat} (h : b = w.heap.size) (x y z : Value) (t : TypeId) : ∀ j u, [x, y, z][j]? = some u → (w.alloc (.cells #[x, y, z] t)).cell? ((⟨b, 0, none⟩ : Addr).add j) = some u := by
  subst h
  intro j u hj
  rw [addr_add]
  match j, hj with
  | 0, hj => simp at hj; subst hj; simp
  | 1, hj => simp at hj; subst hj; simp
  | 2, hj => simp at hj; subst hj; simp
theorem one_threeD {x y : Int} {z : Bool} : ∀ u ∈ [Value.int .i64 x, Value.int .i64 y, Value.bool z], u.oneCell' = true := by
  intro u hu; simp at hu; rcases hu with rfl | rfl | rfl <;> rfl
theorem spots_same {W0 : World} {B1 B2 n : Nat} {e : Int} {u v : Value} {X Y : Nat → Int} {F : Nat → Bool} (h1 : (e == 0) = true → W0.ownsRow B1 45 3 u n (cellsT X Y F n)) (h2 : (e == 0) = false → u = .slice none 0 0) (h3 : (e == 0) = true → W0.ownsRow B2 45 3 v n (cellsT X Y F n)) (h4 : (e == 0) = false → v = .slice none 0 0) (hn : (e == 0) = true → n ≤ 12) :
    ∀ W, Below W0.heap.size W0 W → Calls Tryd.prog 24 #[u, v] W fun ex w' => ex = .returned (.bool true) ∧ Below W.heap.size W w' := by
  intro W hW
  cases he : e == 0 with
  | false => rw [h2 he, h4 he]; exact sspots_nil none none 0 0 W
  | true =>
    have hn' := hn he
    obtain ⟨sa, c, rfl, r1⟩ := own_spots (h1 he)
    obtain ⟨sb, d, rfl, r2⟩ := own_spots (h3 he)
    rcases r1 with rfl | ⟨g, rfl, _, _, r1⟩
    · exact sspots_nil sa sb c d W
    · rcases r2 with rfl | ⟨g2, rfl, _, _, r2⟩
      · exact sspots_nil _ sb c d W
      · exact sspots_row g 0 g2 0 n c d X Y F W (by omega) (r1.below r1.1 hW) (r2.below r2.1 hW)
set_option maxRecDepth 100000 in
set_option maxHeartbeats 32000000 in
theorem qtells (x1 y1 wx wy jx jy ox oy e1 e2 e3 e4 e5 : Int) (wf jf of_ a : Bool) (v1 v3 v5 : Value) (t : ByteArray) (sx sb sl : Option Addr) (p dx q db n dl j0 j1 : Nat) (PX PY MX MY TX TY KX KY WX LX LY : Nat → Int) (PF MF TF KF : Nat → Bool) (w : World) (hd : Door w) (hp9 : p ≤ 9223372036854775807) (hq9 : q ≤ 9223372036854775807) (hn9 : n ≤ 9223372036854775807) (ht9 : t.size ≤ 9223372036854775807)
    (T1 : (toldI v1 == e1) = true) (T3 : (toldI v3 == e3) = true) (T5 : (toldI v5 == e5) = true)
    (hHSH : ∀ w, Calls Tryd.prog 15 #[.agg #[.int .i64 x1, .int .i64 y1]] w fun ex w' => ex = .returned (.bool a) ∧ Below w.heap.size w w')
    (hHB0 : a = false → e1 = 1 ∧ wx = 0 ∧ wy = 0 ∧ wf = false)
    (hHB : a = true → (60 < t.size ∧ e1 = 4 ∧ wx = 0 ∧ wy = 0 ∧ wf = false) ∨ (t.size ≤ 60 ∧ e1 = 0 ∧ (∀ w, Calls Tryd.prog 17 #[.string t] w fun ex w' => ex = .returned (.agg #[.int .i64 ox, .int .i64 oy, .bool of_]) ∧ Below w.heap.size w w') ∧ (∀ w, Calls Tryd.prog 16 #[.agg #[.int .i64 ox, .int .i64 oy, .bool of_], .int .i64 y1] w fun ex w' => ex = .returned (.agg #[.int .i64 wx, .int .i64 wy, .bool wf]) ∧ Below w.heap.size w w')))
    (hHS : ∀ w, Calls Tryd.prog 18 #[.agg #[.int .i64 x1, .int .i64 y1], .string t] w fun ex w' => ex = .returned (.tuple #[.agg #[.int .i64 wx, .int .i64 wy, .bool wf], v1]) ∧ Below w.heap.size w w')
    (hI1 : IsErr v1)
    (hHPL : p = q → ∀ W, Below w.heap.size w W → Calls Tryd.prog 10 #[.slice sx p dx] W fun ex w' => ex = .returned (.int .i64 e2) ∧ Below W.heap.size W w')
    (hHNE : p ≠ q → e2 = 3)
    (hHR1 : (e2 == 0) = true → (q = 0 ∨ ∃ b o : Nat, sb = some ⟨b, o, none⟩ ∧ RowO w b o q PX PY PF) ∧ q ≤ 12 ∧ j0 ≤ q ∧ (∀ i, i < j0 → (∀ w, Calls Tryd.prog 19 #[.agg #[.int .i64 (PX i), .int .i64 (PY i), .bool (PF i)]] w fun ex w' => ex = .returned (.int .i64 0) ∧ Below w.heap.size w w')) ∧ ((j0 = q ∧ e3 = 0) ∨ (j0 < q ∧ (∀ w, Calls Tryd.prog 19 #[.agg #[.int .i64 (PX j0), .int .i64 (PY j0), .bool (PF j0)]] w fun ex w' => ex = .returned (.int .i64 e3) ∧ Below w.heap.size w w') ∧ (e3 == 0) = false)))
    (hHR0 : (e2 == 0) = false → e3 = e2)
    (hHW : (e3 == 0) = true → (q = 0 ∨ ∃ b o : Nat, sb = some ⟨b, o, none⟩ ∧ RowO w b o q PX PY PF) ∧ q ≤ 12 ∧ (∀ W, Below w.heap.size w W → Calls Tryd.prog 11 #[.slice sx p dx] W fun e w' => GivesI W q WX e w') ∧ (MX 0 = 0 ∧ MY 0 = 0 ∧ MF 0 = true) ∧ (MX q = jx ∧ MY q = jy ∧ MF q = jf) ∧ ∀ i, i < q → (∀ w, Calls Tryd.prog 16 #[.agg #[.int .i64 (PX i), .int .i64 (PY i), .bool (PF i)], .int .i64 (WX i)] w fun ex w' => ex = .returned (.agg #[.int .i64 (TX i), .int .i64 (TY i), .bool (TF i)]) ∧ Below w.heap.size w w') ∧ (∀ w, Calls Tryd.prog 20 #[.agg #[.int .i64 (MX i), .int .i64 (MY i), .bool (MF i)], .agg #[.int .i64 (TX i), .int .i64 (TY i), .bool (TF i)]] w fun ex w' => ex = .returned (.agg #[.int .i64 (MX (i + 1)), .int .i64 (MY (i + 1)), .bool (MF (i + 1))]) ∧ Below w.heap.size w w'))
    (hHW0 : (e3 == 0) = false → jx = 0 ∧ jy = 0 ∧ jf = false)
    (hHJJ : ∀ W, Below w.heap.size w W → Calls Tryd.prog 21 #[.slice sx p dx, .slice sb q db] W fun ex w' => ex = .returned (.tuple #[.agg #[.int .i64 jx, .int .i64 jy, .bool jf], v3]) ∧ Below W.heap.size W w')
    (hI3 : IsErr v3)
    (hHC : (12 < n ∧ e4 = 4) ∨ (¬ 12 < n ∧ e4 = 0))
    (hHK : (e4 == 0) = true → (n = 0 ∨ ∃ b o : Nat, sl = some ⟨b, o, none⟩ ∧ RowP w b o n LX LY) ∧ n ≤ 12 ∧ j1 ≤ n ∧ (∀ i, i < j1 → (∀ w, Calls Tryd.prog 15 #[.agg #[.int .i64 (LX i), .int .i64 (LY i)]] w fun ex w' => ex = .returned (.bool true) ∧ Below w.heap.size w w') ∧ (∀ w, Calls Tryd.prog 22 #[.int .i64 (LY i)] w fun ex w' => ex = .returned (.agg #[.int .i64 (KX i), .int .i64 (KY i), .bool (KF i)]) ∧ Below w.heap.size w w')) ∧ ((j1 = n ∧ e5 = 0) ∨ (j1 < n ∧ (∀ w, Calls Tryd.prog 15 #[.agg #[.int .i64 (LX j1), .int .i64 (LY j1)]] w fun ex w' => ex = .returned (.bool false) ∧ Below w.heap.size w w') ∧ e5 = 1)))
    (hHK0 : (e4 == 0) = false → e5 = e4 ∧ (e5 == 0) = false)
    (hHN : (e5 == 0) = true → n ≤ 12)
    (hHU : ∀ W, Below w.heap.size w W → Calls Tryd.prog 23 #[.slice sl n dl] W fun ex w' => ∃ u, ex = .returned (.tuple #[u, v5]) ∧ ((e5 == 0) = true → w'.ownsRow W.heap.size 45 3 u n (cellsT KX KY KF n)) ∧ ((e5 == 0) = false → u = .slice none 0 0) ∧ Below W.heap.size W w')
    (hI5 : IsErr v5)
    : Calls Tryd.prog 4 #[.agg #[.int .i64 x1, .int .i64 y1], .string t, .slice sx p dx, .slice sb q db, .slice sl n dl] w fun e w' => e = .returned (.bool true) ∧ Below w.heap.size w w' := by
  have HD : Hid (Door w) := hd
  have HSH : Hid (∀ w, Calls Tryd.prog 15 #[.agg #[.int .i64 x1, .int .i64 y1]] w fun ex w' => ex = .returned (.bool a) ∧ Below w.heap.size w w') := hHSH
  have HB0 : Hid (a = false → e1 = 1 ∧ wx = 0 ∧ wy = 0 ∧ wf = false) := hHB0
  have HB : Hid (a = true → (60 < t.size ∧ e1 = 4 ∧ wx = 0 ∧ wy = 0 ∧ wf = false) ∨ (t.size ≤ 60 ∧ e1 = 0 ∧ (∀ w, Calls Tryd.prog 17 #[.string t] w fun ex w' => ex = .returned (.agg #[.int .i64 ox, .int .i64 oy, .bool of_]) ∧ Below w.heap.size w w') ∧ (∀ w, Calls Tryd.prog 16 #[.agg #[.int .i64 ox, .int .i64 oy, .bool of_], .int .i64 y1] w fun ex w' => ex = .returned (.agg #[.int .i64 wx, .int .i64 wy, .bool wf]) ∧ Below w.heap.size w w'))) := hHB
  have HS : Hid (∀ w, Calls Tryd.prog 18 #[.agg #[.int .i64 x1, .int .i64 y1], .string t] w fun ex w' => ex = .returned (.tuple #[.agg #[.int .i64 wx, .int .i64 wy, .bool wf], v1]) ∧ Below w.heap.size w w') := hHS
  have I1 : Hid (IsErr v1) := hI1
  have HPL : Hid (p = q → ∀ W, Below w.heap.size w W → Calls Tryd.prog 10 #[.slice sx p dx] W fun ex w' => ex = .returned (.int .i64 e2) ∧ Below W.heap.size W w') := hHPL
  have HNE : Hid (p ≠ q → e2 = 3) := hHNE
  have HR1 : Hid ((e2 == 0) = true → (q = 0 ∨ ∃ b o : Nat, sb = some ⟨b, o, none⟩ ∧ RowO w b o q PX PY PF) ∧ q ≤ 12 ∧ j0 ≤ q ∧ (∀ i, i < j0 → (∀ w, Calls Tryd.prog 19 #[.agg #[.int .i64 (PX i), .int .i64 (PY i), .bool (PF i)]] w fun ex w' => ex = .returned (.int .i64 0) ∧ Below w.heap.size w w')) ∧ ((j0 = q ∧ e3 = 0) ∨ (j0 < q ∧ (∀ w, Calls Tryd.prog 19 #[.agg #[.int .i64 (PX j0), .int .i64 (PY j0), .bool (PF j0)]] w fun ex w' => ex = .returned (.int .i64 e3) ∧ Below w.heap.size w w') ∧ (e3 == 0) = false))) := hHR1
  have HR0 : Hid ((e2 == 0) = false → e3 = e2) := hHR0
  have HW : Hid ((e3 == 0) = true → (q = 0 ∨ ∃ b o : Nat, sb = some ⟨b, o, none⟩ ∧ RowO w b o q PX PY PF) ∧ q ≤ 12 ∧ (∀ W, Below w.heap.size w W → Calls Tryd.prog 11 #[.slice sx p dx] W fun e w' => GivesI W q WX e w') ∧ (MX 0 = 0 ∧ MY 0 = 0 ∧ MF 0 = true) ∧ (MX q = jx ∧ MY q = jy ∧ MF q = jf) ∧ ∀ i, i < q → (∀ w, Calls Tryd.prog 16 #[.agg #[.int .i64 (PX i), .int .i64 (PY i), .bool (PF i)], .int .i64 (WX i)] w fun ex w' => ex = .returned (.agg #[.int .i64 (TX i), .int .i64 (TY i), .bool (TF i)]) ∧ Below w.heap.size w w') ∧ (∀ w, Calls Tryd.prog 20 #[.agg #[.int .i64 (MX i), .int .i64 (MY i), .bool (MF i)], .agg #[.int .i64 (TX i), .int .i64 (TY i), .bool (TF i)]] w fun ex w' => ex = .returned (.agg #[.int .i64 (MX (i + 1)), .int .i64 (MY (i + 1)), .bool (MF (i + 1))]) ∧ Below w.heap.size w w')) := hHW
  have HW0 : Hid ((e3 == 0) = false → jx = 0 ∧ jy = 0 ∧ jf = false) := hHW0
  have HJJ : Hid (∀ W, Below w.heap.size w W → Calls Tryd.prog 21 #[.slice sx p dx, .slice sb q db] W fun ex w' => ex = .returned (.tuple #[.agg #[.int .i64 jx, .int .i64 jy, .bool jf], v3]) ∧ Below W.heap.size W w') := hHJJ
  have I3 : Hid (IsErr v3) := hI3
  have HC : Hid ((12 < n ∧ e4 = 4) ∨ (¬ 12 < n ∧ e4 = 0)) := hHC
  have HK : Hid ((e4 == 0) = true → (n = 0 ∨ ∃ b o : Nat, sl = some ⟨b, o, none⟩ ∧ RowP w b o n LX LY) ∧ n ≤ 12 ∧ j1 ≤ n ∧ (∀ i, i < j1 → (∀ w, Calls Tryd.prog 15 #[.agg #[.int .i64 (LX i), .int .i64 (LY i)]] w fun ex w' => ex = .returned (.bool true) ∧ Below w.heap.size w w') ∧ (∀ w, Calls Tryd.prog 22 #[.int .i64 (LY i)] w fun ex w' => ex = .returned (.agg #[.int .i64 (KX i), .int .i64 (KY i), .bool (KF i)]) ∧ Below w.heap.size w w')) ∧ ((j1 = n ∧ e5 = 0) ∨ (j1 < n ∧ (∀ w, Calls Tryd.prog 15 #[.agg #[.int .i64 (LX j1), .int .i64 (LY j1)]] w fun ex w' => ex = .returned (.bool false) ∧ Below w.heap.size w w') ∧ e5 = 1))) := hHK
  have HK0 : Hid ((e4 == 0) = false → e5 = e4 ∧ (e5 == 0) = false) := hHK0
  have HN : Hid ((e5 == 0) = true → n ≤ 12) := hHN
  have HU : Hid (∀ W, Below w.heap.size w W → Calls Tryd.prog 23 #[.slice sl n dl] W fun ex w' => ∃ u, ex = .returned (.tuple #[u, v5]) ∧ ((e5 == 0) = true → w'.ownsRow W.heap.size 45 3 u n (cellsT KX KY KF n)) ∧ ((e5 == 0) = false → u = .slice none 0 0) ∧ Below W.heap.size W w') := hHU
  have I5 : Hid (IsErr v5) := hI5
  clear hd hHSH hHB0 hHB hHS hI1 hHPL hHNE hHR1 hHR0 hHW hHW0 hHJJ hI3 hHC hHK hHK0 hHN hHU hI5
  obtain ⟨s0, hs, hu0, hu1, hu2⟩ := info_parts sinfoD
  have m1 : True := trivial; have m2 : True := trivial; have m3 : True := trivial; have m4 : True := trivial; have m5 : True := trivial; have m6 : True := trivial; have m7 : True := trivial; have m8 : True := trivial; have m9 : True := trivial; have m10 : True := trivial; have m11 : True := trivial; have m12 : True := trivial; have m13 : True := trivial; have m14 : True := trivial; have m15 : True := trivial; have m16 : True := trivial
  go_enter Tryd.func4, Tryd.ntmps4
  go_upto_if 30 with (go_at_call 15; clear m1; refine (HSH.out _).mono ?_; rintro e w1 ⟨rfl, hbw1⟩; have ksw1 : At w1 (w.heap.size) [.int .i64 x1, .int .i64 y1] := (by repeat (first | (with_reducible assumption) | ((with_reducible refine at_new' _ _ _ _ ?_); (first | rfl | (simp; done))) | (with_reducible refine At.alloc ?_ _) | (with_reducible refine At.drew ?_) | (with_reducible refine At.drewN ?_) | (with_reducible refine At.set ?_ (by omega)) | (with_reducible apply At.store4) | (with_reducible apply At.store3) | (with_reducible apply At.store2) | (with_reducible apply At.put43) | (refine At.below ?_ (by with_reducible assumption)))); have hqw1 : Below w.heap.size w w1 := (by repeat (first | (with_reducible exact Below.refl _ _) | (with_reducible assumption) | (with_reducible refine Below.setCell ?_ (by first | (simp; done) | (simp; omega) | omega) _) | (with_reducible refine Below.alloc ?_ (by first | (simp; done) | (simp; omega) | omega) _) | (refine bl_call ?_ (by assumption) (by first | (simp; done) | (simp; omega) | omega)) | (with_reducible refine bl_drewN ?_) | (with_reducible refine Below.drew ?_) | (with_reducible refine bl_grow ?_ (by first | (simp; done) | (simp; omega) | omega)))); have hzw1 := hqw1.size; obtain ⟨zsw1, cs0w1, cs1w1, fs0w1, fs1w1⟩ := ksw1.two; clear hbw1)
  refine wp_gen (fun V => At V (w.heap.size) [.int .i64 x1, .int .i64 y1] ∧ At V (w1.heap.size) [.int .i64 0, .int .i64 0, .bool false] ∧ Below w.heap.size w V) ⟨by repeat (first | (with_reducible assumption) | ((with_reducible refine at_new' _ _ _ _ ?_); (first | rfl | (simp; done))) | (with_reducible refine At.alloc ?_ _) | (with_reducible refine At.drew ?_) | (with_reducible refine At.drewN ?_) | (with_reducible refine At.set ?_ (by omega)) | (with_reducible apply At.store4) | (with_reducible apply At.store3) | (with_reducible apply At.store2) | (with_reducible apply At.put43) | (refine At.below ?_ (by with_reducible assumption))), by repeat (first | (with_reducible assumption) | ((with_reducible refine at_new' _ _ _ _ ?_); (first | rfl | (simp; done))) | (with_reducible refine At.alloc ?_ _) | (with_reducible refine At.drew ?_) | (with_reducible refine At.drewN ?_) | (with_reducible refine At.set ?_ (by omega)) | (with_reducible apply At.store4) | (with_reducible apply At.store3) | (with_reducible apply At.store2) | (with_reducible apply At.put43) | (refine At.below ?_ (by with_reducible assumption))), by repeat (first | (with_reducible exact Below.refl _ _) | (with_reducible assumption) | (with_reducible refine Below.setCell ?_ (by first | (simp; done) | (simp; omega) | omega) _) | (with_reducible refine Below.alloc ?_ (by first | (simp; done) | (simp; omega) | omega) _) | (refine bl_call ?_ (by assumption) (by first | (simp; done) | (simp; omega) | omega)) | (with_reducible refine bl_drewN ?_) | (with_reducible refine Below.drew ?_) | (with_reducible refine bl_grow ?_ (by first | (simp; done) | (simp; omega) | omega)))⟩ ?_
  rintro V ⟨ksV, kwV, hqV⟩
  have hzV := hqV.size
  clear ksw1 cs0w1 fs0w1 cs1w1 fs1w1 hqw1
  obtain ⟨zsV, cs0V, cs1V, fs0V, fs1V⟩ := ksV.two
  obtain ⟨zwV, cw0V, cw1V, cw2V, fw0V, fw1V, fw2V⟩ := kwV.three
  go_cut [11] from 27 to 38 (fun t11 wx_ => t11 = .int .i64 e1 ∧ At wx_ (w.heap.size) [.int .i64 x1, .int .i64 y1] ∧ At wx_ (w1.heap.size) [.int .i64 wx, .int .i64 wy, .bool wf] ∧ Below w.heap.size w wx_)
  case first => as_aux_lemma =>
    cases a
    · obtain ⟨rfl, rfl, rfl, rfl⟩ := HB0.out rfl
      go_wp2_with fail
      go_meet
      case rel => exact ⟨rfl, by repeat (first | (with_reducible assumption) | ((with_reducible refine at_new' _ _ _ _ ?_); (first | rfl | (simp; done))) | (with_reducible refine At.alloc ?_ _) | (with_reducible refine At.drew ?_) | (with_reducible refine At.drewN ?_) | (with_reducible refine At.set ?_ (by omega)) | (with_reducible apply At.store4) | (with_reducible apply At.store3) | (with_reducible apply At.store2) | (with_reducible apply At.put43) | (refine At.below ?_ (by with_reducible assumption))), by repeat (first | (with_reducible assumption) | ((with_reducible refine at_new' _ _ _ _ ?_); (first | rfl | (simp; done))) | (with_reducible refine At.alloc ?_ _) | (with_reducible refine At.drew ?_) | (with_reducible refine At.drewN ?_) | (with_reducible refine At.set ?_ (by omega)) | (with_reducible apply At.store4) | (with_reducible apply At.store3) | (with_reducible apply At.store2) | (with_reducible apply At.put43) | (refine At.below ?_ (by with_reducible assumption))), by repeat (first | (with_reducible exact Below.refl _ _) | (with_reducible assumption) | (with_reducible refine Below.setCell ?_ (by first | (simp; done) | (simp; omega) | omega) _) | (with_reducible refine Below.alloc ?_ (by first | (simp; done) | (simp; omega) | omega) _) | (refine bl_call ?_ (by assumption) (by first | (simp; done) | (simp; omega) | omega)) | (with_reducible refine bl_drewN ?_) | (with_reducible refine Below.drew ?_) | (with_reducible refine bl_grow ?_ (by first | (simp; done) | (simp; omega) | omega)))⟩
    · rcases HB.out rfl with ⟨ht, rfl, rfl, rfl, rfl⟩ | ⟨ht, rfl, hO, hT⟩
      · have ht' : (t.size : Int) > 60 := by omega
        clear ht
        go_wp2_with fail
        go_meet
        case rel => exact ⟨rfl, by repeat (first | (with_reducible assumption) | ((with_reducible refine at_new' _ _ _ _ ?_); (first | rfl | (simp; done))) | (with_reducible refine At.alloc ?_ _) | (with_reducible refine At.drew ?_) | (with_reducible refine At.drewN ?_) | (with_reducible refine At.set ?_ (by omega)) | (with_reducible apply At.store4) | (with_reducible apply At.store3) | (with_reducible apply At.store2) | (with_reducible apply At.put43) | (refine At.below ?_ (by with_reducible assumption))), by repeat (first | (with_reducible assumption) | ((with_reducible refine at_new' _ _ _ _ ?_); (first | rfl | (simp; done))) | (with_reducible refine At.alloc ?_ _) | (with_reducible refine At.drew ?_) | (with_reducible refine At.drewN ?_) | (with_reducible refine At.set ?_ (by omega)) | (with_reducible apply At.store4) | (with_reducible apply At.store3) | (with_reducible apply At.store2) | (with_reducible apply At.put43) | (refine At.below ?_ (by with_reducible assumption))), by repeat (first | (with_reducible exact Below.refl _ _) | (with_reducible assumption) | (with_reducible refine Below.setCell ?_ (by first | (simp; done) | (simp; omega) | omega) _) | (with_reducible refine Below.alloc ?_ (by first | (simp; done) | (simp; omega) | omega) _) | (refine bl_call ?_ (by assumption) (by first | (simp; done) | (simp; omega) | omega)) | (with_reducible refine bl_drewN ?_) | (with_reducible refine Below.drew ?_) | (with_reducible refine bl_grow ?_ (by first | (simp; done) | (simp; omega) | omega)))⟩
      · have ht' : ¬ (t.size : Int) > 60 := by omega
        have HO_ : Hid (∀ w, Calls Tryd.prog 17 #[.string t] w fun ex w' => ex = .returned (.agg #[.int .i64 ox, .int .i64 oy, .bool of_]) ∧ Below w.heap.size w w') := hO
        have HT_ : Hid (∀ w, Calls Tryd.prog 16 #[.agg #[.int .i64 ox, .int .i64 oy, .bool of_], .int .i64 y1] w fun ex w' => ex = .returned (.agg #[.int .i64 wx, .int .i64 wy, .bool wf]) ∧ Below w.heap.size w w') := hT
        clear ht hO hT
        go_wp2_with fail
        refine below_last (by kernel_rfl) (by kernel_rfl) ?_
        dsimp only [List.dropLast, List.length, List.drop]
        repeat (go_big_quiet_step (first | (go_at_call 17; with_reducible exact Calls.regrown_of (HO_.out _)) | (go_at_call 16; with_reducible exact Calls.regrown_of (HT_.out _))))
        refine wpQuiet_nil ?_
        intro V2 hw1
        have hrV2 := regrown_below hw1
        clear hw1
        have ksV2 := ksV.below hrV2
        have kwV2 := kwV.below hrV2
        have hqV2 := bl_call hqV hrV2 (by omega)
        have hzV2 := hqV2.size
        clear hrV2 ksV cs0V fs0V cs1V fs1V kwV cw0V fw0V cw1V fw1V cw2V fw2V hqV
        obtain ⟨zsV2, cs0V2, cs1V2, fs0V2, fs1V2⟩ := ksV2.two
        obtain ⟨zwV2, cw0V2, cw1V2, cw2V2, fw0V2, fw1V2, fw2V2⟩ := kwV2.three
        go_wp2_with fail
        go_meet
        case rel => exact ⟨rfl, by repeat (first | (with_reducible assumption) | ((with_reducible refine at_new' _ _ _ _ ?_); (first | rfl | (simp; done))) | (with_reducible refine At.alloc ?_ _) | (with_reducible refine At.drew ?_) | (with_reducible refine At.drewN ?_) | (with_reducible refine At.set ?_ (by omega)) | (with_reducible apply At.store4) | (with_reducible apply At.store3) | (with_reducible apply At.store2) | (with_reducible apply At.put43) | (refine At.below ?_ (by with_reducible assumption))), by repeat (first | (with_reducible assumption) | ((with_reducible refine at_new' _ _ _ _ ?_); (first | rfl | (simp; done))) | (with_reducible refine At.alloc ?_ _) | (with_reducible refine At.drew ?_) | (with_reducible refine At.drewN ?_) | (with_reducible refine At.set ?_ (by omega)) | (with_reducible apply At.store4) | (with_reducible apply At.store3) | (with_reducible apply At.store2) | (with_reducible apply At.put43) | (refine At.below ?_ (by with_reducible assumption))), by repeat (first | (with_reducible exact Below.refl _ _) | (with_reducible assumption) | (with_reducible refine Below.setCell ?_ (by first | (simp; done) | (simp; omega) | omega) _) | (with_reducible refine Below.alloc ?_ (by first | (simp; done) | (simp; omega) | omega) _) | (refine bl_call ?_ (by assumption) (by first | (simp; done) | (simp; omega) | omega)) | (with_reducible refine bl_drewN ?_) | (with_reducible refine Below.drew ?_) | (with_reducible refine bl_grow ?_ (by first | (simp; done) | (simp; omega) | omega)))⟩
  case rest =>
  obtain ⟨rfl, hcut⟩ := hcut
  clear ksV cs0V fs0V cs1V fs1V kwV cw0V fw0V cw1V fw1V cw2V fw2V hqV
  obtain ⟨kswc, kwwc, hqwc⟩ := hcut
  have hzwc := hqwc.size
  obtain ⟨zswc, cs0wc, cs1wc, fs0wc, fs1wc⟩ := kswc.two
  obtain ⟨zwwc, cw0wc, cw1wc, cw2wc, fw0wc, fw1wc, fw2wc⟩ := kwwc.three
  go_upto_if 58 with (first | (go_at_call 18; clear m2; refine (HS.out _).mono ?_; rintro e w3 ⟨rfl, hbw3⟩; have ksw3 : At w3 (w.heap.size) [.int .i64 x1, .int .i64 y1] := (by repeat (first | (with_reducible assumption) | ((with_reducible refine at_new' _ _ _ _ ?_); (first | rfl | (simp; done))) | (with_reducible refine At.alloc ?_ _) | (with_reducible refine At.drew ?_) | (with_reducible refine At.drewN ?_) | (with_reducible refine At.set ?_ (by omega)) | (with_reducible apply At.store4) | (with_reducible apply At.store3) | (with_reducible apply At.store2) | (with_reducible apply At.put43) | (refine At.below ?_ (by with_reducible assumption)))); have kww3 : At w3 (w1.heap.size) [.int .i64 wx, .int .i64 wy, .bool wf] := (by repeat (first | (with_reducible assumption) | ((with_reducible refine at_new' _ _ _ _ ?_); (first | rfl | (simp; done))) | (with_reducible refine At.alloc ?_ _) | (with_reducible refine At.drew ?_) | (with_reducible refine At.drewN ?_) | (with_reducible refine At.set ?_ (by omega)) | (with_reducible apply At.store4) | (with_reducible apply At.store3) | (with_reducible apply At.store2) | (with_reducible apply At.put43) | (refine At.below ?_ (by with_reducible assumption)))); have hqw3 : Below w.heap.size w w3 := (by repeat (first | (with_reducible exact Below.refl _ _) | (with_reducible assumption) | (with_reducible refine Below.setCell ?_ (by first | (simp; done) | (simp; omega) | omega) _) | (with_reducible refine Below.alloc ?_ (by first | (simp; done) | (simp; omega) | omega) _) | (refine bl_call ?_ (by assumption) (by first | (simp; done) | (simp; omega) | omega)) | (with_reducible refine bl_drewN ?_) | (with_reducible refine Below.drew ?_) | (with_reducible refine bl_grow ?_ (by first | (simp; done) | (simp; omega) | omega)))); have hzw3 := hqw3.size; obtain ⟨zsw3, cs0w3, cs1w3, fs0w3, fs1w3⟩ := ksw3.two; obtain ⟨zww3, cw0w3, cw1w3, cw2w3, fw0w3, fw1w3, fw2w3⟩ := kww3.three; clear kswc cs0wc fs0wc cs1wc fs1wc kwwc cw0wc fw0wc cw1wc fw1wc cw2wc fw2wc hqwc; clear hbw3) | (go_at_call 8; clear m3; refine (same_below _ _ _ (I1.out) (HD.out.under (by repeat (first | (with_reducible exact Below.refl _ _) | (with_reducible assumption) | (with_reducible refine Below.setCell ?_ (by first | (simp; done) | (simp; omega) | omega) _) | (with_reducible refine Below.alloc ?_ (by first | (simp; done) | (simp; omega) | omega) _) | (refine bl_call ?_ (by assumption) (by first | (simp; done) | (simp; omega) | omega)) | (with_reducible refine bl_drewN ?_) | (with_reducible refine Below.drew ?_) | (with_reducible refine bl_grow ?_ (by first | (simp; done) | (simp; omega) | omega)))))).mono ?_; rintro e w4 ⟨rfl, hbw4⟩; have ksw4 : At w4 (w.heap.size) [.int .i64 x1, .int .i64 y1] := (by repeat (first | (with_reducible assumption) | ((with_reducible refine at_new' _ _ _ _ ?_); (first | rfl | (simp; done))) | (with_reducible refine At.alloc ?_ _) | (with_reducible refine At.drew ?_) | (with_reducible refine At.drewN ?_) | (with_reducible refine At.set ?_ (by omega)) | (with_reducible apply At.store4) | (with_reducible apply At.store3) | (with_reducible apply At.store2) | (with_reducible apply At.put43) | (refine At.below ?_ (by with_reducible assumption)))); have kww4 : At w4 (w1.heap.size) [.int .i64 wx, .int .i64 wy, .bool wf] := (by repeat (first | (with_reducible assumption) | ((with_reducible refine at_new' _ _ _ _ ?_); (first | rfl | (simp; done))) | (with_reducible refine At.alloc ?_ _) | (with_reducible refine At.drew ?_) | (with_reducible refine At.drewN ?_) | (with_reducible refine At.set ?_ (by omega)) | (with_reducible apply At.store4) | (with_reducible apply At.store3) | (with_reducible apply At.store2) | (with_reducible apply At.put43) | (refine At.below ?_ (by with_reducible assumption)))); have kpw4 : At w4 (w3.heap.size) [.int .i64 wx, .int .i64 wy, .bool wf] := (by repeat (first | (with_reducible assumption) | ((with_reducible refine at_new' _ _ _ _ ?_); (first | rfl | (simp; done))) | (with_reducible refine At.alloc ?_ _) | (with_reducible refine At.drew ?_) | (with_reducible refine At.drewN ?_) | (with_reducible refine At.set ?_ (by omega)) | (with_reducible apply At.store4) | (with_reducible apply At.store3) | (with_reducible apply At.store2) | (with_reducible apply At.put43) | (refine At.below ?_ (by with_reducible assumption)))); have hqw4 : Below w.heap.size w w4 := (by repeat (first | (with_reducible exact Below.refl _ _) | (with_reducible assumption) | (with_reducible refine Below.setCell ?_ (by first | (simp; done) | (simp; omega) | omega) _) | (with_reducible refine Below.alloc ?_ (by first | (simp; done) | (simp; omega) | omega) _) | (refine bl_call ?_ (by assumption) (by first | (simp; done) | (simp; omega) | omega)) | (with_reducible refine bl_drewN ?_) | (with_reducible refine Below.drew ?_) | (with_reducible refine bl_grow ?_ (by first | (simp; done) | (simp; omega) | omega)))); have hzw4 := hqw4.size; obtain ⟨zsw4, cs0w4, cs1w4, fs0w4, fs1w4⟩ := ksw4.two; obtain ⟨zww4, cw0w4, cw1w4, cw2w4, fw0w4, fw1w4, fw2w4⟩ := kww4.three; obtain ⟨zpw4, cp0w4, cp1w4, cp2w4, fp0w4, fp1w4, fp2w4⟩ := kpw4.three; clear ksw3 cs0w3 fs0w3 cs1w3 fs1w3 kww3 cw0w3 fw0w3 cw1w3 fw1w3 cw2w3 fw2w3 hqw3; clear hbw4))
  refine wp_gen (fun V3 => At V3 (w1.heap.size) [.int .i64 0, .int .i64 0, .bool false] ∧ At V3 (w3.heap.size) [.int .i64 wx, .int .i64 wy, .bool wf] ∧ Below w.heap.size w V3) ⟨by repeat (first | (with_reducible assumption) | ((with_reducible refine at_new' _ _ _ _ ?_); (first | rfl | (simp; done))) | (with_reducible refine At.alloc ?_ _) | (with_reducible refine At.drew ?_) | (with_reducible refine At.drewN ?_) | (with_reducible refine At.set ?_ (by omega)) | (with_reducible apply At.store4) | (with_reducible apply At.store3) | (with_reducible apply At.store2) | (with_reducible apply At.put43) | (refine At.below ?_ (by with_reducible assumption))), by repeat (first | (with_reducible assumption) | ((with_reducible refine at_new' _ _ _ _ ?_); (first | rfl | (simp; done))) | (with_reducible refine At.alloc ?_ _) | (with_reducible refine At.drew ?_) | (with_reducible refine At.drewN ?_) | (with_reducible refine At.set ?_ (by omega)) | (with_reducible apply At.store4) | (with_reducible apply At.store3) | (with_reducible apply At.store2) | (with_reducible apply At.put43) | (refine At.below ?_ (by with_reducible assumption))), by repeat (first | (with_reducible exact Below.refl _ _) | (with_reducible assumption) | (with_reducible refine Below.setCell ?_ (by first | (simp; done) | (simp; omega) | omega) _) | (with_reducible refine Below.alloc ?_ (by first | (simp; done) | (simp; omega) | omega) _) | (refine bl_call ?_ (by assumption) (by first | (simp; done) | (simp; omega) | omega)) | (with_reducible refine bl_drewN ?_) | (with_reducible refine Below.drew ?_) | (with_reducible refine bl_grow ?_ (by first | (simp; done) | (simp; omega) | omega)))⟩ ?_
  rintro V3 ⟨kwV3, kpV3, hqV3⟩
  have hzV3 := hqV3.size
  clear ksw4 cs0w4 fs0w4 cs1w4 fs1w4 kww4 cw0w4 fw0w4 cw1w4 fw1w4 cw2w4 fw2w4 kpw4 cp0w4 fp0w4 cp1w4 fp1w4 cp2w4 fp2w4 hqw4
  obtain ⟨zwV3, cw0V3, cw1V3, cw2V3, fw0V3, fw1V3, fw2V3⟩ := kwV3.three
  obtain ⟨zpV3, cp0V3, cp1V3, cp2V3, fp0V3, fp1V3, fp2V3⟩ := kpV3.three

  go_cut [11] from 27 to 60 (fun t11 wx_ => t11 = .int .i64 e2 ∧ At wx_ (w1.heap.size) [.int .i64 0, .int .i64 0, .bool false] ∧ At wx_ (w3.heap.size) [.int .i64 wx, .int .i64 wy, .bool wf] ∧ Below w.heap.size w wx_)
  case first => as_aux_lemma =>
    by_cases hpq : p = q
    · have hpq' : ((p : Int) != (q : Int)) = false := by rw [hpq]; simp
      have HE : Hid (∀ W, Below w.heap.size w W → Calls Tryd.prog 10 #[.slice sx p dx] W fun ex w' => ex = .returned (.int .i64 e2) ∧ Below W.heap.size W w') := HPL.out hpq
      clear hpq
      go_wp2_with (go_at_call 10; clear m4; refine (HE.out _ (by repeat (first | (with_reducible exact Below.refl _ _) | (with_reducible assumption) | (with_reducible refine Below.setCell ?_ (by first | (simp; done) | (simp; omega) | omega) _) | (with_reducible refine Below.alloc ?_ (by first | (simp; done) | (simp; omega) | omega) _) | (refine bl_call ?_ (by assumption) (by first | (simp; done) | (simp; omega) | omega)) | (with_reducible refine bl_drewN ?_) | (with_reducible refine Below.drew ?_) | (with_reducible refine bl_grow ?_ (by first | (simp; done) | (simp; omega) | omega))))).mono ?_; rintro e w5 ⟨rfl, hbw5⟩; have kww5 : At w5 (w1.heap.size) [.int .i64 0, .int .i64 0, .bool false] := (by repeat (first | (with_reducible assumption) | ((with_reducible refine at_new' _ _ _ _ ?_); (first | rfl | (simp; done))) | (with_reducible refine At.alloc ?_ _) | (with_reducible refine At.drew ?_) | (with_reducible refine At.drewN ?_) | (with_reducible refine At.set ?_ (by omega)) | (with_reducible apply At.store4) | (with_reducible apply At.store3) | (with_reducible apply At.store2) | (with_reducible apply At.put43) | (refine At.below ?_ (by with_reducible assumption)))); have kpw5 : At w5 (w3.heap.size) [.int .i64 wx, .int .i64 wy, .bool wf] := (by repeat (first | (with_reducible assumption) | ((with_reducible refine at_new' _ _ _ _ ?_); (first | rfl | (simp; done))) | (with_reducible refine At.alloc ?_ _) | (with_reducible refine At.drew ?_) | (with_reducible refine At.drewN ?_) | (with_reducible refine At.set ?_ (by omega)) | (with_reducible apply At.store4) | (with_reducible apply At.store3) | (with_reducible apply At.store2) | (with_reducible apply At.put43) | (refine At.below ?_ (by with_reducible assumption)))); have hqw5 : Below w.heap.size w w5 := (by repeat (first | (with_reducible exact Below.refl _ _) | (with_reducible assumption) | (with_reducible refine Below.setCell ?_ (by first | (simp; done) | (simp; omega) | omega) _) | (with_reducible refine Below.alloc ?_ (by first | (simp; done) | (simp; omega) | omega) _) | (refine bl_call ?_ (by assumption) (by first | (simp; done) | (simp; omega) | omega)) | (with_reducible refine bl_drewN ?_) | (with_reducible refine Below.drew ?_) | (with_reducible refine bl_grow ?_ (by first | (simp; done) | (simp; omega) | omega)))); have hzw5 := hqw5.size; obtain ⟨zww5, cw0w5, cw1w5, cw2w5, fw0w5, fw1w5, fw2w5⟩ := kww5.three; obtain ⟨zpw5, cp0w5, cp1w5, cp2w5, fp0w5, fp1w5, fp2w5⟩ := kpw5.three; clear kwV3 cw0V3 fw0V3 cw1V3 fw1V3 cw2V3 fw2V3 kpV3 cp0V3 fp0V3 cp1V3 fp1V3 cp2V3 fp2V3 hqV3; clear hbw5)
      go_meet
      case rel => exact ⟨rfl, by repeat (first | (with_reducible assumption) | ((with_reducible refine at_new' _ _ _ _ ?_); (first | rfl | (simp; done))) | (with_reducible refine At.alloc ?_ _) | (with_reducible refine At.drew ?_) | (with_reducible refine At.drewN ?_) | (with_reducible refine At.set ?_ (by omega)) | (with_reducible apply At.store4) | (with_reducible apply At.store3) | (with_reducible apply At.store2) | (with_reducible apply At.put43) | (refine At.below ?_ (by with_reducible assumption))), by repeat (first | (with_reducible assumption) | ((with_reducible refine at_new' _ _ _ _ ?_); (first | rfl | (simp; done))) | (with_reducible refine At.alloc ?_ _) | (with_reducible refine At.drew ?_) | (with_reducible refine At.drewN ?_) | (with_reducible refine At.set ?_ (by omega)) | (with_reducible apply At.store4) | (with_reducible apply At.store3) | (with_reducible apply At.store2) | (with_reducible apply At.put43) | (refine At.below ?_ (by with_reducible assumption))), by repeat (first | (with_reducible exact Below.refl _ _) | (with_reducible assumption) | (with_reducible refine Below.setCell ?_ (by first | (simp; done) | (simp; omega) | omega) _) | (with_reducible refine Below.alloc ?_ (by first | (simp; done) | (simp; omega) | omega) _) | (refine bl_call ?_ (by assumption) (by first | (simp; done) | (simp; omega) | omega)) | (with_reducible refine bl_drewN ?_) | (with_reducible refine Below.drew ?_) | (with_reducible refine bl_grow ?_ (by first | (simp; done) | (simp; omega) | omega)))⟩
    · have hpq' : ((p : Int) != (q : Int)) = true := by rw [bne_iff_ne]; omega
      have he := HNE.out hpq
      clear hpq
      go_wp2_with fail
      go_meet
      case rel => exact ⟨by rw [he], by repeat (first | (with_reducible assumption) | ((with_reducible refine at_new' _ _ _ _ ?_); (first | rfl | (simp; done))) | (with_reducible refine At.alloc ?_ _) | (with_reducible refine At.drew ?_) | (with_reducible refine At.drewN ?_) | (with_reducible refine At.set ?_ (by omega)) | (with_reducible apply At.store4) | (with_reducible apply At.store3) | (with_reducible apply At.store2) | (with_reducible apply At.put43) | (refine At.below ?_ (by with_reducible assumption))), by repeat (first | (with_reducible assumption) | ((with_reducible refine at_new' _ _ _ _ ?_); (first | rfl | (simp; done))) | (with_reducible refine At.alloc ?_ _) | (with_reducible refine At.drew ?_) | (with_reducible refine At.drewN ?_) | (with_reducible refine At.set ?_ (by omega)) | (with_reducible apply At.store4) | (with_reducible apply At.store3) | (with_reducible apply At.store2) | (with_reducible apply At.put43) | (refine At.below ?_ (by with_reducible assumption))), by repeat (first | (with_reducible exact Below.refl _ _) | (with_reducible assumption) | (with_reducible refine Below.setCell ?_ (by first | (simp; done) | (simp; omega) | omega) _) | (with_reducible refine Below.alloc ?_ (by first | (simp; done) | (simp; omega) | omega) _) | (refine bl_call ?_ (by assumption) (by first | (simp; done) | (simp; omega) | omega)) | (with_reducible refine bl_drewN ?_) | (with_reducible refine Below.drew ?_) | (with_reducible refine bl_grow ?_ (by first | (simp; done) | (simp; omega) | omega)))⟩
  case rest =>
  obtain ⟨rfl, hcut⟩ := hcut
  clear kwV3 cw0V3 fw0V3 cw1V3 fw1V3 cw2V3 fw2V3 kpV3 cp0V3 fp0V3 cp1V3 fp1V3 cp2V3 fp2V3 hqV3
  obtain ⟨kwwc, kpwc, hqwc⟩ := hcut
  have hzwc := hqwc.size
  obtain ⟨zwwc, cw0wc, cw1wc, cw2wc, fw0wc, fw1wc, fw2wc⟩ := kwwc.three
  obtain ⟨zpwc, cp0wc, cp1wc, cp2wc, fp0wc, fp1wc, fp2wc⟩ := kpwc.three
  go_upto_block 0 with fail
  refine wp_gen (fun LB => At LB (w1.heap.size) [.int .i64 0, .int .i64 0, .bool false] ∧ At LB (w3.heap.size) [.int .i64 wx, .int .i64 wy, .bool wf] ∧ Below w.heap.size w LB) ⟨by repeat (first | (with_reducible assumption) | ((with_reducible refine at_new' _ _ _ _ ?_); (first | rfl | (simp; done))) | (with_reducible refine At.alloc ?_ _) | (with_reducible refine At.drew ?_) | (with_reducible refine At.drewN ?_) | (with_reducible refine At.set ?_ (by omega)) | (with_reducible apply At.store4) | (with_reducible apply At.store3) | (with_reducible apply At.store2) | (with_reducible apply At.put43) | (refine At.below ?_ (by with_reducible assumption))), by repeat (first | (with_reducible assumption) | ((with_reducible refine at_new' _ _ _ _ ?_); (first | rfl | (simp; done))) | (with_reducible refine At.alloc ?_ _) | (with_reducible refine At.drew ?_) | (with_reducible refine At.drewN ?_) | (with_reducible refine At.set ?_ (by omega)) | (with_reducible apply At.store4) | (with_reducible apply At.store3) | (with_reducible apply At.store2) | (with_reducible apply At.put43) | (refine At.below ?_ (by with_reducible assumption))), by repeat (first | (with_reducible exact Below.refl _ _) | (with_reducible assumption) | (with_reducible refine Below.setCell ?_ (by first | (simp; done) | (simp; omega) | omega) _) | (with_reducible refine Below.alloc ?_ (by first | (simp; done) | (simp; omega) | omega) _) | (refine bl_call ?_ (by assumption) (by first | (simp; done) | (simp; omega) | omega)) | (with_reducible refine bl_drewN ?_) | (with_reducible refine Below.drew ?_) | (with_reducible refine bl_grow ?_ (by first | (simp; done) | (simp; omega) | omega)))⟩ ?_
  rintro LB ⟨kwLB, kpLB, hqLB⟩
  have hzLB := hqLB.size
  clear kwwc cw0wc fw0wc cw1wc fw1wc cw2wc fw2wc kpwc cp0wc fp0wc cp1wc fp1wc cp2wc fp2wc hqwc
  obtain ⟨zwLB, cw0LB, cw1LB, cw2LB, fw0LB, fw1LB, fw2LB⟩ := kwLB.three
  obtain ⟨zpLB, cp0LB, cp1LB, cp2LB, fp0LB, fp1LB, fp2LB⟩ := kpLB.three

  go_cut [11] from 27 to 75 (fun t11 wx_ => t11 = .int .i64 e3 ∧ At wx_ (w1.heap.size) [.int .i64 0, .int .i64 0, .bool false] ∧ At wx_ (w3.heap.size) [.int .i64 wx, .int .i64 wy, .bool wf] ∧ Below w.heap.size w wx_)
  case first => as_aux_lemma =>
    cases he : e2 == 0 with
    | false =>
      have hx : Hid (e3 = e2) := HR0.out he
      go_wp2_with fail
      go_loopw [11, 17] (fun te ti wl => te = .int .i64 e2 ∧ ti = .int .i64 0 ∧ At wl (w1.heap.size) [.int .i64 0, .int .i64 0, .bool false] ∧ At wl (w3.heap.size) [.int .i64 wx, .int .i64 wy, .bool wf] ∧ Below w.heap.size w wl) (fun _ _ _ => 0)
      case atStart => exact ⟨rfl, rfl, by repeat (first | (with_reducible assumption) | ((with_reducible refine at_new' _ _ _ _ ?_); (first | rfl | (simp; done))) | (with_reducible refine At.alloc ?_ _) | (with_reducible refine At.drew ?_) | (with_reducible refine At.drewN ?_) | (with_reducible refine At.set ?_ (by omega)) | (with_reducible apply At.store4) | (with_reducible apply At.store3) | (with_reducible apply At.store2) | (with_reducible apply At.put43) | (refine At.below ?_ (by with_reducible assumption))), by repeat (first | (with_reducible assumption) | ((with_reducible refine at_new' _ _ _ _ ?_); (first | rfl | (simp; done))) | (with_reducible refine At.alloc ?_ _) | (with_reducible refine At.drew ?_) | (with_reducible refine At.drewN ?_) | (with_reducible refine At.set ?_ (by omega)) | (with_reducible apply At.store4) | (with_reducible apply At.store3) | (with_reducible apply At.store2) | (with_reducible apply At.put43) | (refine At.below ?_ (by with_reducible assumption))), by repeat (first | (with_reducible exact Below.refl _ _) | (with_reducible assumption) | (with_reducible refine Below.setCell ?_ (by first | (simp; done) | (simp; omega) | omega) _) | (with_reducible refine Below.alloc ?_ (by first | (simp; done) | (simp; omega) | omega) _) | (refine bl_call ?_ (by assumption) (by first | (simp; done) | (simp; omega) | omega)) | (with_reducible refine bl_drewN ?_) | (with_reducible refine Below.drew ?_) | (with_reducible refine bl_grow ?_ (by first | (simp; done) | (simp; omega) | omega)))⟩
      case round =>
        obtain ⟨rfl, rfl, kwLV, kpLV, hqLV⟩ := hrel
        have hzLV := hqLV.size
        obtain ⟨zwLV, cw0LV, cw1LV, cw2LV, fw0LV, fw1LV, fw2LV⟩ := kwLV.three
        obtain ⟨zpLV, cp0LV, cp1LV, cp2LV, fp0LV, fp1LV, fp2LV⟩ := kpLV.three
        by_cases hlt : 0 < q
        · have hlt' : (0 : Int) < (q : Int) := by omega
          go_wp2_with fail
          go_meet
          case rel => exact ⟨by rw [hx.out], by repeat (first | (with_reducible assumption) | ((with_reducible refine at_new' _ _ _ _ ?_); (first | rfl | (simp; done))) | (with_reducible refine At.alloc ?_ _) | (with_reducible refine At.drew ?_) | (with_reducible refine At.drewN ?_) | (with_reducible refine At.set ?_ (by omega)) | (with_reducible apply At.store4) | (with_reducible apply At.store3) | (with_reducible apply At.store2) | (with_reducible apply At.put43) | (refine At.below ?_ (by with_reducible assumption))), by repeat (first | (with_reducible assumption) | ((with_reducible refine at_new' _ _ _ _ ?_); (first | rfl | (simp; done))) | (with_reducible refine At.alloc ?_ _) | (with_reducible refine At.drew ?_) | (with_reducible refine At.drewN ?_) | (with_reducible refine At.set ?_ (by omega)) | (with_reducible apply At.store4) | (with_reducible apply At.store3) | (with_reducible apply At.store2) | (with_reducible apply At.put43) | (refine At.below ?_ (by with_reducible assumption))), by repeat (first | (with_reducible exact Below.refl _ _) | (with_reducible assumption) | (with_reducible refine Below.setCell ?_ (by first | (simp; done) | (simp; omega) | omega) _) | (with_reducible refine Below.alloc ?_ (by first | (simp; done) | (simp; omega) | omega) _) | (refine bl_call ?_ (by assumption) (by first | (simp; done) | (simp; omega) | omega)) | (with_reducible refine bl_drewN ?_) | (with_reducible refine Below.drew ?_) | (with_reducible refine bl_grow ?_ (by first | (simp; done) | (simp; omega) | omega)))⟩
        · have hlt' : ¬ (0 : Int) < (q : Int) := by omega
          go_wp2_with fail
          go_meet
          case rel => exact ⟨by rw [hx.out], by repeat (first | (with_reducible assumption) | ((with_reducible refine at_new' _ _ _ _ ?_); (first | rfl | (simp; done))) | (with_reducible refine At.alloc ?_ _) | (with_reducible refine At.drew ?_) | (with_reducible refine At.drewN ?_) | (with_reducible refine At.set ?_ (by omega)) | (with_reducible apply At.store4) | (with_reducible apply At.store3) | (with_reducible apply At.store2) | (with_reducible apply At.put43) | (refine At.below ?_ (by with_reducible assumption))), by repeat (first | (with_reducible assumption) | ((with_reducible refine at_new' _ _ _ _ ?_); (first | rfl | (simp; done))) | (with_reducible refine At.alloc ?_ _) | (with_reducible refine At.drew ?_) | (with_reducible refine At.drewN ?_) | (with_reducible refine At.set ?_ (by omega)) | (with_reducible apply At.store4) | (with_reducible apply At.store3) | (with_reducible apply At.store2) | (with_reducible apply At.put43) | (refine At.below ?_ (by with_reducible assumption))), by repeat (first | (with_reducible exact Below.refl _ _) | (with_reducible assumption) | (with_reducible refine Below.setCell ?_ (by first | (simp; done) | (simp; omega) | omega) _) | (with_reducible refine Below.alloc ?_ (by first | (simp; done) | (simp; omega) | omega) _) | (refine bl_call ?_ (by assumption) (by first | (simp; done) | (simp; omega) | omega)) | (with_reducible refine bl_drewN ?_) | (with_reducible refine Below.drew ?_) | (with_reducible refine bl_grow ?_ (by first | (simp; done) | (simp; omega) | omega)))⟩
    | true =>
      obtain ⟨hr, hq12, hj, hok, hend⟩ := HR1.out he
      have HRO : Hid (q = 0 ∨ ∃ b o : Nat, sb = some ⟨b, o, none⟩ ∧ RowO w b o q PX PY PF) := hr
      have HOK : Hid (∀ i, i < j0 → (∀ w, Calls Tryd.prog 19 #[.agg #[.int .i64 (PX i), .int .i64 (PY i), .bool (PF i)]] w fun ex w' => ex = .returned (.int .i64 0) ∧ Below w.heap.size w w')) := hok
      have HEN : Hid ((j0 = q ∧ e3 = 0) ∨ (j0 < q ∧ (∀ w, Calls Tryd.prog 19 #[.agg #[.int .i64 (PX j0), .int .i64 (PY j0), .bool (PF j0)]] w fun ex w' => ex = .returned (.int .i64 e3) ∧ Below w.heap.size w w') ∧ (e3 == 0) = false)) := hend
      have hec : e2 = 0 := by simpa using he
      clear hr hok hend
      subst hec
      go_wp2_with fail
      go_loopw [11, 17] (fun te ti wl => ∃ k : Nat, ti = .int .i64 k ∧ ((k ≤ j0 ∧ te = .int .i64 0) ∨ (k = j0 + 1 ∧ j0 < q ∧ te = .int .i64 e3)) ∧ At wl (w1.heap.size) [.int .i64 0, .int .i64 0, .bool false] ∧ At wl (w3.heap.size) [.int .i64 wx, .int .i64 wy, .bool wf] ∧ Below w.heap.size w wl) (fun _ ti _ => q + 1 - (intOf ti).toNat)
      case atStart => exact ⟨0, rfl, Or.inl ⟨by omega, rfl⟩, by repeat (first | (with_reducible assumption) | ((with_reducible refine at_new' _ _ _ _ ?_); (first | rfl | (simp; done))) | (with_reducible refine At.alloc ?_ _) | (with_reducible refine At.drew ?_) | (with_reducible refine At.drewN ?_) | (with_reducible refine At.set ?_ (by omega)) | (with_reducible apply At.store4) | (with_reducible apply At.store3) | (with_reducible apply At.store2) | (with_reducible apply At.put43) | (refine At.below ?_ (by with_reducible assumption))), by repeat (first | (with_reducible assumption) | ((with_reducible refine at_new' _ _ _ _ ?_); (first | rfl | (simp; done))) | (with_reducible refine At.alloc ?_ _) | (with_reducible refine At.drew ?_) | (with_reducible refine At.drewN ?_) | (with_reducible refine At.set ?_ (by omega)) | (with_reducible apply At.store4) | (with_reducible apply At.store3) | (with_reducible apply At.store2) | (with_reducible apply At.put43) | (refine At.below ?_ (by with_reducible assumption))), by repeat (first | (with_reducible exact Below.refl _ _) | (with_reducible assumption) | (with_reducible refine Below.setCell ?_ (by first | (simp; done) | (simp; omega) | omega) _) | (with_reducible refine Below.alloc ?_ (by first | (simp; done) | (simp; omega) | omega) _) | (refine bl_call ?_ (by assumption) (by first | (simp; done) | (simp; omega) | omega)) | (with_reducible refine bl_drewN ?_) | (with_reducible refine Below.drew ?_) | (with_reducible refine bl_grow ?_ (by first | (simp; done) | (simp; omega) | omega)))⟩
      case round =>
        obtain ⟨k, rfl, hst, kwLV, kpLV, hqLV⟩ := hrel
        have hzLV := hqLV.size
        obtain ⟨zwLV, cw0LV, cw1LV, cw2LV, fw0LV, fw1LV, fw2LV⟩ := kwLV.three
        obtain ⟨zpLV, cp0LV, cp1LV, cp2LV, fp0LV, fp1LV, fp2LV⟩ := kpLV.three
        rcases hst with ⟨hk, rfl⟩ | ⟨rfl, hk, rfl⟩
        · by_cases hlt : k < q
          · have hlt' : (k : Int) < (q : Int) := by omega
            obtain ⟨b, o, rfl, hz⟩ := HRO.out.resolve_left (by omega)
            have hbV := Nat.lt_of_lt_of_le hz.1 hzLV
            obtain ⟨c0, c1, c2⟩ := (hz.below hz.1 hqLV).2 k hlt
            clear hz
            by_cases hkj : k < j0
            · have HK_ : Hid (∀ w, Calls Tryd.prog 19 #[.agg #[.int .i64 (PX k), .int .i64 (PY k), .bool (PF k)]] w fun ex w' => ex = .returned (.int .i64 0) ∧ Below w.heap.size w w') := HOK.out k hkj
              go_wp2_with (go_at_call 19; clear m5; refine (HK_.out _).mono ?_; rintro e w6 ⟨rfl, hbw6⟩; have kww6 : At w6 (w1.heap.size) [.int .i64 0, .int .i64 0, .bool false] := (by repeat (first | (with_reducible assumption) | ((with_reducible refine at_new' _ _ _ _ ?_); (first | rfl | (simp; done))) | (with_reducible refine At.alloc ?_ _) | (with_reducible refine At.drew ?_) | (with_reducible refine At.drewN ?_) | (with_reducible refine At.set ?_ (by omega)) | (with_reducible apply At.store4) | (with_reducible apply At.store3) | (with_reducible apply At.store2) | (with_reducible apply At.put43) | (refine At.below ?_ (by with_reducible assumption)))); have kpw6 : At w6 (w3.heap.size) [.int .i64 wx, .int .i64 wy, .bool wf] := (by repeat (first | (with_reducible assumption) | ((with_reducible refine at_new' _ _ _ _ ?_); (first | rfl | (simp; done))) | (with_reducible refine At.alloc ?_ _) | (with_reducible refine At.drew ?_) | (with_reducible refine At.drewN ?_) | (with_reducible refine At.set ?_ (by omega)) | (with_reducible apply At.store4) | (with_reducible apply At.store3) | (with_reducible apply At.store2) | (with_reducible apply At.put43) | (refine At.below ?_ (by with_reducible assumption)))); have hqw6 : Below w.heap.size w w6 := (by repeat (first | (with_reducible exact Below.refl _ _) | (with_reducible assumption) | (with_reducible refine Below.setCell ?_ (by first | (simp; done) | (simp; omega) | omega) _) | (with_reducible refine Below.alloc ?_ (by first | (simp; done) | (simp; omega) | omega) _) | (refine bl_call ?_ (by assumption) (by first | (simp; done) | (simp; omega) | omega)) | (with_reducible refine bl_drewN ?_) | (with_reducible refine Below.drew ?_) | (with_reducible refine bl_grow ?_ (by first | (simp; done) | (simp; omega) | omega)))); have hzw6 := hqw6.size; obtain ⟨zww6, cw0w6, cw1w6, cw2w6, fw0w6, fw1w6, fw2w6⟩ := kww6.three; obtain ⟨zpw6, cp0w6, cp1w6, cp2w6, fp0w6, fp1w6, fp2w6⟩ := kpw6.three; clear kwLV cw0LV fw0LV cw1LV fw1LV cw2LV fw2LV kpLV cp0LV fp0LV cp1LV fp1LV cp2LV fp2LV hqLV; clear hbw6)
              go_roundw
              case rel => exact ⟨k + 1, by simp, Or.inl ⟨by omega, rfl⟩, by repeat (first | (with_reducible assumption) | ((with_reducible refine at_new' _ _ _ _ ?_); (first | rfl | (simp; done))) | (with_reducible refine At.alloc ?_ _) | (with_reducible refine At.drew ?_) | (with_reducible refine At.drewN ?_) | (with_reducible refine At.set ?_ (by omega)) | (with_reducible apply At.store4) | (with_reducible apply At.store3) | (with_reducible apply At.store2) | (with_reducible apply At.put43) | (refine At.below ?_ (by with_reducible assumption))), by repeat (first | (with_reducible assumption) | ((with_reducible refine at_new' _ _ _ _ ?_); (first | rfl | (simp; done))) | (with_reducible refine At.alloc ?_ _) | (with_reducible refine At.drew ?_) | (with_reducible refine At.drewN ?_) | (with_reducible refine At.set ?_ (by omega)) | (with_reducible apply At.store4) | (with_reducible apply At.store3) | (with_reducible apply At.store2) | (with_reducible apply At.put43) | (refine At.below ?_ (by with_reducible assumption))), by repeat (first | (with_reducible exact Below.refl _ _) | (with_reducible assumption) | (with_reducible refine Below.setCell ?_ (by first | (simp; done) | (simp; omega) | omega) _) | (with_reducible refine Below.alloc ?_ (by first | (simp; done) | (simp; omega) | omega) _) | (refine bl_call ?_ (by assumption) (by first | (simp; done) | (simp; omega) | omega)) | (with_reducible refine bl_drewN ?_) | (with_reducible refine Below.drew ?_) | (with_reducible refine bl_grow ?_ (by first | (simp; done) | (simp; omega) | omega)))⟩
              case measure => simp [intOf]; omega
            · have HKJ : Hid (k = j0) := by unfold Hid; omega
              have HK_ : Hid (∀ w, Calls Tryd.prog 19 #[.agg #[.int .i64 (PX k), .int .i64 (PY k), .bool (PF k)]] w fun ex w' => ex = .returned (.int .i64 e3) ∧ Below w.heap.size w w') := by
                unfold Hid
                rw [HKJ.out]
                rcases HEN.out with h | h
                · exfalso; have := HKJ.out; omega
                · exact h.2.1
              go_wp2_with (go_at_call 19; clear m5; refine (HK_.out _).mono ?_; rintro e w6 ⟨rfl, hbw6⟩; have kww6 : At w6 (w1.heap.size) [.int .i64 0, .int .i64 0, .bool false] := (by repeat (first | (with_reducible assumption) | ((with_reducible refine at_new' _ _ _ _ ?_); (first | rfl | (simp; done))) | (with_reducible refine At.alloc ?_ _) | (with_reducible refine At.drew ?_) | (with_reducible refine At.drewN ?_) | (with_reducible refine At.set ?_ (by omega)) | (with_reducible apply At.store4) | (with_reducible apply At.store3) | (with_reducible apply At.store2) | (with_reducible apply At.put43) | (refine At.below ?_ (by with_reducible assumption)))); have kpw6 : At w6 (w3.heap.size) [.int .i64 wx, .int .i64 wy, .bool wf] := (by repeat (first | (with_reducible assumption) | ((with_reducible refine at_new' _ _ _ _ ?_); (first | rfl | (simp; done))) | (with_reducible refine At.alloc ?_ _) | (with_reducible refine At.drew ?_) | (with_reducible refine At.drewN ?_) | (with_reducible refine At.set ?_ (by omega)) | (with_reducible apply At.store4) | (with_reducible apply At.store3) | (with_reducible apply At.store2) | (with_reducible apply At.put43) | (refine At.below ?_ (by with_reducible assumption)))); have hqw6 : Below w.heap.size w w6 := (by repeat (first | (with_reducible exact Below.refl _ _) | (with_reducible assumption) | (with_reducible refine Below.setCell ?_ (by first | (simp; done) | (simp; omega) | omega) _) | (with_reducible refine Below.alloc ?_ (by first | (simp; done) | (simp; omega) | omega) _) | (refine bl_call ?_ (by assumption) (by first | (simp; done) | (simp; omega) | omega)) | (with_reducible refine bl_drewN ?_) | (with_reducible refine Below.drew ?_) | (with_reducible refine bl_grow ?_ (by first | (simp; done) | (simp; omega) | omega)))); have hzw6 := hqw6.size; obtain ⟨zww6, cw0w6, cw1w6, cw2w6, fw0w6, fw1w6, fw2w6⟩ := kww6.three; obtain ⟨zpw6, cp0w6, cp1w6, cp2w6, fp0w6, fp1w6, fp2w6⟩ := kpw6.three; clear kwLV cw0LV fw0LV cw1LV fw1LV cw2LV fw2LV kpLV cp0LV fp0LV cp1LV fp1LV cp2LV fp2LV hqLV; clear hbw6)
              go_roundw
              case rel => exact ⟨k + 1, by simp, Or.inr ⟨by have := HKJ.out; omega, by have := HKJ.out; omega, rfl⟩, by repeat (first | (with_reducible assumption) | ((with_reducible refine at_new' _ _ _ _ ?_); (first | rfl | (simp; done))) | (with_reducible refine At.alloc ?_ _) | (with_reducible refine At.drew ?_) | (with_reducible refine At.drewN ?_) | (with_reducible refine At.set ?_ (by omega)) | (with_reducible apply At.store4) | (with_reducible apply At.store3) | (with_reducible apply At.store2) | (with_reducible apply At.put43) | (refine At.below ?_ (by with_reducible assumption))), by repeat (first | (with_reducible assumption) | ((with_reducible refine at_new' _ _ _ _ ?_); (first | rfl | (simp; done))) | (with_reducible refine At.alloc ?_ _) | (with_reducible refine At.drew ?_) | (with_reducible refine At.drewN ?_) | (with_reducible refine At.set ?_ (by omega)) | (with_reducible apply At.store4) | (with_reducible apply At.store3) | (with_reducible apply At.store2) | (with_reducible apply At.put43) | (refine At.below ?_ (by with_reducible assumption))), by repeat (first | (with_reducible exact Below.refl _ _) | (with_reducible assumption) | (with_reducible refine Below.setCell ?_ (by first | (simp; done) | (simp; omega) | omega) _) | (with_reducible refine Below.alloc ?_ (by first | (simp; done) | (simp; omega) | omega) _) | (refine bl_call ?_ (by assumption) (by first | (simp; done) | (simp; omega) | omega)) | (with_reducible refine bl_drewN ?_) | (with_reducible refine Below.drew ?_) | (with_reducible refine bl_grow ?_ (by first | (simp; done) | (simp; omega) | omega)))⟩
              case measure => simp [intOf]; omega
          · have hlt' : ¬ (k : Int) < (q : Int) := by omega
            have hed : Hid (e3 = 0) := by
              unfold Hid
              rcases HEN.out with h | h
              · exact h.2
              · omega
            go_wp2_with fail
            go_meet
            case rel => exact ⟨by rw [hed.out], by repeat (first | (with_reducible assumption) | ((with_reducible refine at_new' _ _ _ _ ?_); (first | rfl | (simp; done))) | (with_reducible refine At.alloc ?_ _) | (with_reducible refine At.drew ?_) | (with_reducible refine At.drewN ?_) | (with_reducible refine At.set ?_ (by omega)) | (with_reducible apply At.store4) | (with_reducible apply At.store3) | (with_reducible apply At.store2) | (with_reducible apply At.put43) | (refine At.below ?_ (by with_reducible assumption))), by repeat (first | (with_reducible assumption) | ((with_reducible refine at_new' _ _ _ _ ?_); (first | rfl | (simp; done))) | (with_reducible refine At.alloc ?_ _) | (with_reducible refine At.drew ?_) | (with_reducible refine At.drewN ?_) | (with_reducible refine At.set ?_ (by omega)) | (with_reducible apply At.store4) | (with_reducible apply At.store3) | (with_reducible apply At.store2) | (with_reducible apply At.put43) | (refine At.below ?_ (by with_reducible assumption))), by repeat (first | (with_reducible exact Below.refl _ _) | (with_reducible assumption) | (with_reducible refine Below.setCell ?_ (by first | (simp; done) | (simp; omega) | omega) _) | (with_reducible refine Below.alloc ?_ (by first | (simp; done) | (simp; omega) | omega) _) | (refine bl_call ?_ (by assumption) (by first | (simp; done) | (simp; omega) | omega)) | (with_reducible refine bl_drewN ?_) | (with_reducible refine Below.drew ?_) | (with_reducible refine bl_grow ?_ (by first | (simp; done) | (simp; omega) | omega)))⟩
        · have hed : (e3 == 0) = false := by
            rcases HEN.out with h | h
            · omega
            · exact h.2.2
          by_cases hlt : j0 + 1 < q
          · have hlt' : ((j0 + 1 : Nat) : Int) < (q : Int) := by omega
            go_wp2_with fail
            go_meet
            case rel => exact ⟨rfl, by repeat (first | (with_reducible assumption) | ((with_reducible refine at_new' _ _ _ _ ?_); (first | rfl | (simp; done))) | (with_reducible refine At.alloc ?_ _) | (with_reducible refine At.drew ?_) | (with_reducible refine At.drewN ?_) | (with_reducible refine At.set ?_ (by omega)) | (with_reducible apply At.store4) | (with_reducible apply At.store3) | (with_reducible apply At.store2) | (with_reducible apply At.put43) | (refine At.below ?_ (by with_reducible assumption))), by repeat (first | (with_reducible assumption) | ((with_reducible refine at_new' _ _ _ _ ?_); (first | rfl | (simp; done))) | (with_reducible refine At.alloc ?_ _) | (with_reducible refine At.drew ?_) | (with_reducible refine At.drewN ?_) | (with_reducible refine At.set ?_ (by omega)) | (with_reducible apply At.store4) | (with_reducible apply At.store3) | (with_reducible apply At.store2) | (with_reducible apply At.put43) | (refine At.below ?_ (by with_reducible assumption))), by repeat (first | (with_reducible exact Below.refl _ _) | (with_reducible assumption) | (with_reducible refine Below.setCell ?_ (by first | (simp; done) | (simp; omega) | omega) _) | (with_reducible refine Below.alloc ?_ (by first | (simp; done) | (simp; omega) | omega) _) | (refine bl_call ?_ (by assumption) (by first | (simp; done) | (simp; omega) | omega)) | (with_reducible refine bl_drewN ?_) | (with_reducible refine Below.drew ?_) | (with_reducible refine bl_grow ?_ (by first | (simp; done) | (simp; omega) | omega)))⟩
          · have hlt' : ¬ ((j0 + 1 : Nat) : Int) < (q : Int) := by omega
            go_wp2_with fail
            go_meet
            case rel => exact ⟨rfl, by repeat (first | (with_reducible assumption) | ((with_reducible refine at_new' _ _ _ _ ?_); (first | rfl | (simp; done))) | (with_reducible refine At.alloc ?_ _) | (with_reducible refine At.drew ?_) | (with_reducible refine At.drewN ?_) | (with_reducible refine At.set ?_ (by omega)) | (with_reducible apply At.store4) | (with_reducible apply At.store3) | (with_reducible apply At.store2) | (with_reducible apply At.put43) | (refine At.below ?_ (by with_reducible assumption))), by repeat (first | (with_reducible assumption) | ((with_reducible refine at_new' _ _ _ _ ?_); (first | rfl | (simp; done))) | (with_reducible refine At.alloc ?_ _) | (with_reducible refine At.drew ?_) | (with_reducible refine At.drewN ?_) | (with_reducible refine At.set ?_ (by omega)) | (with_reducible apply At.store4) | (with_reducible apply At.store3) | (with_reducible apply At.store2) | (with_reducible apply At.put43) | (refine At.below ?_ (by with_reducible assumption))), by repeat (first | (with_reducible exact Below.refl _ _) | (with_reducible assumption) | (with_reducible refine Below.setCell ?_ (by first | (simp; done) | (simp; omega) | omega) _) | (with_reducible refine Below.alloc ?_ (by first | (simp; done) | (simp; omega) | omega) _) | (refine bl_call ?_ (by assumption) (by first | (simp; done) | (simp; omega) | omega)) | (with_reducible refine bl_drewN ?_) | (with_reducible refine Below.drew ?_) | (with_reducible refine bl_grow ?_ (by first | (simp; done) | (simp; omega) | omega)))⟩
  case rest =>
  obtain ⟨rfl, hcut⟩ := hcut
  clear kwLB cw0LB fw0LB cw1LB fw1LB cw2LB fw2LB kpLB cp0LB fp0LB cp1LB fp1LB cp2LB fp2LB hqLB
  obtain ⟨kwwc, kpwc, hqwc⟩ := hcut
  have hzwc := hqwc.size
  obtain ⟨zwwc, cw0wc, cw1wc, cw2wc, fw0wc, fw1wc, fw2wc⟩ := kwwc.three
  obtain ⟨zpwc, cp0wc, cp1wc, cp2wc, fp0wc, fp1wc, fp2wc⟩ := kpwc.three
  go_upto_if 77 with fail
  refine wp_gen (fun LC => At LC (w1.heap.size) [.int .i64 0, .int .i64 0, .bool false] ∧ At LC (w3.heap.size) [.int .i64 wx, .int .i64 wy, .bool wf] ∧ Below w.heap.size w LC) ⟨by repeat (first | (with_reducible assumption) | ((with_reducible refine at_new' _ _ _ _ ?_); (first | rfl | (simp; done))) | (with_reducible refine At.alloc ?_ _) | (with_reducible refine At.drew ?_) | (with_reducible refine At.drewN ?_) | (with_reducible refine At.set ?_ (by omega)) | (with_reducible apply At.store4) | (with_reducible apply At.store3) | (with_reducible apply At.store2) | (with_reducible apply At.put43) | (refine At.below ?_ (by with_reducible assumption))), by repeat (first | (with_reducible assumption) | ((with_reducible refine at_new' _ _ _ _ ?_); (first | rfl | (simp; done))) | (with_reducible refine At.alloc ?_ _) | (with_reducible refine At.drew ?_) | (with_reducible refine At.drewN ?_) | (with_reducible refine At.set ?_ (by omega)) | (with_reducible apply At.store4) | (with_reducible apply At.store3) | (with_reducible apply At.store2) | (with_reducible apply At.put43) | (refine At.below ?_ (by with_reducible assumption))), by repeat (first | (with_reducible exact Below.refl _ _) | (with_reducible assumption) | (with_reducible refine Below.setCell ?_ (by first | (simp; done) | (simp; omega) | omega) _) | (with_reducible refine Below.alloc ?_ (by first | (simp; done) | (simp; omega) | omega) _) | (refine bl_call ?_ (by assumption) (by first | (simp; done) | (simp; omega) | omega)) | (with_reducible refine bl_drewN ?_) | (with_reducible refine Below.drew ?_) | (with_reducible refine bl_grow ?_ (by first | (simp; done) | (simp; omega) | omega)))⟩ ?_
  rintro LC ⟨kwLC, kpLC, hqLC⟩
  have hzLC := hqLC.size
  clear kwwc cw0wc fw0wc cw1wc fw1wc cw2wc fw2wc kpwc cp0wc fp0wc cp1wc fp1wc cp2wc fp2wc hqwc
  obtain ⟨zwLC, cw0LC, cw1LC, cw2LC, fw0LC, fw1LC, fw2LC⟩ := kwLC.three
  obtain ⟨zpLC, cp0LC, cp1LC, cp2LC, fp0LC, fp1LC, fp2LC⟩ := kpLC.three

  go_cut [] from 27 to 97 (fun wx_ => At wx_ (w1.heap.size) [.int .i64 jx, .int .i64 jy, .bool jf] ∧ At wx_ (w3.heap.size) [.int .i64 wx, .int .i64 wy, .bool wf] ∧ Below w.heap.size w wx_)
  case first => as_aux_lemma =>
    cases he : e3 == 0 with
    | false =>
      obtain ⟨rfl, rfl, rfl⟩ := HW0.out he
      go_wp2_with fail
      go_meet
      case rel => exact ⟨by repeat (first | (with_reducible assumption) | ((with_reducible refine at_new' _ _ _ _ ?_); (first | rfl | (simp; done))) | (with_reducible refine At.alloc ?_ _) | (with_reducible refine At.drew ?_) | (with_reducible refine At.drewN ?_) | (with_reducible refine At.set ?_ (by omega)) | (with_reducible apply At.store4) | (with_reducible apply At.store3) | (with_reducible apply At.store2) | (with_reducible apply At.put43) | (refine At.below ?_ (by with_reducible assumption))), by repeat (first | (with_reducible assumption) | ((with_reducible refine at_new' _ _ _ _ ?_); (first | rfl | (simp; done))) | (with_reducible refine At.alloc ?_ _) | (with_reducible refine At.drew ?_) | (with_reducible refine At.drewN ?_) | (with_reducible refine At.set ?_ (by omega)) | (with_reducible apply At.store4) | (with_reducible apply At.store3) | (with_reducible apply At.store2) | (with_reducible apply At.put43) | (refine At.below ?_ (by with_reducible assumption))), by repeat (first | (with_reducible exact Below.refl _ _) | (with_reducible assumption) | (with_reducible refine Below.setCell ?_ (by first | (simp; done) | (simp; omega) | omega) _) | (with_reducible refine Below.alloc ?_ (by first | (simp; done) | (simp; omega) | omega) _) | (refine bl_call ?_ (by assumption) (by first | (simp; done) | (simp; omega) | omega)) | (with_reducible refine bl_drewN ?_) | (with_reducible refine Below.drew ?_) | (with_reducible refine bl_grow ?_ (by first | (simp; done) | (simp; omega) | omega)))⟩
    | true =>
      obtain ⟨hr, hq12, hwe, hm0, hmq, hst⟩ := HW.out he
      have HRO : Hid (q = 0 ∨ ∃ b o : Nat, sb = some ⟨b, o, none⟩ ∧ RowO w b o q PX PY PF) := hr
      have HWE : Hid (∀ W, Below w.heap.size w W → Calls Tryd.prog 11 #[.slice sx p dx] W fun e w' => GivesI W q WX e w') := hwe
      have HM0 : Hid (MX 0 = 0 ∧ MY 0 = 0 ∧ MF 0 = true) := hm0
      have HMQ : Hid (MX q = jx ∧ MY q = jy ∧ MF q = jf) := hmq
      have HST : Hid (∀ i, i < q → (∀ w, Calls Tryd.prog 16 #[.agg #[.int .i64 (PX i), .int .i64 (PY i), .bool (PF i)], .int .i64 (WX i)] w fun ex w' => ex = .returned (.agg #[.int .i64 (TX i), .int .i64 (TY i), .bool (TF i)]) ∧ Below w.heap.size w w') ∧ (∀ w, Calls Tryd.prog 20 #[.agg #[.int .i64 (MX i), .int .i64 (MY i), .bool (MF i)], .agg #[.int .i64 (TX i), .int .i64 (TY i), .bool (TF i)]] w fun ex w' => ex = .returned (.agg #[.int .i64 (MX (i + 1)), .int .i64 (MY (i + 1)), .bool (MF (i + 1))]) ∧ Below w.heap.size w w')) := hst
      clear hr hwe hm0 hmq hst
      go_upto_block 2 with (go_at_call 11; clear m6; refine (HWE.out _ (by repeat (first | (with_reducible exact Below.refl _ _) | (with_reducible assumption) | (with_reducible refine Below.setCell ?_ (by first | (simp; done) | (simp; omega) | omega) _) | (with_reducible refine Below.alloc ?_ (by first | (simp; done) | (simp; omega) | omega) _) | (refine bl_call ?_ (by assumption) (by first | (simp; done) | (simp; omega) | omega)) | (with_reducible refine bl_drewN ?_) | (with_reducible refine Below.drew ?_) | (with_reducible refine bl_grow ?_ (by first | (simp; done) | (simp; omega) | omega))))).mono ?_; rintro e w7 ⟨v7, rfl, ho7, hb7⟩; have kww7 := kwLC.below hb7; have kpw7 := kpLC.below hb7; have hqw7 : Below w.heap.size w w7 := (by repeat (first | (with_reducible exact Below.refl _ _) | (with_reducible assumption) | (with_reducible refine Below.setCell ?_ (by first | (simp; done) | (simp; omega) | omega) _) | (with_reducible refine Below.alloc ?_ (by first | (simp; done) | (simp; omega) | omega) _) | (refine bl_call ?_ (by assumption) (by first | (simp; done) | (simp; omega) | omega)) | (with_reducible refine bl_drewN ?_) | (with_reducible refine Below.drew ?_) | (with_reducible refine bl_grow ?_ (by first | (simp; done) | (simp; omega) | omega)))); have hzw7 := hqw7.size; obtain ⟨zww7, cw0w7, cw1w7, cw2w7, fw0w7, fw1w7, fw2w7⟩ := kww7.three; obtain ⟨zpw7, cp0w7, cp1w7, cp2w7, fp0w7, fp1w7, fp2w7⟩ := kpw7.three; clear hb7)
      obtain ⟨s4, c4, e4_, h4⟩ := own_ints ho7
      subst e4_
      have HRW : Hid (RWk LC.heap.size s4 q WX w7) := h4.imp_right fun ⟨g, a, _, hB, r⟩ => ⟨g, a, hB, r⟩
      clear h4 ho7
      refine wp_gen (fun V => At V (w1.heap.size) [.int .i64 0, .int .i64 0, .bool true] ∧ At V (w3.heap.size) [.int .i64 wx, .int .i64 wy, .bool wf] ∧ RWk LC.heap.size s4 q WX V ∧ Below w.heap.size w V) ⟨by repeat (first | (with_reducible assumption) | ((with_reducible refine at_new' _ _ _ _ ?_); (first | rfl | (simp; done))) | (with_reducible refine At.alloc ?_ _) | (with_reducible refine At.drew ?_) | (with_reducible refine At.drewN ?_) | (with_reducible refine At.set ?_ (by omega)) | (with_reducible apply At.store4) | (with_reducible apply At.store3) | (with_reducible apply At.store2) | (with_reducible apply At.put43) | (refine At.below ?_ (by with_reducible assumption))), by repeat (first | (with_reducible assumption) | ((with_reducible refine at_new' _ _ _ _ ?_); (first | rfl | (simp; done))) | (with_reducible refine At.alloc ?_ _) | (with_reducible refine At.drew ?_) | (with_reducible refine At.drewN ?_) | (with_reducible refine At.set ?_ (by omega)) | (with_reducible apply At.store4) | (with_reducible apply At.store3) | (with_reducible apply At.store2) | (with_reducible apply At.put43) | (refine At.below ?_ (by with_reducible assumption))), (by repeat (first | (with_reducible exact HRW.out) | (with_reducible refine RWk.set ?_ (by omega) _))), by repeat (first | (with_reducible exact Below.refl _ _) | (with_reducible assumption) | (with_reducible refine Below.setCell ?_ (by first | (simp; done) | (simp; omega) | omega) _) | (with_reducible refine Below.alloc ?_ (by first | (simp; done) | (simp; omega) | omega) _) | (refine bl_call ?_ (by assumption) (by first | (simp; done) | (simp; omega) | omega)) | (with_reducible refine bl_drewN ?_) | (with_reducible refine Below.drew ?_) | (with_reducible refine bl_grow ?_ (by first | (simp; done) | (simp; omega) | omega)))⟩ ?_
      rintro V5 ⟨kwV5, kpV5, hRV5, hqV5⟩
      have hzV5 := hqV5.size
      clear kww7 cw0w7 fw0w7 cw1w7 fw1w7 cw2w7 fw2w7 kpw7 cp0w7 fp0w7 cp1w7 fp1w7 cp2w7 fp2w7 hqw7
      obtain ⟨zwV5, cw0V5, cw1V5, cw2V5, fw0V5, fw1V5, fw2V5⟩ := kwV5.three
      obtain ⟨zpV5, cp0V5, cp1V5, cp2V5, fp0V5, fp1V5, fp2V5⟩ := kpV5.three
      go_wp2_with fail
      go_loopw [19] (fun ti wl => ∃ k : Nat, k ≤ q ∧ ti = .int .i64 k ∧ At wl (w1.heap.size) [.int .i64 (MX k), .int .i64 (MY k), .bool (MF k)] ∧ At wl (w3.heap.size) [.int .i64 wx, .int .i64 wy, .bool wf] ∧ RWk LC.heap.size s4 q WX wl ∧ Below w.heap.size w wl) (fun ti _ => q - (intOf ti).toNat)
      case atStart => exact ⟨0, by omega, rfl, (by rw [HM0.out.1, HM0.out.2.1, HM0.out.2.2]; exact kwV5), kpV5, hRV5, hqV5⟩
      case round =>
        clear kwV5 cw0V5 fw0V5 cw1V5 fw1V5 cw2V5 fw2V5 kpV5 cp0V5 fp0V5 cp1V5 fp1V5 cp2V5 fp2V5 hqV5 hRV5
        obtain ⟨k, hk, rfl, kwLV, kpLV, hRLV, hqLV⟩ := hrel
        have hzLV := hqLV.size
        obtain ⟨zwLV, cw0LV, cw1LV, cw2LV, fw0LV, fw1LV, fw2LV⟩ := kwLV.three
        obtain ⟨zpLV, cp0LV, cp1LV, cp2LV, fp0LV, fp1LV, fp2LV⟩ := kpLV.three
        by_cases hlt : k < q
        · have hlt' : (k : Int) < (q : Int) := by omega
          obtain ⟨b, o, rfl, hz⟩ := HRO.out.resolve_left (by omega)
          have hbV := Nat.lt_of_lt_of_le hz.1 hzLV
          obtain ⟨c0, c1, c2⟩ := (hz.below hz.1 hqLV).2 k hlt
          obtain ⟨g, eg, hgB, hgr⟩ := hRLV.resolve_left (by omega)
          subst eg
          have d0 := hgr.2 k hlt
          rw [Nat.zero_add] at d0
          have hgV := hgr.1
          obtain ⟨hT, hA⟩ := HST.out k hlt
          have HT_ : Hid (∀ w, Calls Tryd.prog 16 #[.agg #[.int .i64 (PX k), .int .i64 (PY k), .bool (PF k)], .int .i64 (WX k)] w fun ex w' => ex = .returned (.agg #[.int .i64 (TX k), .int .i64 (TY k), .bool (TF k)]) ∧ Below w.heap.size w w') := hT
          have HA_ : Hid (∀ w, Calls Tryd.prog 20 #[.agg #[.int .i64 (MX k), .int .i64 (MY k), .bool (MF k)], .agg #[.int .i64 (TX k), .int .i64 (TY k), .bool (TF k)]] w fun ex w' => ex = .returned (.agg #[.int .i64 (MX (k + 1)), .int .i64 (MY (k + 1)), .bool (MF (k + 1))]) ∧ Below w.heap.size w w') := hA
          clear hz hgr hT hA
          go_wp2_with fail
          refine below_last (by kernel_rfl) (by kernel_rfl) ?_
          dsimp only [List.dropLast, List.length, List.drop]
          repeat (go_big_quiet_step (first | (go_at_call 16; with_reducible exact Calls.regrown_of (HT_.out _)) | (go_at_call 20; with_reducible exact Calls.regrown_of (HA_.out _))))
          refine wpQuiet_nil ?_
          intro LW hw1
          have hrLW := regrown_below hw1
          have hRLW := RWk.below hRLV hrLW
          clear hw1
          have kwLW := kwLV.below hrLW
          have kpLW := kpLV.below hrLW
          have hqLW := bl_call hqLV hrLW (by omega)
          have hzLW := hqLW.size
          clear hrLW kwLV cw0LV fw0LV cw1LV fw1LV cw2LV fw2LV kpLV cp0LV fp0LV cp1LV fp1LV cp2LV fp2LV hqLV
          obtain ⟨zwLW, cw0LW, cw1LW, cw2LW, fw0LW, fw1LW, fw2LW⟩ := kwLW.three
          obtain ⟨zpLW, cp0LW, cp1LW, cp2LW, fp0LW, fp1LW, fp2LW⟩ := kpLW.three
          go_wp2_with fail
          go_roundw
          case rel => exact ⟨k + 1, by omega, by simp, by repeat (first | (with_reducible assumption) | ((with_reducible refine at_new' _ _ _ _ ?_); (first | rfl | (simp; done))) | (with_reducible refine At.alloc ?_ _) | (with_reducible refine At.drew ?_) | (with_reducible refine At.drewN ?_) | (with_reducible refine At.set ?_ (by omega)) | (with_reducible apply At.store4) | (with_reducible apply At.store3) | (with_reducible apply At.store2) | (with_reducible apply At.put43) | (refine At.below ?_ (by with_reducible assumption))), by repeat (first | (with_reducible assumption) | ((with_reducible refine at_new' _ _ _ _ ?_); (first | rfl | (simp; done))) | (with_reducible refine At.alloc ?_ _) | (with_reducible refine At.drew ?_) | (with_reducible refine At.drewN ?_) | (with_reducible refine At.set ?_ (by omega)) | (with_reducible apply At.store4) | (with_reducible apply At.store3) | (with_reducible apply At.store2) | (with_reducible apply At.put43) | (refine At.below ?_ (by with_reducible assumption))), (by repeat (first | (with_reducible exact hRLW) | (with_reducible refine RWk.set ?_ (by omega) _))), by repeat (first | (with_reducible exact Below.refl _ _) | (with_reducible assumption) | (with_reducible refine Below.setCell ?_ (by first | (simp; done) | (simp; omega) | omega) _) | (with_reducible refine Below.alloc ?_ (by first | (simp; done) | (simp; omega) | omega) _) | (refine bl_call ?_ (by assumption) (by first | (simp; done) | (simp; omega) | omega)) | (with_reducible refine bl_drewN ?_) | (with_reducible refine Below.drew ?_) | (with_reducible refine bl_grow ?_ (by first | (simp; done) | (simp; omega) | omega)))⟩
          case measure => simp [intOf]; omega
        · have hlt' : ¬ (k : Int) < (q : Int) := by omega
          have HKN : Hid (k = q) := by unfold Hid; omega
          have kwQ : At wr (w1.heap.size) [.int .i64 jx, .int .i64 jy, .bool jf] := by
            have := kwLV
            rw [HKN.out, HMQ.out.1, HMQ.out.2.1, HMQ.out.2.2] at this
            exact this
          go_wp2_with fail
          go_meet
          case rel => exact ⟨kwQ, kpLV, hqLV⟩
  case rest =>
  clear kwLC cw0LC fw0LC cw1LC fw1LC cw2LC fw2LC kpLC cp0LC fp0LC cp1LC fp1LC cp2LC fp2LC hqLC
  obtain ⟨kwwc, kpwc, hqwc⟩ := hcut
  have hzwc := hqwc.size
  obtain ⟨zwwc, cw0wc, cw1wc, cw2wc, fw0wc, fw1wc, fw2wc⟩ := kwwc.three
  obtain ⟨zpwc, cp0wc, cp1wc, cp2wc, fp0wc, fp1wc, fp2wc⟩ := kpwc.three
  go_upto_if 114 with (first | (go_at_call 21; clear m7; refine (HJJ.out _ (by repeat (first | (with_reducible exact Below.refl _ _) | (with_reducible assumption) | (with_reducible refine Below.setCell ?_ (by first | (simp; done) | (simp; omega) | omega) _) | (with_reducible refine Below.alloc ?_ (by first | (simp; done) | (simp; omega) | omega) _) | (refine bl_call ?_ (by assumption) (by first | (simp; done) | (simp; omega) | omega)) | (with_reducible refine bl_drewN ?_) | (with_reducible refine Below.drew ?_) | (with_reducible refine bl_grow ?_ (by first | (simp; done) | (simp; omega) | omega))))).mono ?_; rintro e w10 ⟨rfl, hbw10⟩; have kww10 : At w10 (w1.heap.size) [.int .i64 jx, .int .i64 jy, .bool jf] := (by repeat (first | (with_reducible assumption) | ((with_reducible refine at_new' _ _ _ _ ?_); (first | rfl | (simp; done))) | (with_reducible refine At.alloc ?_ _) | (with_reducible refine At.drew ?_) | (with_reducible refine At.drewN ?_) | (with_reducible refine At.set ?_ (by omega)) | (with_reducible apply At.store4) | (with_reducible apply At.store3) | (with_reducible apply At.store2) | (with_reducible apply At.put43) | (refine At.below ?_ (by with_reducible assumption)))); have kpw10 : At w10 (w3.heap.size) [.int .i64 wx, .int .i64 wy, .bool wf] := (by repeat (first | (with_reducible assumption) | ((with_reducible refine at_new' _ _ _ _ ?_); (first | rfl | (simp; done))) | (with_reducible refine At.alloc ?_ _) | (with_reducible refine At.drew ?_) | (with_reducible refine At.drewN ?_) | (with_reducible refine At.set ?_ (by omega)) | (with_reducible apply At.store4) | (with_reducible apply At.store3) | (with_reducible apply At.store2) | (with_reducible apply At.put43) | (refine At.below ?_ (by with_reducible assumption)))); have hqw10 : Below w.heap.size w w10 := (by repeat (first | (with_reducible exact Below.refl _ _) | (with_reducible assumption) | (with_reducible refine Below.setCell ?_ (by first | (simp; done) | (simp; omega) | omega) _) | (with_reducible refine Below.alloc ?_ (by first | (simp; done) | (simp; omega) | omega) _) | (refine bl_call ?_ (by assumption) (by first | (simp; done) | (simp; omega) | omega)) | (with_reducible refine bl_drewN ?_) | (with_reducible refine Below.drew ?_) | (with_reducible refine bl_grow ?_ (by first | (simp; done) | (simp; omega) | omega)))); have hzw10 := hqw10.size; obtain ⟨zww10, cw0w10, cw1w10, cw2w10, fw0w10, fw1w10, fw2w10⟩ := kww10.three; obtain ⟨zpw10, cp0w10, cp1w10, cp2w10, fp0w10, fp1w10, fp2w10⟩ := kpw10.three; clear kwwc cw0wc fw0wc cw1wc fw1wc cw2wc fw2wc kpwc cp0wc fp0wc cp1wc fp1wc cp2wc fp2wc hqwc; clear hbw10) | (go_at_call 8; clear m8; refine (same_below _ _ _ (I3.out) (HD.out.under (by repeat (first | (with_reducible exact Below.refl _ _) | (with_reducible assumption) | (with_reducible refine Below.setCell ?_ (by first | (simp; done) | (simp; omega) | omega) _) | (with_reducible refine Below.alloc ?_ (by first | (simp; done) | (simp; omega) | omega) _) | (refine bl_call ?_ (by assumption) (by first | (simp; done) | (simp; omega) | omega)) | (with_reducible refine bl_drewN ?_) | (with_reducible refine Below.drew ?_) | (with_reducible refine bl_grow ?_ (by first | (simp; done) | (simp; omega) | omega)))))).mono ?_; rintro e w11 ⟨rfl, hbw11⟩; have kww11 : At w11 (w1.heap.size) [.int .i64 jx, .int .i64 jy, .bool jf] := (by repeat (first | (with_reducible assumption) | ((with_reducible refine at_new' _ _ _ _ ?_); (first | rfl | (simp; done))) | (with_reducible refine At.alloc ?_ _) | (with_reducible refine At.drew ?_) | (with_reducible refine At.drewN ?_) | (with_reducible refine At.set ?_ (by omega)) | (with_reducible apply At.store4) | (with_reducible apply At.store3) | (with_reducible apply At.store2) | (with_reducible apply At.put43) | (refine At.below ?_ (by with_reducible assumption)))); have kpw11 : At w11 (w3.heap.size) [.int .i64 jx, .int .i64 jy, .bool jf] := (by repeat (first | (with_reducible assumption) | ((with_reducible refine at_new' _ _ _ _ ?_); (first | rfl | (simp; done))) | (with_reducible refine At.alloc ?_ _) | (with_reducible refine At.drew ?_) | (with_reducible refine At.drewN ?_) | (with_reducible refine At.set ?_ (by omega)) | (with_reducible apply At.store4) | (with_reducible apply At.store3) | (with_reducible apply At.store2) | (with_reducible apply At.put43) | (refine At.below ?_ (by with_reducible assumption)))); have hqw11 : Below w.heap.size w w11 := (by repeat (first | (with_reducible exact Below.refl _ _) | (with_reducible assumption) | (with_reducible refine Below.setCell ?_ (by first | (simp; done) | (simp; omega) | omega) _) | (with_reducible refine Below.alloc ?_ (by first | (simp; done) | (simp; omega) | omega) _) | (refine bl_call ?_ (by assumption) (by first | (simp; done) | (simp; omega) | omega)) | (with_reducible refine bl_drewN ?_) | (with_reducible refine Below.drew ?_) | (with_reducible refine bl_grow ?_ (by first | (simp; done) | (simp; omega) | omega)))); have hzw11 := hqw11.size; obtain ⟨zww11, cw0w11, cw1w11, cw2w11, fw0w11, fw1w11, fw2w11⟩ := kww11.three; obtain ⟨zpw11, cp0w11, cp1w11, cp2w11, fp0w11, fp1w11, fp2w11⟩ := kpw11.three; clear kww10 cw0w10 fw0w10 cw1w10 fw1w10 cw2w10 fw2w10 kpw10 cp0w10 fp0w10 cp1w10 fp1w10 cp2w10 fp2w10 hqw10; clear hbw11))
  refine wp_gen (fun V6 => Below w.heap.size w V6) (by repeat (first | (with_reducible exact Below.refl _ _) | (with_reducible assumption) | (with_reducible refine Below.setCell ?_ (by first | (simp; done) | (simp; omega) | omega) _) | (with_reducible refine Below.alloc ?_ (by first | (simp; done) | (simp; omega) | omega) _) | (refine bl_call ?_ (by assumption) (by first | (simp; done) | (simp; omega) | omega)) | (with_reducible refine bl_drewN ?_) | (with_reducible refine Below.drew ?_) | (with_reducible refine bl_grow ?_ (by first | (simp; done) | (simp; omega) | omega)))) ?_
  rintro V6 hqV6
  have hzV6 := hqV6.size
  clear kww11 cw0w11 fw0w11 cw1w11 fw1w11 cw2w11 fw2w11 kpw11 cp0w11 fp0w11 cp1w11 fp1w11 cp2w11 fp2w11 hqw11


  go_cut [11] from 27 to 114 (fun t11 wx_ => t11 = .int .i64 e4 ∧ Below w.heap.size w wx_)
  case first => as_aux_lemma =>
    rcases HC.out with ⟨h1, h2⟩ | ⟨h1, h2⟩
    · have h1' : (n : Int) > 12 := by omega
      subst h2
      go_wp2_with fail
      go_meet
      case rel => exact ⟨rfl, by repeat (first | (with_reducible exact Below.refl _ _) | (with_reducible assumption) | (with_reducible refine Below.setCell ?_ (by first | (simp; done) | (simp; omega) | omega) _) | (with_reducible refine Below.alloc ?_ (by first | (simp; done) | (simp; omega) | omega) _) | (refine bl_call ?_ (by assumption) (by first | (simp; done) | (simp; omega) | omega)) | (with_reducible refine bl_drewN ?_) | (with_reducible refine Below.drew ?_) | (with_reducible refine bl_grow ?_ (by first | (simp; done) | (simp; omega) | omega)))⟩
    · have h1' : ¬ (n : Int) > 12 := by omega
      subst h2
      go_wp2_with fail
      go_meet
      case rel => exact ⟨rfl, by repeat (first | (with_reducible exact Below.refl _ _) | (with_reducible assumption) | (with_reducible refine Below.setCell ?_ (by first | (simp; done) | (simp; omega) | omega) _) | (with_reducible refine Below.alloc ?_ (by first | (simp; done) | (simp; omega) | omega) _) | (refine bl_call ?_ (by assumption) (by first | (simp; done) | (simp; omega) | omega)) | (with_reducible refine bl_drewN ?_) | (with_reducible refine Below.drew ?_) | (with_reducible refine bl_grow ?_ (by first | (simp; done) | (simp; omega) | omega)))⟩
  case rest =>
  clear hqV6
  obtain ⟨rfl, hqwc⟩ := hcut
  have hzwc := hqwc.size
  go_upto_block 4 with fail
  go_cut [11, 21] from 27 to 141 (fun t11 t21 wx_ => t11 = .int .i64 e5 ∧ ((e5 == 0) = true → wx_.ownsRow w.heap.size 45 3 t21 n (cellsT KX KY KF n)) ∧ Below w.heap.size w wx_)
  case first => as_aux_lemma =>
    cases he : e4 == 0 with
    | false =>
      obtain ⟨hx, hx5⟩ := HK0.out he
      have HX : Hid (e5 = e4) := hx
      have HNO : Hid (∀ (Q : Prop), (e5 == 0) = true → Q) := fun Q h => by rw [hx5] at h; cases h
      clear hx hx5
      go_wp2_with fail
      go_loopw [11, 21, 22] (fun te tv ti wl => te = .int .i64 e4 ∧ ti = .int .i64 0 ∧ Below w.heap.size w wl) (fun _ _ _ _ => 0)
      case atStart => exact ⟨rfl, rfl, by repeat (first | (with_reducible exact Below.refl _ _) | (with_reducible assumption) | (with_reducible refine Below.setCell ?_ (by first | (simp; done) | (simp; omega) | omega) _) | (with_reducible refine Below.alloc ?_ (by first | (simp; done) | (simp; omega) | omega) _) | (refine bl_call ?_ (by assumption) (by first | (simp; done) | (simp; omega) | omega)) | (with_reducible refine bl_drewN ?_) | (with_reducible refine Below.drew ?_) | (with_reducible refine bl_grow ?_ (by first | (simp; done) | (simp; omega) | omega)))⟩
      case round =>
        obtain ⟨rfl, rfl, hqLV⟩ := hrel
        have hzLV := hqLV.size
        by_cases hlt : 0 < n
        · have hlt' : (0 : Int) < (n : Int) := by omega
          go_wp2_with fail
          go_meet
          case rel => exact ⟨by rw [HX.out], fun h => HNO.out _ h, by repeat (first | (with_reducible exact Below.refl _ _) | (with_reducible assumption) | (with_reducible refine Below.setCell ?_ (by first | (simp; done) | (simp; omega) | omega) _) | (with_reducible refine Below.alloc ?_ (by first | (simp; done) | (simp; omega) | omega) _) | (refine bl_call ?_ (by assumption) (by first | (simp; done) | (simp; omega) | omega)) | (with_reducible refine bl_drewN ?_) | (with_reducible refine Below.drew ?_) | (with_reducible refine bl_grow ?_ (by first | (simp; done) | (simp; omega) | omega)))⟩
        · have hlt' : ¬ (0 : Int) < (n : Int) := by omega
          go_wp2_with fail
          go_meet
          case rel => exact ⟨by rw [HX.out], fun h => HNO.out _ h, by repeat (first | (with_reducible exact Below.refl _ _) | (with_reducible assumption) | (with_reducible refine Below.setCell ?_ (by first | (simp; done) | (simp; omega) | omega) _) | (with_reducible refine Below.alloc ?_ (by first | (simp; done) | (simp; omega) | omega) _) | (refine bl_call ?_ (by assumption) (by first | (simp; done) | (simp; omega) | omega)) | (with_reducible refine bl_drewN ?_) | (with_reducible refine Below.drew ?_) | (with_reducible refine bl_grow ?_ (by first | (simp; done) | (simp; omega) | omega)))⟩
    | true =>
      obtain ⟨hr, hn12, hj, hok, hend⟩ := HK.out he
      have HRP : Hid (n = 0 ∨ ∃ b o : Nat, sl = some ⟨b, o, none⟩ ∧ RowP w b o n LX LY) := hr
      have HOK : Hid (∀ i, i < j1 → (∀ w, Calls Tryd.prog 15 #[.agg #[.int .i64 (LX i), .int .i64 (LY i)]] w fun ex w' => ex = .returned (.bool true) ∧ Below w.heap.size w w') ∧ (∀ w, Calls Tryd.prog 22 #[.int .i64 (LY i)] w fun ex w' => ex = .returned (.agg #[.int .i64 (KX i), .int .i64 (KY i), .bool (KF i)]) ∧ Below w.heap.size w w')) := hok
      have HEN : Hid ((j1 = n ∧ e5 = 0) ∨ (j1 < n ∧ (∀ w, Calls Tryd.prog 15 #[.agg #[.int .i64 (LX j1), .int .i64 (LY j1)]] w fun ex w' => ex = .returned (.bool false) ∧ Below w.heap.size w w') ∧ e5 = 1)) := hend
      have hec : e4 = 0 := by simpa using he
      clear hr hok hend
      subst hec
      go_wp2_with fail
      go_loopw [11, 21, 22] (fun te tv ti wl => ∃ k : Nat, ti = .int .i64 k ∧ ((k ≤ j1 ∧ te = .int .i64 0 ∧ wl.ownsRow w.heap.size 45 3 tv k (cellsT KX KY KF k)) ∨ (k = j1 + 1 ∧ j1 < n ∧ te = .int .i64 1)) ∧ Below w.heap.size w wl) (fun _ _ ti _ => n + 1 - (intOf ti).toNat)
      case atStart => exact ⟨0, rfl, Or.inl ⟨by omega, rfl, World.ownsRow_nil _ _ _ _⟩, by repeat (first | (with_reducible exact Below.refl _ _) | (with_reducible assumption) | (with_reducible refine Below.setCell ?_ (by first | (simp; done) | (simp; omega) | omega) _) | (with_reducible refine Below.alloc ?_ (by first | (simp; done) | (simp; omega) | omega) _) | (refine bl_call ?_ (by assumption) (by first | (simp; done) | (simp; omega) | omega)) | (with_reducible refine bl_drewN ?_) | (with_reducible refine Below.drew ?_) | (with_reducible refine bl_grow ?_ (by first | (simp; done) | (simp; omega) | omega)))⟩
      case round =>
        obtain ⟨k, rfl, hst, hqLV⟩ := hrel
        have hzLV := hqLV.size
        rcases hst with ⟨hk, rfl, hown⟩ | ⟨rfl, hk, rfl⟩
        · by_cases hlt : k < n
          · have hlt' : (k : Int) < (n : Int) := by omega
            obtain ⟨b, o, rfl, hz⟩ := HRP.out.resolve_left (by omega)
            have hbV := Nat.lt_of_lt_of_le hz.1 hzLV
            obtain ⟨c0, c1⟩ := (hz.below hz.1 hqLV).2 k hlt
            by_cases hkj : k < j1
            · have HSH_ : Hid (∀ w, Calls Tryd.prog 15 #[.agg #[.int .i64 (LX k), .int .i64 (LY k)]] w fun ex w' => ex = .returned (.bool true) ∧ Below w.heap.size w w') := (HOK.out k hkj).1
              have HBY : Hid (∀ w, Calls Tryd.prog 22 #[.int .i64 (LY k)] w fun ex w' => ex = .returned (.agg #[.int .i64 (KX k), .int .i64 (KY k), .bool (KF k)]) ∧ Below w.heap.size w w') := (HOK.out k hkj).2
              go_wp2_with (first | (go_at_call 15; clear m9; refine (HSH_.out _).mono ?_; rintro e w12 ⟨rfl, hb12⟩; have hq12_ : Below w.heap.size w w12 := (by repeat (first | (with_reducible exact Below.refl _ _) | (with_reducible assumption) | (with_reducible refine Below.setCell ?_ (by first | (simp; done) | (simp; omega) | omega) _) | (with_reducible refine Below.alloc ?_ (by first | (simp; done) | (simp; omega) | omega) _) | (refine bl_call ?_ (by assumption) (by first | (simp; done) | (simp; omega) | omega)) | (with_reducible refine bl_drewN ?_) | (with_reducible refine Below.drew ?_) | (with_reducible refine bl_grow ?_ (by first | (simp; done) | (simp; omega) | omega)))); have hz12 := hq12_.size; have ho12 := own_stay hown hb12; obtain ⟨c0_, c1_⟩ := (hz.below hz.1 hq12_).2 k hlt; have hb12_ := Nat.lt_of_lt_of_le hz.1 hz12; clear hb12) | (go_at_call 22; clear m10; refine (HBY.out _).mono ?_; rintro e w13 ⟨rfl, hb13⟩; have hq13 : Below w.heap.size w w13 := (by repeat (first | (with_reducible exact Below.refl _ _) | (with_reducible assumption) | (with_reducible refine Below.setCell ?_ (by first | (simp; done) | (simp; omega) | omega) _) | (with_reducible refine Below.alloc ?_ (by first | (simp; done) | (simp; omega) | omega) _) | (refine bl_call ?_ (by assumption) (by first | (simp; done) | (simp; omega) | omega)) | (with_reducible refine bl_drewN ?_) | (with_reducible refine Below.drew ?_) | (with_reducible refine bl_grow ?_ (by first | (simp; done) | (simp; omega) | omega)))); have hz13 := hq13.size; have ho13 := own_stay ho12 hb13; clear hb13) | (at_builtin; refine wpList_append_own_at _ rfl _ _ 42 rfl w.heap.size 45 s0 (.agg #[.int .i64 0, .int .i64 0, .bool false]) 3 24 Tryd.underlying42 hs hu0 hu1 hu2 rfl (by decide) _ _ _ rfl (own_stay ho13 (by repeat (first | (with_reducible exact Below.refl _ _) | (with_reducible assumption) | (with_reducible refine Below.setCell ?_ (by first | (simp; done) | (simp; omega) | omega) _) | (with_reducible refine Below.alloc ?_ (by first | (simp; done) | (simp; omega) | omega) _) | (refine bl_call ?_ (by assumption) (by first | (simp; done) | (simp; omega) | omega)) | (with_reducible refine bl_drewN ?_) | (with_reducible refine Below.drew ?_) | (with_reducible refine bl_grow ?_ (by first | (simp; done) | (simp; omega) | omega))))) ⟨_, 0, none⟩ 1 1 [.int .i64 (KX k), .int .i64 (KY k), .bool (KF k)] rfl rfl (three_newD (by simp) _ _ _ _) one_threeD (by unfold maxLen; omega) (by omega) (by simp; omega) ?_))
              intro v' w14 hown' hgrow _ hat
              have hq14 : Below w.heap.size w w14 := grown_under (B := w.heap.size) (by repeat (first | (with_reducible exact Below.refl _ _) | (with_reducible assumption) | (with_reducible refine Below.setCell ?_ (by first | (simp; done) | (simp; omega) | omega) _) | (with_reducible refine Below.alloc ?_ (by first | (simp; done) | (simp; omega) | omega) _) | (refine bl_call ?_ (by assumption) (by first | (simp; done) | (simp; omega) | omega)) | (with_reducible refine bl_drewN ?_) | (with_reducible refine Below.drew ?_) | (with_reducible refine bl_grow ?_ (by first | (simp; done) | (simp; omega) | omega)))) (own_stay ho13 (by repeat (first | (with_reducible exact Below.refl _ _) | (with_reducible assumption) | (with_reducible refine Below.setCell ?_ (by first | (simp; done) | (simp; omega) | omega) _) | (with_reducible refine Below.alloc ?_ (by first | (simp; done) | (simp; omega) | omega) _) | (refine bl_call ?_ (by assumption) (by first | (simp; done) | (simp; omega) | omega)) | (with_reducible refine bl_drewN ?_) | (with_reducible refine Below.drew ?_) | (with_reducible refine bl_grow ?_ (by first | (simp; done) | (simp; omega) | omega))))) hgrow (by simp; omega) (Nat.le_refl _)
              have hz14 := hq14.size
              rw [← cellsT_succ] at hown'
              clear hgrow hat ho12 ho13 hq12_ hq13 hown
              go_wp2_with fail
              go_roundw
              case rel => exact ⟨k + 1, by simp, Or.inl ⟨by omega, rfl, hown'⟩, hq14⟩
              case measure => simp [intOf]; omega
            · have HKJ : Hid (k = j1) := by unfold Hid; omega
              have HSH_ : Hid (∀ w, Calls Tryd.prog 15 #[.agg #[.int .i64 (LX k), .int .i64 (LY k)]] w fun ex w' => ex = .returned (.bool false) ∧ Below w.heap.size w w') := by
                unfold Hid
                rw [HKJ.out]
                rcases HEN.out with h | h
                · exfalso; have := HKJ.out; omega
                · exact h.2.1
              go_wp2_with (go_at_call 15; clear m9; refine (HSH_.out _).mono ?_; rintro e w12 ⟨rfl, hb12⟩; have hq12_ : Below w.heap.size w w12 := (by repeat (first | (with_reducible exact Below.refl _ _) | (with_reducible assumption) | (with_reducible refine Below.setCell ?_ (by first | (simp; done) | (simp; omega) | omega) _) | (with_reducible refine Below.alloc ?_ (by first | (simp; done) | (simp; omega) | omega) _) | (refine bl_call ?_ (by assumption) (by first | (simp; done) | (simp; omega) | omega)) | (with_reducible refine bl_drewN ?_) | (with_reducible refine Below.drew ?_) | (with_reducible refine bl_grow ?_ (by first | (simp; done) | (simp; omega) | omega)))); have hz12 := hq12_.size; have ho12 := own_stay hown hb12; obtain ⟨c0_, c1_⟩ := (hz.below hz.1 hq12_).2 k hlt; have hb12_ := Nat.lt_of_lt_of_le hz.1 hz12; clear hb12)
              go_roundw
              case rel => exact ⟨k + 1, by simp, Or.inr ⟨by have := HKJ.out; omega, by have := HKJ.out; omega, rfl⟩, by repeat (first | (with_reducible exact Below.refl _ _) | (with_reducible assumption) | (with_reducible refine Below.setCell ?_ (by first | (simp; done) | (simp; omega) | omega) _) | (with_reducible refine Below.alloc ?_ (by first | (simp; done) | (simp; omega) | omega) _) | (refine bl_call ?_ (by assumption) (by first | (simp; done) | (simp; omega) | omega)) | (with_reducible refine bl_drewN ?_) | (with_reducible refine Below.drew ?_) | (with_reducible refine bl_grow ?_ (by first | (simp; done) | (simp; omega) | omega)))⟩
              case measure => simp [intOf]; omega
          · have hlt' : ¬ (k : Int) < (n : Int) := by omega
            have hed : Hid (e5 = 0) := by
              unfold Hid
              rcases HEN.out with h | h
              · exact h.2
              · omega
            have HKN : Hid (k = n) := by unfold Hid; omega
            go_wp2_with fail
            go_meet
            case rel => exact ⟨by rw [hed.out], fun _ => HKN.out ▸ hown, by repeat (first | (with_reducible exact Below.refl _ _) | (with_reducible assumption) | (with_reducible refine Below.setCell ?_ (by first | (simp; done) | (simp; omega) | omega) _) | (with_reducible refine Below.alloc ?_ (by first | (simp; done) | (simp; omega) | omega) _) | (refine bl_call ?_ (by assumption) (by first | (simp; done) | (simp; omega) | omega)) | (with_reducible refine bl_drewN ?_) | (with_reducible refine Below.drew ?_) | (with_reducible refine bl_grow ?_ (by first | (simp; done) | (simp; omega) | omega)))⟩
        · have hed : Hid (e5 = 1) := by
            unfold Hid
            rcases HEN.out with h | h
            · omega
            · exact h.2.2
          by_cases hlt : j1 + 1 < n
          · have hlt' : ((j1 + 1 : Nat) : Int) < (n : Int) := by omega
            go_wp2_with fail
            go_meet
            case rel => exact ⟨by rw [hed.out], fun h => (by rw [hed.out] at h; cases h), by repeat (first | (with_reducible exact Below.refl _ _) | (with_reducible assumption) | (with_reducible refine Below.setCell ?_ (by first | (simp; done) | (simp; omega) | omega) _) | (with_reducible refine Below.alloc ?_ (by first | (simp; done) | (simp; omega) | omega) _) | (refine bl_call ?_ (by assumption) (by first | (simp; done) | (simp; omega) | omega)) | (with_reducible refine bl_drewN ?_) | (with_reducible refine Below.drew ?_) | (with_reducible refine bl_grow ?_ (by first | (simp; done) | (simp; omega) | omega)))⟩
          · have hlt' : ¬ ((j1 + 1 : Nat) : Int) < (n : Int) := by omega
            go_wp2_with fail
            go_meet
            case rel => exact ⟨by rw [hed.out], fun h => (by rw [hed.out] at h; cases h), by repeat (first | (with_reducible exact Below.refl _ _) | (with_reducible assumption) | (with_reducible refine Below.setCell ?_ (by first | (simp; done) | (simp; omega) | omega) _) | (with_reducible refine Below.alloc ?_ (by first | (simp; done) | (simp; omega) | omega) _) | (refine bl_call ?_ (by assumption) (by first | (simp; done) | (simp; omega) | omega)) | (with_reducible refine bl_drewN ?_) | (with_reducible refine Below.drew ?_) | (with_reducible refine bl_grow ?_ (by first | (simp; done) | (simp; omega) | omega)))⟩
  case rest =>
  clear hqwc
  obtain ⟨rfl, ho21, hqwc⟩ := hcut
  have hzwc := hqwc.size
  have HO21 : Hid (((e5 == 0) = true → wc.ownsRow w.heap.size 45 3 u21 n (cellsT KX KY KF n))) := ho21
  clear ho21
  go_upto_if 143 with fail
  go_cut [21] from 27 to 143 (fun t21 wx_ => ((e5 == 0) = true → wx_.ownsRow w.heap.size 45 3 t21 n (cellsT KX KY KF n)) ∧ ((e5 == 0) = false → t21 = .slice none 0 0) ∧ Below w.heap.size w wx_)
  case first => as_aux_lemma =>
    cases he : e5 == 0 with
    | false =>
      have HNE : Hid (∀ (Q : Prop), (e5 == 0) = true → Q) := fun Q h => by rw [he] at h; cases h
      have hne : (e5 != 0) = true := by rw [bne, he]; rfl
      go_wp2_with fail
      go_meet
      case rel => exact ⟨fun h => HNE.out _ h, fun _ => rfl, by repeat (first | (with_reducible exact Below.refl _ _) | (with_reducible assumption) | (with_reducible refine Below.setCell ?_ (by first | (simp; done) | (simp; omega) | omega) _) | (with_reducible refine Below.alloc ?_ (by first | (simp; done) | (simp; omega) | omega) _) | (refine bl_call ?_ (by assumption) (by first | (simp; done) | (simp; omega) | omega)) | (with_reducible refine bl_drewN ?_) | (with_reducible refine Below.drew ?_) | (with_reducible refine bl_grow ?_ (by first | (simp; done) | (simp; omega) | omega)))⟩
    | true =>
      have HNE : Hid (∀ (Q : Prop), (e5 == 0) = false → Q) := fun Q h => by rw [he] at h; cases h
      have hne : (e5 != 0) = false := by rw [bne, he]; rfl
      have ho := HO21.out he
      have HO_ : Hid (wc.ownsRow w.heap.size 45 3 u21 n (cellsT KX KY KF n)) := ho
      clear ho
      go_wp2_with fail
      go_meet
      case rel => exact ⟨fun _ => HO_.out, fun h => HNE.out _ h, by repeat (first | (with_reducible exact Below.refl _ _) | (with_reducible assumption) | (with_reducible refine Below.setCell ?_ (by first | (simp; done) | (simp; omega) | omega) _) | (with_reducible refine Below.alloc ?_ (by first | (simp; done) | (simp; omega) | omega) _) | (refine bl_call ?_ (by assumption) (by first | (simp; done) | (simp; omega) | omega)) | (with_reducible refine bl_drewN ?_) | (with_reducible refine Below.drew ?_) | (with_reducible refine bl_grow ?_ (by first | (simp; done) | (simp; omega) | omega)))⟩
  case rest =>
  clear hqwc HO21
  obtain ⟨hw1, hw2, hqwc⟩ := hcut
  have hzwc := hqwc.size
  have HWB : Hid (((e5 == 0) = true → wc.ownsRow w.heap.size 45 3 u21 n (cellsT KX KY KF n)) ∧ ((e5 == 0) = false → u21 = .slice none 0 0)) := ⟨hw1, hw2⟩
  clear hw1 hw2
  go_wp2_with (first | (go_at_call 23; clear m11; refine (HU.out _ (by repeat (first | (with_reducible exact Below.refl _ _) | (with_reducible assumption) | (with_reducible refine Below.setCell ?_ (by first | (simp; done) | (simp; omega) | omega) _) | (with_reducible refine Below.alloc ?_ (by first | (simp; done) | (simp; omega) | omega) _) | (refine bl_call ?_ (by assumption) (by first | (simp; done) | (simp; omega) | omega)) | (with_reducible refine bl_drewN ?_) | (with_reducible refine Below.drew ?_) | (with_reducible refine bl_grow ?_ (by first | (simp; done) | (simp; omega) | omega))))).mono ?_; rintro e w15 ⟨u15_, rfl, hs1, hs2, hb15⟩; have hq15 : Below w.heap.size w w15 := (by repeat (first | (with_reducible exact Below.refl _ _) | (with_reducible assumption) | (with_reducible refine Below.setCell ?_ (by first | (simp; done) | (simp; omega) | omega) _) | (with_reducible refine Below.alloc ?_ (by first | (simp; done) | (simp; omega) | omega) _) | (refine bl_call ?_ (by assumption) (by first | (simp; done) | (simp; omega) | omega)) | (with_reducible refine bl_drewN ?_) | (with_reducible refine Below.drew ?_) | (with_reducible refine bl_grow ?_ (by first | (simp; done) | (simp; omega) | omega)))); have hz15 := hq15.size; have HSS : Hid (∀ W, Below w15.heap.size w15 W → Calls Tryd.prog 24 #[u15_, u21] W fun ex w' => ex = .returned (.bool true) ∧ Below W.heap.size W w') := spots_same (fun h => hs1 h) hs2 (fun h => own_stay (HWB.out.1 h) hb15) HWB.out.2 (fun h => HN.out h); clear hs1 hs2 hb15) | (go_at_call 8; clear m12; refine (same_below _ _ _ (I5.out) (HD.out.under (by repeat (first | (with_reducible exact Below.refl _ _) | (with_reducible assumption) | (with_reducible refine Below.setCell ?_ (by first | (simp; done) | (simp; omega) | omega) _) | (with_reducible refine Below.alloc ?_ (by first | (simp; done) | (simp; omega) | omega) _) | (refine bl_call ?_ (by assumption) (by first | (simp; done) | (simp; omega) | omega)) | (with_reducible refine bl_drewN ?_) | (with_reducible refine Below.drew ?_) | (with_reducible refine bl_grow ?_ (by first | (simp; done) | (simp; omega) | omega)))))).mono ?_; rintro e w16 ⟨rfl, hb16⟩; have hq16 : Below w.heap.size w w16 := (by repeat (first | (with_reducible exact Below.refl _ _) | (with_reducible assumption) | (with_reducible refine Below.setCell ?_ (by first | (simp; done) | (simp; omega) | omega) _) | (with_reducible refine Below.alloc ?_ (by first | (simp; done) | (simp; omega) | omega) _) | (refine bl_call ?_ (by assumption) (by first | (simp; done) | (simp; omega) | omega)) | (with_reducible refine bl_drewN ?_) | (with_reducible refine Below.drew ?_) | (with_reducible refine bl_grow ?_ (by first | (simp; done) | (simp; omega) | omega)))); have hz16 := hq16.size; have hc16 : Below w15.heap.size w15 w16 := hb16; clear hb16) | (go_at_call 24; clear m13; refine (HSS.out _ hc16).mono ?_; rintro e w17 ⟨rfl, hb17⟩; have hq17 : Below w.heap.size w w17 := (by repeat (first | (with_reducible exact Below.refl _ _) | (with_reducible assumption) | (with_reducible refine Below.setCell ?_ (by first | (simp; done) | (simp; omega) | omega) _) | (with_reducible refine Below.alloc ?_ (by first | (simp; done) | (simp; omega) | omega) _) | (refine bl_call ?_ (by assumption) (by first | (simp; done) | (simp; omega) | omega)) | (with_reducible refine bl_drewN ?_) | (with_reducible refine Below.drew ?_) | (with_reducible refine bl_grow ?_ (by first | (simp; done) | (simp; omega) | omega)))); have hz17 := hq17.size; clear hb17))
  go_ret
  exact ⟨rfl, by repeat (first | (with_reducible exact Below.refl _ _) | (with_reducible assumption) | (with_reducible refine Below.setCell ?_ (by first | (simp; done) | (simp; omega) | omega) _) | (with_reducible refine Below.alloc ?_ (by first | (simp; done) | (simp; omega) | omega) _) | (refine bl_call ?_ (by assumption) (by first | (simp; done) | (simp; omega) | omega)) | (with_reducible refine bl_drewN ?_) | (with_reducible refine Below.drew ?_) | (with_reducible refine bl_grow ?_ (by first | (simp; done) | (simp; omega) | omega)))⟩
end Go.Proofs.YtkhpmnehjifdcafDoor
