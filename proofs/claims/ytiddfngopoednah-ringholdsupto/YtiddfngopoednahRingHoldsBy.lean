/- stonelaw3.RingHolds answers true, by what package ring is to answer, of so many numbers as there is room for. -/
import Derived.Test.YtiddfngopoednahRingIs
import Derived.Test.YtiddfngopoednahSeal
import Derived.Test.YtiddfngopoednahOwn
import Derived.Deep.RegionHeld3
import Derived.Deep.CutRange
import Derived.Deep.CutBlock
import Derived.BigQuiet
namespace Go.Proofs.Ytiddfngopoednah
open Go.RowKit Go.Sort
set_option linter.unusedVariables false
set_option linter.unusedSimpArgs false
theorem hpinfo : (Try.prog.info? 23).map (fun i => (i.zero, i.size, i.bytes)) = some (some (.agg #[.int .i64 0, .int .i64 0, .bool false]), 3, 24) := by kernel_rfl
theorem hthree_new {w : World} {b : Nat} (h : w.heap.size = b) (x y z : Value) (t : TypeId) : ∀ j u, [x, y, z][j]? = some u → (w.alloc (.cells #[x, y, z] t)).cell? ((⟨b, 0, none⟩ : Addr).add j) = some u := by
  subst h
  intro j u hj
  rw [addr_add]
  match j, hj with
  | 0, hj => simp at hj; subst hj; simp
  | 1, hj => simp at hj; subst hj; simp
  | 2, hj => simp at hj; subst hj; simp
theorem hsec_bd {n : Int} (h : secB n = true) : 1 ≤ n ∧ n < 1013 := of_decide_eq_true h
set_option maxRecDepth 100000 in
set_option maxHeartbeats 8000000 in
theorem rholds (sx ss : Option Addr) (n dx m ds : Nat) (X S R1 R2 : Nat → Int) (pa kk z1 z2 : Int) (t : ByteArray) (w : World) (hn : n ≤ 1048576) (hm9 : m ≤ 9223372036854775807)
    (hr : (n = 0 ∨ ∃ b o : Nat, sx = some ⟨b, o, none⟩ ∧ RowI w b o n X)) (hS1 : ∀ W b c, Below w.heap.size w W → At W b [.int .i64 ((tM (4 * 1)).1 : Int), .int .i64 ((tM (4 * 1)).2.1 : Int), .bool (tM (4 * 1)).2.2] → At W c [.int .i64 0] → Calls Try.prog 18 #[.slice (some ⟨b, 0, none⟩) 1 1, .int .i64 0, .int .i64 1, .int .i64 2, .slice (some ⟨c, 0, none⟩) 1 1, .string ⟨#[97]⟩] W fun ex w' => ∃ g o e : Nat, 1 ≤ e ∧ W.heap.size ≤ g ∧ ex = .returned (.tuple #[.agg #[.int .i64 z1, .slice (some ⟨g, o, none⟩) 1 e], .nilIface]) ∧ RowI w' g o 1 R1 ∧ Below W.heap.size W w') (hV1 : ∀ W b g o e, Below w.heap.size w W → At W b [.int .i64 ((tM (4 * 1)).1 : Int), .int .i64 ((tM (4 * 1)).2.1 : Int), .bool (tM (4 * 1)).2.2] → RowI W g o 1 R1 → 1 ≤ e → Calls Try.prog 19 #[.slice (some ⟨b, 0, none⟩) 1 1, .string ⟨#[97]⟩, .agg #[.int .i64 z1, .slice (some ⟨g, o, none⟩) 1 e]] W fun ex w' => ex = .returned (.tuple #[.bool true, .nilIface]) ∧ Below W.heap.size W w') (hS : ∀ px, (∀ i, i < n → secB (X i) = true) → 0 ≤ pa → pa < (n : Int) → px = X pa.toNat → (∃ e0 : Int, ∀ W u B, Below w.heap.size w W → W.ownsRow B 23 3 u n (cellsT (fun i => ((tM (4 * (X i).toNat)).1 : Int)) (fun i => ((tM (4 * (X i).toNat)).2.1 : Int)) (fun i => (tM (4 * (X i).toNat)).2.2) n) → Calls Try.prog 18 #[u, .int .i64 pa, .int .i64 px, .int .i64 kk, .slice ss m ds, .string t] W fun ex w' => ex = .returned (.tuple #[.agg #[.int .i64 0, .slice none 0 0], errOf e0]) ∧ Below W.heap.size W w') ∨ (m = n ∧ n ≤ 12 ∧ (∃ b o : Nat, ss = some ⟨b, o, none⟩ ∧ RowI w b o n S) ∧ (∀ i, i < n → (i : Int) ≠ pa → R2 i = S i) ∧ (∀ W u B, Below w.heap.size w W → W.ownsRow B 23 3 u n (cellsT (fun i => ((tM (4 * (X i).toNat)).1 : Int)) (fun i => ((tM (4 * (X i).toNat)).2.1 : Int)) (fun i => (tM (4 * (X i).toNat)).2.2) n) → Calls Try.prog 18 #[u, .int .i64 pa, .int .i64 px, .int .i64 kk, .slice ss m ds, .string t] W fun ex w' => ∃ g o e : Nat, n ≤ e ∧ W.heap.size ≤ g ∧ ex = .returned (.tuple #[.agg #[.int .i64 z2, .slice (some ⟨g, o, none⟩) n e], .nilIface]) ∧ RowI w' g o n R2 ∧ Below W.heap.size W w') ∧ (∀ W u B g o e, Below w.heap.size w W → W.ownsRow B 23 3 u n (cellsT (fun i => ((tM (4 * (X i).toNat)).1 : Int)) (fun i => ((tM (4 * (X i).toNat)).2.1 : Int)) (fun i => (tM (4 * (X i).toNat)).2.2) n) → RowI W g o n R2 → n ≤ e → Calls Try.prog 19 #[u, .string t, .agg #[.int .i64 z2, .slice (some ⟨g, o, none⟩) n e]] W fun ex w' => ex = .returned (.tuple #[.bool true, .nilIface]) ∧ Below W.heap.size W w'))) : Calls Try.prog 6 #[.slice sx n dx, .int .i64 pa, .int .i64 kk, .slice ss m ds, .string t] w fun e w' => e = .returned (.bool true) ∧ Below w.heap.size w w' := by
  have HR : Hid ((n = 0 ∨ ∃ b o : Nat, sx = some ⟨b, o, none⟩ ∧ RowI w b o n X)) := hr
  have HS1 : Hid (∀ W b c, Below w.heap.size w W → At W b [.int .i64 ((tM (4 * 1)).1 : Int), .int .i64 ((tM (4 * 1)).2.1 : Int), .bool (tM (4 * 1)).2.2] → At W c [.int .i64 0] → Calls Try.prog 18 #[.slice (some ⟨b, 0, none⟩) 1 1, .int .i64 0, .int .i64 1, .int .i64 2, .slice (some ⟨c, 0, none⟩) 1 1, .string ⟨#[97]⟩] W fun ex w' => ∃ g o e : Nat, 1 ≤ e ∧ W.heap.size ≤ g ∧ ex = .returned (.tuple #[.agg #[.int .i64 z1, .slice (some ⟨g, o, none⟩) 1 e], .nilIface]) ∧ RowI w' g o 1 R1 ∧ Below W.heap.size W w') := hS1
  have HV1 : Hid (∀ W b g o e, Below w.heap.size w W → At W b [.int .i64 ((tM (4 * 1)).1 : Int), .int .i64 ((tM (4 * 1)).2.1 : Int), .bool (tM (4 * 1)).2.2] → RowI W g o 1 R1 → 1 ≤ e → Calls Try.prog 19 #[.slice (some ⟨b, 0, none⟩) 1 1, .string ⟨#[97]⟩, .agg #[.int .i64 z1, .slice (some ⟨g, o, none⟩) 1 e]] W fun ex w' => ex = .returned (.tuple #[.bool true, .nilIface]) ∧ Below W.heap.size W w') := hV1
  have HS : Hid (∀ px, (∀ i, i < n → secB (X i) = true) → 0 ≤ pa → pa < (n : Int) → px = X pa.toNat → (∃ e0 : Int, ∀ W u B, Below w.heap.size w W → W.ownsRow B 23 3 u n (cellsT (fun i => ((tM (4 * (X i).toNat)).1 : Int)) (fun i => ((tM (4 * (X i).toNat)).2.1 : Int)) (fun i => (tM (4 * (X i).toNat)).2.2) n) → Calls Try.prog 18 #[u, .int .i64 pa, .int .i64 px, .int .i64 kk, .slice ss m ds, .string t] W fun ex w' => ex = .returned (.tuple #[.agg #[.int .i64 0, .slice none 0 0], errOf e0]) ∧ Below W.heap.size W w') ∨ (m = n ∧ n ≤ 12 ∧ (∃ b o : Nat, ss = some ⟨b, o, none⟩ ∧ RowI w b o n S) ∧ (∀ i, i < n → (i : Int) ≠ pa → R2 i = S i) ∧ (∀ W u B, Below w.heap.size w W → W.ownsRow B 23 3 u n (cellsT (fun i => ((tM (4 * (X i).toNat)).1 : Int)) (fun i => ((tM (4 * (X i).toNat)).2.1 : Int)) (fun i => (tM (4 * (X i).toNat)).2.2) n) → Calls Try.prog 18 #[u, .int .i64 pa, .int .i64 px, .int .i64 kk, .slice ss m ds, .string t] W fun ex w' => ∃ g o e : Nat, n ≤ e ∧ W.heap.size ≤ g ∧ ex = .returned (.tuple #[.agg #[.int .i64 z2, .slice (some ⟨g, o, none⟩) n e], .nilIface]) ∧ RowI w' g o n R2 ∧ Below W.heap.size W w') ∧ (∀ W u B g o e, Below w.heap.size w W → W.ownsRow B 23 3 u n (cellsT (fun i => ((tM (4 * (X i).toNat)).1 : Int)) (fun i => ((tM (4 * (X i).toNat)).2.1 : Int)) (fun i => (tM (4 * (X i).toNat)).2.2) n) → RowI W g o n R2 → n ≤ e → Calls Try.prog 19 #[u, .string t, .agg #[.int .i64 z2, .slice (some ⟨g, o, none⟩) n e]] W fun ex w' => ex = .returned (.tuple #[.bool true, .nilIface]) ∧ Below W.heap.size W w'))) := hS
  have HK1 : Hid (∀ w, Calls Try.prog 15 #[.int .i64 1] w fun e w' => e = .returned (.tuple #[.agg #[.int .i64 ((tM (4 * 1)).1 : Int), .int .i64 ((tM (4 * 1)).2.1 : Int), .bool (tM (4 * 1)).2.2], .nilIface]) ∧ Below w.heap.size w w') := fun w => key_yes 1 w (by omega) (by omega)
  clear hr hS1 hV1 hS
  obtain ⟨i0, hi, hv0, hv1, hv2⟩ := info_parts hpinfo
  have m1 : True := trivial; have m2 : True := trivial; have m3 : True := trivial
  go_enter Try.func6, Try.ntmps6
  go_upto_block 0 with (first | (go_at_call 15; clear m1; refine (HK1.out _).mono ?_; rintro e w1 ⟨rfl, hbw1⟩; have hqw1 : Below w.heap.size w w1 := (by repeat (first | (with_reducible exact Below.refl _ _) | (with_reducible assumption) | (with_reducible refine Below.setCell ?_ (by first | (simp; done) | (simp; omega) | omega) _) | (with_reducible refine Below.alloc ?_ (by first | (simp; done) | (simp; omega) | omega) _) | (refine bl_call ?_ (by assumption) (by first | (simp; done) | (simp; omega) | omega)) | (with_reducible refine bl_drewN ?_) | (with_reducible refine Below.drew ?_) | (with_reducible refine bl_grow ?_ (by first | (simp; done) | (simp; omega) | omega)))); have hzw1 := hqw1.size; clear hbw1) | (go_at_call 18; clear m2; refine (HS1.out _ _ _ (by repeat (first | (with_reducible exact Below.refl _ _) | (with_reducible assumption) | (with_reducible refine Below.setCell ?_ (by first | (simp; done) | (simp; omega) | omega) _) | (with_reducible refine Below.alloc ?_ (by first | (simp; done) | (simp; omega) | omega) _) | (refine bl_call ?_ (by assumption) (by first | (simp; done) | (simp; omega) | omega)) | (with_reducible refine bl_drewN ?_) | (with_reducible refine Below.drew ?_) | (with_reducible refine bl_grow ?_ (by first | (simp; done) | (simp; omega) | omega)))) (by repeat (first | (with_reducible assumption) | ((with_reducible refine at_new' _ _ _ _ ?_); (first | rfl | (simp; done))) | (with_reducible refine At.alloc ?_ _) | (with_reducible refine At.drew ?_) | (with_reducible refine At.drewN ?_) | (with_reducible refine At.set ?_ (by omega)) | (with_reducible apply At.store4) | (with_reducible apply At.store3) | (with_reducible apply At.store2) | (with_reducible apply At.put43) | (refine At.below ?_ (by with_reducible assumption)))) (by repeat (first | (with_reducible assumption) | ((with_reducible refine at_new' _ _ _ _ ?_); (first | rfl | (simp; done))) | (with_reducible refine At.alloc ?_ _) | (with_reducible refine At.drew ?_) | (with_reducible refine At.drewN ?_) | (with_reducible refine At.set ?_ (by omega)) | (with_reducible apply At.store4) | (with_reducible apply At.store3) | (with_reducible apply At.store2) | (with_reducible apply At.put43) | (refine At.below ?_ (by with_reducible assumption))))).mono ?_; rintro e_ w2 ⟨g, o, e, he1, hge, rfl, hrow, hb2⟩; have kaw2 : At w2 (w1.heap.size) [.int .i64 ((tM (4 * 1)).1 : Int), .int .i64 ((tM (4 * 1)).2.1 : Int), .bool (tM (4 * 1)).2.2] := (by repeat (first | (with_reducible assumption) | ((with_reducible refine at_new' _ _ _ _ ?_); (first | rfl | (simp; done))) | (with_reducible refine At.alloc ?_ _) | (with_reducible refine At.drew ?_) | (with_reducible refine At.drewN ?_) | (with_reducible refine At.set ?_ (by omega)) | (with_reducible apply At.store4) | (with_reducible apply At.store3) | (with_reducible apply At.store2) | (with_reducible apply At.put43) | (refine At.below ?_ (by with_reducible assumption)))); have hqw2 : Below w.heap.size w w2 := (by repeat (first | (with_reducible exact Below.refl _ _) | (with_reducible assumption) | (with_reducible refine Below.setCell ?_ (by first | (simp; done) | (simp; omega) | omega) _) | (with_reducible refine Below.alloc ?_ (by first | (simp; done) | (simp; omega) | omega) _) | (refine bl_call ?_ (by assumption) (by first | (simp; done) | (simp; omega) | omega)) | (with_reducible refine bl_drewN ?_) | (with_reducible refine Below.drew ?_) | (with_reducible refine bl_grow ?_ (by first | (simp; done) | (simp; omega) | omega)))); have hzw2 := hqw2.size; have HRW : Hid (∀ W, Below w2.heap.size w2 W → RowI W g o 1 R1) := fun W k_ => hrow.below hrow.1 k_; obtain ⟨zaw2, ca0w2, ca1w2, ca2w2, fa0w2, fa1w2, fa2w2⟩ := kaw2.three; clear hb2 hrow) | (go_at_call 19; clear m3; refine (HV1.out _ _ _ _ _ (by repeat (first | (with_reducible exact Below.refl _ _) | (with_reducible assumption) | (with_reducible refine Below.setCell ?_ (by first | (simp; done) | (simp; omega) | omega) _) | (with_reducible refine Below.alloc ?_ (by first | (simp; done) | (simp; omega) | omega) _) | (refine bl_call ?_ (by assumption) (by first | (simp; done) | (simp; omega) | omega)) | (with_reducible refine bl_drewN ?_) | (with_reducible refine Below.drew ?_) | (with_reducible refine bl_grow ?_ (by first | (simp; done) | (simp; omega) | omega)))) (by repeat (first | (with_reducible assumption) | ((with_reducible refine at_new' _ _ _ _ ?_); (first | rfl | (simp; done))) | (with_reducible refine At.alloc ?_ _) | (with_reducible refine At.drew ?_) | (with_reducible refine At.drewN ?_) | (with_reducible refine At.set ?_ (by omega)) | (with_reducible apply At.store4) | (with_reducible apply At.store3) | (with_reducible apply At.store2) | (with_reducible apply At.put43) | (refine At.below ?_ (by with_reducible assumption)))) (HRW.out _ (by repeat (first | (with_reducible exact Below.refl _ _) | (with_reducible assumption) | (with_reducible refine Below.setCell ?_ (by first | (simp; done) | (simp; omega) | omega) _) | (with_reducible refine Below.alloc ?_ (by first | (simp; done) | (simp; omega) | omega) _) | (refine bl_call ?_ (by assumption) (by first | (simp; done) | (simp; omega) | omega)) | (with_reducible refine bl_drewN ?_) | (with_reducible refine Below.drew ?_) | (with_reducible refine bl_grow ?_ (by first | (simp; done) | (simp; omega) | omega))))) he1).mono ?_; rintro e_ w3 ⟨rfl, hb3⟩; have kow3 : At w3 (w2.heap.size) [.int .i64 z1, .slice (some ⟨g, o, none⟩) 1 e] := (by repeat (first | (with_reducible assumption) | ((with_reducible refine at_new' _ _ _ _ ?_); (first | rfl | (simp; done))) | (with_reducible refine At.alloc ?_ _) | (with_reducible refine At.drew ?_) | (with_reducible refine At.drewN ?_) | (with_reducible refine At.set ?_ (by omega)) | (with_reducible apply At.store4) | (with_reducible apply At.store3) | (with_reducible apply At.store2) | (with_reducible apply At.put43) | (refine At.below ?_ (by with_reducible assumption)))); have hqw3 : Below w.heap.size w w3 := (by repeat (first | (with_reducible exact Below.refl _ _) | (with_reducible assumption) | (with_reducible refine Below.setCell ?_ (by first | (simp; done) | (simp; omega) | omega) _) | (with_reducible refine Below.alloc ?_ (by first | (simp; done) | (simp; omega) | omega) _) | (refine bl_call ?_ (by assumption) (by first | (simp; done) | (simp; omega) | omega)) | (with_reducible refine bl_drewN ?_) | (with_reducible refine Below.drew ?_) | (with_reducible refine bl_grow ?_ (by first | (simp; done) | (simp; omega) | omega)))); have hzw3 := hqw3.size; obtain ⟨zow3, co0w3, co1w3, fo0w3, fo1w3⟩ := kow3.two; clear hb3))
  
  refine wp_gen (fun V => Below w.heap.size w V) (by repeat (first | (with_reducible exact Below.refl _ _) | (with_reducible assumption) | (with_reducible refine Below.setCell ?_ (by first | (simp; done) | (simp; omega) | omega) _) | (with_reducible refine Below.alloc ?_ (by first | (simp; done) | (simp; omega) | omega) _) | (refine bl_call ?_ (by assumption) (by first | (simp; done) | (simp; omega) | omega)) | (with_reducible refine bl_drewN ?_) | (with_reducible refine Below.drew ?_) | (with_reducible refine bl_grow ?_ (by first | (simp; done) | (simp; omega) | omega)))) ?_
  rintro V hqV
  have hzV := hqV.size
  clear kow3 co0w3 fo0w3 co1w3 fo1w3 kaw2 ca0w2 fa0w2 ca1w2 fa1w2 ca2w2 fa2w2 hqw1 hqw2 hqw3
  go_wp2_with fail
  go_loopw [17, 18] (fun tv ti wl => ∃ k : Nat, k ≤ n ∧ ti = .int .i64 k ∧ (∀ i, i < k → secB (X i) = true) ∧ wl.ownsRow V.heap.size 23 3 tv k (cellsT (fun i => ((tM (4 * (X i).toNat)).1 : Int)) (fun i => ((tM (4 * (X i).toNat)).2.1 : Int)) (fun i => (tM (4 * (X i).toNat)).2.2) k) ∧ Below V.heap.size V wl) (fun _ ti _ => n - (intOf ti).toNat)
  case atStart => exact ⟨0, by omega, rfl, fun i hi => absurd hi (Nat.not_lt_zero _), World.ownsRow_nil _ _ _ _, Below.refl _ _⟩
  case round =>
    obtain ⟨k, hk, rfl, hgood, hown, hqU⟩ := hrel
    have HGD : Hid (∀ i, i < k → secB (X i) = true) := hgood
    clear hgood
    rename World => U
    have hzU := hqU.size
    by_cases hlt : k < n
    · have hlt' : (k : Int) < (n : Int) := by omega
      obtain ⟨b, o, rfl, hz⟩ := HR.out.resolve_left (by omega)
      have hqw : Below w.heap.size w U := bl_call hqV hqU hzV
      have hbU := Nat.lt_of_lt_of_le hz.1 hqw.size
      have c0 := (hz.below hz.1 hqw).2 k hlt
      clear hz hqw
      cases hsk : secB (X k) with
      | false =>
        have HE : Hid (∀ w, Calls Try.prog 15 #[.int .i64 (X k)] w fun e w' => e = .returned (.tuple #[.agg #[.int .i64 0, .int .i64 0, .bool false], errOf 1]) ∧ Below w.heap.size w w') := fun w => key_no _ w (by
          have h : ¬ (1 ≤ X k ∧ X k < 1013) := of_decide_eq_false hsk
          omega)
        clear hsk
        go_wp2_with (go_at_call 15; refine (HE.out _).mono ?_; rintro e_ w5 ⟨rfl, hb5⟩; have hq5 : Below V.heap.size V w5 := (by repeat (first | (with_reducible exact Below.refl _ _) | (with_reducible assumption) | (with_reducible refine Below.setCell ?_ (by first | (simp; done) | (simp; omega) | omega) _) | (with_reducible refine Below.alloc ?_ (by first | (simp; done) | (simp; omega) | omega) _) | (refine bl_call ?_ (by assumption) (by first | (simp; done) | (simp; omega) | omega)) | (with_reducible refine bl_drewN ?_) | (with_reducible refine Below.drew ?_) | (with_reducible refine bl_grow ?_ (by first | (simp; done) | (simp; omega) | omega)))); have hz5 := hq5.size; have hown5 := own_stay hown hb5; clear hb5)
        go_ret
        exact ⟨rfl, bl_call hqV (by repeat (first | (with_reducible exact Below.refl _ _) | (with_reducible assumption) | (with_reducible refine Below.setCell ?_ (by first | (simp; done) | (simp; omega) | omega) _) | (with_reducible refine Below.alloc ?_ (by first | (simp; done) | (simp; omega) | omega) _) | (refine bl_call ?_ (by assumption) (by first | (simp; done) | (simp; omega) | omega)) | (with_reducible refine bl_drewN ?_) | (with_reducible refine Below.drew ?_) | (with_reducible refine bl_grow ?_ (by first | (simp; done) | (simp; omega) | omega)))) hzV⟩
      | true =>
        have HE : Hid (∀ w, Calls Try.prog 15 #[.int .i64 (X k)] w fun e w' => e = .returned (.tuple #[.agg #[.int .i64 ((tM (4 * (X k).toNat)).1 : Int), .int .i64 ((tM (4 * (X k).toNat)).2.1 : Int), .bool (tM (4 * (X k).toNat)).2.2], .nilIface]) ∧ Below w.heap.size w w') := fun w => by
          obtain ⟨a1, a2⟩ := hsec_bd hsk
          have := key_yes (X k).toNat w (by omega) (by omega)
          rwa [Int.toNat_of_nonneg (by omega)] at this
        have HGN : Hid (∀ i, i < k + 1 → secB (X i) = true) := fun i hi => (Nat.lt_succ_iff_lt_or_eq.1 hi).elim (fun h => HGD.out i h) (fun h => h ▸ hsk)
        clear hsk
        go_wp2_with (first | (go_at_call 15; refine (HE.out _).mono ?_; rintro e_ w5 ⟨rfl, hb5⟩; have hq5 : Below V.heap.size V w5 := (by repeat (first | (with_reducible exact Below.refl _ _) | (with_reducible assumption) | (with_reducible refine Below.setCell ?_ (by first | (simp; done) | (simp; omega) | omega) _) | (with_reducible refine Below.alloc ?_ (by first | (simp; done) | (simp; omega) | omega) _) | (refine bl_call ?_ (by assumption) (by first | (simp; done) | (simp; omega) | omega)) | (with_reducible refine bl_drewN ?_) | (with_reducible refine Below.drew ?_) | (with_reducible refine bl_grow ?_ (by first | (simp; done) | (simp; omega) | omega)))); have hz5 := hq5.size; have hown5 := own_stay hown hb5; clear hb5) | (at_builtin; refine wpList_append_own_at _ rfl _ _ 49 rfl V.heap.size 23 i0 (.agg #[.int .i64 0, .int .i64 0, .bool false]) 3 24 Try.underlying49 hi hv0 hv1 hv2 rfl (by decide) _ _ _ rfl (own_stay hown5 (by repeat (first | (with_reducible exact Below.refl _ _) | (with_reducible assumption) | (with_reducible refine Below.setCell ?_ (by first | (simp; done) | (simp; omega) | omega) _) | (with_reducible refine Below.alloc ?_ (by first | (simp; done) | (simp; omega) | omega) _) | (refine bl_call ?_ (by assumption) (by first | (simp; done) | (simp; omega) | omega)) | (with_reducible refine bl_drewN ?_) | (with_reducible refine Below.drew ?_) | (with_reducible refine bl_grow ?_ (by first | (simp; done) | (simp; omega) | omega))))) ⟨_, 0, none⟩ 1 1 [.int .i64 ((tM (4 * (X k).toNat)).1 : Int), .int .i64 ((tM (4 * (X k).toNat)).2.1 : Int), .bool (tM (4 * (X k).toNat)).2.2] rfl rfl ?c1 ?c2 ?c3 ?c4 ?c5 ?_))
        case c1 => exact hthree_new (by simp) _ _ _ _
        case c2 => intro u hu; simp at hu; rcases hu with rfl | rfl | rfl <;> rfl
        case c3 => unfold maxLen; omega
        case c4 => omega
        case c5 => simp; omega
        · intro v' w13 hown' hgrow _ hat
          have hq13 : Below V.heap.size V w13 := grown_under (B := V.heap.size) (by repeat (first | (with_reducible exact Below.refl _ _) | (with_reducible assumption) | (with_reducible refine Below.setCell ?_ (by first | (simp; done) | (simp; omega) | omega) _) | (with_reducible refine Below.alloc ?_ (by first | (simp; done) | (simp; omega) | omega) _) | (refine bl_call ?_ (by assumption) (by first | (simp; done) | (simp; omega) | omega)) | (with_reducible refine bl_drewN ?_) | (with_reducible refine Below.drew ?_) | (with_reducible refine bl_grow ?_ (by first | (simp; done) | (simp; omega) | omega)))) (own_stay hown5 (by repeat (first | (with_reducible exact Below.refl _ _) | (with_reducible assumption) | (with_reducible refine Below.setCell ?_ (by first | (simp; done) | (simp; omega) | omega) _) | (with_reducible refine Below.alloc ?_ (by first | (simp; done) | (simp; omega) | omega) _) | (refine bl_call ?_ (by assumption) (by first | (simp; done) | (simp; omega) | omega)) | (with_reducible refine bl_drewN ?_) | (with_reducible refine Below.drew ?_) | (with_reducible refine bl_grow ?_ (by first | (simp; done) | (simp; omega) | omega))))) hgrow (by simp; omega) (Nat.le_refl _)
          rw [← cellsT_succ (fun i => ((tM (4 * (X i).toNat)).1 : Int)) (fun i => ((tM (4 * (X i).toNat)).2.1 : Int)) (fun i => (tM (4 * (X i).toNat)).2.2)] at hown'
          clear hgrow hat hown hown5
          go_wp2_with fail
          go_roundw
          case rel => exact ⟨k + 1, by omega, by simp, HGN.out, hown', hq13⟩
          case measure => simp [intOf]; omega
    · have hlt' : ¬ (k : Int) < (n : Int) := by omega
      obtain rfl : k = n := by omega
      have hqw : Below w.heap.size w U := bl_call hqV hqU hzV
      have hzw := hqw.size
      clear hqV hqU
      by_cases p1 : pa < 0
      · go_wp2_with fail
        go_ret
        exact ⟨rfl, by repeat (first | (with_reducible exact Below.refl _ _) | (with_reducible assumption) | (with_reducible refine Below.setCell ?_ (by first | (simp; done) | (simp; omega) | omega) _) | (with_reducible refine Below.alloc ?_ (by first | (simp; done) | (simp; omega) | omega) _) | (refine bl_call ?_ (by assumption) (by first | (simp; done) | (simp; omega) | omega)) | (with_reducible refine bl_drewN ?_) | (with_reducible refine Below.drew ?_) | (with_reducible refine bl_grow ?_ (by first | (simp; done) | (simp; omega) | omega)))⟩
      by_cases p2 : pa ≥ (k : Int)
      · go_wp2_with fail
        go_ret
        exact ⟨rfl, by repeat (first | (with_reducible exact Below.refl _ _) | (with_reducible assumption) | (with_reducible refine Below.setCell ?_ (by first | (simp; done) | (simp; omega) | omega) _) | (with_reducible refine Below.alloc ?_ (by first | (simp; done) | (simp; omega) | omega) _) | (refine bl_call ?_ (by assumption) (by first | (simp; done) | (simp; omega) | omega)) | (with_reducible refine bl_drewN ?_) | (with_reducible refine Below.drew ?_) | (with_reducible refine bl_grow ?_ (by first | (simp; done) | (simp; omega) | omega)))⟩
      obtain ⟨a, rfl⟩ : ∃ a : Nat, pa = (a : Int) := ⟨pa.toNat, by omega⟩
      have hak : a < k := by omega
      obtain ⟨b, o, rfl, hz⟩ := HR.out.resolve_left (by omega)
      have hbU := Nat.lt_of_lt_of_le hz.1 hzw
      have c0 := (hz.below hz.1 hqw).2 a hak
      clear hz
      
      rcases HS.out (X a) HGD.out (by omega) (by omega) (by rw [Int.toNat_natCast]) with ⟨e0, hs⟩ | ⟨hmn, hn12, hrs, heq, hs, hv⟩
      · have HSE : Hid (∀ W u B, Below w.heap.size w W → W.ownsRow B 23 3 u k (cellsT (fun i => ((tM (4 * (X i).toNat)).1 : Int)) (fun i => ((tM (4 * (X i).toNat)).2.1 : Int)) (fun i => (tM (4 * (X i).toNat)).2.2) k) → Calls Try.prog 18 #[u, .int .i64 (a : Int), .int .i64 (X a), .int .i64 kk, .slice ss m ds, .string t] W fun ex w' => ex = .returned (.tuple #[.agg #[.int .i64 0, .slice none 0 0], errOf e0]) ∧ Below W.heap.size W w') := hs
        have HOW : Hid (U.ownsRow V.heap.size 23 3 u17 k (cellsT (fun i => ((tM (4 * (X i).toNat)).1 : Int)) (fun i => ((tM (4 * (X i).toNat)).2.1 : Int)) (fun i => (tM (4 * (X i).toNat)).2.2) k)) := hown
        clear hs hown
        go_wp2_with (go_at_call 18; refine (HSE.out _ _ _ (by repeat (first | (with_reducible exact Below.refl _ _) | (with_reducible assumption) | (with_reducible refine Below.setCell ?_ (by first | (simp; done) | (simp; omega) | omega) _) | (with_reducible refine Below.alloc ?_ (by first | (simp; done) | (simp; omega) | omega) _) | (refine bl_call ?_ (by assumption) (by first | (simp; done) | (simp; omega) | omega)) | (with_reducible refine bl_drewN ?_) | (with_reducible refine Below.drew ?_) | (with_reducible refine bl_grow ?_ (by first | (simp; done) | (simp; omega) | omega)))) (own_stay HOW.out (by repeat (first | (with_reducible exact Below.refl _ _) | (with_reducible assumption) | (with_reducible refine Below.setCell ?_ (by first | (simp; done) | (simp; omega) | omega) _) | (with_reducible refine Below.alloc ?_ (by first | (simp; done) | (simp; omega) | omega) _) | (refine bl_call ?_ (by assumption) (by first | (simp; done) | (simp; omega) | omega)) | (with_reducible refine bl_drewN ?_) | (with_reducible refine Below.drew ?_) | (with_reducible refine bl_grow ?_ (by first | (simp; done) | (simp; omega) | omega)))))).mono ?_; rintro e_ w6 ⟨rfl, hb6⟩; have hq6 : Below w.heap.size w w6 := (by repeat (first | (with_reducible exact Below.refl _ _) | (with_reducible assumption) | (with_reducible refine Below.setCell ?_ (by first | (simp; done) | (simp; omega) | omega) _) | (with_reducible refine Below.alloc ?_ (by first | (simp; done) | (simp; omega) | omega) _) | (refine bl_call ?_ (by assumption) (by first | (simp; done) | (simp; omega) | omega)) | (with_reducible refine bl_drewN ?_) | (with_reducible refine Below.drew ?_) | (with_reducible refine bl_grow ?_ (by first | (simp; done) | (simp; omega) | omega)))); have hz6 := hq6.size; clear hb6)
        go_ret
        exact ⟨rfl, by repeat (first | (with_reducible exact Below.refl _ _) | (with_reducible assumption) | (with_reducible refine Below.setCell ?_ (by first | (simp; done) | (simp; omega) | omega) _) | (with_reducible refine Below.alloc ?_ (by first | (simp; done) | (simp; omega) | omega) _) | (refine bl_call ?_ (by assumption) (by first | (simp; done) | (simp; omega) | omega)) | (with_reducible refine bl_drewN ?_) | (with_reducible refine Below.drew ?_) | (with_reducible refine bl_grow ?_ (by first | (simp; done) | (simp; omega) | omega)))⟩
      
      · obtain ⟨b2, o2, rfl, hrS⟩ := hrs
        have HSO : Hid (∀ W u B, Below w.heap.size w W → W.ownsRow B 23 3 u k (cellsT (fun i => ((tM (4 * (X i).toNat)).1 : Int)) (fun i => ((tM (4 * (X i).toNat)).2.1 : Int)) (fun i => (tM (4 * (X i).toNat)).2.2) k) → Calls Try.prog 18 #[u, .int .i64 (a : Int), .int .i64 (X a), .int .i64 kk, .slice (some ⟨b2, o2, none⟩) m ds, .string t] W fun ex w' => ∃ g o e : Nat, k ≤ e ∧ W.heap.size ≤ g ∧ ex = .returned (.tuple #[.agg #[.int .i64 z2, .slice (some ⟨g, o, none⟩) k e], .nilIface]) ∧ RowI w' g o k R2 ∧ Below W.heap.size W w') := hs
        have HVO : Hid (∀ W u B g o e, Below w.heap.size w W → W.ownsRow B 23 3 u k (cellsT (fun i => ((tM (4 * (X i).toNat)).1 : Int)) (fun i => ((tM (4 * (X i).toNat)).2.1 : Int)) (fun i => (tM (4 * (X i).toNat)).2.2) k) → RowI W g o k R2 → k ≤ e → Calls Try.prog 19 #[u, .string t, .agg #[.int .i64 z2, .slice (some ⟨g, o, none⟩) k e]] W fun ex w' => ex = .returned (.tuple #[.bool true, .nilIface]) ∧ Below W.heap.size W w') := hv
        have HEQ : Hid (∀ i, i < k → (i : Int) ≠ (a : Int) → R2 i = S i) := heq
        have HRS : Hid (RowI w b2 o2 k S) := hrS
        have HOW : Hid (U.ownsRow V.heap.size 23 3 u17 k (cellsT (fun i => ((tM (4 * (X i).toNat)).1 : Int)) (fun i => ((tM (4 * (X i).toNat)).2.1 : Int)) (fun i => (tM (4 * (X i).toNat)).2.2) k)) := hown
        have TM : ((k : Int) != (m : Int)) = false := by rw [hmn]; simp
        have hb2 := hrS.1
        have hm1 : m ≤ k := by omega
        have hm2 : k ≤ m := by omega
        clear hs hv heq hrS hown hmn
        have m1 : True := trivial; have m2 : True := trivial
        go_upto_block 2 with (first | (go_at_call 18; clear m1; refine (HSO.out _ _ _ (by repeat (first | (with_reducible exact Below.refl _ _) | (with_reducible assumption) | (with_reducible refine Below.setCell ?_ (by first | (simp; done) | (simp; omega) | omega) _) | (with_reducible refine Below.alloc ?_ (by first | (simp; done) | (simp; omega) | omega) _) | (refine bl_call ?_ (by assumption) (by first | (simp; done) | (simp; omega) | omega)) | (with_reducible refine bl_drewN ?_) | (with_reducible refine Below.drew ?_) | (with_reducible refine bl_grow ?_ (by first | (simp; done) | (simp; omega) | omega)))) (own_stay HOW.out (by repeat (first | (with_reducible exact Below.refl _ _) | (with_reducible assumption) | (with_reducible refine Below.setCell ?_ (by first | (simp; done) | (simp; omega) | omega) _) | (with_reducible refine Below.alloc ?_ (by first | (simp; done) | (simp; omega) | omega) _) | (refine bl_call ?_ (by assumption) (by first | (simp; done) | (simp; omega) | omega)) | (with_reducible refine bl_drewN ?_) | (with_reducible refine Below.drew ?_) | (with_reducible refine bl_grow ?_ (by first | (simp; done) | (simp; omega) | omega)))))).mono ?_; rintro e_ w6 ⟨g, q, e, hge, hgb, rfl, hrow, hb6⟩; have hq6 : Below w.heap.size w w6 := (by repeat (first | (with_reducible exact Below.refl _ _) | (with_reducible assumption) | (with_reducible refine Below.setCell ?_ (by first | (simp; done) | (simp; omega) | omega) _) | (with_reducible refine Below.alloc ?_ (by first | (simp; done) | (simp; omega) | omega) _) | (refine bl_call ?_ (by assumption) (by first | (simp; done) | (simp; omega) | omega)) | (with_reducible refine bl_drewN ?_) | (with_reducible refine Below.drew ?_) | (with_reducible refine bl_grow ?_ (by first | (simp; done) | (simp; omega) | omega)))); have hz6 := hq6.size; have HOW6 : Hid (∀ W, Below w6.heap.size w6 W → W.ownsRow V.heap.size 23 3 u17 k (cellsT (fun i => ((tM (4 * (X i).toNat)).1 : Int)) (fun i => ((tM (4 * (X i).toNat)).2.1 : Int)) (fun i => (tM (4 * (X i).toNat)).2.2) k)) := (fun W k_ => own_stay (own_stay HOW.out hb6) k_); have HR6 : Hid (∀ W, Below w6.heap.size w6 W → RowI W g q k R2) := (fun W k_ => hrow.below hrow.1 k_); clear hb6 hrow) | (go_at_call 19; clear m2; refine (HVO.out _ _ _ _ _ _ (by repeat (first | (with_reducible exact Below.refl _ _) | (with_reducible assumption) | (with_reducible refine Below.setCell ?_ (by first | (simp; done) | (simp; omega) | omega) _) | (with_reducible refine Below.alloc ?_ (by first | (simp; done) | (simp; omega) | omega) _) | (refine bl_call ?_ (by assumption) (by first | (simp; done) | (simp; omega) | omega)) | (with_reducible refine bl_drewN ?_) | (with_reducible refine Below.drew ?_) | (with_reducible refine bl_grow ?_ (by first | (simp; done) | (simp; omega) | omega)))) (HOW6.out _ (by repeat (first | (with_reducible exact Below.refl _ _) | (with_reducible assumption) | (with_reducible refine Below.setCell ?_ (by first | (simp; done) | (simp; omega) | omega) _) | (with_reducible refine Below.alloc ?_ (by first | (simp; done) | (simp; omega) | omega) _) | (refine bl_call ?_ (by assumption) (by first | (simp; done) | (simp; omega) | omega)) | (with_reducible refine bl_drewN ?_) | (with_reducible refine Below.drew ?_) | (with_reducible refine bl_grow ?_ (by first | (simp; done) | (simp; omega) | omega))))) (HR6.out _ (by repeat (first | (with_reducible exact Below.refl _ _) | (with_reducible assumption) | (with_reducible refine Below.setCell ?_ (by first | (simp; done) | (simp; omega) | omega) _) | (with_reducible refine Below.alloc ?_ (by first | (simp; done) | (simp; omega) | omega) _) | (refine bl_call ?_ (by assumption) (by first | (simp; done) | (simp; omega) | omega)) | (with_reducible refine bl_drewN ?_) | (with_reducible refine Below.drew ?_) | (with_reducible refine bl_grow ?_ (by first | (simp; done) | (simp; omega) | omega))))) hge).mono ?_; rintro e_ w7 ⟨rfl, hb7⟩; have kz7 : At w7 (w6.heap.size) [.int .i64 z2, .slice (some ⟨g, q, none⟩) k e] := (by repeat (first | (with_reducible assumption) | ((with_reducible refine at_new' _ _ _ _ ?_); (first | rfl | (simp; done))) | (with_reducible refine At.alloc ?_ _) | (with_reducible refine At.drew ?_) | (with_reducible refine At.drewN ?_) | (with_reducible refine At.set ?_ (by omega)) | (with_reducible apply At.store4) | (with_reducible apply At.store3) | (with_reducible apply At.store2) | (with_reducible apply At.put43) | (refine At.below ?_ (by with_reducible assumption)))); have hy7 : Below w6.heap.size w6 w7 := (by repeat (first | (with_reducible exact Below.refl _ _) | (with_reducible assumption) | (with_reducible refine Below.setCell ?_ (by first | (simp; done) | (simp; omega) | omega) _) | (with_reducible refine Below.alloc ?_ (by first | (simp; done) | (simp; omega) | omega) _) | (refine bl_call ?_ (by assumption) (by first | (simp; done) | (simp; omega) | omega)) | (with_reducible refine bl_drewN ?_) | (with_reducible refine Below.drew ?_) | (with_reducible refine bl_grow ?_ (by first | (simp; done) | (simp; omega) | omega)))); have HR7 : Hid (RowI w7 g q k R2) := HR6.out w7 hy7; have hq7 : Below w.heap.size w w7 := (by repeat (first | (with_reducible exact Below.refl _ _) | (with_reducible assumption) | (with_reducible refine Below.setCell ?_ (by first | (simp; done) | (simp; omega) | omega) _) | (with_reducible refine Below.alloc ?_ (by first | (simp; done) | (simp; omega) | omega) _) | (refine bl_call ?_ (by assumption) (by first | (simp; done) | (simp; omega) | omega)) | (with_reducible refine bl_drewN ?_) | (with_reducible refine Below.drew ?_) | (with_reducible refine bl_grow ?_ (by first | (simp; done) | (simp; omega) | omega)))); have hz7 := hq7.size; obtain ⟨zz7, cz07, cz17, fz07, fz17⟩ := kz7.two; clear hb7 hy7))
        
        go_wp2_with fail
        go_loopw [25] (fun ti wl => ∃ i : Nat, i ≤ k ∧ ti = .int .i64 i ∧ Below w7.heap.size w7 wl) (fun ti _ => k - (intOf ti).toNat)
        case atStart => exact ⟨0, by omega, rfl, by repeat (first | (with_reducible exact Below.refl _ _) | (with_reducible assumption) | (with_reducible refine Below.setCell ?_ (by first | (simp; done) | (simp; omega) | omega) _) | (with_reducible refine Below.alloc ?_ (by first | (simp; done) | (simp; omega) | omega) _) | (refine bl_call ?_ (by assumption) (by first | (simp; done) | (simp; omega) | omega)) | (with_reducible refine bl_drewN ?_) | (with_reducible refine Below.drew ?_) | (with_reducible refine bl_grow ?_ (by first | (simp; done) | (simp; omega) | omega)))⟩
        case round =>
          obtain ⟨i, hik, rfl, hqQ⟩ := hrel
          rename World => Q
          have hzQ := hqQ.size
          have kzQ := kz7.below hqQ
          clear kz7 cz07 cz17 fz07 fz17
          obtain ⟨zzQ, cz0Q, cz1Q, fz0Q, fz1Q⟩ := kzQ.two
          by_cases hi_ : i < k
          · have hi' : (i : Int) < (m : Int) := by omega
            have hik' : (i : Int) < (k : Int) := by omega
            have c1 := (HR7.out.below HR7.out.1 hqQ).2 i hi_
            have hgQ : g < Q.heap.size := Nat.lt_of_lt_of_le HR7.out.1 hzQ
            have hqwQ : Below w.heap.size w Q := bl_call hq7 hqQ hz7
            have d1 := (HRS.out.below hb2 hqwQ).2 i hi_
            have hbQ : b2 < Q.heap.size := Nat.lt_of_lt_of_le hb2 hqwQ.size
            by_cases hia : i = a
            · have T : ((i : Int) != (a : Int)) = false := by rw [hia]; simp
              clear hia
              go_wp2_with fail
              go_quiet (fail)
              go_wp2_with fail
              go_roundw
              case rel => exact ⟨i + 1, by omega, by simp, by repeat (first | (with_reducible exact Below.refl _ _) | (with_reducible assumption) | (with_reducible refine Below.setCell ?_ (by first | (simp; done) | (simp; omega) | omega) _) | (with_reducible refine Below.alloc ?_ (by first | (simp; done) | (simp; omega) | omega) _) | (refine bl_call ?_ (by assumption) (by first | (simp; done) | (simp; omega) | omega)) | (with_reducible refine bl_drewN ?_) | (with_reducible refine Below.drew ?_) | (with_reducible refine bl_grow ?_ (by first | (simp; done) | (simp; omega) | omega)))⟩
              case measure => simp [intOf]; omega
            · have T : ((i : Int) != (a : Int)) = true := by rw [bne_iff_ne]; omega
              have T2 : (S i != S i) = false := by simp
              rw [HEQ.out i hi_ (by omega)] at c1
              go_wp2_with fail
              go_quiet (fail)
              go_wp2_with fail
              go_roundw
              case rel => exact ⟨i + 1, by omega, by simp, by repeat (first | (with_reducible exact Below.refl _ _) | (with_reducible assumption) | (with_reducible refine Below.setCell ?_ (by first | (simp; done) | (simp; omega) | omega) _) | (with_reducible refine Below.alloc ?_ (by first | (simp; done) | (simp; omega) | omega) _) | (refine bl_call ?_ (by assumption) (by first | (simp; done) | (simp; omega) | omega)) | (with_reducible refine bl_drewN ?_) | (with_reducible refine Below.drew ?_) | (with_reducible refine bl_grow ?_ (by first | (simp; done) | (simp; omega) | omega)))⟩
              case measure => simp [intOf]; omega
          · have hi' : ¬ (i : Int) < (m : Int) := by omega
            have hqwQ : Below w.heap.size w Q := bl_call hq7 hqQ hz7
            go_wp2_with fail
            go_ret
            exact ⟨rfl, hqwQ⟩
theorem hrowT {X Y : Nat → Int} {F : Nat → Bool} {K : Nat → Nat} : ∀ {n : Nat}, (∀ i, i < n → X i = ((tM (K i)).1 : Int) ∧ Y i = ((tM (K i)).2.1 : Int) ∧ F i = (tM (K i)).2.2) → rowE X Y F n = 0
  | 0, _ => rfl
  | n + 1, h => by
    obtain ⟨a, b, c⟩ := h n (by omega)
    unfold rowE
    rw [hrowT (n := n) (fun i hi => h i (by omega)), a, b, c]
    exact ck_tM _
theorem hres_nat {k : Nat} (h : k < 1013) : resB (k : Int) = true := decide_eq_true ⟨by omega, by omega⟩
theorem rw_lt {K s : Nat → Nat} {n : Nat} {t : ByteArray} {a x k : Nat} (h : ∀ i, i < n → i ≠ a → s i < 1013) {i : Nat} (hi : i < n) : rwN K s n t a x k i < 1013 := by
  by_cases hia : i = a
  · subst hia; rw [rw_at]; exact rzN_lt _ _ _ _ _ _ _
  · rw [rw_ne _ _ _ _ _ _ hia]; exact h i hi hia
/-- What is sealed by one of them is right. -/
theorem rv_right (hV : RVerifyIs) (sl : Option Addr) (n d : Nat) (X Y : Nat → Int) (F : Nat → Bool) (K s : Nat → Nat) (a x k : Nat) (t : ByteArray) (W : World) (hn : n ≤ 9223372036854775807) (hd : n ≤ d) (hr : n = 0 ∨ ∃ b o : Nat, sl = some ⟨b, o, none⟩ ∧ RowO W b o n X Y F) (hg : rgE X Y F n t = 0) (hK : (∀ i, i < n → X i = ((tM (K i)).1 : Int) ∧ Y i = ((tM (K i)).2.1 : Int) ∧ F i = (tM (K i)).2.2)) (ha : a < n) (hKa : tM (K a) = tM (4 * x)) (hs : ∀ i, i < n → i ≠ a → s i < 1013)
    (g o e : Nat) (hrow : RowI W g o n (fun i => (rwN K s n t a x k i : Int))) (he : n ≤ e) :
    Calls Try.prog 19 #[.slice sl n d, .string t, .agg #[.int .i64 (r0N K s n t a k : Int), .slice (some ⟨g, o, none⟩) n e]] W fun ex w' => ex = .returned (.tuple #[.bool true, .nilIface]) ∧ Below W.heap.size W w' := by
  have ht := (rgE_zero hg).2.2.2
  have := hV.2.2.2 sl n d X Y F K (r0N K s n t a k) (some ⟨g, o, none⟩) e (fun i => (rwN K s n t a x k i : Int)) t W hn hd hr (by omega) hg hK he ⟨g, o, rfl, hrow⟩ (r0N_lt _ _ _ _ _ _) (fun i hi => hres_nat (rw_lt hs hi))
  have e1 : (fun i => ((rwN K s n t a x k i : Nat) : Int).toNat) = rwN K s n t a x k := funext fun i => Int.toNat_natCast _
  rw [e1, rc_right ha hKa, Nat.beq_refl] at this
  exact this
theorem hrow_one {w : World} {b : Nat} (h : At w b [.int .i64 ((tM (4 * 1)).1 : Int), .int .i64 ((tM (4 * 1)).2.1 : Int), .bool (tM (4 * 1)).2.2]) : RowO w b 0 1 (fun _ => ((tM (4 * 1)).1 : Int)) (fun _ => ((tM (4 * 1)).2.1 : Int)) (fun _ => (tM (4 * 1)).2.2) := by
  refine ⟨h.1, fun i hi => ?_⟩
  rcases i with _ | i
  · exact ⟨h.2.1 0 (by simp), h.2.1 1 (by simp), h.2.1 2 (by simp)⟩
  · omega
theorem hint_one {w : World} {b : Nat} (h : At w b [.int .i64 0]) : RowI w b 0 1 (fun _ => 0) := by
  refine ⟨h.1, fun i hi => ?_⟩
  rcases i with _ | i
  · exact h.2.1 0 (by simp)
  · omega
theorem ringHolds_by (hS : RSignIs) (hV : RVerifyIs) (w : World) (sx : Option Addr) (n dx : Nat) (pa kk : Int) (ss : Option Addr) (m ds : Nat) (t : ByteArray)
    (hn : n ≤ 1048576) (uX : (n = 0 ∨ ∃ (b o : Nat) (X : Nat → Int), sx = some ⟨b, o, none⟩ ∧ RowI w b o n X ∧ ∀ i, i < n → (Lit.int .i64 (X i)).wf = true)) (wa : (Lit.int .i64 pa).wf = true) (wk : (Lit.int .i64 kk).wf = true) (hm : m ≤ maxLen) (us : (m = 0 ∨ ∃ (b o : Nat) (X : Nat → Int), ss = some ⟨b, o, none⟩ ∧ RowI w b o m X ∧ ∀ i, i < m → (Lit.int .i64 (X i)).wf = true)) (km : m ≤ ds) (ht : t.size ≤ maxLen) : Calls Try.prog 6 #[.slice sx n dx, .int .i64 pa, .int .i64 kk, .slice ss m ds, .string t] w fun e w' => e = .returned (.bool true) ∧ Below w.heap.size w w' := by
  have ht' : t.size ≤ 9223372036854775807 := ht
  have hm' : m ≤ 9223372036854775807 := hm
  obtain ⟨X, hX, wX⟩ : ∃ X : Nat → Int, (n = 0 ∨ ∃ b o : Nat, sx = some ⟨b, o, none⟩ ∧ RowI w b o n X) ∧ ∀ i, i < n → (Lit.int .i64 (X i)).wf = true := by
    rcases uX with h | ⟨b, o, X, e, r, k⟩
    · exact ⟨fun _ => 0, Or.inl h, fun i hi => by omega⟩
    · exact ⟨X, Or.inr ⟨b, o, e, r⟩, k⟩
  obtain ⟨S, hSr, wS⟩ : ∃ S : Nat → Int, (m = 0 ∨ ∃ b o : Nat, ss = some ⟨b, o, none⟩ ∧ RowI w b o m S) ∧ ∀ i, i < m → (Lit.int .i64 (S i)).wf = true := by
    rcases us with h | ⟨b, o, X, e, r, k⟩
    · exact ⟨fun _ => 0, Or.inl h, fun i hi => by omega⟩
    · exact ⟨X, Or.inr ⟨b, o, e, r⟩, k⟩
  have g1 : rgE (fun _ => ((tM (4 * 1)).1 : Int)) (fun _ => ((tM (4 * 1)).2.1 : Int)) (fun _ => (tM (4 * 1)).2.2) 1 ⟨#[97]⟩ = 0 := rgE_ok (by omega) (by omega) (hrowT (K := fun _ => 4 * 1) fun i _ => ⟨rfl, rfl, rfl⟩) (by decide)
  refine rholds sx ss n dx m ds X S (fun i => (rwN (fun _ => 4 * 1) (fun _ => 0) 1 ⟨#[97]⟩ 0 1 2 i : Int)) (fun i => (rwN (fun i => 4 * (X i).toNat) (fun i => (S i).toNat) n t pa.toNat (X pa.toNat).toNat kk.toNat i : Int)) pa kk (r0N (fun _ => 4 * 1) (fun _ => 0) 1 ⟨#[97]⟩ 0 2 : Int) (r0N (fun i => 4 * (X i).toNat) (fun i => (S i).toNat) n t pa.toNat kk.toNat : Int) t w hn hm' hX ?_ ?_ ?_
  · intro W b c hW h1 h2
    exact hS.2.2.2.2 _ 1 1 _ _ _ (fun _ => 4 * 1) 0 1 2 _ 1 (fun _ => 0) ⟨#[97]⟩ W (by omega) (Nat.le_refl _) (Or.inr ⟨b, 0, rfl, hrow_one h1⟩) (by decide) g1 (fun i _ => ⟨rfl, rfl, rfl⟩) (Nat.le_refl _) ⟨c, 0, rfl, hint_one h2⟩ (fun i _ => rfl) (by omega) (by omega) (by omega) (by omega) (by omega) (fun i _ _ => rfl) rfl
  · intro W b g o e hW h1 h2 h3
    exact rv_right hV _ 1 1 _ _ _ (fun _ => 4 * 1) (fun _ => 0) 0 1 2 ⟨#[97]⟩ W (by omega) (Nat.le_refl _) (Or.inr ⟨b, 0, rfl, hrow_one h1⟩) g1 (fun i _ => ⟨rfl, rfl, rfl⟩) (by omega) rfl (fun i _ _ => by omega) g o e h2 h3
  · intro px hgood p0 p1 hpx
    obtain ⟨a, rfl⟩ : ∃ a : Nat, pa = (a : Int) := ⟨pa.toNat, by omega⟩
    rw [Int.toNat_natCast] at hpx ⊢
    have ha : a < n := by omega
    obtain ⟨x1, x2⟩ := hsec_bd (hgood a ha)
    obtain ⟨x, hx⟩ : ∃ x : Nat, X a = (x : Int) := ⟨(X a).toNat, by omega⟩
    have hT : ∀ i, i < n → (fun i => ((tM (4 * (X i).toNat)).1 : Int)) i = ((tM ((fun i => 4 * (X i).toNat) i)).1 : Int) ∧ (fun i => ((tM (4 * (X i).toNat)).2.1 : Int)) i = ((tM ((fun i => 4 * (X i).toNat) i)).2.1 : Int) ∧ (fun i => (tM (4 * (X i).toNat)).2.2) i = (tM ((fun i => 4 * (X i).toNat) i)).2.2 := fun i _ => ⟨rfl, rfl, rfl⟩
    have hK0 := hrowT hT
    subst hpx
    rw [hx, Int.toNat_natCast]
    rw [hx] at x1 x2
    have key : ∀ {W : World} {u : Value} {B : Nat}, W.ownsRow B 23 3 u n (cellsT (fun i => ((tM (4 * (X i).toNat)).1 : Int)) (fun i => ((tM (4 * (X i).toNat)).2.1 : Int)) (fun i => (tM (4 * (X i).toNat)).2.2) n) → ∃ (sa : Option Addr) (c : Nat), u = .slice sa n c ∧ n ≤ c ∧ (n = 0 ∨ ∃ b o : Nat, sa = some ⟨b, o, none⟩ ∧ RowO W b o n (fun i => ((tM (4 * (X i).toNat)).1 : Int)) (fun i => ((tM (4 * (X i).toNat)).2.1 : Int)) (fun i => (tM (4 * (X i).toNat)).2.2)) := fun hu => by
      obtain ⟨sa, c, rfl, r⟩ := own_spots hu
      exact ⟨sa, c, rfl, own_room hu, r.imp_right fun ⟨g, e, _, _, q⟩ => ⟨g, 0, e, q⟩⟩
    cases hg : rgE (fun i => ((tM (4 * (X i).toNat)).1 : Int)) (fun i => ((tM (4 * (X i).toNat)).2.1 : Int)) (fun i => (tM (4 * (X i).toNat)).2.2) n t == 0 with
    | false =>
      left
      refine ⟨rgE (fun i => ((tM (4 * (X i).toNat)).1 : Int)) (fun i => ((tM (4 * (X i).toNat)).2.1 : Int)) (fun i => (tM (4 * (X i).toNat)).2.2) n t, fun W u B hW hu => ?_⟩
      obtain ⟨sa, c, rfl, k1, k2⟩ := key hu
      exact hS.1 sa n c _ _ _ a x kk ss m ds t W (by omega) k1 k2 ht' hm' hg
    | true =>
      have hg0 : rgE (fun i => ((tM (4 * (X i).toNat)).1 : Int)) (fun i => ((tM (4 * (X i).toNat)).2.1 : Int)) (fun i => (tM (4 * (X i).toNat)).2.2) n t = 0 := by simpa using hg
      obtain ⟨n0, n12, _, h60⟩ := rgE_zero hg0
      by_cases hmn : m = n
      · subst hmn
        obtain ⟨b2, o2, rfl, rS⟩ := hSr.resolve_left (by omega)
        have hupS : ∀ W, Below w.heap.size w W → (∃ b'' o'' : Nat, (some ⟨b2, o2, none⟩ : Option Addr) = some ⟨b'', o'', none⟩ ∧ RowI W b'' o'' m S) := fun W k_ => ⟨b2, o2, rfl, rS.below rS.1 k_⟩
        have wx : (Lit.int .i64 (x : Int)).wf = true := by have := wX a ha; rwa [hx] at this
        by_cases hbad : secB kk = false ∨ ∃ i, i < m ∧ (i : Int) ≠ (a : Int) ∧ resB (S i) = false
        · left
          refine ⟨1, fun W u B hW hu => ?_⟩
          obtain ⟨sa, c, rfl, k1, k2⟩ := key hu
          exact hS.2.2.1 sa m c _ _ _ a x kk _ ds S t W (by omega) k1 k2 ht' hg0 km (hupS W hW) wS wa wx wk (Or.inr (Or.inr (Or.inr hbad)))
        · right
          have hk : secB kk = true := by
            cases h : secB kk with
            | true => rfl
            | false => exact absurd (Or.inl h) hbad
          obtain ⟨k1, k2⟩ := hsec_bd hk
          obtain ⟨k, rfl⟩ : ∃ k : Nat, kk = (k : Int) := ⟨kk.toNat, by omega⟩
          rw [Int.toNat_natCast]
          have res : ∀ i, i < m → i ≠ a → resB (S i) = true := fun i hi hia => by
            cases h : resB (S i) with
            | true => rfl
            | false => exact absurd (Or.inr ⟨i, hi, by omega, h⟩) hbad
          have resb : ∀ i, i < m → i ≠ a → 0 ≤ S i ∧ S i < 1013 := fun i hi hia => of_decide_eq_true (res i hi hia)
          have hKa : tM ((fun i => 4 * (X i).toNat) a) = tM (4 * x) := by show tM (4 * (X a).toNat) = _; rw [hx, Int.toNat_natCast]
          refine ⟨rfl, n12, ⟨b2, o2, rfl, rS⟩, fun i hi hia => ?_, fun W u B hW hu => ?_, fun W u B g o e hW hu hrow he => ?_⟩
          · have hia' : i ≠ a := by omega
            have := resb i hi hia'
            show ((rwN (fun i => 4 * (X i).toNat) (fun i => (S i).toNat) m t a x k i : Nat) : Int) = S i
            rw [rw_ne _ _ _ _ _ _ hia']
            show (((S i).toNat : Nat) : Int) = S i
            omega
          · obtain ⟨sa, c, rfl, q1, q2⟩ := key hu
            exact hS.2.2.2.2 sa m c _ _ _ (fun i => 4 * (X i).toNat) a x k _ ds S t W (by omega) q1 q2 ht' hg0 hT km (hupS W hW) wS ha (by omega) (by omega) (by omega) (by omega) res hKa.symm
          · obtain ⟨sa, c, rfl, q1, q2⟩ := key hu
            exact rv_right hV sa m c _ _ _ (fun i => 4 * (X i).toNat) (fun i => (S i).toNat) a x k t W (by omega) q1 q2 hg0 hT ha hKa (fun i hi hia => by have := resb i hi hia; show (S i).toNat < 1013; omega) g o e hrow he
      · left
        refine ⟨3, fun W u B hW hu => ?_⟩
        obtain ⟨sa, c, rfl, k1, k2⟩ := key hu
        exact hS.2.1 sa n c _ _ _ a x kk ss m ds t W (by omega) k1 k2 ht' hm' hg0 hmn
end Go.Proofs.Ytiddfngopoednah
