/- stonelaw3.LogKeeps, by what its callees answer. -/
import Derived.Test.YtpkkclcjiobgoajGreatDoorKA
import Derived.Test.YtpkkclcjiobgoajGreatDoorKG
import Derived.Lib.QuietBelow
import Derived.Deep.RegionHeld3
import Derived.Deep.RegionWith
import Derived.Deep.CutRange
import Derived.Deep.CutBlock
import Derived.Laws.OwnMore
namespace Go.Proofs.YtpkkclcjiobgoajGreatDoor
open Go.RowKit Go.Sort
set_option linter.unusedVariables false
set_option linter.unusedSimpArgs false
theorem lkp_new {PL : World → Value → (Nat → Prop) → LogS → Prop} (hO : PLok PL) {A : Nat} {W1 W2 W3 : World} {vj : Value} {Q : Nat → Prop} {p n : Nat} {K : Nat → Nat} {u v : Value} (h : PL W1 vj Q (LogS.new n K)) (hQ : ∀ i, Q i → A ≤ i) (hb1 : Below W1.heap.size W1 W2) (hb : BookAt 25 4 W2.heap.size W3 p u v n K (fun _ => false)) (hb2 : Below W2.heap.size W2 W3) (hA : A ≤ W2.heap.size) :
    LKp PL A ((W3.alloc (.cells #[.pointer (some ⟨p, 0, none⟩)] 44)).alloc (.cells #[.int .i64 0] 3)) vj (.slice (some ⟨W3.heap.size, 0, none⟩) 1 1) (.slice (some ⟨W3.heap.size + 1, 0, none⟩) 1 1) 0 true := by
  have s1 := hb1.size
  have s2 := hb2.size
  have a1 : Below W3.heap.size W3 (W3.alloc (.cells #[.pointer (some ⟨p, 0, none⟩)] 44)) := (Below.refl _ _).alloc (Nat.le_refl _) _
  have a2 : Below (W3.alloc (.cells #[.pointer (some ⟨p, 0, none⟩)] 44)).heap.size (W3.alloc (.cells #[.pointer (some ⟨p, 0, none⟩)] 44)) ((W3.alloc (.cells #[.pointer (some ⟨p, 0, none⟩)] 44)).alloc (.cells #[.int .i64 0] 3)) := (Below.refl _ _).alloc (Nat.le_refl _) _
  have hz : (W3.alloc (.cells #[.pointer (some ⟨p, 0, none⟩)] 44)).heap.size = W3.heap.size + 1 := by simp
  have hup := fun {W W' : World} {s : LogS} (h : PL W vj Q s) (hb : Below W.heap.size W W') => hO.stay h (But.of_below (fun _ => False) hb) fun _ _ e => e
  have hp := hup (hup (hup (hup h hb1) hb2) a1) a2
  have hql := fun x hx => hO.lt h x hx
  have hbk := ((hb.below a1).below a2).low hA
  have o1 := (World.ownsRow_lit (base := A) (e := 44) (size := 1) W3 #[.pointer (some ⟨p, 0, none⟩)] 1 (by omega) (by unfold maxLen; omega) rfl)
  have o2 := (World.ownsRow_lit (base := A) (e := 3) (size := 1) (W3.alloc (.cells #[.pointer (some ⟨p, 0, none⟩)] 44)) #[.int .i64 0] 1 (by rw [hz]; omega) (by unfold maxLen; omega) rfl)
  rw [hz] at o2
  have hft := fun x (hx : ft p u v x) => hb.lt hx
  have hfg := fun x (hx : ft p u v x) => hb.ge hx
  refine ⟨Q, LogS.new n K, fun _ => p, fun _ => u, fun _ => v, ⟨hp, ⟨fun i _ => hbk, own_stay o1 a2, o2, fun i _ x hx => ⟨fun e => ?_, fun e => ?_⟩, fun e => ?_⟩, fun x hx => ⟨hQ x hx, fun f => ?_⟩⟩, Nat.le_refl _, fun _ => rfl⟩
  · injection e with e; dsimp only at e; have := hft x hx; omega
  · injection e with e; dsimp only at e; have := hft x hx; omega
  · injection e with e; dsimp only at e; omega
  · have h1 := hql x hx
    rcases f with f | f | ⟨i, _, f⟩
    · injection f with f; dsimp only at f; omega
    · injection f with f; dsimp only at f; omega
    · have := hfg x f; omega
set_option maxRecDepth 100000 in
set_option maxHeartbeats 16000000 in
theorem lkeeps_main (PL : World → Value → (Nat → Prop) → LogS → Prop) (R0 : Sn) (z0 : Int) (S1 S2 S3 S4 : World → Value → (Nat → Prop) → Prop) (S5 S6 : Nat → World → Value → (Nat → Prop) → Prop) (n d L ca ny cy nf cf nk ck : Nat) (sl sa sy sf sk : Option Addr) (w : World) (hd : Door w) (K : Nat → Nat) (Xy Xf Xk : Nat → Int) (hn : n ≤ 12)
    (hHC0 : ∀ w, Calls Tryz.prog 14 #[.int .i64 0, .int .i64 1, .agg #[.int .i64 0, .int .i64 0, .bool true]] w fun ex w' => ex = .returned (.tuple #[.agg #[.int .i64 ((R0).1 : Int), .int .i64 ((R0).2.1 : Int), .bool (R0).2.2, .int .i64 z0], .nilIface]) ∧ Below w.heap.size w w')
    (hHN0 : ∀ W, Calls Tryz.prog 29 #[.slice none 0 0] W fun ex w' => ∃ vo Q, ex = .returned (.tuple #[vo, .nilIface]) ∧ S1 w' vo Q ∧ (∀ i, Q i → W.heap.size ≤ i ∧ i < w'.heap.size) ∧ Below W.heap.size W w')
    (hH1 : ∀ W vo bz, OnJ (S1) W vo w.heap.size bz bz → Calls Tryz.prog 31 #[vo, .agg #[.slice none 0 0, .slice none 0 0, .int .i64 ((R0).1 : Int), .int .i64 ((R0).2.1 : Int), .bool (R0).2.2, .int .i64 z0]] W fun ex w' => ex = .returned (.nilIface) ∧ OnJ (S2) w' vo w.heap.size bz bz ∧ Keep w.heap.size bz bz W w')
    (hH2 : ∀ W vo bz, OnJ (S2) W vo w.heap.size bz bz → Calls Tryz.prog 32 #[vo] W fun ex w' => ex = .returned (.nilIface) ∧ OnJ (S3) w' vo w.heap.size bz bz ∧ Keep w.heap.size bz bz W w')
    (hH3 : ∀ W vo bz, OnJ (S3) W vo w.heap.size bz bz → Calls Tryz.prog 31 #[vo, .agg #[.slice none 0 0, .slice none 0 0, .int .i64 ((R0).1 : Int), .int .i64 ((R0).2.1 : Int), .bool (R0).2.2, .int .i64 z0]] W fun ex w' => ex = .returned (.nilIface) ∧ OnJ (S4) w' vo w.heap.size bz bz ∧ Keep w.heap.size bz bz W w')
    (hH4 : ∀ W vo bz, OnJ (S4) W vo w.heap.size bz bz → Calls Tryz.prog 35 #[vo] W fun ex w' => ∃ k : Nat, ex = .returned (.int .i64 (k : Int)) ∧ OnJ (S5 k) w' vo w.heap.size bz bz ∧ Keep w.heap.size bz bz W w')
    (hH5 : ∀ (k : Nat) W vo bz, OnJ (S5 k) W vo w.heap.size bz bz → Calls Tryz.prog 33 #[vo, .int .i64 0] W fun ex w' => ex = .returned (.tuple #[]) ∧ OnJ (S6 k) w' vo w.heap.size bz bz ∧ Keep w.heap.size bz bz W w')
    (hH6 : ∀ (k : Nat) W vo bz, OnJ (S6 k) W vo w.heap.size bz bz → k ≥ 2)
    (hH7 : ∀ (k : Nat) W vo bz, OnJ (S6 k) W vo w.heap.size bz bz → Calls Tryz.prog 34 #[vo] W fun ex w' => ex = .returned (.int .i64 (k : Int)) ∧ OnJ (S6 k) w' vo w.heap.size bz bz ∧ Keep w.heap.size bz bz W w')
    (hH8 : ∀ (k : Nat) W vo bz, OnJ (S6 k) W vo w.heap.size bz bz → Calls Tryz.prog 35 #[vo] W fun ex w' => ex = .returned (.int .i64 (k : Int)) ∧ OnJ (S6 k) w' vo w.heap.size bz bz ∧ Keep w.heap.size bz bz W w')
    (hH9 : ∀ (k : Nat) W vo bz, OnJ (S6 k) W vo w.heap.size bz bz → Calls Tryz.prog 36 #[vo] W fun ex w' => ex = .returned (.agg #[.int .i64 0, .int .i64 0, .bool true]) ∧ OnJ (S6 k) w' vo w.heap.size bz bz ∧ Keep w.heap.size bz bz W w')
    (hHCO : ∀ W, Below w.heap.size w W → Calls Tryz.prog 15 #[.slice sl n d] W fun ex w' => ex = .returned (.int .i64 0) ∧ Below W.heap.size W w')
    (hHNW : ∀ W, Below w.heap.size w W → Calls Tryz.prog 29 #[.slice sl n d] W fun ex w' => ∃ (v : Value) (Q : Nat → Prop), ex = .returned (.tuple #[v, .nilIface]) ∧ PL w' v Q (LogS.new n K) ∧ (∀ i, Q i → W.heap.size ≤ i) ∧ Below W.heap.size W w')
    (hHNB : ∀ W, Below w.heap.size w W → Calls Tryz.prog 17 #[.slice sl n d] W fun ex w' => ∃ p, ex = .returned (.pointer (some ⟨p, 0, none⟩)) ∧ BookOf 25 4 W.heap.size w' p n K (fun _ => false) ∧ Below W.heap.size W w')
    (hHDL : L = 0 ∨ ∃ (b o : Nat) (D : Nat → DealV), sa = some ⟨b, o, none⟩ ∧ RowD w b o L D)
    (hRY : (ny = 0 ∨ ∃ b o : Nat, sy = some ⟨b, o, none⟩ ∧ RowI w b o ny Xy))
    (hRF : (nf = 0 ∨ ∃ b o : Nat, sf = some ⟨b, o, none⟩ ∧ RowI w b o nf Xf))
    (hRK : (nk = 0 ∨ ∃ b o : Nat, sk = some ⟨b, o, none⟩ ∧ RowI w b o nk Xk))
    (hWF : ∀ i, i < nf → (Lit.int .i64 (Xf i)).wf = true)
    (hWK : ∀ i, i < nk → (Lit.int .i64 (Xk i)).wf = true)
    (hHOK : PLok PL)
    (hHDO : LDoIs PL)
    (hHSY : LSyncIs PL)
    (hHFA : LFailIs PL)
    (hHCR : LCrashIs PL)
    (hHLIV : LLiveIs PL)
    (hHTOT : LTotalIs PL)
    (hHBY : LBytesIs PL)
    (hHSA : LSafeIs PL)
    : Calls Tryz.prog 5 #[.slice sl n d, .slice sa L ca, .slice sy ny cy, .slice sf nf cf, .slice sk nk ck] w fun e w' => e = .returned (.bool true) ∧ Below w.heap.size w w' := by
  have HD : Hid (Door w) := hd
  have HC0 : Hid (∀ w, Calls Tryz.prog 14 #[.int .i64 0, .int .i64 1, .agg #[.int .i64 0, .int .i64 0, .bool true]] w fun ex w' => ex = .returned (.tuple #[.agg #[.int .i64 ((R0).1 : Int), .int .i64 ((R0).2.1 : Int), .bool (R0).2.2, .int .i64 z0], .nilIface]) ∧ Below w.heap.size w w') := hHC0
  have HN0 : Hid (∀ W, Calls Tryz.prog 29 #[.slice none 0 0] W fun ex w' => ∃ vo Q, ex = .returned (.tuple #[vo, .nilIface]) ∧ S1 w' vo Q ∧ (∀ i, Q i → W.heap.size ≤ i ∧ i < w'.heap.size) ∧ Below W.heap.size W w') := hHN0
  have H1 : Hid (∀ W vo bz, OnJ (S1) W vo w.heap.size bz bz → Calls Tryz.prog 31 #[vo, .agg #[.slice none 0 0, .slice none 0 0, .int .i64 ((R0).1 : Int), .int .i64 ((R0).2.1 : Int), .bool (R0).2.2, .int .i64 z0]] W fun ex w' => ex = .returned (.nilIface) ∧ OnJ (S2) w' vo w.heap.size bz bz ∧ Keep w.heap.size bz bz W w') := hH1
  have H2 : Hid (∀ W vo bz, OnJ (S2) W vo w.heap.size bz bz → Calls Tryz.prog 32 #[vo] W fun ex w' => ex = .returned (.nilIface) ∧ OnJ (S3) w' vo w.heap.size bz bz ∧ Keep w.heap.size bz bz W w') := hH2
  have H3 : Hid (∀ W vo bz, OnJ (S3) W vo w.heap.size bz bz → Calls Tryz.prog 31 #[vo, .agg #[.slice none 0 0, .slice none 0 0, .int .i64 ((R0).1 : Int), .int .i64 ((R0).2.1 : Int), .bool (R0).2.2, .int .i64 z0]] W fun ex w' => ex = .returned (.nilIface) ∧ OnJ (S4) w' vo w.heap.size bz bz ∧ Keep w.heap.size bz bz W w') := hH3
  have H4 : Hid (∀ W vo bz, OnJ (S4) W vo w.heap.size bz bz → Calls Tryz.prog 35 #[vo] W fun ex w' => ∃ k : Nat, ex = .returned (.int .i64 (k : Int)) ∧ OnJ (S5 k) w' vo w.heap.size bz bz ∧ Keep w.heap.size bz bz W w') := hH4
  have H5 : Hid (∀ (k : Nat) W vo bz, OnJ (S5 k) W vo w.heap.size bz bz → Calls Tryz.prog 33 #[vo, .int .i64 0] W fun ex w' => ex = .returned (.tuple #[]) ∧ OnJ (S6 k) w' vo w.heap.size bz bz ∧ Keep w.heap.size bz bz W w') := hH5
  have H6 : Hid (∀ (k : Nat) W vo bz, OnJ (S6 k) W vo w.heap.size bz bz → k ≥ 2) := hH6
  have H7 : Hid (∀ (k : Nat) W vo bz, OnJ (S6 k) W vo w.heap.size bz bz → Calls Tryz.prog 34 #[vo] W fun ex w' => ex = .returned (.int .i64 (k : Int)) ∧ OnJ (S6 k) w' vo w.heap.size bz bz ∧ Keep w.heap.size bz bz W w') := hH7
  have H8 : Hid (∀ (k : Nat) W vo bz, OnJ (S6 k) W vo w.heap.size bz bz → Calls Tryz.prog 35 #[vo] W fun ex w' => ex = .returned (.int .i64 (k : Int)) ∧ OnJ (S6 k) w' vo w.heap.size bz bz ∧ Keep w.heap.size bz bz W w') := hH8
  have H9 : Hid (∀ (k : Nat) W vo bz, OnJ (S6 k) W vo w.heap.size bz bz → Calls Tryz.prog 36 #[vo] W fun ex w' => ex = .returned (.agg #[.int .i64 0, .int .i64 0, .bool true]) ∧ OnJ (S6 k) w' vo w.heap.size bz bz ∧ Keep w.heap.size bz bz W w') := hH9
  have HCO : Hid (∀ W, Below w.heap.size w W → Calls Tryz.prog 15 #[.slice sl n d] W fun ex w' => ex = .returned (.int .i64 0) ∧ Below W.heap.size W w') := hHCO
  have HNW : Hid (∀ W, Below w.heap.size w W → Calls Tryz.prog 29 #[.slice sl n d] W fun ex w' => ∃ (v : Value) (Q : Nat → Prop), ex = .returned (.tuple #[v, .nilIface]) ∧ PL w' v Q (LogS.new n K) ∧ (∀ i, Q i → W.heap.size ≤ i) ∧ Below W.heap.size W w') := hHNW
  have HNB : Hid (∀ W, Below w.heap.size w W → Calls Tryz.prog 17 #[.slice sl n d] W fun ex w' => ∃ p, ex = .returned (.pointer (some ⟨p, 0, none⟩)) ∧ BookOf 25 4 W.heap.size w' p n K (fun _ => false) ∧ Below W.heap.size W w') := hHNB
  have HDL : Hid (L = 0 ∨ ∃ (b o : Nat) (D : Nat → DealV), sa = some ⟨b, o, none⟩ ∧ RowD w b o L D) := hHDL
  have RY : Hid ((ny = 0 ∨ ∃ b o : Nat, sy = some ⟨b, o, none⟩ ∧ RowI w b o ny Xy)) := hRY
  have RF : Hid ((nf = 0 ∨ ∃ b o : Nat, sf = some ⟨b, o, none⟩ ∧ RowI w b o nf Xf)) := hRF
  have RK : Hid ((nk = 0 ∨ ∃ b o : Nat, sk = some ⟨b, o, none⟩ ∧ RowI w b o nk Xk)) := hRK
  have WF : Hid (∀ i, i < nf → (Lit.int .i64 (Xf i)).wf = true) := hWF
  have WK : Hid (∀ i, i < nk → (Lit.int .i64 (Xk i)).wf = true) := hWK
  have HOK : Hid (PLok PL) := hHOK
  have HDO : Hid (LDoIs PL) := hHDO
  have HSY : Hid (LSyncIs PL) := hHSY
  have HFA : Hid (LFailIs PL) := hHFA
  have HCR : Hid (LCrashIs PL) := hHCR
  have HLIV : Hid (LLiveIs PL) := hHLIV
  have HTOT : Hid (LTotalIs PL) := hHTOT
  have HBY : Hid (LBytesIs PL) := hHBY
  have HSA : Hid (LSafeIs PL) := hHSA
  clear hd hHC0 hHN0 hH1 hH2 hH3 hH4 hH5 hH6 hH7 hH8 hH9 hHCO hHNW hHNB hHDL hRY hRF hRK hWF hWK hHOK hHDO hHSY hHFA hHCR hHLIV hHTOT hHBY hHSA
  have q1 : True := trivial; have q2 : True := trivial; have q3 : True := trivial; have q4 : True := trivial; have q5 : True := trivial; have q6 : True := trivial; have q7 : True := trivial; have q8 : True := trivial; have q9 : True := trivial; have q10 : True := trivial; have q11 : True := trivial
  have m1 : True := trivial; have m2 : True := trivial
  go_enter Tryz.func5, Tryz.ntmps5
  go_upto_region 5 with (first | (go_at_call 14; clear m1; refine (HC0.out _).mono ?_; rintro e w1 ⟨rfl, hbw1⟩; have hqw1 : Below w.heap.size w w1 := (by repeat (first | (with_reducible first | exact Below.refl _ _ | assumption | refine Below.setCell ?_ (by first | simp <;> omega | omega) _ | refine Below.alloc ?_ (by first | simp <;> omega | omega) _) | refine bl_call ?_ (by assumption) (by first | simp <;> omega | omega) | (with_reducible first | refine bl_drewN ?_ | refine Below.drew ?_ | refine bl_grow ?_ (by first | simp <;> omega | omega)))); have hzw1 := hqw1.size; clear hbw1) | (go_at_call 29; clear m2; refine (HN0.out _).mono ?_; rintro e w2 ⟨vo, Q0, rfl, hs2, hQ2, hb2⟩; have kzw2 : At w2 (w1.heap.size) [.int .i64 ((R0).1 : Int), .int .i64 ((R0).2.1 : Int), .bool (R0).2.2, .int .i64 z0] := (by repeat (first | (with_reducible first | assumption | (refine at_new' _ _ _ _ ?_; first | rfl | (simp; done)) | refine At.alloc ?_ _ | refine At.drew ?_ | refine At.drewN ?_ | refine At.set ?_ (by omega) | apply At.store4 | apply At.store3 | apply At.store2 | apply At.put43) | refine At.below ?_ (by with_reducible assumption))); have hqw2 : Below w.heap.size w w2 := (by repeat (first | (with_reducible first | exact Below.refl _ _ | assumption | refine Below.setCell ?_ (by first | simp <;> omega | omega) _ | refine Below.alloc ?_ (by first | simp <;> omega | omega) _) | refine bl_call ?_ (by assumption) (by first | simp <;> omega | omega) | (with_reducible first | refine bl_drewN ?_ | refine Below.drew ?_ | refine bl_grow ?_ (by first | simp <;> omega | omega)))); have hzw2 := hqw2.size; have hb2s := hb2.size; (try simp at hb2s); (try simp at hQ2); obtain ⟨zzw2, cz0w2, cz1w2, cz2w2, cz3w2, fz0w2, fz1w2, fz2w2, fz3w2⟩ := kzw2.four; clear hb2))
  obtain ⟨bz, hbz⟩ : ∃ bz, w1.heap.size = bz := ⟨_, rfl⟩
  refine wp_gen (fun Y => At Y (w1.heap.size) [.int .i64 ((R0).1 : Int), .int .i64 ((R0).2.1 : Int), .bool (R0).2.2, .int .i64 z0] ∧ OnJ S1 Y vo w.heap.size (w1.heap.size) (w1.heap.size) ∧ Below w.heap.size w Y) ⟨by repeat (first | (with_reducible first | assumption | (refine at_new' _ _ _ _ ?_; first | rfl | (simp; done)) | refine At.alloc ?_ _ | refine At.drew ?_ | refine At.drewN ?_ | refine At.set ?_ (by omega) | apply At.store4 | apply At.store3 | apply At.store2 | apply At.put43) | refine At.below ?_ (by with_reducible assumption)), ⟨Q0, hs2, (fun j hj => by have := hQ2 j hj; omega), (fun e => by have := hQ2 _ e; omega), (fun e => by have := hQ2 _ e; omega), by omega, by omega, by omega⟩, by repeat (first | (with_reducible first | exact Below.refl _ _ | assumption | refine Below.setCell ?_ (by first | simp <;> omega | omega) _ | refine Below.alloc ?_ (by first | simp <;> omega | omega) _) | refine bl_call ?_ (by assumption) (by first | simp <;> omega | omega) | (with_reducible first | refine bl_drewN ?_ | refine Below.drew ?_ | refine bl_grow ?_ (by first | simp <;> omega | omega)))⟩ ?_
  rw [hbz]
  rintro Y ⟨kzY, hJY, hqY⟩
  have hzY := hqY.size
  obtain ⟨zzY, cz0Y, cz1Y, cz2Y, cz3Y, fz0Y, fz1Y, fz2Y, fz3Y⟩ := kzY.four
  clear hs2 hQ2 kzw2 cz0w2 fz0w2 cz1w2 fz1w2 cz2w2 fz2w2 cz3w2 fz3w2 hqw2
  go_upto_region 12 with (first | (go_at_call 31; clear q1; refine (H1.out _ vo bz hJY).mono ?_; rintro e y1 ⟨rfl, hJy1, hky1⟩; have kzy1 : At y1 bz [.int .i64 ((R0).1 : Int), .int .i64 ((R0).2.1 : Int), .bool (R0).2.2, .int .i64 z0] := hky1.atz kzY; have hqy1 : Below w.heap.size w y1 := hky1.below hqY; have hzy1 := hqy1.size; obtain ⟨zzy1, cz0y1, cz1y1, cz2y1, cz3y1, fz0y1, fz1y1, fz2y1, fz3y1⟩ := kzy1.four) | (go_at_call 32; clear q2; refine (H2.out _ vo bz hJy1).mono ?_; rintro e y2 ⟨rfl, hJy2, hky2⟩; have kzy2 : At y2 bz [.int .i64 ((R0).1 : Int), .int .i64 ((R0).2.1 : Int), .bool (R0).2.2, .int .i64 z0] := hky2.atz kzy1; have hqy2 : Below w.heap.size w y2 := hky2.below hqy1; have hzy2 := hqy2.size; obtain ⟨zzy2, cz0y2, cz1y2, cz2y2, cz3y2, fz0y2, fz1y2, fz2y2, fz3y2⟩ := kzy2.four) | (go_at_call 31; clear q3; refine (H3.out _ vo bz hJy2).mono ?_; rintro e y3 ⟨rfl, hJy3, hky3⟩; have kzy3 : At y3 bz [.int .i64 ((R0).1 : Int), .int .i64 ((R0).2.1 : Int), .bool (R0).2.2, .int .i64 z0] := hky3.atz kzy2; have hqy3 : Below w.heap.size w y3 := hky3.below hqy2; have hzy3 := hqy3.size; obtain ⟨zzy3, cz0y3, cz1y3, cz2y3, cz3y3, fz0y3, fz1y3, fz2y3, fz3y3⟩ := kzy3.four) | (go_at_call 35; clear q4; refine (H4.out _ vo bz hJy3).mono ?_; rintro e y4 ⟨k0, rfl, hJy4, hky4⟩; have kzy4 : At y4 bz [.int .i64 ((R0).1 : Int), .int .i64 ((R0).2.1 : Int), .bool (R0).2.2, .int .i64 z0] := hky4.atz kzy3; have hqy4 : Below w.heap.size w y4 := hky4.below hqy3; have hzy4 := hqy4.size; obtain ⟨zzy4, cz0y4, cz1y4, cz2y4, cz3y4, fz0y4, fz1y4, fz2y4, fz3y4⟩ := kzy4.four) | (go_at_call 33; clear q5; refine (H5.out k0 _ vo bz hJy4).mono ?_; rintro e y5 ⟨rfl, hJy5, hky5⟩; have kzy5 : At y5 bz [.int .i64 ((R0).1 : Int), .int .i64 ((R0).2.1 : Int), .bool (R0).2.2, .int .i64 z0] := hky5.atz kzy4; have hqy5 : Below w.heap.size w y5 := hky5.below hqy4; have hzy5 := hqy5.size; obtain ⟨zzy5, cz0y5, cz1y5, cz2y5, cz3y5, fz0y5, fz1y5, fz2y5, fz3y5⟩ := kzy5.four; have hk2 : ¬ (k0 : Int) < 2 := (by have := H6.out k0 _ vo bz hJy5; omega); have hk3 : ((k0 : Int) != (k0 : Int)) = false := (by simp)) | (go_at_call 34; clear q6; refine (H7.out k0 _ vo bz hJy5).mono ?_; rintro e y6 ⟨rfl, hJy6, hky6⟩; have kzy6 : At y6 bz [.int .i64 ((R0).1 : Int), .int .i64 ((R0).2.1 : Int), .bool (R0).2.2, .int .i64 z0] := hky6.atz kzy5; have hqy6 : Below w.heap.size w y6 := hky6.below hqy5; have hzy6 := hqy6.size; obtain ⟨zzy6, cz0y6, cz1y6, cz2y6, cz3y6, fz0y6, fz1y6, fz2y6, fz3y6⟩ := kzy6.four) | (go_at_call 35; clear q7; refine (H8.out k0 _ vo bz hJy6).mono ?_; rintro e y7 ⟨rfl, hJy7, hky7⟩; have kzy7 : At y7 bz [.int .i64 ((R0).1 : Int), .int .i64 ((R0).2.1 : Int), .bool (R0).2.2, .int .i64 z0] := hky7.atz kzy6; have hqy7 : Below w.heap.size w y7 := hky7.below hqy6; have hzy7 := hqy7.size; obtain ⟨zzy7, cz0y7, cz1y7, cz2y7, cz3y7, fz0y7, fz1y7, fz2y7, fz3y7⟩ := kzy7.four) | (go_at_call 36; clear q8; refine (H9.out k0 _ vo bz hJy7).mono ?_; rintro e y8 ⟨rfl, hJy8, hky8⟩; have kzy8 : At y8 bz [.int .i64 ((R0).1 : Int), .int .i64 ((R0).2.1 : Int), .bool (R0).2.2, .int .i64 z0] := hky8.atz kzy7; have hqy8 : Below w.heap.size w y8 := hky8.below hqy7; have hzy8 := hqy8.size; obtain ⟨zzy8, cz0y8, cz1y8, cz2y8, cz3y8, fz0y8, fz1y8, fz2y8, fz3y8⟩ := kzy8.four))
  refine wp_gen (fun S => Below w.heap.size w S) hqy8 ?_
  rintro S hqS
  have hzS := hqS.size
  clear kzy1 cz0y1 fz0y1 cz1y1 fz1y1 cz2y1 fz2y1 cz3y1 fz3y1 kzy2 cz0y2 fz0y2 cz1y2 fz1y2 cz2y2 fz2y2 cz3y2 fz3y2 kzy3 cz0y3 fz0y3 cz1y3 fz1y3 cz2y3 fz2y3 cz3y3 fz3y3 kzy4 cz0y4 fz0y4 cz1y4 fz1y4 cz2y4 fz2y4 cz3y4 fz3y4 kzy5 cz0y5 fz0y5 cz1y5 fz1y5 cz2y5 fz2y5 cz3y5 fz3y5 kzy6 cz0y6 fz0y6 cz1y6 fz1y6 cz2y6 fz2y6 cz3y6 fz3y6 kzy7 cz0y7 fz0y7 cz1y7 fz1y7 cz2y7 fz2y7 cz3y7 fz3y7 kzy8 cz0y8 fz0y8 cz1y8 fz1y8 cz2y8 fz2y8 cz3y8 fz3y8 kzY cz0Y fz0Y cz1Y fz1Y cz2Y fz2Y cz3Y fz3Y hJy1 hqy1 hky1 hJy2 hqy2 hky2 hJy3 hqy3 hky3 hJy4 hqy4 hky4 hJy5 hqy5 hky5 hJy6 hqy6 hky6 hJy7 hqy7 hky7 hJy8 hqy8 hky8 hJY hqY
  clear HC0 HN0 H1 H2 H3 H4 H5 H6 H7 H8 H9
  go_upto_region 19 with (first | (go_at_call 15; refine (HCO.out _ hqS).mono ?_; rintro e w9 ⟨rfl, hb9⟩; have hq9 : Below w.heap.size w w9 := bl_call hqS hb9 hzS; have hz9 := hq9.size; clear hb9) | (go_at_call 29; refine (HNW.out _ hq9).mono ?_; rintro e w10 ⟨vj, Q0, rfl, hPL, hQ0, hb10⟩; have hq10 : Below w.heap.size w w10 := bl_call hq9 hb10 hz9; have hz10 := hq10.size) | (go_at_call 9; refine (same_below _ _ _ isErr_nil (HD.out.under hq10)).mono ?_; rintro e w11 ⟨rfl, hb11⟩; have hq11 : Below w.heap.size w w11 := bl_call hq10 hb11 hz10; have hz11 := hq11.size) | (go_at_call 17; refine (HNB.out _ hq11).mono ?_; rintro e w12 ⟨p, rfl, hRB, hb12⟩; have hq12 : Below w.heap.size w w12 := bl_call hq11 hb12 hz11; have hz12 := hq12.size))
  have hs0 : LKp PL w.heap.size ((w12.alloc (.cells #[.pointer (some ⟨p, 0, none⟩)] 44)).alloc (.cells #[.int .i64 0] 3)) vj (.slice (some ⟨w12.heap.size, 0, none⟩) 1 1) (.slice (some ⟨w12.heap.size + 1, 0, none⟩) 1 1) 0 true := by
    obtain ⟨u, v, hRB⟩ := hRB
    exact lkp_new HOK.out hPL (fun i hi => Nat.le_trans hz9 (hQ0 i hi)) hb11 hRB hb12 hz11
  have HS0 : Hid (LKp PL w.heap.size ((w12.alloc (.cells #[.pointer (some ⟨p, 0, none⟩)] 44)).alloc (.cells #[.int .i64 0] 3)) vj (.slice (some ⟨w12.heap.size, 0, none⟩) 1 1) (.slice (some ⟨w12.heap.size + 1, 0, none⟩) 1 1) 0 true) := hs0
  refine wp_gen (fun Y => LKp PL w.heap.size Y vj (.slice (some ⟨w12.heap.size, 0, none⟩) 1 1) (.slice (some ⟨w12.heap.size + 1, 0, none⟩) 1 1) 0 true ∧ Below w.heap.size w Y) ⟨HS0.out, by repeat (first | (with_reducible first | exact Below.refl _ _ | assumption | refine Below.setCell ?_ (by first | simp <;> omega | omega) _ | refine Below.alloc ?_ (by first | simp <;> omega | omega) _) | refine bl_call ?_ (by assumption) (by first | simp <;> omega | omega) | (with_reducible first | refine bl_drewN ?_ | refine Below.drew ?_ | refine bl_grow ?_ (by first | simp <;> omega | omega)))⟩ ?_
  clear hs0 HS0 hPL hQ0 hb10 hb11 hb12 hRB hq9 hq10 hq11 hz9 hz10 hz11
  rintro Y ⟨hLY, hqY⟩
  have HLY : Hid (LKp PL w.heap.size Y vj (.slice (some ⟨w12.heap.size, 0, none⟩) 1 1) (.slice (some ⟨w12.heap.size + 1, 0, none⟩) 1 1) 0 true) := hLY
  clear hLY hqS hzS
  go_wp2_with fail
  go_loopw [23, 24, 25, 26] (fun td tm ta tr wl => ∃ r m : Nat, r ≤ 4 ∧ r ≤ nf + 1 ∧ m ≤ L ∧ m ≤ 6 * r ∧ tr = .int .i64 (r : Int) ∧ ta = .int .i64 (m : Int) ∧ LKp PL w.heap.size wl vj td tm m true ∧ Below w.heap.size w wl) (fun td tm ta tr _ => 4 - (intOf tr).toNat)
  case atStart => exact ⟨0, 0, by omega, by omega, by omega, by omega, rfl, rfl, HLY.out, hqY⟩
  case round =>
    clear HLY hqY
    obtain ⟨r, m, hr4, hrf, hmL, hm6, rfl, rfl, hLV, hqV⟩ := hrel
    rename World => V
    have hzV := hqV.size
    have HLV0 : Hid (LKp PL w.heap.size V vj u23 u24 m true) := hLV
    clear hLV
    by_cases hgo : r ≤ nf ∧ r < 4
    · obtain ⟨hgo1, hgo2⟩ := hgo
      have hg1 : (r : Int) ≤ nf := by omega
      have hg2 : (r : Int) < 4 := by omega
      go_upto_if 135 with fail
      go_cut [] from 122 to 333 (fun wx_ => LKp PL w.heap.size wx_ vj u23 u24 m false ∧ Below w.heap.size w wx_)
      case first => as_aux_lemma =>
        obtain ⟨Q, s, P, U, Vf, hLK, hsm, hsb⟩ := HLV0.out
        by_cases hf : r < nf
        · have hf' : (r : Int) < nf := by omega
          obtain ⟨bf, of, rfl, hrow⟩ := RF.out.resolve_left (by omega)
          have cf := (hrow.below hrow.1 hqV).2 r hf
          have hbf : bf < V.heap.size := Nat.lt_of_lt_of_le hrow.1 hzV
          have HFL : Hid (∀ W, W = V → Calls Tryz.prog 30 #[vj, .int .i64 (Xf r)] W fun ex w' => ex = .returned (.tuple #[]) ∧ LKp PL w.heap.size w' vj u23 u24 m false ∧ Below w.heap.size w w') := fun W e => by
            subst e
            refine (HFA.out vj Q s (Xf r) _ hLK.log (WF.out r hf) (hsb rfl)).mono ?_
            rintro ex w' ⟨rfl, hd⟩
            exact ⟨rfl, lkp_same HOK.out hLK hsm hzV hd ⟨rfl, rfl, rfl, rfl, rfl⟩ false (fun e => by cases e), lk_under hqV hLK hzV hd⟩
          clear hLK hrow
          go_wp2_with (go_at_call 30; refine (HFL.out _ rfl).mono ?_; rintro e w1 ⟨rfl, hl1, hq1⟩)
          go_meet
          case rel => exact ⟨hl1, hq1⟩
        · have hf' : ¬ (r : Int) < nf := by omega
          have hl : LKp PL w.heap.size V vj u23 u24 m false := ⟨Q, s, P, U, Vf, hLK, hsm, fun e => by cases e⟩
          have HL : Hid (LKp PL w.heap.size V vj u23 u24 m false) := hl
          clear hl hLK
          go_wp2_with fail
          go_meet
          case rel => exact ⟨HL.out, hqV⟩
      case rest =>
      obtain ⟨hl1, hqC⟩ := hcut
      rename World => C
      have hzC := hqC.size
      have HLC : Hid (LKp PL w.heap.size C vj u23 u24 m false) := hl1
      clear hl1 HLV0 hqV hzV
      go_wp2_with fail
      go_loopw [23, 24, 25, 27] (fun td tm ta tk wl => ∃ m2 k : Nat, k ≤ 6 ∧ m2 ≤ L ∧ m2 ≤ 6 * r + k ∧ ta = .int .i64 (m2 : Int) ∧ tk = .int .i64 (k : Int) ∧ LKp PL w.heap.size wl vj td tm m2 false ∧ Below w.heap.size w wl) (fun td tm ta tk _ => 6 - (intOf tk).toNat)
      case atStart => exact ⟨m, 0, by omega, hmL, by omega, rfl, rfl, HLC.out, hqC⟩
      case round =>
        clear HLC hqC hzC
        obtain ⟨m2, k, hk6, hm2, hm3, rfl, rfl, hLV, hqV⟩ := hrel
        rename World => V
        have hzV := hqV.size
        have HLV : Hid (LKp PL w.heap.size V vj u23 u24 m2 false) := hLV
        clear hLV
        by_cases hin : k < 6 ∧ m2 < L
        · as_aux_lemma =>
          obtain ⟨hi1, hi2⟩ := hin
          have hj1 : (k : Int) < 6 := by omega
          have hj2 : (m2 : Int) < L := by omega
          go_upto_region 28 with fail
          go_cut [174] from 142 to 244 (fun tb_ wx_ => tb_ = .bool false ∧ LKp PL w.heap.size wx_ vj u23 u24 m2 false ∧ Below w.heap.size w wx_)
          case first => as_aux_lemma =>
            obtain ⟨Q, s, P, U, Vf, hLK, hsm, hsb⟩ := HLV.out
            by_cases hy : m2 < ny
            · have hy' : (m2 : Int) < ny := by omega
              obtain ⟨b8, o8, rfl, hrow⟩ := RY.out.resolve_left (by omega)
              have cy8 := (hrow.below hrow.1 hqV).2 m2 hy
              have hb8 : b8 < V.heap.size := Nat.lt_of_lt_of_le hrow.1 hzV
              clear hrow
              cases h1 : Xy m2 == 1 with
              | false =>
                clear hLK
                go_wp2_with fail
                go_meet
                case rel => exact ⟨rfl, HLV.out, hqV⟩
              | true =>
                cases hst : s.stop with
                | true =>
                  have HSL : Hid (∀ W, W = V → Calls Tryz.prog 32 #[vj] W fun ex w' => ex = .returned (errOf 6) ∧ (∃ Q', LK PL 25 4 44 3 w.heap.size w' vj u23 u24 Q' s s.r s.r s.n s.K s.G s.M P U Vf) ∧ Below w.heap.size w w') := fun W e => by
                    subst e
                    refine (HSY.out.1 vj Q s _ hLK.log hst).mono ?_
                    rintro ex w' ⟨rfl, hd⟩
                    exact ⟨rfl, lk_same HOK.out hLK hzV hd ⟨rfl, rfl, rfl, rfl, rfl⟩, lk_under hqV hLK hzV hd⟩
                  clear hLK
                  clear hst
                  go_wp2_with (go_at_call 32; refine (HSL.out _ rfl).mono ?_; rintro e w1 ⟨rfl, ⟨Q1, hL1⟩, hq1⟩; have HL1 : Hid (LK PL 25 4 44 3 w.heap.size w1 vj u23 u24 Q1 s s.r s.r s.n s.K s.G s.M P U Vf) := hL1; clear hL1)
                  go_meet
                  case rel => exact ⟨rfl, ⟨Q1, _, P, U, Vf, HL1.out, hsm, fun e => by cases e⟩, hq1⟩
                | false =>
                  by_cases hl : s.left = some 0
                  · 
                    have HSL : Hid (∀ W, W = V → Calls Tryz.prog 32 #[vj] W fun ex w' => ex = .returned (errOf 6) ∧ (∃ Q', LK PL 25 4 44 3 w.heap.size w' vj u23 u24 Q' (s.halt s.all) (s.halt s.all).r (s.halt s.all).r (s.halt s.all).n (s.halt s.all).K (s.halt s.all).G (s.halt s.all).M P U Vf) ∧ Below w.heap.size w w') := fun W e => by
                      subst e
                      refine (HSY.out.2.1 vj Q s _ hLK.log hst hl).mono ?_
                      rintro ex w' ⟨rfl, hd⟩
                      exact ⟨rfl, lk_same HOK.out hLK hzV hd ⟨rfl, rfl, rfl, rfl, rfl⟩, lk_under hqV hLK hzV hd⟩
                    clear hLK
                    clear hst hl
                    go_wp2_with (go_at_call 32; refine (HSL.out _ rfl).mono ?_; rintro e w1 ⟨rfl, ⟨Q1, hL1⟩, hq1⟩; have HL1 : Hid (LK PL 25 4 44 3 w.heap.size w1 vj u23 u24 Q1 (s.halt s.all) (s.halt s.all).r (s.halt s.all).r (s.halt s.all).n (s.halt s.all).K (s.halt s.all).G (s.halt s.all).M P U Vf) := hL1; clear hL1)
                    go_meet
                    case rel => exact ⟨rfl, ⟨Q1, _, P, U, Vf, HL1.out, hsm, fun e => by cases e⟩, hq1⟩
                  · 
                    have HSL : Hid (∀ W, W = V → Calls Tryz.prog 32 #[vj] W fun ex w' => ex = .returned (.nilIface) ∧ (∃ Q', LK PL 25 4 44 3 w.heap.size w' vj u23 u24 Q' (s.sync) (s.sync).r (s.sync).r (s.sync).n (s.sync).K (s.sync).G (s.sync).M P U Vf) ∧ Below w.heap.size w w') := fun W e => by
                      subst e
                      refine (HSY.out.2.2 vj Q s _ hLK.log hst hl).mono ?_
                      rintro ex w' ⟨rfl, hd⟩
                      exact ⟨rfl, lk_same HOK.out hLK hzV hd ⟨rfl, rfl, rfl, rfl, rfl⟩, lk_under hqV hLK hzV hd⟩
                    clear hLK
                    clear hst hl
                    have hne : ((s.sync.safe : Int) != (s.sync.all : Int)) = false := by show ((s.all : Int) != (s.all : Int)) = false; simp
                    go_wp2_with (first | (go_at_call 32; refine (HSL.out _ rfl).mono ?_; rintro e w1 ⟨rfl, ⟨Q1, hL1⟩, hq1⟩; have hz1 := hq1.size; have HL1 : Hid (LK PL 25 4 44 3 w.heap.size w1 vj u23 u24 Q1 (s.sync) (s.sync).r (s.sync).r (s.sync).n (s.sync).K (s.sync).G (s.sync).M P U Vf) := hL1; clear hL1) | (go_at_call 35; refine (HSA.out vj Q1 _ _ HL1.out.log).mono ?_; rintro e w2 ⟨rfl, hb2⟩; have hq2 : Below w.heap.size w w2 := bl_call hq1 hb2 hz1; have hz2 := hq2.size; have HL2 : Hid (LK PL 25 4 44 3 w.heap.size w2 vj u23 u24 Q1 (s.sync) (s.sync).r (s.sync).r (s.sync).n (s.sync).K (s.sync).G (s.sync).M P U Vf) := HL1.out.below HOK.out.mem hb2; clear hb2) | (go_at_call 34; refine (HBY.out vj Q1 _ _ HL2.out.log).mono ?_; rintro e w3 ⟨rfl, hb3⟩; have hq3 : Below w.heap.size w w3 := bl_call hq2 hb3 hz2; have HL3 : Hid (LK PL 25 4 44 3 w.heap.size w3 vj u23 u24 Q1 (s.sync) (s.sync).r (s.sync).r (s.sync).n (s.sync).K (s.sync).G (s.sync).M P U Vf) := HL2.out.below HOK.out.mem hb3; clear hb3))
                    go_meet
                    case rel => exact ⟨rfl, ⟨Q1, _, P, U, Vf, HL3.out, hsm, fun e => by cases e⟩, hq3⟩
            · have hy' : ¬ (m2 : Int) < ny := by omega
              clear hLK
              go_wp2_with fail
              go_meet
              case rel => exact ⟨rfl, HLV.out, hqV⟩
          case rest =>
          rename World => C
          obtain ⟨rfl, hlC, hqC⟩ := hcut
          have hzC := hqC.size
          obtain ⟨Q, s, P, U, Vf, hLK, hsm, hsb⟩ := hlC
          clear HLV hqV hzV hsb
          obtain ⟨b, o, D0, rfl, hrow⟩ := HDL.out.resolve_left (by omega)
          obtain ⟨hdc, hD⟩ := hrow.2 m2 hi2
          obtain ⟨E, hE⟩ : ∃ E, D0 m2 = E := ⟨_, rfl⟩
          rw [hE] at hdc hD
          have HBW : Hid (b < w.heap.size) := hrow.1
          have HDC : Hid (∀ W, Below w.heap.size w W → ∀ j, j < 6 → W.cell? ⟨b, o + m2 * 6 + j, none⟩ = E.cells[j]?) := fun W hW j hj => (hW.cell (p := ⟨b, o + m2 * 6 + j, none⟩) HBW.out).trans (hdc j hj)
          clear hdc hE hrow
          obtain ⟨Z, X, Y, F, hz, hx, wz⟩ := deal_n hD
          obtain ⟨e, n1, K1, G1, hDl⟩ := deal_way (s.n s.r) (s.K s.r) (s.G s.r) (⟨E.m, Z, E.c, X, Y, F, E.rx, E.ry, E.rf, E.s⟩ : DealN)
          have hlo := HOK.out.ok hLK.log
          have hn0 := hlo.m5 s.r (Nat.le_refl _)
          have hm : E.m ≤ 9223372036854775807 := by have := hD.lm; unfold maxLen at this; omega
          obtain ⟨ev, hIs, hOr, hJ⟩ := jdo_way HDO.out s Q vj (⟨E.m, Z, E.c, X, Y, F, E.rx, E.ry, E.rf, E.s⟩ : DealN) e n1 K1 G1 (by omega) hm hD.wx hD.wy hD.ws wz hDl
          have hal : (s.all : Int) ≤ 100000000000000 := by
            have h1 := hlo.m4
            have h2 : (s.r + 1) * 1099511627776 ≤ 26 * 1099511627776 := Nat.mul_le_mul_right _ (by omega)
            omega
          obtain ⟨sd, cd, hvd, hd2⟩ := own_ptrs hLK.rows.dn
          subst hvd
          obtain ⟨gd, rfl, _, hgd, hrowD⟩ := hd2.resolve_left (by omega)
          have cD := hrowD.2 s.r (by omega)
          rw [Nat.zero_add] at cD
          have hgC := hrowD.1
          have HLK : Hid (LK PL 25 4 44 3 w.heap.size C vj (.slice (some ⟨gd, 0, none⟩) (s.r + 1) cd) u24 Q s s.r s.r s.n s.K s.G s.M P U Vf) := hLK
          have HN0 : Hid (s.n s.r ≤ 1000) := hn0
          have HIS : Hid (IsErr ev) := hIs
          have HOR : Hid (((toldI ev == 6) || (toldI ev == e)) = true) := hOr
          have HRD : Hid (∀ W p u v, Below w.heap.size w W → Next 25 4 w.heap.size W (.slice (some ⟨gd, 0, none⟩) (s.r + 1) cd) u24 Q s.r P U Vf p u v (s.n s.r) (s.K s.r) (s.G s.r) → Calls Tryz.prog 20 #[.pointer (some ⟨p, 0, none⟩), .agg #[.slice E.sz E.m E.dz, .slice E.sl E.c E.d, .int .i64 E.rx, .int .i64 E.ry, .bool E.rf, .int .i64 E.s]] W fun ex w' => ex = .returned (.int .i64 e) ∧ BookDone 25 4 w.heap.size W w' p u v n1 K1 G1) := fun W p u v hW hN => rdeal w.heap.size p _ u v _ _ (⟨E.m, Z, E.c, X, Y, F, E.rx, E.ry, E.rf, E.s⟩ : DealN) E.sz E.sl E.dz E.d e n1 K1 G1 W HN0.out hm hN.bk (zrow_ap hz hW (fun x hx => hN.bk.ge hx)) (xrow_ap hx hW (fun x hx => hN.bk.ge hx)) hDl
          have HJD : Hid (∀ W, Below w.heap.size w W → PL W vj Q s → Calls Tryz.prog 31 #[vj, .agg #[.slice E.sz E.m E.dz, .slice E.sl E.c E.d, .int .i64 E.rx, .int .i64 E.ry, .bool E.rf, .int .i64 E.s]] W fun ex w' => ex = .returned ev ∧ JPost PL s n1 K1 G1 vj Q ev W w') := fun W hW hp => hJ W E.sz E.sl E.dz E.d hD.km hD.kc hD.nc (zrow_ap hz hW (fun x hx => (HLK.out.q x hx).1)) (xrow_ap hx hW (fun x hx => (HLK.out.q x hx).1)) hp
          clear hz hx wz hDl hlo hn0 hm hIs hOr hJ hD hd2 hrowD hLK
          have q1 : True := trivial; have q2 : True := trivial; have q3 : True := trivial; have q4 : True := trivial; have q5 : True := trivial; have q6 : True := trivial
          go_upto_region 37 with (first | (go_at_call 37; clear q1; refine (rcopy w.heap.size (P s.r) (s.n s.r) (U s.r) (Vf s.r) (s.K s.r) (s.G s.r) _ HN0.out (HLK.out.rows.bk s.r (Nat.le_refl _))).mono ?_; rintro ex w1 ⟨p, rfl, ⟨u, v, hbk⟩, hb1⟩; have hq1 : Below w.heap.size w w1 := bl_call hqC hb1 hzC; have hz1 := hq1.size; have HN1 : Hid (Next 25 4 w.heap.size w1 (.slice (some ⟨gd, 0, none⟩) (s.r + 1) cd) u24 Q s.r P U Vf p u v (s.n s.r) (s.K s.r) (s.G s.r)) := next_new HOK.out.mem HLK.out hzC hbk; have HL1 : Hid (LK PL 25 4 44 3 w.heap.size w1 vj (.slice (some ⟨gd, 0, none⟩) (s.r + 1) cd) u24 Q s s.r s.r s.n s.K s.G s.M P U Vf) := HLK.out.below HOK.out.mem hb1; have c0 : w1.cell? ⟨b, o + m2 * 6, none⟩ = some (.slice E.sz E.m E.dz) := HDC.out w1 hq1 0 (by omega); have c1 : w1.cell? ⟨b, o + m2 * 6 + 1, none⟩ = some (.slice E.sl E.c E.d) := HDC.out w1 hq1 1 (by omega); have c2 : w1.cell? ⟨b, o + m2 * 6 + 2, none⟩ = some (.int .i64 E.rx) := HDC.out w1 hq1 2 (by omega); have c3 : w1.cell? ⟨b, o + m2 * 6 + 3, none⟩ = some (.int .i64 E.ry) := HDC.out w1 hq1 3 (by omega); have c4 : w1.cell? ⟨b, o + m2 * 6 + 4, none⟩ = some (.bool E.rf) := HDC.out w1 hq1 4 (by omega); have c5 : w1.cell? ⟨b, o + m2 * 6 + 5, none⟩ = some (.int .i64 E.s) := HDC.out w1 hq1 5 (by omega); have cb : b < w1.heap.size := Nat.lt_of_lt_of_le HBW.out hq1.size; clear hbk hb1) | (go_at_call 20; clear q2; refine (HRD.out _ p u v hq1 HN1.out).mono ?_; rintro ex w2 ⟨rfl, hd2⟩; obtain ⟨hL2, hbt, u2, v2, hN2⟩ := next_done HOK.out.mem HL1.out HN1.out hd2; have hq2 : Below w.heap.size w w2 := But.under hq1 hbt (fun x hx => HN1.out.bk.ge hx) hz1; have hz2 := hq2.size; have HL2 : Hid (LK PL 25 4 44 3 w.heap.size w2 vj (.slice (some ⟨gd, 0, none⟩) (s.r + 1) cd) u24 Q s s.r s.r s.n s.K s.G s.M P U Vf) := hL2; have HN2 : Hid (Next 25 4 w.heap.size w2 (.slice (some ⟨gd, 0, none⟩) (s.r + 1) cd) u24 Q s.r P U Vf p u2 v2 n1 K1 G1) := hN2; clear hd2 hL2 hN2 hbt c0 c1 c2 c3 c4 c5 cb) | (go_at_call 34; clear q3; refine (HBY.out vj Q s _ HL2.out.log).mono ?_; rintro ex w3 ⟨rfl, hb3⟩; have hq3 : Below w.heap.size w w3 := bl_call hq2 hb3 hz2; have hz3 := hq3.size; have HL3 : Hid (LK PL 25 4 44 3 w.heap.size w3 vj (.slice (some ⟨gd, 0, none⟩) (s.r + 1) cd) u24 Q s s.r s.r s.n s.K s.G s.M P U Vf) := HL2.out.below HOK.out.mem hb3; have HN3 : Hid (Next 25 4 w.heap.size w3 (.slice (some ⟨gd, 0, none⟩) (s.r + 1) cd) u24 Q s.r P U Vf p u2 v2 n1 K1 G1) := HN2.out.below hb3; have f0 : w3.cell? ⟨b, o + m2 * 6, none⟩ = some (.slice E.sz E.m E.dz) := HDC.out w3 hq3 0 (by omega); have f1 : w3.cell? ⟨b, o + m2 * 6 + 1, none⟩ = some (.slice E.sl E.c E.d) := HDC.out w3 hq3 1 (by omega); have f2 : w3.cell? ⟨b, o + m2 * 6 + 2, none⟩ = some (.int .i64 E.rx) := HDC.out w3 hq3 2 (by omega); have f3 : w3.cell? ⟨b, o + m2 * 6 + 3, none⟩ = some (.int .i64 E.ry) := HDC.out w3 hq3 3 (by omega); have f4 : w3.cell? ⟨b, o + m2 * 6 + 4, none⟩ = some (.bool E.rf) := HDC.out w3 hq3 4 (by omega); have f5 : w3.cell? ⟨b, o + m2 * 6 + 5, none⟩ = some (.int .i64 E.s) := HDC.out w3 hq3 5 (by omega); have fb : b < w3.heap.size := Nat.lt_of_lt_of_le HBW.out hq3.size; clear hb3) | (go_at_call 31; clear q4; refine (HJD.out _ hq3 HL3.out.log).mono ?_; rintro ex w4 ⟨rfl, hJP⟩; have HM4 : Hid (Mid PL w.heap.size w4 vj (.slice (some ⟨gd, 0, none⟩) (s.r + 1) cd) u24 m2 p s.all ev) := mid_of HOK.out HL3.out HN3.out hz3 hsm hJP; have hq4 : Below w.heap.size w w4 := But.under hq3 (jpost_but hJP) (fun x hx => (HL3.out.q x hx).1) hz3; have hz4 := hq4.size; clear hJP f0 f1 f2 f3 f4 f5 fb) | (go_at_call 9; clear q5; refine (same_below _ _ _ HIS.out (HD.out.under hq4)).mono ?_; rintro ex w5 ⟨rfl, hb5⟩; have hq5 : Below w.heap.size w w5 := bl_call hq4 hb5 hz4; have hz5 := hq5.size; have HM5 : Hid (Mid PL w.heap.size w5 vj (.slice (some ⟨gd, 0, none⟩) (s.r + 1) cd) u24 m2 p s.all ev) := HM4.out.below HOK.out hb5; clear hb5) | (go_at_call 9; clear q6; refine (same_below _ _ _ HIS.out (HD.out.under hq5)).mono ?_; rintro ex w6 ⟨rfl, hb6⟩; have hq6 : Below w.heap.size w w6 := bl_call hq5 hb6 hz5; have hz6 := hq6.size; have HM6 : Hid (Mid PL w.heap.size w6 vj (.slice (some ⟨gd, 0, none⟩) (s.r + 1) cd) u24 m2 p s.all ev) := HM5.out.below HOK.out hb6; clear hb6))
          refine wp_gen (fun O => Mid PL w.heap.size O vj (.slice (some ⟨gd, 0, none⟩) (s.r + 1) cd) u24 m2 p s.all ev ∧ Below w.heap.size w O) ⟨HM6.out, hq6⟩ ?_
          rintro O ⟨hMO, hqO⟩
          have HMO : Hid (Mid PL w.heap.size O vj (.slice (some ⟨gd, 0, none⟩) (s.r + 1) cd) u24 m2 p s.all ev) := hMO
          have hzO := hqO.size
          clear hMO HM6 HM5 HM4 HL1 HL2 HL3 HN1 HN2 HN3 HRD HJD HLK hq1 hq2 hq3 hq4 hq5 hq6 hz1 hz2 hz3 hz4 hz5 hz6 hqC hzC cD hgC
          go_cut [22, 33, 207] from 142 to 244 (fun _ _ tb_ wx_ => tb_ = .bool false ∧ wx_ = O)
          case first => as_aux_lemma =>
            have hor := HOR.out
            cases h6 : (toldI ev == 6) with
            | true =>
              clear hor
              go_wp2_with fail
              go_meet
              case rel => exact ⟨rfl, rfl⟩
            | false =>
              have h7 : (toldI ev == e) = true := by rw [h6, Bool.false_or] at hor; exact hor
              clear hor
              go_wp2_with fail
              go_meet
              case rel => exact ⟨rfl, rfl⟩
          case rest =>
          rename World => O2
          obtain ⟨rfl, hOc⟩ := hcut
          subst hOc
          obtain ⟨eb, heb⟩ := mid_nil HMO.out
          have HEB : Hid ((ev = .nilIface ∧ eb = true) ∨ (∃ c, ev = errOf c ∧ (c == 0) = false ∧ eb = false)) := heb
          clear heb
          go_upto_region 39 with fail
          go_cut [32, 209] from 142 to 244 (fun _ tb_ wx_ => tb_ = .bool eb ∧ wx_ = O2)
          case first => as_aux_lemma =>
            rcases HEB.out with ⟨rfl, rfl⟩ | ⟨c, rfl, hc, rfl⟩
            · go_wp2_with fail
              go_meet
              case rel => exact ⟨rfl, rfl⟩
            · go_wp2_with fail
              go_meet
              case rel => exact ⟨rfl, rfl⟩
          case rest =>
          rename World => O3
          obtain ⟨rfl, hOc⟩ := hcut
          subst hOc
          go_upto_if 209 with fail
          go_cut [23, 24] from 142 to 244 (fun td_ tm_ wx_ => LKp PL w.heap.size wx_ vj td_ tm_ (m2 + 1) false ∧ Below w.heap.size w wx_)
          case first => as_aux_lemma =>
            rcases HEB.out with ⟨rfl, rfl⟩ | ⟨c, rfl, hc, rfl⟩
            · obtain ⟨Q', s', P', U', V', u', v', n1', K1', G1', a, hL, hN, ha, hr'⟩ := mid_yes HMO.out
              have hlo := HOK.out.ok hL.log
              have hA1 : (a : Int) ≤ 100000000000000 := by
                have h1 : a ≤ (s'.r + 1 + 1) * 1099511627776 := hlo.m4
                have h2 : (s'.r + 1 + 1) * 1099511627776 ≤ 26 * 1099511627776 := Nat.mul_le_mul_right _ (by omega)
                omega
              have hlt : ¬ (a : Int) < (s.all : Int) + 2 := by omega
              have HB : Hid (∀ W, PL W vj Q' (s'.add a n1' K1' G1') → Calls Tryz.prog 34 #[vj] W fun ex w' => ex = .returned (.int .i64 (a : Int)) ∧ Below W.heap.size W w') := fun W h => HBY.out vj Q' _ W h
              have HL : Hid (LK PL 25 4 44 3 w.heap.size O3 vj (.slice (some ⟨gd, 0, none⟩) (s.r + 1) cd) u24 Q' (s'.add a n1' K1' G1') s'.r s'.r s'.n s'.K s'.G s'.M P' U' V') := hL
              have HN : Hid (Next 25 4 w.heap.size O3 (.slice (some ⟨gd, 0, none⟩) (s.r + 1) cd) u24 Q' s'.r P' U' V' p u' v' n1' K1' G1') := hN
              obtain ⟨i1, hpi, hp0, hp1, hp2⟩ := info_parts kpinfo
              obtain ⟨j1, hji, hj0, hj1_, hj2_⟩ := info_parts kiinfo
              have hj1 := hj1_
              have hj2 := hj2_
              clear hL hN hlo
              go_wp2_with (first | (go_at_call 34; refine (HB.out _ HL.out.log).mono ?_; rintro e w7 ⟨rfl, hb7⟩; have hq7 : Below w.heap.size w w7 := bl_call hqO hb7 hzO; have hz7 := hq7.size; have HL7 : Hid (LK PL 25 4 44 3 w.heap.size w7 vj (.slice (some ⟨gd, 0, none⟩) (s.r + 1) cd) u24 Q' (s'.add a n1' K1' G1') s'.r s'.r s'.n s'.K s'.G s'.M P' U' V') := HL.out.below HOK.out.mem hb7; have HN7 : Hid (Next 25 4 w.heap.size w7 (.slice (some ⟨gd, 0, none⟩) (s.r + 1) cd) u24 Q' s'.r P' U' V' p u' v' n1' K1' G1') := HN.out.below hb7; clear hb7) | (at_builtin; refine wpList_append_own_at _ rfl _ _ 70 rfl w.heap.size 44 i1 (.pointer none) 1 8 Tryz.underlying70 hpi hp0 hp1 hp2 rfl (by decide) _ _ _ rfl (HL7.out.rows.dn.alloc _) ⟨w7.heap.size, 0, none⟩ 1 1 [.pointer (some ⟨p, 0, none⟩)] rfl rfl ?c1 ?c2 ?c3 ?c4 ?c5 ?_))
              case c1 => exact one_at rfl _ _
              case c2 => intro u hu; simp at hu; subst hu; rfl
              case c3 => unfold maxLen; omega
              case c4 => omega
              case c5 => simp; omega
              intro vd8 w8 hown8 hgrow8 _ hat8
              have HL8 : Hid (LK PL 25 4 44 3 w.heap.size w8 vj vd8 u24 Q' (s'.add a n1' K1' G1') (s'.r + 1) s'.r (extN s'.n (s'.r + 1) n1') (extN s'.K (s'.r + 1) K1') (extN s'.G (s'.r + 1) G1') s'.M (extN P' (s'.r + 1) p) (extN U' (s'.r + 1) u') (extN V' (s'.r + 1) v')) := LK.done HOK.out.mem HL7.out HN7.out hz7 ((Below.refl _ _).alloc (Nat.le_refl _) _) hgrow8 hown8 (by first | exact hat8 | (simp [Value.ownBlock] at hat8 ⊢; exact hat8))
              have hq8 : Below w.heap.size w w8 := (hq7.alloc hz7 _).grown hgrow8 (by simp; omega) (fun k hk => (HL7.out.rows.dn.lt k hk).1)
              have hz8 := hq8.size
              clear hown8 hgrow8 hat8

              go_wp2_with (first | (go_at_call 34; refine (HB.out _ HL8.out.log).mono ?_; rintro e w9 ⟨rfl, hb9⟩; have hq9 : Below w.heap.size w w9 := bl_call hq8 hb9 hz8; have hz9 := hq9.size; have HL9 : Hid (LK PL 25 4 44 3 w.heap.size w9 vj vd8 u24 Q' (s'.add a n1' K1' G1') (s'.r + 1) s'.r (extN s'.n (s'.r + 1) n1') (extN s'.K (s'.r + 1) K1') (extN s'.G (s'.r + 1) G1') s'.M (extN P' (s'.r + 1) p) (extN U' (s'.r + 1) u') (extN V' (s'.r + 1) v')) := HL8.out.below HOK.out.mem hb9; clear hb9) | (at_builtin; refine wpList_append_own_at _ rfl _ _ 48 rfl w.heap.size 3 j1 (.int .i64 0) 1 8 Tryz.underlying48 hji hj0 hj1 hj2 rfl (by decide) _ _ _ rfl (HL9.out.rows.mr.alloc _) ⟨w9.heap.size, 0, none⟩ 1 1 [.int .i64 (a : Int)] rfl rfl ?c1 ?c2 ?c3 ?c4 ?c5 ?_))
              case c1 => exact one_at rfl _ _
              case c2 => intro u hu; simp at hu; subst hu; rfl
              case c3 => unfold maxLen; omega
              case c4 => omega
              case c5 => simp; omega
              intro vm8 w10 hown10 hgrow10 _ hat10
              have HL10 : Hid (LK PL 25 4 44 3 w.heap.size w10 vj vd8 vm8 Q' (s'.add a n1' K1' G1') (s'.r + 1) (s'.r + 1) (extN s'.n (s'.r + 1) n1') (extN s'.K (s'.r + 1) K1') (extN s'.G (s'.r + 1) G1') (extN s'.M (s'.r + 1) a) (extN P' (s'.r + 1) p) (extN U' (s'.r + 1) u') (extN V' (s'.r + 1) v')) := LK.mark HOK.out.mem HL9.out a ((Below.refl _ _).alloc (Nat.le_refl _) _) hgrow10 hown10 (by first | exact hat10 | (simp [Value.ownBlock] at hat10 ⊢; exact hat10))
              have hq10 : Below w.heap.size w w10 := (hq9.alloc hz9 _).grown hgrow10 (by simp; omega) (fun k hk => (HL9.out.rows.mr.lt k hk).1)
              clear hown10 hgrow10 hat10
              go_wp2_with fail
              go_meet
              case rel => exact ⟨⟨Q', (s'.add a n1' K1' G1'), _, _, _, HL10.out, (show s'.r + 1 ≤ m2 + 1 by omega), fun e => by cases e⟩, hq10⟩
            · have HL : Hid (LKp PL w.heap.size O3 vj (.slice (some ⟨gd, 0, none⟩) (s.r + 1) cd) u24 (m2 + 1) false) := (mid_no HMO.out).mono (Nat.le_succ _)
              go_wp2_with fail
              go_meet
              case rel => exact ⟨HL.out, hqO⟩
          case rest =>
          rename World => B_
          obtain ⟨hl1, hqB⟩ := hcut
          have hzB := hqB.size
          obtain ⟨Q2, s2, P2, U2, V2, hLK, hsm2, hsb2⟩ := hl1
          clear HMO HEB HOR HIS HN0 hsb2 hsm hal hqO hzO HBW HDC
          have hn2 := (HOK.out.ok hLK.log).m5 s2.r (Nat.le_refl _)
          obtain ⟨sd2, cd2, hvd, hd2⟩ := own_ptrs hLK.rows.dn
          subst hvd
          obtain ⟨gd2, rfl, _, hgd2, hrowD⟩ := hd2.resolve_left (by omega)
          have cD2 := hrowD.2 s2.r (by omega)
          rw [Nat.zero_add] at cD2
          have hgB := hrowD.1
          have HLB : Hid (LK PL 25 4 44 3 w.heap.size B_ vj (.slice (some ⟨gd2, 0, none⟩) (s2.r + 1) cd2) u24 Q2 s2 s2.r s2.r s2.n s2.K s2.G s2.M P2 U2 V2) := hLK
          clear hd2 hrowD hLK
          obtain ⟨T, hT⟩ : ∃ T, tM (4 * ttN (s2.K s2.r) (s2.G s2.r) (s2.n s2.r)) = T := ⟨_, rfl⟩
          have HT1 : Hid (∀ W, PL W vj Q2 s2 → Calls Tryz.prog 36 #[vj] W fun ex w' => ex = .returned (.agg #[.int .i64 ((T).1 : Int), .int .i64 ((T).2.1 : Int), .bool (T).2.2]) ∧ Below W.heap.size W w') := fun W h => by have := HTOT.out vj Q2 s2 W h; rwa [hT] at this
          have HT2 : Hid (∀ W u v, BookAt 25 4 w.heap.size W (P2 s2.r) u v (s2.n s2.r) (s2.K s2.r) (s2.G s2.r) → Calls Tryz.prog 28 #[.pointer (some ⟨P2 s2.r, 0, none⟩)] W fun ex w' => ex = .returned (.agg #[.int .i64 ((T).1 : Int), .int .i64 ((T).2.1 : Int), .bool (T).2.2]) ∧ Below W.heap.size W w') := fun W u v h => by have := rtotal w.heap.size (P2 s2.r) (s2.n s2.r) u v (s2.K s2.r) (s2.G s2.r) W (by omega) h; rwa [hT] at this
          have HN2 : Hid (s2.n s2.r ≤ 1000) := hn2
          have y1_ : ((T.1 : Int) == (T.1 : Int)) = true := by simp
          have y2_ : ((T.2.1 : Int) == (T.2.1 : Int)) = true := by simp
          have y3_ : (T.2.2 == T.2.2) = true := by simp
          clear hT hn2
          have q1 : True := trivial; have q2 : True := trivial; have q3 : True := trivial; have q4 : True := trivial; have q5 : True := trivial
          go_wp2_with (first | (go_at_call 38; clear q1; refine (HLIV.out vj Q2 s2 _ HLB.out.log).mono ?_; rintro ex y1 ⟨q1_, rfl, ho1, hb1⟩; have hq1 : Below w.heap.size w y1 := bl_call hqB hb1 hzB; have hz1 := hq1.size; have HO1 : Hid (y1.ownsRow B_.heap.size 3 1 q1_ (lvL (s2.G s2.r) (s2.n s2.r)).length (lvC (s2.G s2.r) (s2.n s2.r))) := ho1; have HL1 : Hid (LK PL 25 4 44 3 w.heap.size y1 vj (.slice (some ⟨gd2, 0, none⟩) (s2.r + 1) cd2) u24 Q2 s2 s2.r s2.r s2.n s2.K s2.G s2.M P2 U2 V2) := HLB.out.below HOK.out.mem hb1; clear ho1 hb1) | (go_at_call 24; clear q2; refine (rlive w.heap.size (P2 s2.r) (s2.n s2.r) _ _ (s2.K s2.r) (s2.G s2.r) _ (by have := HN2.out; omega) (HL1.out.rows.bk s2.r (Nat.le_refl _))).mono ?_; rintro ex y2 ⟨q2_, rfl, ho2, hb2⟩; have hq2 : Below w.heap.size w y2 := bl_call hq1 hb2 hz1; have hz2 := hq2.size; have HO2 : Hid (y2.ownsRow B_.heap.size 3 1 q1_ (lvL (s2.G s2.r) (s2.n s2.r)).length (lvC (s2.G s2.r) (s2.n s2.r))) := own_stay HO1.out hb2; have HO3 : Hid (y2.ownsRow y1.heap.size 3 1 q2_ (lvL (s2.G s2.r) (s2.n s2.r)).length (lvC (s2.G s2.r) (s2.n s2.r))) := ho2; have HL2 : Hid (LK PL 25 4 44 3 w.heap.size y2 vj (.slice (some ⟨gd2, 0, none⟩) (s2.r + 1) cd2) u24 Q2 s2 s2.r s2.r s2.n s2.K s2.G s2.M P2 U2 V2) := HL1.out.below HOK.out.mem hb2; clear ho2 hb2) | (go_at_call 22; clear q3; refine (ints_own HN2.out HO2.out HO3.out).mono ?_; rintro ex y3 ⟨rfl, hb3⟩; have hq3 : Below w.heap.size w y3 := bl_call hq2 hb3 hz2; have hz3 := hq3.size; have HL3 : Hid (LK PL 25 4 44 3 w.heap.size y3 vj (.slice (some ⟨gd2, 0, none⟩) (s2.r + 1) cd2) u24 Q2 s2 s2.r s2.r s2.n s2.K s2.G s2.M P2 U2 V2) := HL2.out.below HOK.out.mem hb3; clear hb3) | (go_at_call 36; clear q4; refine (HT1.out _ HL3.out.log).mono ?_; rintro ex y4 ⟨rfl, hb4⟩; have hq4 : Below w.heap.size w y4 := bl_call hq3 hb4 hz3; have hz4 := hq4.size; have HL4 : Hid (LK PL 25 4 44 3 w.heap.size y4 vj (.slice (some ⟨gd2, 0, none⟩) (s2.r + 1) cd2) u24 Q2 s2 s2.r s2.r s2.n s2.K s2.G s2.M P2 U2 V2) := HL3.out.below HOK.out.mem hb4; clear hb4) | (go_at_call 28; clear q5; refine (HT2.out _ _ _ (HL4.out.rows.bk s2.r (Nat.le_refl _))).mono ?_; rintro ex y5 ⟨rfl, hb5⟩; have hq5 : Below w.heap.size w y5 := bl_call hq4 hb5 hz4; have HL5 : Hid (LK PL 25 4 44 3 w.heap.size y5 vj (.slice (some ⟨gd2, 0, none⟩) (s2.r + 1) cd2) u24 Q2 s2 s2.r s2.r s2.n s2.K s2.G s2.M P2 U2 V2) := HL4.out.below HOK.out.mem hb5; clear hb5))
          go_roundw
          case rel => exact ⟨m2 + 1, k + 1, by omega, by omega, by omega, by simp, by simp, ⟨Q2, s2, P2, U2, V2, HL5.out, hsm2, fun e => by cases e⟩, hq5⟩
          case measure => simp [intOf]; omega
        · as_aux_lemma =>
          go_upto_region 26 with fail
          go_cut [149] from 142 to 244 (fun tb_ wx_ => tb_ = .bool false ∧ wx_ = V)
          case first =>
            by_cases hj1 : (k : Int) < 6
            · have hj2 : ¬ (m2 : Int) < L := by omega
              go_wp2_with fail
              go_meet
              case rel => exact ⟨rfl, rfl⟩
            · go_wp2_with fail
              go_meet
              case rel => exact ⟨rfl, rfl⟩
          case rest =>
          rename World => V2w
          obtain ⟨rfl, hOc⟩ := hcut
          subst hOc
          go_upto_if 248 with fail
          go_cut [34] from 122 to 333 (fun tk_ wx_ => ∃ kv : Int, tk_ = .int .i64 kv ∧ (Lit.int .i64 kv).wf = true ∧ wx_ = V2w)
          case first => as_aux_lemma =>
            by_cases hk : r < nk
            · have hk' : (r : Int) < nk := by omega
              obtain ⟨b9, o9, rfl, hrow⟩ := RK.out.resolve_left (by omega)
              have c9 := (hrow.below hrow.1 hqV).2 r hk
              have hb9 : b9 < V2w.heap.size := Nat.lt_of_lt_of_le hrow.1 hzV
              clear hrow
              go_wp2_with fail
              go_meet
              case rel => exact ⟨_, rfl, WK.out r hk, rfl⟩
            · have hk' : ¬ (r : Int) < nk := by omega
              go_wp2_with fail
              go_meet
              case rel => exact ⟨0, rfl, lwf (by omega) (by omega), rfl⟩
          case rest =>
          rename World => V3_
          obtain ⟨kv, rfl, wkv, hOc⟩ := hcut
          subst hOc
          obtain ⟨Q, s, P2, U2, V2, hLK, hsm, hsb⟩ := HLV.out
          clear HLV hsb
          have hlo := HOK.out.ok hLK.log
          have hm0 := hlo.m0
          have hm3 := hlo.m3
          have hal : (s.all : Int) ≤ 100000000000000 := by
            have h1 := hlo.m4
            have h2 : (s.r + 1) * 1099511627776 ≤ 26 * 1099511627776 := Nat.mul_le_mul_right _ (by omega)
            omega
          have HLK : Hid (LK PL 25 4 44 3 w.heap.size V3_ vj u23 u24 Q s s.r s.r s.n s.K s.G s.M P2 U2 V2) := hLK
          clear hLK hlo
          have q1 : True := trivial; have q2 : True := trivial; have q3 : True := trivial
          go_upto_region 55 with (first | (go_at_call 34; clear q1; refine (HBY.out vj Q s _ HLK.out.log).mono ?_; rintro ex y1 ⟨rfl, hb1⟩; have hq1 : Below w.heap.size w y1 := bl_call hqV hb1 hzV; have hz1 := hq1.size; have HL1 : Hid (LK PL 25 4 44 3 w.heap.size y1 vj u23 u24 Q s s.r s.r s.n s.K s.G s.M P2 U2 V2) := HLK.out.below HOK.out.mem hb1; clear hb1) | (go_at_call 35; clear q2; refine (HSA.out vj Q s _ HL1.out.log).mono ?_; rintro ex y2 ⟨rfl, hb2⟩; have hq2 : Below w.heap.size w y2 := bl_call hq1 hb2 hz1; have hz2 := hq2.size; have HL2 : Hid (LK PL 25 4 44 3 w.heap.size y2 vj u23 u24 Q s s.r s.r s.n s.K s.G s.M P2 U2 V2) := HL1.out.below HOK.out.mem hb2; clear hb2) | (go_at_call 33; clear q3; refine (HCR.out vj Q s kv _ HL2.out.log (by omega) wkv).mono ?_; rintro ex y3 ⟨rfl, hbt, Q2, hp, hq⟩; have hq3 : Below w.heap.size w y3 := But.under hq2 hbt (fun x hx => (HL2.out.q x hx).1) hz2; have hz3 := hq3.size; have HL3 : Hid (LK PL 25 4 44 3 w.heap.size y3 vj u23 u24 Q2 (s.crash kv) s.r s.r s.n s.K s.G s.M P2 U2 V2) := HL2.out.step HOK.out.mem hz2 hbt hp hq; clear hbt hp hq))
          clear HL1 HL2 HLK hq1 hq2 hz1 hz2 hqV hzV
          obtain ⟨cb, hcb⟩ : ∃ cb : Bool, cb = decide (kv > 0 ∧ kv < (s.all : Int) - (s.safe : Int)) := ⟨_, rfl⟩
          have HCB : Hid (cb = decide (kv > 0 ∧ kv < (s.all : Int) - (s.safe : Int))) := hcb
          clear hcb
          go_cut [269] from 122 to 333 (fun tb_ wx_ => tb_ = .bool cb ∧ wx_ = y3)
          case first => as_aux_lemma =>
            by_cases g1 : kv > 0
            · by_cases g2 : kv < (s.all : Int) - (s.safe : Int)
              · go_wp2_with fail
                go_meet
                case rel => exact ⟨by rw [HCB.out, decide_eq_true (by omega)], rfl⟩
              · go_wp2_with fail
                go_meet
                case rel => exact ⟨by rw [HCB.out, decide_eq_false (by omega)], rfl⟩
            · go_wp2_with fail
              go_meet
              case rel => exact ⟨by rw [HCB.out, decide_eq_false (by omega)], rfl⟩
          case rest =>
          rename World => C4
          obtain ⟨rfl, hOc⟩ := hcut
          subst hOc
          obtain ⟨hi, hhi⟩ : ∃ hi, s.high kv = hi := ⟨_, rfl⟩
          have HHI : Hid (s.high kv = hi) := hhi
          have HH2 : Hid (hi = s.safe + min kv.toNat (s.all - s.safe)) := hhi.symm
          clear hhi
          go_upto_if 269 with fail
          go_cut [37] from 122 to 333 (fun th_ wx_ => th_ = .int .i64 (hi : Int) ∧ wx_ = C4)
          case first => as_aux_lemma =>
            cases hc : cb with
            | true =>
              obtain ⟨g1, g2⟩ := of_decide_eq_true (HCB.out.symm.trans hc)
              have HH : Hid ((s.safe : Int) + kv = (hi : Int)) := by have := HH2.out; unfold Hid; omega
              clear hc
              go_wp2_with fail
              go_meet
              case rel => exact ⟨by rw [HH.out], rfl⟩
            | false =>
              have g0 := of_decide_eq_false (HCB.out.symm.trans hc)
              clear hc
              by_cases g1 : kv > 0
              · have HH : Hid ((s.all : Int) = (hi : Int)) := by have := HH2.out; unfold Hid; omega
                go_wp2_with fail
                go_meet
                case rel => exact ⟨by rw [HH.out], rfl⟩
              · have HH : Hid ((s.safe : Int) = (hi : Int)) := by have := HH2.out; unfold Hid; omega
                go_wp2_with fail
                go_meet
                case rel => exact ⟨by rw [HH.out], rfl⟩
          case rest =>
          rename World => C5
          obtain ⟨rfl, hOc⟩ := hcut
          subst hOc
          have hib : (hi : Int) ≤ 100000000000000 := by have := HH2.out; omega
          clear HH2 HCB
          obtain ⟨sm2, cm2, hvm, hm2_⟩ := own_ints HL3.out.rows.mr
          subst hvm
          obtain ⟨gm, rfl, _, hgm, hrowM⟩ := hm2_.resolve_left (by omega)
          have HRM : Hid (RowI C5 gm 0 (s.r + 1) (fun i => (s.M i : Int))) := hrowM
          have hgM := hrowM.1
          clear hm2_ hrowM
          go_wp2_with fail
          go_loopw [38, 39] (fun tl ti wl => ∃ i : Nat, i ≤ s.r + 1 ∧ ti = .int .i64 (i : Int) ∧ tl = .int .i64 ((lastM s.M hi (i - 1) : Nat) : Int) ∧ wl = C5) (fun tl ti _ => s.r + 1 - (intOf ti).toNat)
          case atStart => exact ⟨0, by omega, rfl, rfl, rfl⟩
          case round =>
            obtain ⟨i, hii, rfl, rfl, hOc⟩ := hrel
            subst hOc
            rename World => C6
            by_cases hlt : i < s.r + 1
            · as_aux_lemma =>
              have hlt' : (i : Int) < ((s.r + 1 : Nat) : Int) := by omega
              have cM := HRM.out.2 i hlt
              rw [Nat.zero_add] at cM
              by_cases hle : (s.M i : Int) ≤ (hi : Int)
              · have e1 : lastM s.M hi (i + 1 - 1) = i := by
                  rw [Nat.add_sub_cancel]
                  cases i with
                  | zero => rfl
                  | succ j => exact lastM_yes (by omega)
                go_wp2_with fail
                go_roundw
                case rel => exact ⟨i + 1, by omega, by simp, by rw [e1], (by first | rfl | trivial)⟩
                case measure => simp [intOf]; omega
              · have e1 : lastM s.M hi (i + 1 - 1) = lastM s.M hi (i - 1) := by
                  rw [Nat.add_sub_cancel]
                  cases i with
                  | zero => exact absurd (show (s.M 0 : Int) ≤ (hi : Int) by omega) hle
                  | succ j => exact lastM_no (by omega)
                go_wp2_with fail
                go_roundw
                case rel => exact ⟨i + 1, by omega, by simp, by rw [e1], (by first | rfl | trivial)⟩
                case measure => simp [intOf]; omega
            · as_aux_lemma =>
              have hlt' : ¬ (i : Int) < ((s.r + 1 : Nat) : Int) := by omega
              obtain ⟨lf, hlf⟩ : ∃ lf, lastM s.M hi (i - 1) = lf := ⟨_, rfl⟩
              have hi1 : i - 1 = s.r := by omega
              rw [hlf]
              rw [hi1] at hlf
              obtain ⟨sd2, cd2, hvd, hd2⟩ := own_ptrs HL3.out.rows.dn
              subst hvd
              obtain ⟨gd2, rfl, _, hgd2, hrowD⟩ := hd2.resolve_left (by omega)
              have hrm1 := own_room HL3.out.rows.dn
              have hrm2 := own_room HL3.out.rows.mr
              have hlr : lf ≤ s.r := by rw [← hlf]; exact lastM_le _ _ _
              have hL4 := LK.cut HL3.out hlr hlr
              have e_r : (s.crash kv).r = lf := by show lastM s.M (s.high kv) s.r = lf; rw [HHI.out]; exact hlf
              have e_a : (s.crash kv).all = s.M lf := by show s.M (lastM s.M (s.high kv) s.r) = s.M lf; rw [HHI.out, hlf]
              have e_f : (s.crash kv).safe = s.M lf := by show s.M (lastM s.M (s.high kv) s.r) = s.M lf; rw [HHI.out, hlf]
              have hL5 : LK PL 25 4 44 3 w.heap.size C6 vj (.slice (some ⟨gd2, 0, none⟩) (lf + 1) cd2) (.slice (some ⟨gm, 0, none⟩) (lf + 1) cm2) Q2 (s.crash kv) lf lf (s.crash kv).n (s.crash kv).K (s.crash kv).G (s.crash kv).M P2 U2 V2 := hL4
              have e_s : (s.crash kv).stop = false := rfl
              have e_M : (s.crash kv).M = s.M := rfl
              obtain ⟨s2, hs2⟩ : ∃ s2, s.crash kv = s2 := ⟨_, rfl⟩
              rw [hs2] at hL5 e_r e_a e_f e_s e_M
              have hlim : lf ≤ m2 := by omega
              have hlc1 : (lf : Int) + 1 ≤ (cd2 : Int) := by omega
              have hlc2 : (lf : Int) + 1 ≤ (cm2 : Int) := by omega
              clear hL4 hd2 HL3 hrowD HHI hlf hs2 hlr hrm1 hrm2
              subst e_r
              have hcD := (own_ptrs hL5.rows.dn)
              have hcM := (own_ints hL5.rows.mr)
              obtain ⟨_, _, e1_, h1_⟩ := hcD
              injection e1_ with e1_ _ e3_
              subst e1_ e3_
              obtain ⟨g1_, e1_, _, _, hrD⟩ := h1_.resolve_left (by omega)
              injection e1_ with e1_
              injection e1_ with e1_
              subst e1_
              obtain ⟨_, _, e1_, h1_⟩ := hcM
              injection e1_ with e1_ _ e3_
              subst e1_ e3_
              obtain ⟨g2_, e1_, _, _, hrM⟩ := h1_.resolve_left (by omega)
              injection e1_ with e1_
              injection e1_ with e1_
              subst e1_
              have cD2 := hrD.2 s2.r (by omega)
              have cM2 := hrM.2 s2.r (by omega)
              rw [Nat.zero_add] at cD2 cM2
              have zD2 := hrD.1
              have zM2 := hrM.1
              have hn2 := (HOK.out.ok hL5.log).m5 s2.r (Nat.le_refl _)
              have HL5 : Hid (LK PL 25 4 44 3 w.heap.size C6 vj (.slice (some ⟨gd2, 0, none⟩) (s2.r + 1) cd2) (.slice (some ⟨gm, 0, none⟩) (s2.r + 1) cm2) Q2 s2 s2.r s2.r s2.n s2.K s2.G s2.M P2 U2 V2) := hL5
              clear hL5 hrD hrM h1_
              have HSB : Hid (s2.stop = false) := e_s
              have HBA : Hid (∀ W, PL W vj Q2 s2 → Calls Tryz.prog 34 #[vj] W fun ex w' => ex = .returned (.int .i64 (s2.M s2.r : Int)) ∧ Below W.heap.size W w') := fun W h => by have := HBY.out vj Q2 s2 W h; rwa [e_a, ← e_M] at this
              have HSF : Hid (∀ W, PL W vj Q2 s2 → Calls Tryz.prog 35 #[vj] W fun ex w' => ex = .returned (.int .i64 (s2.M s2.r : Int)) ∧ Below W.heap.size W w') := fun W h => by have := HSA.out vj Q2 s2 W h; rwa [e_f, ← e_M] at this
              clear e_a e_f e_s e_M
              obtain ⟨T, hT⟩ : ∃ T, tM (4 * ttN (s2.K s2.r) (s2.G s2.r) (s2.n s2.r)) = T := ⟨_, rfl⟩
              have HT1 : Hid (∀ W, PL W vj Q2 s2 → Calls Tryz.prog 36 #[vj] W fun ex w' => ex = .returned (.agg #[.int .i64 ((T).1 : Int), .int .i64 ((T).2.1 : Int), .bool (T).2.2]) ∧ Below W.heap.size W w') := fun W h => by have := HTOT.out vj Q2 s2 W h; rwa [hT] at this
              have HT2 : Hid (∀ W u v, BookAt 25 4 w.heap.size W (P2 s2.r) u v (s2.n s2.r) (s2.K s2.r) (s2.G s2.r) → Calls Tryz.prog 28 #[.pointer (some ⟨P2 s2.r, 0, none⟩)] W fun ex w' => ex = .returned (.agg #[.int .i64 ((T).1 : Int), .int .i64 ((T).2.1 : Int), .bool (T).2.2]) ∧ Below W.heap.size W w') := fun W u v h => by have := rtotal w.heap.size (P2 s2.r) (s2.n s2.r) u v (s2.K s2.r) (s2.G s2.r) W (by omega) h; rwa [hT] at this
              have HN2 : Hid (s2.n s2.r ≤ 1000) := hn2
              have y1_ : ((T.1 : Int) == (T.1 : Int)) = true := by simp
              have y2_ : ((T.2.1 : Int) == (T.2.1 : Int)) = true := by simp
              have y3_ : (T.2.2 == T.2.2) = true := by simp
              clear hT hn2
              go_upto_region 67 with fail
              have hCC : Below C6.heap.size C6 C6 := Below.refl _ _
              have hx0_ : (0 : Int) ≤ (s2.r : Int) := by omega
              have hx1_ : (s2.r : Int) < ((s2.r + 1 : Nat) : Int) := by omega
              have hx2_ : (s2.r : Int) < (s2.r : Int) + 1 := by omega
              have z1_ : ((s2.M s2.r : Int) != (s2.M s2.r : Int)) = false := by simp
              have HA1 : Hid (∀ W, Below C6.heap.size C6 W → Calls Tryz.prog 38 #[vj] W fun ex w' => ∃ q, ex = .returned q ∧ w'.ownsRow W.heap.size 3 1 q (lvL (s2.G s2.r) (s2.n s2.r)).length (lvC (s2.G s2.r) (s2.n s2.r)) ∧ Below W.heap.size W w') := fun W hW => HLIV.out vj Q2 s2 W (HL5.out.below HOK.out.mem hW).log
              have HA2 : Hid (∀ W, Below C6.heap.size C6 W → Calls Tryz.prog 24 #[.pointer (some ⟨P2 s2.r, 0, none⟩)] W fun ex w' => ∃ q, ex = .returned q ∧ w'.ownsRow W.heap.size 3 1 q (lvL (s2.G s2.r) (s2.n s2.r)).length (lvC (s2.G s2.r) (s2.n s2.r)) ∧ Below W.heap.size W w') := fun W hW => rlive w.heap.size (P2 s2.r) (s2.n s2.r) _ _ (s2.K s2.r) (s2.G s2.r) W (by have := HN2.out; omega) ((HL5.out.below HOK.out.mem hW).rows.bk s2.r (Nat.le_refl _))
              have HA3 : Hid (∀ W, Below C6.heap.size C6 W → Calls Tryz.prog 36 #[vj] W fun ex w' => ex = .returned (.agg #[.int .i64 ((T).1 : Int), .int .i64 ((T).2.1 : Int), .bool (T).2.2]) ∧ Below W.heap.size W w') := fun W hW => HT1.out W (HL5.out.below HOK.out.mem hW).log
              have HA4 : Hid (∀ W, Below C6.heap.size C6 W → Calls Tryz.prog 28 #[.pointer (some ⟨P2 s2.r, 0, none⟩)] W fun ex w' => ex = .returned (.agg #[.int .i64 ((T).1 : Int), .int .i64 ((T).2.1 : Int), .bool (T).2.2]) ∧ Below W.heap.size W w') := fun W hW => HT2.out W _ _ ((HL5.out.below HOK.out.mem hW).rows.bk s2.r (Nat.le_refl _))
              have HA5 : Hid (∀ W, Below C6.heap.size C6 W → Calls Tryz.prog 34 #[vj] W fun ex w' => ex = .returned (.int .i64 (s2.M s2.r : Int)) ∧ Below W.heap.size W w') := fun W hW => HBA.out W (HL5.out.below HOK.out.mem hW).log
              have HA6 : Hid (∀ W, Below C6.heap.size C6 W → Calls Tryz.prog 35 #[vj] W fun ex w' => ex = .returned (.int .i64 (s2.M s2.r : Int)) ∧ Below W.heap.size W w') := fun W hW => HSF.out W (HL5.out.below HOK.out.mem hW).log
              go_region_held3 (fun W_ => (gd2 < W_.heap.size ∧ W_.cell? ⟨gd2, s2.r, none⟩ = some (.pointer (some ⟨P2 s2.r, 0, none⟩))) ∧ (gm < W_.heap.size ∧ W_.cell? ⟨gm, s2.r, none⟩ = some (.int .i64 (s2.M s2.r : Int)))) (exact cut_cells cD2 zD2 cM2 zM2 (show Below C6.heap.size C6 _ from by repeat (first | (with_reducible first | exact Below.refl _ _ | assumption | refine Below.setCell ?_ (by first | simp <;> omega | omega) _ | refine Below.alloc ?_ (by first | simp <;> omega | omega) _) | refine bl_call ?_ (by assumption) (by first | simp <;> omega | omega) | (with_reducible first | refine bl_drewN ?_ | refine Below.drew ?_ | refine bl_grow ?_ (by first | simp <;> omega | omega))))) (first | (go_at_call 38; refine (HA1.out _ (show Below C6.heap.size C6 _ from by repeat (first | (with_reducible first | exact Below.refl _ _ | assumption | refine Below.setCell ?_ (by first | simp <;> omega | omega) _ | refine Below.alloc ?_ (by first | simp <;> omega | omega) _) | refine bl_call ?_ (by assumption) (by first | simp <;> omega | omega) | (with_reducible first | refine bl_drewN ?_ | refine Below.drew ?_ | refine bl_grow ?_ (by first | simp <;> omega | omega))))).mono ?_; rintro ex o1 ⟨q1, rfl, hw1, ho1b⟩; have hr1 : Below C6.heap.size C6 o1 := (by repeat (first | (with_reducible first | exact Below.refl _ _ | assumption | refine Below.setCell ?_ (by first | simp <;> omega | omega) _ | refine Below.alloc ?_ (by first | simp <;> omega | omega) _) | refine bl_call ?_ (by assumption) (by first | simp <;> omega | omega) | (with_reducible first | refine bl_drewN ?_ | refine Below.drew ?_ | refine bl_grow ?_ (by first | simp <;> omega | omega)))); have hr1z := hr1.size; have hw1c := hw1) | (go_at_call 24; refine (HA2.out _ (show Below C6.heap.size C6 _ from by repeat (first | (with_reducible first | exact Below.refl _ _ | assumption | refine Below.setCell ?_ (by first | simp <;> omega | omega) _ | refine Below.alloc ?_ (by first | simp <;> omega | omega) _) | refine bl_call ?_ (by assumption) (by first | simp <;> omega | omega) | (with_reducible first | refine bl_drewN ?_ | refine Below.drew ?_ | refine bl_grow ?_ (by first | simp <;> omega | omega))))).mono ?_; rintro ex o2 ⟨q2, rfl, hw2, ho2b⟩; have hr2 : Below C6.heap.size C6 o2 := (by repeat (first | (with_reducible first | exact Below.refl _ _ | assumption | refine Below.setCell ?_ (by first | simp <;> omega | omega) _ | refine Below.alloc ?_ (by first | simp <;> omega | omega) _) | refine bl_call ?_ (by assumption) (by first | simp <;> omega | omega) | (with_reducible first | refine bl_drewN ?_ | refine Below.drew ?_ | refine bl_grow ?_ (by first | simp <;> omega | omega)))); have hr2z := hr2.size; have hw1d := own_stay hw1c (show Below o1.heap.size o1 o2 from ho2b)) | (go_at_call 22; refine (ints_own HN2.out hw1d hw2).mono ?_; rintro ex o3 ⟨rfl, ho3b⟩; have hr3 : Below C6.heap.size C6 o3 := bl_call hr2 ho3b (by omega); have hr3z := hr3.size) | (go_at_call 36; refine (HA3.out _ (show Below C6.heap.size C6 _ from by repeat (first | (with_reducible first | exact Below.refl _ _ | assumption | refine Below.setCell ?_ (by first | simp <;> omega | omega) _ | refine Below.alloc ?_ (by first | simp <;> omega | omega) _) | refine bl_call ?_ (by assumption) (by first | simp <;> omega | omega) | (with_reducible first | refine bl_drewN ?_ | refine Below.drew ?_ | refine bl_grow ?_ (by first | simp <;> omega | omega))))).mono ?_; rintro ex o4 ⟨rfl, ho4b⟩; have hr4 : Below C6.heap.size C6 o4 := (by repeat (first | (with_reducible first | exact Below.refl _ _ | assumption | refine Below.setCell ?_ (by first | simp <;> omega | omega) _ | refine Below.alloc ?_ (by first | simp <;> omega | omega) _) | refine bl_call ?_ (by assumption) (by first | simp <;> omega | omega) | (with_reducible first | refine bl_drewN ?_ | refine Below.drew ?_ | refine bl_grow ?_ (by first | simp <;> omega | omega)))); have hr4z := hr4.size; ) | (go_at_call 28; refine (HA4.out _ (show Below C6.heap.size C6 _ from by repeat (first | (with_reducible first | exact Below.refl _ _ | assumption | refine Below.setCell ?_ (by first | simp <;> omega | omega) _ | refine Below.alloc ?_ (by first | simp <;> omega | omega) _) | refine bl_call ?_ (by assumption) (by first | simp <;> omega | omega) | (with_reducible first | refine bl_drewN ?_ | refine Below.drew ?_ | refine bl_grow ?_ (by first | simp <;> omega | omega))))).mono ?_; rintro ex o5 ⟨rfl, ho5b⟩; have hr5 : Below C6.heap.size C6 o5 := (by repeat (first | (with_reducible first | exact Below.refl _ _ | assumption | refine Below.setCell ?_ (by first | simp <;> omega | omega) _ | refine Below.alloc ?_ (by first | simp <;> omega | omega) _) | refine bl_call ?_ (by assumption) (by first | simp <;> omega | omega) | (with_reducible first | refine bl_drewN ?_ | refine Below.drew ?_ | refine bl_grow ?_ (by first | simp <;> omega | omega)))); have hr5z := hr5.size; ) | (go_at_call 34; refine (HA5.out _ (show Below C6.heap.size C6 _ from by repeat (first | (with_reducible first | exact Below.refl _ _ | assumption | refine Below.setCell ?_ (by first | simp <;> omega | omega) _ | refine Below.alloc ?_ (by first | simp <;> omega | omega) _) | refine bl_call ?_ (by assumption) (by first | simp <;> omega | omega) | (with_reducible first | refine bl_drewN ?_ | refine Below.drew ?_ | refine bl_grow ?_ (by first | simp <;> omega | omega))))).mono ?_; rintro ex o6 ⟨rfl, ho6b⟩; have hr6 : Below C6.heap.size C6 o6 := (by repeat (first | (with_reducible first | exact Below.refl _ _ | assumption | refine Below.setCell ?_ (by first | simp <;> omega | omega) _ | refine Below.alloc ?_ (by first | simp <;> omega | omega) _) | refine bl_call ?_ (by assumption) (by first | simp <;> omega | omega) | (with_reducible first | refine bl_drewN ?_ | refine Below.drew ?_ | refine bl_grow ?_ (by first | simp <;> omega | omega)))); have hr6z := hr6.size; ) | (go_at_call 35; refine (HA6.out _ (show Below C6.heap.size C6 _ from by repeat (first | (with_reducible first | exact Below.refl _ _ | assumption | refine Below.setCell ?_ (by first | simp <;> omega | omega) _ | refine Below.alloc ?_ (by first | simp <;> omega | omega) _) | refine bl_call ?_ (by assumption) (by first | simp <;> omega | omega) | (with_reducible first | refine bl_drewN ?_ | refine Below.drew ?_ | refine bl_grow ?_ (by first | simp <;> omega | omega))))).mono ?_; rintro ex o7 ⟨rfl, ho7b⟩; have hr7 : Below C6.heap.size C6 o7 := (by repeat (first | (with_reducible first | exact Below.refl _ _ | assumption | refine Below.setCell ?_ (by first | simp <;> omega | omega) _ | refine Below.alloc ?_ (by first | simp <;> omega | omega) _) | refine bl_call ?_ (by assumption) (by first | simp <;> omega | omega) | (with_reducible first | refine bl_drewN ?_ | refine Below.drew ?_ | refine bl_grow ?_ (by first | simp <;> omega | omega)))); have hr7z := hr7.size; ))
              all_goals (rename_i hheld; clear hheld)
              all_goals (refine ethen_gen2 (fun O2 => LK PL 25 4 44 3 w.heap.size O2 vj (.slice (some ⟨gd2, 0, none⟩) (s2.r + 1) cd2) (.slice (some ⟨gm, 0, none⟩) (s2.r + 1) cm2) Q2 s2 s2.r s2.r s2.n s2.K s2.G s2.M P2 U2 V2 ∧ Below w.heap.size w O2) ⟨HL5.out.below HOK.out.mem (show Below C6.heap.size C6 _ from by repeat (first | (with_reducible first | exact Below.refl _ _ | assumption | refine Below.setCell ?_ (by first | simp <;> omega | omega) _ | refine Below.alloc ?_ (by first | simp <;> omega | omega) _) | refine bl_call ?_ (by assumption) (by first | simp <;> omega | omega) | (with_reducible first | refine bl_drewN ?_ | refine Below.drew ?_ | refine bl_grow ?_ (by first | simp <;> omega | omega)))), bl_call hq3 (show Below C6.heap.size C6 _ from by repeat (first | (with_reducible first | exact Below.refl _ _ | assumption | refine Below.setCell ?_ (by first | simp <;> omega | omega) _ | refine Below.alloc ?_ (by first | simp <;> omega | omega) _) | refine bl_call ?_ (by assumption) (by first | simp <;> omega | omega) | (with_reducible first | refine bl_drewN ?_ | refine Below.drew ?_ | refine bl_grow ?_ (by first | simp <;> omega | omega)))) hz3⟩ ?_)
              all_goals (rintro O2 ⟨hs2_, hq2_⟩)
              all_goals (have HS2 : Hid (LK PL 25 4 44 3 w.heap.size O2 vj (.slice (some ⟨gd2, 0, none⟩) (s2.r + 1) cd2) (.slice (some ⟨gm, 0, none⟩) (s2.r + 1) cm2) Q2 s2 s2.r s2.r s2.n s2.K s2.G s2.M P2 U2 V2) := hs2_; clear hs2_)
              all_goals (go_wp2_with fail)
              all_goals go_roundw
              all_goals (first | (case rel => (exact ⟨r + 1, m2, by omega, by omega, by omega, by omega, by simp, rfl, ⟨Q2, s2, P2, U2, V2, HS2.out, hlim, fun _ => HSB.out⟩, hq2_⟩)) | (case measure => (simp [intOf]; omega)))
    · by_cases h1 : (r : Int) ≤ nf
      · have h2 : ¬ (r : Int) < 4 := by omega
        go_wp2_with fail
        go_ret
        exact ⟨rfl, hqV⟩
      · go_wp2_with fail
        go_ret
        exact ⟨rfl, hqV⟩
end Go.Proofs.YtpkkclcjiobgoajGreatDoor
