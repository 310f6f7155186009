/- Texts joined: QuorumSealsBy ShareFns ShareVal Share Quorum QuorumSealsWalk Open. stonelaw2.QuorumSeals answers true, by what packages share and quorum are to answer. What the small functions of package share answer: which numbers are ones, which places clash, the inverse, one weight, the places of shares. What share.valueAt answers: a polynomial's value, from the last coefficient to the first (a range over slices.Backward). What package share answers: Split, Weights, Combine. What package quorum answers: Part, Join, Public. Proved: stonelaw2.QuorumSeals answers true for every list of coefficients, every number, every list of places and every text: parts of any as many as there are coefficients, joined, are the seal of the secret, and so their keys are its key. No condition stands behind it. Slices of ints, of structs of two ints and of texts, opened at every place. -/
import Derived.Test.YtkhpmnehjifdcafQuorumEq
import Derived.Test.YtkhpmnehjifdcafPickRows
import Derived.Test.YtkhpmnehjifdcafJoinPick
import Derived.Test.YtkhpmnehjifdcafQA
import Derived.Deep.RegionHeld3
import Derived.Deep.AppendLies
import Derived.Deep.CutRange
import Derived.Deep.CutBlock
import Derived.Test.YtkhpmnehjifdcafShareIs
import Derived.Test.YtkhpmnehjifdcafOwn
import Derived.Test.YtkhpmnehjifdcafMem
import Derived.BigQuiet
import Derived.RangeFuncBox
import Derived.RangeFuncLeaves
import Derived.Shelf.Abstract
import Derived.WalkKit
import Derived.OwnWalkIn
import Derived.TacticsInMore
import Derived.LoopNIn
import Derived.LoopIn
import Derived.Test.YtkhpmnehjifdcafQuorumIs
import Derived.Test.YtkhpmnehjifdcafTimesOrd
import Derived.Test.YtkhpmnehjifdcafCurveEq
import Derived.Test.YtkhpmnehjifdcafUSpot
import Derived.Test.YtkhpmnehjifdcafGate
import Derived.SizedLaws
/- QuorumSealsBy -/
namespace Go.Proofs.Ytkhpmnehjifdcaf
open Go.RowKit Go.Sort
set_option linter.unusedVariables false
set_option linter.unusedSimpArgs false
set_option maxRecDepth 100000 in
set_option maxHeartbeats 16000000 in
theorem qsealsA (sc sp : Option Addr) (m dc q dp : Nat) (z c ax ay : Int) (af : Bool) (t : ByteArray) (w : World) (h1 : ∀ w, Calls Try.prog 12 #[.agg #[.int .i64 1, .int .i64 1], .string ⟨#[97]⟩] w fun ex w' => ex = .returned (.tuple #[.agg #[.int .i64 ax, .int .i64 ay, .bool af], .nilIface]) ∧ Below w.heap.size w w') (h2 : ∀ w, Calls Try.prog 13 #[.string ⟨#[97]⟩] w fun ex w' => ex = .returned (.agg #[.int .i64 ax, .int .i64 ay, .bool af]) ∧ Below w.heap.size w w') (ha : ∀ W, Below w.heap.size w W → Calls Try.prog 7 #[.slice sc m dc, .int .i64 z] W fun ex w' => ex = .returned (.tuple #[.slice none 0 0, errOf c]) ∧ Below W.heap.size W w') : Calls Try.prog 5 #[.slice sc m dc, .int .i64 z, .slice sp q dp, .string t] w fun e w' => e = .returned (.bool true) ∧ Below w.heap.size w w' := by
  have HA1 : Hid (∀ w, Calls Try.prog 12 #[.agg #[.int .i64 1, .int .i64 1], .string ⟨#[97]⟩] w fun ex w' => ex = .returned (.tuple #[.agg #[.int .i64 ax, .int .i64 ay, .bool af], .nilIface]) ∧ Below w.heap.size w w') := h1
  have HA2 : Hid (∀ w, Calls Try.prog 13 #[.string ⟨#[97]⟩] w fun ex w' => ex = .returned (.agg #[.int .i64 ax, .int .i64 ay, .bool af]) ∧ Below w.heap.size w w') := h2
  have HA : Hid (∀ W, Below w.heap.size w W → Calls Try.prog 7 #[.slice sc m dc, .int .i64 z] W fun ex w' => ex = .returned (.tuple #[.slice none 0 0, errOf c]) ∧ Below W.heap.size W w') := ha
  clear h1 h2 ha
  have m1 : True := trivial; have m2 : True := trivial; have m3 : True := trivial; have m4 : True := trivial
  go_enter Try.func5, Try.ntmps5
  go_wp2_with (go_at_call 12; clear m1; refine (HA1.out _).mono ?_; rintro e w1 ⟨rfl, hb1⟩; have hq1 : Below w.heap.size w w1 := (by repeat (first | (with_reducible exact Below.refl _ _) | (with_reducible assumption) | (with_reducible refine Below.setCell ?_ (by first | (simp; done) | (simp; omega) | omega) _) | (with_reducible refine Below.alloc ?_ (by first | (simp; done) | (simp; omega) | omega) _) | (refine bl_call ?_ (by assumption) (by first | (simp; done) | (simp; omega) | omega)) | (with_reducible refine bl_drewN ?_) | (with_reducible refine Below.drew ?_) | (with_reducible refine bl_grow ?_ (by first | (simp; done) | (simp; omega) | omega)))); have hz1 := hq1.size; clear hb1)
  refine wp_gen (fun V => At V (w1.heap.size) [.int .i64 ax, .int .i64 ay, .bool af] ∧ Below w.heap.size w V) ⟨by repeat (first | assumption | ((with_reducible refine at_new' _ _ _ _ ?_); (first | rfl | (simp; done))) | (with_reducible refine At.alloc ?_ _) | (with_reducible refine At.drewN ?_) | (with_reducible refine At.grow ?_) | (with_reducible refine At.store4 (by assumption)) | (with_reducible refine At.store3 (by assumption)) | (with_reducible refine At.store2 (by assumption)) | (with_reducible refine At.set ?_ (by omega)) | (with_reducible apply At.store4) | (with_reducible apply At.store3) | (with_reducible apply At.put43) | (refine At.below ?_ (by assumption))), by repeat (first | (with_reducible exact Below.refl _ _) | (with_reducible assumption) | (with_reducible refine Below.setCell ?_ (by first | (simp; done) | (simp; omega) | omega) _) | (with_reducible refine Below.alloc ?_ (by first | (simp; done) | (simp; omega) | omega) _) | (refine bl_call ?_ (by assumption) (by first | (simp; done) | (simp; omega) | omega)) | (with_reducible refine bl_drewN ?_) | (with_reducible refine Below.drew ?_) | (with_reducible refine bl_grow ?_ (by first | (simp; done) | (simp; omega) | omega)))⟩ ?_
  rintro V ⟨kaV, hqV⟩
  have hzV := hqV.size
  obtain ⟨zaV, ca0V, ca1V, ca2V, fa0V, fa1V, fa2V⟩ := kaV.three
  refine wp_region_quiet_below (by kernel_rfl) (by kernel_rfl) ?_
  repeat (go_big_quiet_step (first | (go_at_call 13; with_reducible exact Calls.regrown_of (HA2.out _))))
  refine wpQuiet_nil ?_
  intro V2 hw1
  have hrV2 := regrown_below hw1
  clear hw1
  have kaV2 := kaV.below hrV2
  have hqV2 := bl_call hqV hrV2 (by omega)
  have hzV2 := hqV2.size
  clear hrV2 kaV ca0V fa0V ca1V fa1V ca2V fa2V hqV
  obtain ⟨zaV2, ca0V2, ca1V2, ca2V2, fa0V2, fa1V2, fa2V2⟩ := kaV2.three
  go_wp2_with (go_at_call 7; clear m2; refine (HA.out _ (by repeat (first | (with_reducible exact Below.refl _ _) | (with_reducible assumption) | (with_reducible refine Below.setCell ?_ (by first | (simp; done) | (simp; omega) | omega) _) | (with_reducible refine Below.alloc ?_ (by first | (simp; done) | (simp; omega) | omega) _) | (refine bl_call ?_ (by assumption) (by first | (simp; done) | (simp; omega) | omega)) | (with_reducible refine bl_drewN ?_) | (with_reducible refine Below.drew ?_) | (with_reducible refine bl_grow ?_ (by first | (simp; done) | (simp; omega) | omega))))).mono ?_; rintro e w3 ⟨rfl, hb3⟩; have hq3 : Below w.heap.size w w3 := (by repeat (first | (with_reducible exact Below.refl _ _) | (with_reducible assumption) | (with_reducible refine Below.setCell ?_ (by first | (simp; done) | (simp; omega) | omega) _) | (with_reducible refine Below.alloc ?_ (by first | (simp; done) | (simp; omega) | omega) _) | (refine bl_call ?_ (by assumption) (by first | (simp; done) | (simp; omega) | omega)) | (with_reducible refine bl_drewN ?_) | (with_reducible refine Below.drew ?_) | (with_reducible refine bl_grow ?_ (by first | (simp; done) | (simp; omega) | omega)))); have hz3 := hq3.size; clear hb3)
  go_ret
  exact ⟨rfl, by repeat (first | (with_reducible exact Below.refl _ _) | (with_reducible assumption) | (with_reducible refine Below.setCell ?_ (by first | (simp; done) | (simp; omega) | omega) _) | (with_reducible refine Below.alloc ?_ (by first | (simp; done) | (simp; omega) | omega) _) | (refine bl_call ?_ (by assumption) (by first | (simp; done) | (simp; omega) | omega)) | (with_reducible refine bl_drewN ?_) | (with_reducible refine Below.drew ?_) | (with_reducible refine bl_grow ?_ (by first | (simp; done) | (simp; omega) | omega)))⟩
set_option maxRecDepth 100000 in
set_option maxHeartbeats 16000000 in
theorem qsealsB (bc oc m dc : Nat) (sp : Option Addr) (q dp n : Nat) (ax ay : Int) (af : Bool) (t : ByteArray) (PY : Nat → Int) (w : World) (n1 : 1 ≤ n) (ht : 60 < t.size) (ht9 : t.size ≤ 9223372036854775807) (h1 : ∀ w, Calls Try.prog 12 #[.agg #[.int .i64 1, .int .i64 1], .string ⟨#[97]⟩] w fun ex w' => ex = .returned (.tuple #[.agg #[.int .i64 ax, .int .i64 ay, .bool af], .nilIface]) ∧ Below w.heap.size w w') (h2 : ∀ w, Calls Try.prog 13 #[.string ⟨#[97]⟩] w fun ex w' => ex = .returned (.agg #[.int .i64 ax, .int .i64 ay, .bool af]) ∧ Below w.heap.size w w') (hl : ∀ W, Below w.heap.size w W → Calls Try.prog 7 #[.slice (some ⟨bc, oc, none⟩) m dc, .int .i64 (n : Int)] W fun ex w' => ∃ u, ex = .returned (.tuple #[u, .nilIface]) ∧ w'.ownsRow W.heap.size 31 2 u n (cellsP (fun i : Nat => (i : Int) + 1) PY n) ∧ Below W.heap.size W w') : Calls Try.prog 5 #[.slice (some ⟨bc, oc, none⟩) m dc, .int .i64 (n : Int), .slice sp q dp, .string t] w fun e w' => e = .returned (.bool true) ∧ Below w.heap.size w w' := by
  have HA1 : Hid (∀ w, Calls Try.prog 12 #[.agg #[.int .i64 1, .int .i64 1], .string ⟨#[97]⟩] w fun ex w' => ex = .returned (.tuple #[.agg #[.int .i64 ax, .int .i64 ay, .bool af], .nilIface]) ∧ Below w.heap.size w w') := h1
  have HA2 : Hid (∀ w, Calls Try.prog 13 #[.string ⟨#[97]⟩] w fun ex w' => ex = .returned (.agg #[.int .i64 ax, .int .i64 ay, .bool af]) ∧ Below w.heap.size w w') := h2
  have HL : Hid (∀ W, Below w.heap.size w W → Calls Try.prog 7 #[.slice (some ⟨bc, oc, none⟩) m dc, .int .i64 (n : Int)] W fun ex w' => ∃ u, ex = .returned (.tuple #[u, .nilIface]) ∧ w'.ownsRow W.heap.size 31 2 u n (cellsP (fun i : Nat => (i : Int) + 1) PY n) ∧ Below W.heap.size W w') := hl
  have ht' : (t.size : Int) > 60 := by omega
  clear h1 h2 hl ht
  have m1 : True := trivial; have m2 : True := trivial; have m3 : True := trivial; have m4 : True := trivial
  go_enter Try.func5, Try.ntmps5
  go_wp2_with (go_at_call 12; clear m1; refine (HA1.out _).mono ?_; rintro e w1 ⟨rfl, hb1⟩; have hq1 : Below w.heap.size w w1 := (by repeat (first | (with_reducible exact Below.refl _ _) | (with_reducible assumption) | (with_reducible refine Below.setCell ?_ (by first | (simp; done) | (simp; omega) | omega) _) | (with_reducible refine Below.alloc ?_ (by first | (simp; done) | (simp; omega) | omega) _) | (refine bl_call ?_ (by assumption) (by first | (simp; done) | (simp; omega) | omega)) | (with_reducible refine bl_drewN ?_) | (with_reducible refine Below.drew ?_) | (with_reducible refine bl_grow ?_ (by first | (simp; done) | (simp; omega) | omega)))); have hz1 := hq1.size; clear hb1)
  refine wp_gen (fun V => At V (w1.heap.size) [.int .i64 ax, .int .i64 ay, .bool af] ∧ Below w.heap.size w V) ⟨by repeat (first | assumption | ((with_reducible refine at_new' _ _ _ _ ?_); (first | rfl | (simp; done))) | (with_reducible refine At.alloc ?_ _) | (with_reducible refine At.drewN ?_) | (with_reducible refine At.grow ?_) | (with_reducible refine At.store4 (by assumption)) | (with_reducible refine At.store3 (by assumption)) | (with_reducible refine At.store2 (by assumption)) | (with_reducible refine At.set ?_ (by omega)) | (with_reducible apply At.store4) | (with_reducible apply At.store3) | (with_reducible apply At.put43) | (refine At.below ?_ (by assumption))), by repeat (first | (with_reducible exact Below.refl _ _) | (with_reducible assumption) | (with_reducible refine Below.setCell ?_ (by first | (simp; done) | (simp; omega) | omega) _) | (with_reducible refine Below.alloc ?_ (by first | (simp; done) | (simp; omega) | omega) _) | (refine bl_call ?_ (by assumption) (by first | (simp; done) | (simp; omega) | omega)) | (with_reducible refine bl_drewN ?_) | (with_reducible refine Below.drew ?_) | (with_reducible refine bl_grow ?_ (by first | (simp; done) | (simp; omega) | omega)))⟩ ?_
  rintro V ⟨kaV, hqV⟩
  have hzV := hqV.size
  obtain ⟨zaV, ca0V, ca1V, ca2V, fa0V, fa1V, fa2V⟩ := kaV.three
  refine wp_region_quiet_below (by kernel_rfl) (by kernel_rfl) ?_
  repeat (go_big_quiet_step (first | (go_at_call 13; with_reducible exact Calls.regrown_of (HA2.out _))))
  refine wpQuiet_nil ?_
  intro V2 hw1
  have hrV2 := regrown_below hw1
  clear hw1
  have kaV2 := kaV.below hrV2
  have hqV2 := bl_call hqV hrV2 (by omega)
  have hzV2 := hqV2.size
  clear hrV2 kaV ca0V fa0V ca1V fa1V ca2V fa2V hqV
  obtain ⟨zaV2, ca0V2, ca1V2, ca2V2, fa0V2, fa1V2, fa2V2⟩ := kaV2.three
  go_wp2_with (go_at_call 7; clear m2; refine (HL.out _ (by repeat (first | (with_reducible exact Below.refl _ _) | (with_reducible assumption) | (with_reducible refine Below.setCell ?_ (by first | (simp; done) | (simp; omega) | omega) _) | (with_reducible refine Below.alloc ?_ (by first | (simp; done) | (simp; omega) | omega) _) | (refine bl_call ?_ (by assumption) (by first | (simp; done) | (simp; omega) | omega)) | (with_reducible refine bl_drewN ?_) | (with_reducible refine Below.drew ?_) | (with_reducible refine bl_grow ?_ (by first | (simp; done) | (simp; omega) | omega))))).mono ?_; rintro e w3 ⟨u3_, rfl, ho3, hb3⟩; have hq3 : Below w.heap.size w w3 := (by repeat (first | (with_reducible exact Below.refl _ _) | (with_reducible assumption) | (with_reducible refine Below.setCell ?_ (by first | (simp; done) | (simp; omega) | omega) _) | (with_reducible refine Below.alloc ?_ (by first | (simp; done) | (simp; omega) | omega) _) | (refine bl_call ?_ (by assumption) (by first | (simp; done) | (simp; omega) | omega)) | (with_reducible refine bl_drewN ?_) | (with_reducible refine Below.drew ?_) | (with_reducible refine bl_grow ?_ (by first | (simp; done) | (simp; omega) | omega)))); have hz3 := hq3.size; obtain ⟨s3, cl, e3, hr3⟩ := own_pairs ho3; obtain ⟨gl, ex3, _, _, hgl⟩ := hr3.resolve_left (by omega); subst ex3; subst e3; have hcl := own_room ho3; have HL3 : Hid (RowP w3 gl 0 n (fun i : Nat => (i : Int) + 1) PY) := hgl; clear hr3 hgl ho3 hb3)
  go_ret
  exact ⟨rfl, by repeat (first | (with_reducible exact Below.refl _ _) | (with_reducible assumption) | (with_reducible refine Below.setCell ?_ (by first | (simp; done) | (simp; omega) | omega) _) | (with_reducible refine Below.alloc ?_ (by first | (simp; done) | (simp; omega) | omega) _) | (refine bl_call ?_ (by assumption) (by first | (simp; done) | (simp; omega) | omega)) | (with_reducible refine bl_drewN ?_) | (with_reducible refine Below.drew ?_) | (with_reducible refine bl_grow ?_ (by first | (simp; done) | (simp; omega) | omega)))⟩
theorem sinfoQ : (Try.prog.info? 39).map (fun i => (i.zero, i.size, i.bytes)) = some (some (.agg #[.int .i64 0, .int .i64 0, .bool false]), 3, 24) := by kernel_rfl
set_option maxRecDepth 100000 in
set_option maxHeartbeats 32000000 in
theorem qsealsL (bc oc m dc : Nat) (sp : Option Addr) (q dp n : Nat) (ax ay zx zy yx yy : Int) (af zf yf : Bool) (t : ByteArray) (C K PY QX QY KX KY : Nat → Int) (QF KF : Nat → Bool) (w : World) (hn1 : 1 ≤ n) (hn : n ≤ 12) (hm1 : 1 ≤ m) (hm : m ≤ 12) (hq9 : q ≤ 9223372036854775807) (ht : t.size ≤ 60)
    (hrc : RowI w bc oc m C) (hrp : q = 0 ∨ ∃ b o : Nat, sp = some ⟨b, o, none⟩ ∧ RowI w b o q K) (h1 : ∀ w, Calls Try.prog 12 #[.agg #[.int .i64 1, .int .i64 1], .string ⟨#[97]⟩] w fun ex w' => ex = .returned (.tuple #[.agg #[.int .i64 ax, .int .i64 ay, .bool af], .nilIface]) ∧ Below w.heap.size w w') (h2 : ∀ w, Calls Try.prog 13 #[.string ⟨#[97]⟩] w fun ex w' => ex = .returned (.agg #[.int .i64 ax, .int .i64 ay, .bool af]) ∧ Below w.heap.size w w') (hl : ∀ W, Below w.heap.size w W → Calls Try.prog 7 #[.slice (some ⟨bc, oc, none⟩) m dc, .int .i64 (n : Int)] W fun ex w' => ∃ u, ex = .returned (.tuple #[u, .nilIface]) ∧ w'.ownsRow W.heap.size 31 2 u n (cellsP (fun i : Nat => (i : Int) + 1) PY n) ∧ Below W.heap.size W w') (hu : ∀ W g d, RowP W g 0 n (fun i : Nat => (i : Int) + 1) PY → n ≤ d → Calls Try.prog 14 #[.slice (some ⟨g, 0, none⟩) n d] W fun ex w' => ∃ u, ex = .returned (.tuple #[u, .nilIface]) ∧ w'.ownsRow W.heap.size 39 3 u n (cellsT KX KY KF n) ∧ Below W.heap.size W w') (hpt : ∀ j, j < n → ∀ w, Calls Try.prog 12 #[.agg #[.int .i64 ((j : Int) + 1), .int .i64 (PY j)], .string t] w fun ex w' => ex = .returned (.tuple #[.agg #[.int .i64 (QX j), .int .i64 (QY j), .bool (QF j)], .nilIface]) ∧ Below w.heap.size w w')
    (hj1 : ∀ (W : World) (B r : Nat) (J : Nat → Nat) (xv pv kv : Value), Picks J r n → m ≤ r → R3 3 39 B W xv r (cellsI (pkX J) r) pv r (pkT QX QY QF J r) kv r (pkT KX KY KF J r) → Calls Try.prog 15 #[xv, pv] W fun ex w' => ex = .returned (.tuple #[.agg #[.int .i64 zx, .int .i64 zy, .bool zf], .nilIface]) ∧ Below W.heap.size W w') (hj2 : ∀ (W : World) (B r : Nat) (J : Nat → Nat) (xv pv kv : Value), Picks J r n → m ≤ r → R3 3 39 B W xv r (cellsI (pkX J) r) pv r (pkT QX QY QF J r) kv r (pkT KX KY KF J r) → Calls Try.prog 15 #[xv, kv] W fun ex w' => ex = .returned (.tuple #[.agg #[.int .i64 yx, .int .i64 yy, .bool yf], .nilIface]) ∧ Below W.heap.size W w') (hsg : (C 0 == 0) = false → ∀ w, Calls Try.prog 16 #[.int .i64 (C 0), .string t] w fun ex w' => ex = .returned (.tuple #[.agg #[.int .i64 zx, .int .i64 zy, .bool zf], .nilIface]) ∧ Below w.heap.size w w') (hke : (C 0 == 0) = false → ∀ w, Calls Try.prog 17 #[.int .i64 (C 0)] w fun ex w' => ex = .returned (.tuple #[.agg #[.int .i64 yx, .int .i64 yy, .bool yf], .nilIface]) ∧ Below w.heap.size w w') : Calls Try.prog 5 #[.slice (some ⟨bc, oc, none⟩) m dc, .int .i64 (n : Int), .slice sp q dp, .string t] w fun e w' => e = .returned (.bool true) ∧ Below w.heap.size w w' := by
  have HA1 : Hid (∀ w, Calls Try.prog 12 #[.agg #[.int .i64 1, .int .i64 1], .string ⟨#[97]⟩] w fun ex w' => ex = .returned (.tuple #[.agg #[.int .i64 ax, .int .i64 ay, .bool af], .nilIface]) ∧ Below w.heap.size w w') := h1
  have HA2 : Hid (∀ w, Calls Try.prog 13 #[.string ⟨#[97]⟩] w fun ex w' => ex = .returned (.agg #[.int .i64 ax, .int .i64 ay, .bool af]) ∧ Below w.heap.size w w') := h2
  have HL : Hid (∀ W, Below w.heap.size w W → Calls Try.prog 7 #[.slice (some ⟨bc, oc, none⟩) m dc, .int .i64 (n : Int)] W fun ex w' => ∃ u, ex = .returned (.tuple #[u, .nilIface]) ∧ w'.ownsRow W.heap.size 31 2 u n (cellsP (fun i : Nat => (i : Int) + 1) PY n) ∧ Below W.heap.size W w') := hl
  have HU : Hid (∀ W g d, RowP W g 0 n (fun i : Nat => (i : Int) + 1) PY → n ≤ d → Calls Try.prog 14 #[.slice (some ⟨g, 0, none⟩) n d] W fun ex w' => ∃ u, ex = .returned (.tuple #[u, .nilIface]) ∧ w'.ownsRow W.heap.size 39 3 u n (cellsT KX KY KF n) ∧ Below W.heap.size W w') := hu
  have HPT : Hid (∀ j, j < n → ∀ w, Calls Try.prog 12 #[.agg #[.int .i64 ((j : Int) + 1), .int .i64 (PY j)], .string t] w fun ex w' => ex = .returned (.tuple #[.agg #[.int .i64 (QX j), .int .i64 (QY j), .bool (QF j)], .nilIface]) ∧ Below w.heap.size w w') := hpt
  have HJ1 : Hid (∀ (W : World) (B r : Nat) (J : Nat → Nat) (xv pv kv : Value), Picks J r n → m ≤ r → R3 3 39 B W xv r (cellsI (pkX J) r) pv r (pkT QX QY QF J r) kv r (pkT KX KY KF J r) → Calls Try.prog 15 #[xv, pv] W fun ex w' => ex = .returned (.tuple #[.agg #[.int .i64 zx, .int .i64 zy, .bool zf], .nilIface]) ∧ Below W.heap.size W w') := hj1
  have HJ2 : Hid (∀ (W : World) (B r : Nat) (J : Nat → Nat) (xv pv kv : Value), Picks J r n → m ≤ r → R3 3 39 B W xv r (cellsI (pkX J) r) pv r (pkT QX QY QF J r) kv r (pkT KX KY KF J r) → Calls Try.prog 15 #[xv, kv] W fun ex w' => ex = .returned (.tuple #[.agg #[.int .i64 yx, .int .i64 yy, .bool yf], .nilIface]) ∧ Below W.heap.size W w') := hj2
  have HRC : Hid (RowI w bc oc m C) := hrc
  have HRP : Hid (q = 0 ∨ ∃ b o : Nat, sp = some ⟨b, o, none⟩ ∧ RowI w b o q K) := hrp
  have HSG : Hid ((C 0 == 0) = false → ∀ w, Calls Try.prog 16 #[.int .i64 (C 0), .string t] w fun ex w' => ex = .returned (.tuple #[.agg #[.int .i64 zx, .int .i64 zy, .bool zf], .nilIface]) ∧ Below w.heap.size w w') := hsg
  have HKE : Hid ((C 0 == 0) = false → ∀ w, Calls Try.prog 17 #[.int .i64 (C 0)] w fun ex w' => ex = .returned (.tuple #[.agg #[.int .i64 yx, .int .i64 yy, .bool yf], .nilIface]) ∧ Below w.heap.size w w') := hke
  obtain ⟨i0, hi, hv0, hv1, hv2⟩ := info_parts iinfo
  obtain ⟨s0, hs, hu0, hu1, hu2⟩ := info_parts sinfoQ
  clear h1 h2 hl hu hpt hj1 hj2 hrc hrp hsg hke
  have ht' : ¬ (t.size : Int) > 60 := by omega
  have n3 : ((n : Int) != (n : Int)) = false := by simp
  have n4 : ¬ (m : Int) < 1 := by omega
  clear ht
  have m1 : True := trivial; have m2 : True := trivial; have m3 : True := trivial; have m4 : True := trivial; have m5 : True := trivial; have m6 : True := trivial; have m7 : True := trivial; have m8 : True := trivial
  go_enter Try.func5, Try.ntmps5
  go_wp2_with (go_at_call 12; clear m1; refine (HA1.out _).mono ?_; rintro e w1 ⟨rfl, hb1⟩; have hq1 : Below w.heap.size w w1 := (by repeat (first | (with_reducible exact Below.refl _ _) | (with_reducible assumption) | (with_reducible refine Below.setCell ?_ (by first | (simp; done) | (simp; omega) | omega) _) | (with_reducible refine Below.alloc ?_ (by first | (simp; done) | (simp; omega) | omega) _) | (refine bl_call ?_ (by assumption) (by first | (simp; done) | (simp; omega) | omega)) | (with_reducible refine bl_drewN ?_) | (with_reducible refine Below.drew ?_) | (with_reducible refine bl_grow ?_ (by first | (simp; done) | (simp; omega) | omega)))); have hz1 := hq1.size; clear hb1)
  refine wp_gen (fun V => At V (w1.heap.size) [.int .i64 ax, .int .i64 ay, .bool af] ∧ Below w.heap.size w V) ⟨by repeat (first | assumption | ((with_reducible refine at_new' _ _ _ _ ?_); (first | rfl | (simp; done))) | (with_reducible refine At.alloc ?_ _) | (with_reducible refine At.drewN ?_) | (with_reducible refine At.grow ?_) | (with_reducible refine At.store4 (by assumption)) | (with_reducible refine At.store3 (by assumption)) | (with_reducible refine At.store2 (by assumption)) | (with_reducible refine At.set ?_ (by omega)) | (with_reducible apply At.store4) | (with_reducible apply At.store3) | (with_reducible apply At.put43) | (refine At.below ?_ (by assumption))), by repeat (first | (with_reducible exact Below.refl _ _) | (with_reducible assumption) | (with_reducible refine Below.setCell ?_ (by first | (simp; done) | (simp; omega) | omega) _) | (with_reducible refine Below.alloc ?_ (by first | (simp; done) | (simp; omega) | omega) _) | (refine bl_call ?_ (by assumption) (by first | (simp; done) | (simp; omega) | omega)) | (with_reducible refine bl_drewN ?_) | (with_reducible refine Below.drew ?_) | (with_reducible refine bl_grow ?_ (by first | (simp; done) | (simp; omega) | omega)))⟩ ?_
  rintro V ⟨kaV, hqV⟩
  have hzV := hqV.size
  obtain ⟨zaV, ca0V, ca1V, ca2V, fa0V, fa1V, fa2V⟩ := kaV.three
  refine wp_region_quiet_below (by kernel_rfl) (by kernel_rfl) ?_
  repeat (go_big_quiet_step (first | (go_at_call 13; with_reducible exact Calls.regrown_of (HA2.out _))))
  refine wpQuiet_nil ?_
  intro V2 hw1
  have hrV2 := regrown_below hw1
  clear hw1
  have kaV2 := kaV.below hrV2
  have hqV2 := bl_call hqV hrV2 (by omega)
  have hzV2 := hqV2.size
  clear hrV2 kaV ca0V fa0V ca1V fa1V ca2V fa2V hqV
  obtain ⟨zaV2, ca0V2, ca1V2, ca2V2, fa0V2, fa1V2, fa2V2⟩ := kaV2.three
  go_upto_if 75 with (first | (go_at_call 7; clear m2; refine (HL.out _ (by repeat (first | (with_reducible exact Below.refl _ _) | (with_reducible assumption) | (with_reducible refine Below.setCell ?_ (by first | (simp; done) | (simp; omega) | omega) _) | (with_reducible refine Below.alloc ?_ (by first | (simp; done) | (simp; omega) | omega) _) | (refine bl_call ?_ (by assumption) (by first | (simp; done) | (simp; omega) | omega)) | (with_reducible refine bl_drewN ?_) | (with_reducible refine Below.drew ?_) | (with_reducible refine bl_grow ?_ (by first | (simp; done) | (simp; omega) | omega))))).mono ?_; rintro e w3 ⟨u3_, rfl, ho3, hb3⟩; have hq3 : Below w.heap.size w w3 := (by repeat (first | (with_reducible exact Below.refl _ _) | (with_reducible assumption) | (with_reducible refine Below.setCell ?_ (by first | (simp; done) | (simp; omega) | omega) _) | (with_reducible refine Below.alloc ?_ (by first | (simp; done) | (simp; omega) | omega) _) | (refine bl_call ?_ (by assumption) (by first | (simp; done) | (simp; omega) | omega)) | (with_reducible refine bl_drewN ?_) | (with_reducible refine Below.drew ?_) | (with_reducible refine bl_grow ?_ (by first | (simp; done) | (simp; omega) | omega)))); have hz3 := hq3.size; obtain ⟨s3, cl, e3, hr3⟩ := own_pairs ho3; obtain ⟨gl, ex3, _, _, hgl⟩ := hr3.resolve_left (by omega); subst ex3; subst e3; have hcl := own_room ho3; have HL3 : Hid (RowP w3 gl 0 n (fun i : Nat => (i : Int) + 1) PY) := hgl; clear hr3 hgl ho3 hb3) | (go_at_call 14; clear m3; refine (HU.out _ gl cl HL3.out hcl).mono ?_; rintro e w4 ⟨u4_, rfl, ho4, hb4⟩; have hq4 : Below w.heap.size w w4 := (by repeat (first | (with_reducible exact Below.refl _ _) | (with_reducible assumption) | (with_reducible refine Below.setCell ?_ (by first | (simp; done) | (simp; omega) | omega) _) | (with_reducible refine Below.alloc ?_ (by first | (simp; done) | (simp; omega) | omega) _) | (refine bl_call ?_ (by assumption) (by first | (simp; done) | (simp; omega) | omega)) | (with_reducible refine bl_drewN ?_) | (with_reducible refine Below.drew ?_) | (with_reducible refine bl_grow ?_ (by first | (simp; done) | (simp; omega) | omega)))); have hz4 := hq4.size; obtain ⟨s4, ck, e4, hr4⟩ := own_spots ho4; obtain ⟨gk, ex4, _, _, hgk⟩ := hr4.resolve_left (by omega); subst ex4; subst e4; have HK4 : Hid (RowO w4 gk 0 n KX KY KF) := hgk; have HL4 : Hid (RowP w4 gl 0 n (fun i : Nat => (i : Int) + 1) PY) := HL3.out.below HL3.out.1 hb4; clear hr4 hgk ho4 hb4))
  
  go_cut [] from 29 to 75 (fun wx => wx = w4)
  case first => as_aux_lemma =>
    go_wp2_with fail
    go_meet
    case rel => rfl
  case rest =>
  have hcut' := hcut.symm
  subst hcut'
  go_upto_block 0 with fail
  
  refine wp_gen (fun V => FlagsG 13 V w4.heap.size (fun _ => false) ∧ Below w4.heap.size w4 V) ⟨(by
    refine ⟨by simp, fun j hj => ⟨?_, ?_⟩⟩
    · match j, hj with
      | 0, _ | 1, _ | 2, _ | 3, _ | 4, _ | 5, _ | 6, _ | 7, _ | 8, _ | 9, _ | 10, _ | 11, _ | 12, _ => simp
    · match j, hj with
      | 0, _ | 1, _ | 2, _ | 3, _ | 4, _ | 5, _ | 6, _ | 7, _ | 8, _ | 9, _ | 10, _ | 11, _ | 12, _ => simp), by repeat (first | (with_reducible exact Below.refl _ _) | (with_reducible assumption) | (with_reducible refine Below.setCell ?_ (by first | (simp; done) | (simp; omega) | omega) _) | (with_reducible refine Below.alloc ?_ (by first | (simp; done) | (simp; omega) | omega) _) | (refine bl_call ?_ (by assumption) (by first | (simp; done) | (simp; omega) | omega)) | (with_reducible refine bl_drewN ?_) | (with_reducible refine Below.drew ?_) | (with_reducible refine bl_grow ?_ (by first | (simp; done) | (simp; omega) | omega)))⟩ ?_
  rintro V ⟨hFV, hqV⟩
  go_cut [14, 15, 16] from 29 to 154 (fun t14 t15 t16 wx => (∃ (r : Nat) (J : Nat → Nat), Picks J r n ∧ R3 3 39 (w4.heap.size + 1) wx t14 r (cellsI (pkX J) r) t15 r (pkT QX QY QF J r) t16 r (pkT KX KY KF J r)) ∧ Below w4.heap.size w4 wx)
  case first => as_aux_lemma =>
    go_wp2_with fail
    go_loopw [14, 15, 16, 18] (fun tx tp tk ti wl => ∃ k : Nat, k ≤ q ∧ ti = .int .i64 k ∧ ∃ (r : Nat) (J : Nat → Nat), Picks J r n ∧ R3 3 39 (w4.heap.size + 1) wl tx r (cellsI (pkX J) r) tp r (pkT QX QY QF J r) tk r (pkT KX KY KF J r) ∧ FlagsG 13 wl w4.heap.size (pickD J r) ∧ Below w4.heap.size w4 wl) (fun _ _ _ ti _ => q - (intOf ti).toNat)
    case atStart => exact ⟨0, by omega, rfl, 0, fun _ => 0, picks_none n, ⟨World.ownsRow_nil _ _ _ _, World.ownsRow_nil _ _ _ _, World.ownsRow_nil _ _ _ _, Ap.nil _, Ap.nil _, Ap.nil _⟩, hFV, hqV⟩
    case round =>
      obtain ⟨k, hk, rfl, r, J, hP, h3, hFl, hqU⟩ := hrel
      have hzU := hqU.size
      have hr12 := hP.le
      by_cases hlt : k < q
      · have hlt' : (k : Int) < (q : Int) := by omega
        obtain ⟨bp, op, rfl, hrp⟩ := HRP.out.resolve_left (by omega)
        have hqw : Below w.heap.size w wr := bl_call hq4 hqU (by omega)
        have hbp := Nat.lt_of_lt_of_le hrp.1 hqw.size
        have cKw := hrp.2 k hlt
        have cK := (hqw.cell (p := ⟨bp, op + k, none⟩) hrp.1).trans cKw
        have hbw := hrp.1
        clear hrp
        by_cases g1 : K k ≥ 0
        · by_cases g2 : K k < (n : Int)
          · obtain ⟨j, hj⟩ : ∃ j : Nat, K k = (j : Int) := ⟨(K k).toNat, by omega⟩
            rw [hj] at cK cKw g1 g2
            have hjn : j < n := by omega
            have j13 : (j : Int) < 13 := by omega
            obtain ⟨cF, fF⟩ := hFl.2 j (by omega)
            clear hj
            cases hb : pickD J r j with
            | true =>
              rw [hb] at cF
              go_wp2_with fail
              go_roundw
              case rel => exact ⟨k + 1, by omega, by simp, r, J, hP, h3, hFl, by repeat (first | (with_reducible exact Below.refl _ _) | (with_reducible assumption) | (with_reducible refine Below.setCell ?_ (by first | (simp; done) | (simp; omega) | omega) _) | (with_reducible refine Below.alloc ?_ (by first | (simp; done) | (simp; omega) | omega) _) | (refine bl_call ?_ (by assumption) (by first | (simp; done) | (simp; omega) | omega)) | (with_reducible refine bl_drewN ?_) | (with_reducible refine Below.drew ?_) | (with_reducible refine bl_grow ?_ (by first | (simp; done) | (simp; omega) | omega)))⟩
              case measure => simp [intOf]; omega
            | false =>
              rw [hb] at cF
              have HPM : Hid (Picks (extN J r j) (r + 1) n) := picks_more hP hjn hb
              have h3S := h3.set (c := w4.heap.size) (o := j) (by omega) (.bool true)
              have hFS := hFl.put (j := j) (by omega)
              rw [← pickD_more] at hFS
              have hqS : Below w4.heap.size w4 (wr.setCell ⟨w4.heap.size, j, none⟩ (.bool true)) := (by repeat (first | (with_reducible exact Below.refl _ _) | (with_reducible assumption) | (with_reducible refine Below.setCell ?_ (by first | (simp; done) | (simp; omega) | omega) _) | (with_reducible refine Below.alloc ?_ (by first | (simp; done) | (simp; omega) | omega) _) | (refine bl_call ?_ (by assumption) (by first | (simp; done) | (simp; omega) | omega)) | (with_reducible refine bl_drewN ?_) | (with_reducible refine Below.drew ?_) | (with_reducible refine bl_grow ?_ (by first | (simp; done) | (simp; omega) | omega))))
              have cXw := (HL4.out.2 j hjn).1
              have cYw := (HL4.out.2 j hjn).2
              rw [Nat.zero_add] at cXw cYw
              have cX := (hqU.cell (p := ⟨gl, j * 2, none⟩) HL4.out.1).trans cXw
              have cY := (hqU.cell (p := ⟨gl, j * 2 + 1, none⟩) HL4.out.1).trans cYw
              have hgl : gl < wr.heap.size := Nat.lt_of_lt_of_le HL4.out.1 hzU
              have hne1 : gl ≠ w4.heap.size := Nat.ne_of_lt HL4.out.1
              have hne2 : bp ≠ w4.heap.size := by omega
              
              go_wp2_with (first | (go_at_call 12; refine (HPT.out j hjn _).mono ?_; rintro e w5 ⟨rfl, hb5⟩; have hq5 : Below w4.heap.size w4 w5 := bl_call hqS hb5 hqS.size; have hz5 := hq5.size; have h35 := h3S.below hb5; have hF5 := hFS.below hb5; have hqw5 : Below w.heap.size w w5 := bl_call hq4 hq5 hz4; have cK5 := (hqw5.cell (p := ⟨bp, op + k, none⟩) hbw).trans cKw; have hbp5 := Nat.lt_of_lt_of_le hbw hqw5.size; have cX5 := (hq5.cell (p := ⟨gl, j * 2, none⟩) HL4.out.1).trans cXw; have hgl5 := Nat.lt_of_lt_of_le HL4.out.1 hz5; clear hb5) | (at_builtin; refine wpList_append_own_at _ rfl _ _ 22 rfl (w4.heap.size + 1) 3 i0 (.int .i64 0) 1 8 Try.underlying22 hi hv0 hv1 hv2 rfl (by decide) _ _ _ rfl (own_stay h35.1 (by repeat (first | (with_reducible exact Below.refl _ _) | (with_reducible assumption) | (with_reducible refine Below.setCell ?_ (by first | (simp; done) | (simp; omega) | omega) _) | (with_reducible refine Below.alloc ?_ (by first | (simp; done) | (simp; omega) | omega) _) | (refine bl_call ?_ (by assumption) (by first | (simp; done) | (simp; omega) | omega)) | (with_reducible refine bl_drewN ?_) | (with_reducible refine Below.drew ?_) | (with_reducible refine bl_grow ?_ (by first | (simp; done) | (simp; omega) | omega))))) ⟨_, 0, none⟩ 1 1 [.int .i64 ((j : Int) + 1)] rfl rfl (one_newB' (by simp) _ _) one_one (by unfold maxLen; omega) (by omega) (by simp; omega) ?_))
              
              intro vx w6 hox hgx _ hatx
              have hq6 : Below w4.heap.size w4 w6 := grown_under (B := (w4.heap.size + 1)) (by repeat (first | (with_reducible exact Below.refl _ _) | (with_reducible assumption) | (with_reducible refine Below.setCell ?_ (by first | (simp; done) | (simp; omega) | omega) _) | (with_reducible refine Below.alloc ?_ (by first | (simp; done) | (simp; omega) | omega) _) | (refine bl_call ?_ (by assumption) (by first | (simp; done) | (simp; omega) | omega)) | (with_reducible refine bl_drewN ?_) | (with_reducible refine Below.drew ?_) | (with_reducible refine bl_grow ?_ (by first | (simp; done) | (simp; omega) | omega)))) (own_stay h35.1 (by repeat (first | (with_reducible exact Below.refl _ _) | (with_reducible assumption) | (with_reducible refine Below.setCell ?_ (by first | (simp; done) | (simp; omega) | omega) _) | (with_reducible refine Below.alloc ?_ (by first | (simp; done) | (simp; omega) | omega) _) | (refine bl_call ?_ (by assumption) (by first | (simp; done) | (simp; omega) | omega)) | (with_reducible refine bl_drewN ?_) | (with_reducible refine Below.drew ?_) | (with_reducible refine bl_grow ?_ (by first | (simp; done) | (simp; omega) | omega))))) hgx (by simp; omega) (by omega)
              have hz6 := hq6.size
              have kp6 : At w6 w5.heap.size [.int .i64 (QX j), .int .i64 (QY j), .bool (QF j)] := At.grown (by repeat (first | (with_reducible assumption) | ((with_reducible refine at_new' _ _ _ _ ?_); (first | rfl | (simp; done))) | (with_reducible refine At.alloc ?_ _) | (with_reducible refine At.drew ?_) | (with_reducible refine At.drewN ?_) | (with_reducible refine At.set ?_ (by omega)) | (with_reducible apply At.store4) | (with_reducible apply At.store3) | (with_reducible apply At.store2) | (with_reducible apply At.put43) | (refine At.below ?_ (by with_reducible assumption)))) hgx (fun e => by have := (h35.1.lt _ e).2; omega)
              have h36 := (h35.below (by repeat (first | (with_reducible exact Below.refl _ _) | (with_reducible assumption) | (with_reducible refine Below.setCell ?_ (by first | (simp; done) | (simp; omega) | omega) _) | (with_reducible refine Below.alloc ?_ (by first | (simp; done) | (simp; omega) | omega) _) | (refine bl_call ?_ (by assumption) (by first | (simp; done) | (simp; omega) | omega)) | (with_reducible refine bl_drewN ?_) | (with_reducible refine Below.drew ?_) | (with_reducible refine bl_grow ?_ (by first | (simp; done) | (simp; omega) | omega))))).growX (own_cellsB (irow_ext J r j) hox) hgx (by simpa using hatx)
              have hF6 := (hF5.below (by repeat (first | (with_reducible exact Below.refl _ _) | (with_reducible assumption) | (with_reducible refine Below.setCell ?_ (by first | (simp; done) | (simp; omega) | omega) _) | (with_reducible refine Below.alloc ?_ (by first | (simp; done) | (simp; omega) | omega) _) | (refine bl_call ?_ (by assumption) (by first | (simp; done) | (simp; omega) | omega)) | (with_reducible refine bl_drewN ?_) | (with_reducible refine Below.drew ?_) | (with_reducible refine bl_grow ?_ (by first | (simp; done) | (simp; omega) | omega))))).grown hgx (apart_above h35.1 (by omega))
              obtain ⟨zp6, cp0, cp1, cp2, fp0, fp1, fp2⟩ := kp6.three
              clear hgx hatx hox h35 hF5 hq5
              
              go_wp2_with (at_builtin; refine wpList_append_own_at _ rfl _ _ 43 rfl (w4.heap.size + 1) 39 s0 (.agg #[.int .i64 0, .int .i64 0, .bool false]) 3 24 Try.underlying43 hs hu0 hu1 hu2 rfl (by decide) _ _ _ rfl (own_stay h36.2.1 (by repeat (first | (with_reducible exact Below.refl _ _) | (with_reducible assumption) | (with_reducible refine Below.setCell ?_ (by first | (simp; done) | (simp; omega) | omega) _) | (with_reducible refine Below.alloc ?_ (by first | (simp; done) | (simp; omega) | omega) _) | (refine bl_call ?_ (by assumption) (by first | (simp; done) | (simp; omega) | omega)) | (with_reducible refine bl_drewN ?_) | (with_reducible refine Below.drew ?_) | (with_reducible refine bl_grow ?_ (by first | (simp; done) | (simp; omega) | omega))))) ⟨_, 0, none⟩ 1 1 [.int .i64 (QX j), .int .i64 (QY j), .bool (QF j)] rfl rfl (three_newB (by simp) _ _ _ _) one_three (by unfold maxLen; omega) (by omega) (by simp; omega) ?_)
              intro vp w7 hop hgp _ hatp
              have hq7 : Below w4.heap.size w4 w7 := grown_under (B := (w4.heap.size + 1)) (by repeat (first | (with_reducible exact Below.refl _ _) | (with_reducible assumption) | (with_reducible refine Below.setCell ?_ (by first | (simp; done) | (simp; omega) | omega) _) | (with_reducible refine Below.alloc ?_ (by first | (simp; done) | (simp; omega) | omega) _) | (refine bl_call ?_ (by assumption) (by first | (simp; done) | (simp; omega) | omega)) | (with_reducible refine bl_drewN ?_) | (with_reducible refine Below.drew ?_) | (with_reducible refine bl_grow ?_ (by first | (simp; done) | (simp; omega) | omega)))) (own_stay h36.2.1 (by repeat (first | (with_reducible exact Below.refl _ _) | (with_reducible assumption) | (with_reducible refine Below.setCell ?_ (by first | (simp; done) | (simp; omega) | omega) _) | (with_reducible refine Below.alloc ?_ (by first | (simp; done) | (simp; omega) | omega) _) | (refine bl_call ?_ (by assumption) (by first | (simp; done) | (simp; omega) | omega)) | (with_reducible refine bl_drewN ?_) | (with_reducible refine Below.drew ?_) | (with_reducible refine bl_grow ?_ (by first | (simp; done) | (simp; omega) | omega))))) hgp (by simp; omega) (by omega)
              have hz7 := hq7.size
              have h37 := (h36.below (by repeat (first | (with_reducible exact Below.refl _ _) | (with_reducible assumption) | (with_reducible refine Below.setCell ?_ (by first | (simp; done) | (simp; omega) | omega) _) | (with_reducible refine Below.alloc ?_ (by first | (simp; done) | (simp; omega) | omega) _) | (refine bl_call ?_ (by assumption) (by first | (simp; done) | (simp; omega) | omega)) | (with_reducible refine bl_drewN ?_) | (with_reducible refine Below.drew ?_) | (with_reducible refine bl_grow ?_ (by first | (simp; done) | (simp; omega) | omega))))).growP (own_cellsB (trow_ext QX QY QF J r j) hop) hgp (by simpa using hatp)
              have hF7 := (hF6.below (by repeat (first | (with_reducible exact Below.refl _ _) | (with_reducible assumption) | (with_reducible refine Below.setCell ?_ (by first | (simp; done) | (simp; omega) | omega) _) | (with_reducible refine Below.alloc ?_ (by first | (simp; done) | (simp; omega) | omega) _) | (refine bl_call ?_ (by assumption) (by first | (simp; done) | (simp; omega) | omega)) | (with_reducible refine bl_drewN ?_) | (with_reducible refine Below.drew ?_) | (with_reducible refine bl_grow ?_ (by first | (simp; done) | (simp; omega) | omega))))).grown hgp (apart_above h36.2.1 (by omega))
              have hqw7 : Below w.heap.size w w7 := bl_call hq4 hq7 hz4
              have cK7 := (hqw7.cell (p := ⟨bp, op + k, none⟩) hbw).trans cKw
              have hbp7 := Nat.lt_of_lt_of_le hbw hqw7.size
              obtain ⟨cT0, cT1, cT2⟩ := HK4.out.2 j hjn
              rw [Nat.zero_add] at cT0 cT1 cT2
              have cK0 := (hq7.cell (p := ⟨gk, j * 3, none⟩) HK4.out.1).trans cT0
              have cK1 := (hq7.cell (p := ⟨gk, j * 3 + 1, none⟩) HK4.out.1).trans cT1
              have cK2 := (hq7.cell (p := ⟨gk, j * 3 + 2, none⟩) HK4.out.1).trans cT2
              have hgk7 := Nat.lt_of_lt_of_le HK4.out.1 hz7
              clear hgp hatp hop h36 hF6 hq6
              
              go_wp2_with (at_builtin; refine wpList_append_own_at _ rfl _ _ 43 rfl (w4.heap.size + 1) 39 s0 (.agg #[.int .i64 0, .int .i64 0, .bool false]) 3 24 Try.underlying43 hs hu0 hu1 hu2 rfl (by decide) _ _ _ rfl (own_stay h37.2.2.1 (by repeat (first | (with_reducible exact Below.refl _ _) | (with_reducible assumption) | (with_reducible refine Below.setCell ?_ (by first | (simp; done) | (simp; omega) | omega) _) | (with_reducible refine Below.alloc ?_ (by first | (simp; done) | (simp; omega) | omega) _) | (refine bl_call ?_ (by assumption) (by first | (simp; done) | (simp; omega) | omega)) | (with_reducible refine bl_drewN ?_) | (with_reducible refine Below.drew ?_) | (with_reducible refine bl_grow ?_ (by first | (simp; done) | (simp; omega) | omega))))) ⟨_, 0, none⟩ 1 1 [.int .i64 (KX j), .int .i64 (KY j), .bool (KF j)] rfl rfl (three_newB (by simp) _ _ _ _) one_three (by unfold maxLen; omega) (by omega) (by simp; omega) ?_)
              intro vk w8 hok hgk_ _ hatk
              have hq8 : Below w4.heap.size w4 w8 := grown_under (B := (w4.heap.size + 1)) (by repeat (first | (with_reducible exact Below.refl _ _) | (with_reducible assumption) | (with_reducible refine Below.setCell ?_ (by first | (simp; done) | (simp; omega) | omega) _) | (with_reducible refine Below.alloc ?_ (by first | (simp; done) | (simp; omega) | omega) _) | (refine bl_call ?_ (by assumption) (by first | (simp; done) | (simp; omega) | omega)) | (with_reducible refine bl_drewN ?_) | (with_reducible refine Below.drew ?_) | (with_reducible refine bl_grow ?_ (by first | (simp; done) | (simp; omega) | omega)))) (own_stay h37.2.2.1 (by repeat (first | (with_reducible exact Below.refl _ _) | (with_reducible assumption) | (with_reducible refine Below.setCell ?_ (by first | (simp; done) | (simp; omega) | omega) _) | (with_reducible refine Below.alloc ?_ (by first | (simp; done) | (simp; omega) | omega) _) | (refine bl_call ?_ (by assumption) (by first | (simp; done) | (simp; omega) | omega)) | (with_reducible refine bl_drewN ?_) | (with_reducible refine Below.drew ?_) | (with_reducible refine bl_grow ?_ (by first | (simp; done) | (simp; omega) | omega))))) hgk_ (by simp; omega) (by omega)
              have hz8 := hq8.size
              have h38 := (h37.below (by repeat (first | (with_reducible exact Below.refl _ _) | (with_reducible assumption) | (with_reducible refine Below.setCell ?_ (by first | (simp; done) | (simp; omega) | omega) _) | (with_reducible refine Below.alloc ?_ (by first | (simp; done) | (simp; omega) | omega) _) | (refine bl_call ?_ (by assumption) (by first | (simp; done) | (simp; omega) | omega)) | (with_reducible refine bl_drewN ?_) | (with_reducible refine Below.drew ?_) | (with_reducible refine bl_grow ?_ (by first | (simp; done) | (simp; omega) | omega))))).growK (own_cellsB (trow_ext KX KY KF J r j) hok) hgk_ (by simpa using hatk)
              have hF8 := (hF7.below (by repeat (first | (with_reducible exact Below.refl _ _) | (with_reducible assumption) | (with_reducible refine Below.setCell ?_ (by first | (simp; done) | (simp; omega) | omega) _) | (with_reducible refine Below.alloc ?_ (by first | (simp; done) | (simp; omega) | omega) _) | (refine bl_call ?_ (by assumption) (by first | (simp; done) | (simp; omega) | omega)) | (with_reducible refine bl_drewN ?_) | (with_reducible refine Below.drew ?_) | (with_reducible refine bl_grow ?_ (by first | (simp; done) | (simp; omega) | omega))))).grown hgk_ (apart_above h37.2.2.1 (by omega))
              clear hgk_ hatk hok h37 hF7 hq7
              go_wp2_with fail
              go_roundw
              case rel => exact ⟨k + 1, by omega, by simp, r + 1, extN J r j, HPM.out, h38, hF8, hq8⟩
              case measure => simp [intOf]; omega
          · go_wp2_with fail
            go_roundw
            case rel => exact ⟨k + 1, by omega, by simp, r, J, hP, h3, hFl, by repeat (first | (with_reducible exact Below.refl _ _) | (with_reducible assumption) | (with_reducible refine Below.setCell ?_ (by first | (simp; done) | (simp; omega) | omega) _) | (with_reducible refine Below.alloc ?_ (by first | (simp; done) | (simp; omega) | omega) _) | (refine bl_call ?_ (by assumption) (by first | (simp; done) | (simp; omega) | omega)) | (with_reducible refine bl_drewN ?_) | (with_reducible refine Below.drew ?_) | (with_reducible refine bl_grow ?_ (by first | (simp; done) | (simp; omega) | omega)))⟩
            case measure => simp [intOf]; omega
        · go_wp2_with fail
          go_roundw
          case rel => exact ⟨k + 1, by omega, by simp, r, J, hP, h3, hFl, by repeat (first | (with_reducible exact Below.refl _ _) | (with_reducible assumption) | (with_reducible refine Below.setCell ?_ (by first | (simp; done) | (simp; omega) | omega) _) | (with_reducible refine Below.alloc ?_ (by first | (simp; done) | (simp; omega) | omega) _) | (refine bl_call ?_ (by assumption) (by first | (simp; done) | (simp; omega) | omega)) | (with_reducible refine bl_drewN ?_) | (with_reducible refine Below.drew ?_) | (with_reducible refine bl_grow ?_ (by first | (simp; done) | (simp; omega) | omega)))⟩
          case measure => simp [intOf]; omega
      · have hlt' : ¬ (k : Int) < (q : Int) := by omega
        go_wp2_with fail
        go_meet
        case rel => exact ⟨⟨r, J, hP, h3⟩, by repeat (first | (with_reducible exact Below.refl _ _) | (with_reducible assumption) | (with_reducible refine Below.setCell ?_ (by first | (simp; done) | (simp; omega) | omega) _) | (with_reducible refine Below.alloc ?_ (by first | (simp; done) | (simp; omega) | omega) _) | (refine bl_call ?_ (by assumption) (by first | (simp; done) | (simp; omega) | omega)) | (with_reducible refine bl_drewN ?_) | (with_reducible refine Below.drew ?_) | (with_reducible refine bl_grow ?_ (by first | (simp; done) | (simp; omega) | omega)))⟩
  case rest =>
  clear hFV hqV
  obtain ⟨⟨r, J, hP, h3⟩, hqwc⟩ := hcut
  have hzwc := hqwc.size
  have hr12 := hP.le
  have hqw : Below w.heap.size w wc := bl_call hq4 hqwc hz4
  have hzw := hqw.size
  have cC : wc.cell? ⟨bc, oc, none⟩ = some (.int .i64 (C 0)) := (hqw.cell (p := ⟨bc, oc, none⟩) HRC.out.1).trans (HRC.out.2 0 (by omega))
  have hbc := Nat.lt_of_lt_of_le HRC.out.1 hzw
  obtain ⟨sX, cX_, eX, _⟩ := own_slice h3.1
  subst eX
  have H3 : Hid (R3 3 39 (w4.heap.size + 1) wc (.slice sX r cX_) r (cellsI (pkX J) r) u15 r (pkT QX QY QF J r) u16 r (pkT KX KY KF J r)) := h3
  clear h3
  by_cases hmr : m ≤ r
  · have a1 : ¬ (r : Int) < (m : Int) := by omega
    have a2 : (0 : Int) < (m : Int) := by omega
    cases hc0 : C 0 == 0 with
    | true =>
      
      go_wp2_with fail
      go_ret
      exact ⟨rfl, by repeat (first | (with_reducible exact Below.refl _ _) | (with_reducible assumption) | (with_reducible refine Below.setCell ?_ (by first | (simp; done) | (simp; omega) | omega) _) | (with_reducible refine Below.alloc ?_ (by first | (simp; done) | (simp; omega) | omega) _) | (refine bl_call ?_ (by assumption) (by first | (simp; done) | (simp; omega) | omega)) | (with_reducible refine bl_drewN ?_) | (with_reducible refine Below.drew ?_) | (with_reducible refine bl_grow ?_ (by first | (simp; done) | (simp; omega) | omega)))⟩
    | false =>
      have HS_ : Hid (∀ w, Calls Try.prog 16 #[.int .i64 (C 0), .string t] w fun ex w' => ex = .returned (.tuple #[.agg #[.int .i64 zx, .int .i64 zy, .bool zf], .nilIface]) ∧ Below w.heap.size w w') := HSG.out hc0
      have HK_ : Hid (∀ w, Calls Try.prog 17 #[.int .i64 (C 0)] w fun ex w' => ex = .returned (.tuple #[.agg #[.int .i64 yx, .int .i64 yy, .bool yf], .nilIface]) ∧ Below w.heap.size w w') := HKE.out hc0
      clear hc0
      
      go_wp2_with (first | (go_at_call 15; clear m4; refine (HJ1.out _ _ r J _ _ _ hP hmr H3.out).mono ?_; rintro e v1 ⟨rfl, hb1⟩; have hqv1 : Below w.heap.size w v1 := bl_call hqw hb1 hzw; have hzv1 := hqv1.size; have H3v1 : Hid (R3 3 39 (w4.heap.size + 1) v1 _ r (cellsI (pkX J) r) _ r (pkT QX QY QF J r) _ r (pkT KX KY KF J r)) := H3.out.below hb1; clear hb1) | (go_at_call 15; clear m5; refine (HJ2.out _ _ r J _ _ _ hP hmr (H3v1.out.below (by repeat (first | (with_reducible exact Below.refl _ _) | (with_reducible assumption) | (with_reducible refine Below.setCell ?_ (by first | (simp; done) | (simp; omega) | omega) _) | (with_reducible refine Below.alloc ?_ (by first | (simp; done) | (simp; omega) | omega) _) | (refine bl_call ?_ (by assumption) (by first | (simp; done) | (simp; omega) | omega)) | (with_reducible refine bl_drewN ?_) | (with_reducible refine Below.drew ?_) | (with_reducible refine bl_grow ?_ (by first | (simp; done) | (simp; omega) | omega)))))).mono ?_; rintro e v2 ⟨rfl, hb2⟩; have kzv2 : At v2 (v1.heap.size) [.int .i64 zx, .int .i64 zy, .bool zf] := (by repeat (first | (with_reducible assumption) | ((with_reducible refine at_new' _ _ _ _ ?_); (first | rfl | (simp; done))) | (with_reducible refine At.alloc ?_ _) | (with_reducible refine At.drew ?_) | (with_reducible refine At.drewN ?_) | (with_reducible refine At.set ?_ (by omega)) | (with_reducible apply At.store4) | (with_reducible apply At.store3) | (with_reducible apply At.store2) | (with_reducible apply At.put43) | (refine At.below ?_ (by with_reducible assumption)))); have hqv2 : Below w.heap.size w v2 := (by repeat (first | (with_reducible exact Below.refl _ _) | (with_reducible assumption) | (with_reducible refine Below.setCell ?_ (by first | (simp; done) | (simp; omega) | omega) _) | (with_reducible refine Below.alloc ?_ (by first | (simp; done) | (simp; omega) | omega) _) | (refine bl_call ?_ (by assumption) (by first | (simp; done) | (simp; omega) | omega)) | (with_reducible refine bl_drewN ?_) | (with_reducible refine Below.drew ?_) | (with_reducible refine bl_grow ?_ (by first | (simp; done) | (simp; omega) | omega)))); have hzv2 := hqv2.size; have cCv2 : v2.cell? ⟨bc, oc, none⟩ = some (.int .i64 (C 0)) := (hqv2.cell (p := ⟨bc, oc, none⟩) HRC.out.1).trans (HRC.out.2 0 (by omega)); have hbcv2 := Nat.lt_of_lt_of_le HRC.out.1 hzv2; obtain ⟨zzv2, cz0v2, cz1v2, cz2v2, fz0v2, fz1v2, fz2v2⟩ := kzv2.three; clear hb2) | (go_at_call 16; clear m6; refine (HS_.out _).mono ?_; rintro e v3 ⟨rfl, hb3⟩; have kzv3 : At v3 (v1.heap.size) [.int .i64 zx, .int .i64 zy, .bool zf] := (by repeat (first | (with_reducible assumption) | ((with_reducible refine at_new' _ _ _ _ ?_); (first | rfl | (simp; done))) | (with_reducible refine At.alloc ?_ _) | (with_reducible refine At.drew ?_) | (with_reducible refine At.drewN ?_) | (with_reducible refine At.set ?_ (by omega)) | (with_reducible apply At.store4) | (with_reducible apply At.store3) | (with_reducible apply At.store2) | (with_reducible apply At.put43) | (refine At.below ?_ (by with_reducible assumption)))); have kyv3 : At v3 (v2.heap.size) [.int .i64 yx, .int .i64 yy, .bool yf] := (by repeat (first | (with_reducible assumption) | ((with_reducible refine at_new' _ _ _ _ ?_); (first | rfl | (simp; done))) | (with_reducible refine At.alloc ?_ _) | (with_reducible refine At.drew ?_) | (with_reducible refine At.drewN ?_) | (with_reducible refine At.set ?_ (by omega)) | (with_reducible apply At.store4) | (with_reducible apply At.store3) | (with_reducible apply At.store2) | (with_reducible apply At.put43) | (refine At.below ?_ (by with_reducible assumption)))); have hqv3 : Below w.heap.size w v3 := (by repeat (first | (with_reducible exact Below.refl _ _) | (with_reducible assumption) | (with_reducible refine Below.setCell ?_ (by first | (simp; done) | (simp; omega) | omega) _) | (with_reducible refine Below.alloc ?_ (by first | (simp; done) | (simp; omega) | omega) _) | (refine bl_call ?_ (by assumption) (by first | (simp; done) | (simp; omega) | omega)) | (with_reducible refine bl_drewN ?_) | (with_reducible refine Below.drew ?_) | (with_reducible refine bl_grow ?_ (by first | (simp; done) | (simp; omega) | omega)))); have hzv3 := hqv3.size; have cCv3 : v3.cell? ⟨bc, oc, none⟩ = some (.int .i64 (C 0)) := (hqv3.cell (p := ⟨bc, oc, none⟩) HRC.out.1).trans (HRC.out.2 0 (by omega)); have hbcv3 := Nat.lt_of_lt_of_le HRC.out.1 hzv3; obtain ⟨zzv3, cz0v3, cz1v3, cz2v3, fz0v3, fz1v3, fz2v3⟩ := kzv3.three; obtain ⟨zyv3, cy0v3, cy1v3, cy2v3, fy0v3, fy1v3, fy2v3⟩ := kyv3.three; clear hb3 kzv2 cz0v2 fz0v2 cz1v2 fz1v2 cz2v2 fz2v2) | (go_at_call 17; clear m7; refine (HK_.out _).mono ?_; rintro e v4 ⟨rfl, hb4⟩; have kzv4 : At v4 (v1.heap.size) [.int .i64 zx, .int .i64 zy, .bool zf] := (by repeat (first | (with_reducible assumption) | ((with_reducible refine at_new' _ _ _ _ ?_); (first | rfl | (simp; done))) | (with_reducible refine At.alloc ?_ _) | (with_reducible refine At.drew ?_) | (with_reducible refine At.drewN ?_) | (with_reducible refine At.set ?_ (by omega)) | (with_reducible apply At.store4) | (with_reducible apply At.store3) | (with_reducible apply At.store2) | (with_reducible apply At.put43) | (refine At.below ?_ (by with_reducible assumption)))); have kyv4 : At v4 (v2.heap.size) [.int .i64 yx, .int .i64 yy, .bool yf] := (by repeat (first | (with_reducible assumption) | ((with_reducible refine at_new' _ _ _ _ ?_); (first | rfl | (simp; done))) | (with_reducible refine At.alloc ?_ _) | (with_reducible refine At.drew ?_) | (with_reducible refine At.drewN ?_) | (with_reducible refine At.set ?_ (by omega)) | (with_reducible apply At.store4) | (with_reducible apply At.store3) | (with_reducible apply At.store2) | (with_reducible apply At.put43) | (refine At.below ?_ (by with_reducible assumption)))); have ksv4 : At v4 (v3.heap.size) [.int .i64 zx, .int .i64 zy, .bool zf] := (by repeat (first | (with_reducible assumption) | ((with_reducible refine at_new' _ _ _ _ ?_); (first | rfl | (simp; done))) | (with_reducible refine At.alloc ?_ _) | (with_reducible refine At.drew ?_) | (with_reducible refine At.drewN ?_) | (with_reducible refine At.set ?_ (by omega)) | (with_reducible apply At.store4) | (with_reducible apply At.store3) | (with_reducible apply At.store2) | (with_reducible apply At.put43) | (refine At.below ?_ (by with_reducible assumption)))); have hqv4 : Below w.heap.size w v4 := (by repeat (first | (with_reducible exact Below.refl _ _) | (with_reducible assumption) | (with_reducible refine Below.setCell ?_ (by first | (simp; done) | (simp; omega) | omega) _) | (with_reducible refine Below.alloc ?_ (by first | (simp; done) | (simp; omega) | omega) _) | (refine bl_call ?_ (by assumption) (by first | (simp; done) | (simp; omega) | omega)) | (with_reducible refine bl_drewN ?_) | (with_reducible refine Below.drew ?_) | (with_reducible refine bl_grow ?_ (by first | (simp; done) | (simp; omega) | omega)))); have hzv4 := hqv4.size; obtain ⟨zzv4, cz0v4, cz1v4, cz2v4, fz0v4, fz1v4, fz2v4⟩ := kzv4.three; obtain ⟨zyv4, cy0v4, cy1v4, cy2v4, fy0v4, fy1v4, fy2v4⟩ := kyv4.three; obtain ⟨zsv4, cs0v4, cs1v4, cs2v4, fs0v4, fs1v4, fs2v4⟩ := ksv4.three; clear hb4 kzv3 cz0v3 fz0v3 cz1v3 fz1v3 cz2v3 fz2v3 kyv3 cy0v3 fy0v3 cy1v3 fy1v3 cy2v3 fy2v3))
      
      all_goals go_ret
      all_goals exact ⟨rfl, by repeat (first | (with_reducible exact Below.refl _ _) | (with_reducible assumption) | (with_reducible refine Below.setCell ?_ (by first | (simp; done) | (simp; omega) | omega) _) | (with_reducible refine Below.alloc ?_ (by first | (simp; done) | (simp; omega) | omega) _) | (refine bl_call ?_ (by assumption) (by first | (simp; done) | (simp; omega) | omega)) | (with_reducible refine bl_drewN ?_) | (with_reducible refine Below.drew ?_) | (with_reducible refine bl_grow ?_ (by first | (simp; done) | (simp; omega) | omega)))⟩
  · have a1 : (r : Int) < (m : Int) := by omega
    go_wp2_with fail
    go_ret
    exact ⟨rfl, by repeat (first | (with_reducible exact Below.refl _ _) | (with_reducible assumption) | (with_reducible refine Below.setCell ?_ (by first | (simp; done) | (simp; omega) | omega) _) | (with_reducible refine Below.alloc ?_ (by first | (simp; done) | (simp; omega) | omega) _) | (refine bl_call ?_ (by assumption) (by first | (simp; done) | (simp; omega) | omega)) | (with_reducible refine bl_drewN ?_) | (with_reducible refine Below.drew ?_) | (with_reducible refine bl_grow ?_ (by first | (simp; done) | (simp; omega) | omega)))⟩
theorem quorumSeals_by (hS : SplitIs) (hT : PartIs) (hJ : JoinIs) (hU : PublicIs) (w : World) (sc : Option Addr) (m dc : Nat) (z : Int) (sp : Option Addr) (q dp : Nat) (t : ByteArray)
    (hm : m ≤ maxLen) (uC : m = 0 ∨ ∃ (b o : Nat) (X : Nat → Int), sc = some ⟨b, o, none⟩ ∧ RowI w b o m X ∧ ∀ i, i < m → (Lit.int .i64 (X i)).wf = true) (hz : (Lit.int .i64 z).wf = true)
    (hq : q ≤ maxLen) (uP : q = 0 ∨ ∃ (b o : Nat) (X : Nat → Int), sp = some ⟨b, o, none⟩ ∧ RowI w b o q X ∧ ∀ i, i < q → (Lit.int .i64 (X i)).wf = true) (ht : t.size ≤ maxLen) : Calls Try.prog 5 #[.slice sc m dc, .int .i64 z, .slice sp q dp, .string t] w fun e w' => e = .returned (.bool true) ∧ Below w.heap.size w w' := by
  have ht9 : t.size ≤ 9223372036854775807 := ht
  obtain ⟨C, c1, c2⟩ : ∃ C : Nat → Int, (m = 0 ∨ ∃ b o : Nat, sc = some ⟨b, o, none⟩ ∧ RowI w b o m C) ∧ ∀ i, i < m → (Lit.int .i64 (C i)).wf = true := by
    rcases uC with h | ⟨b, o, X, e, r, k⟩
    · exact ⟨fun _ => 0, Or.inl h, fun i hi => by omega⟩
    · exact ⟨X, Or.inr ⟨b, o, e, r⟩, k⟩
  obtain ⟨K, k1⟩ : ∃ K : Nat → Int, q = 0 ∨ ∃ b o : Nat, sp = some ⟨b, o, none⟩ ∧ RowI w b o q K := by
    rcases uP with h | ⟨b, o, X, e, r, k⟩
    · exact ⟨fun _ => 0, Or.inl h⟩
    · exact ⟨X, Or.inr ⟨b, o, e, r⟩⟩
  have h2 : ∀ w, Calls Try.prog 13 #[.string ⟨#[97]⟩] w fun ex w' => ex = .returned (.agg #[.int .i64 ((tM (4 * uN ⟨#[97]⟩)).1 : Int), .int .i64 ((tM (4 * uN ⟨#[97]⟩)).2.1 : Int), .bool (tM (4 * uN ⟨#[97]⟩)).2.2]) ∧ Below w.heap.size w w' := fun w => spot_w _ w (by decide)
  have h1 : ∀ w, Calls Try.prog 12 #[.agg #[.int .i64 1, .int .i64 1], .string ⟨#[97]⟩] w fun ex w' => ex = .returned (.tuple #[.agg #[.int .i64 ((tM (4 * uN ⟨#[97]⟩)).1 : Int), .int .i64 ((tM (4 * uN ⟨#[97]⟩)).2.1 : Int), .bool (tM (4 * uN ⟨#[97]⟩)).2.2], .nilIface]) ∧ Below w.heap.size w w' := fun w => by
    have := hT.2.2 1 1 ⟨#[97]⟩ w rfl (by omega) (by decide)
    rwa [Nat.mul_one] at this
  rcases split_case hS sc m dc C z w hm c1 c2 hz with ⟨c, ha⟩ | ⟨bc, oc, n, rfl, rc, m1, m2, okc, rfl, n1, n2, gc⟩
  · exact qsealsA sc sp m dc q dp z c _ _ _ t w h1 h2 ha
  by_cases h60 : 60 < t.size
  · exact qsealsB bc oc m dc sp q dp n _ _ _ t _ w n1 h60 ht9 h1 h2 gc
  obtain ⟨c0, hc0⟩ : ∃ c0 : Nat, C 0 = (c0 : Int) := ⟨(C 0).toNat, by have := res_bd (okc 0 (by omega)); omega⟩
  have hb0 := res_bd (okc 0 (by omega))
  have hy : ∀ j : Nat, ∃ y : Nat, y < 1013 ∧ vI (vlq (xq C) (zq ((j : Int) + 1)) m) = (y : Int) ∧ (vI (vlq (xq C) (zq ((j : Int) + 1)) m)).toNat = y := fun j => by
    have l := vI_lo (vlq (xq C) (zq ((j : Int) + 1)) m)
    have h := vI_hi (vlq (xq C) (zq ((j : Int) + 1)) m)
    exact ⟨(vI (vlq (xq C) (zq ((j : Int) + 1)) m)).toNat, by omega, by omega, rfl⟩
  refine qsealsL bc oc m dc sp q dp n _ _ ((tM (4 * (uN t * c0))).1 : Int) ((tM (4 * (uN t * c0))).2.1 : Int) ((tM (4 * c0)).1 : Int) ((tM (4 * c0)).2.1 : Int) _ (tM (4 * (uN t * c0))).2.2 (tM (4 * c0)).2.2 t C K (fun i : Nat => vI (vlq (xq C) (zq ((i : Int) + 1)) m))
    (fun j => ((tM (4 * (uN t * ((fun i : Nat => vI (vlq (xq C) (zq ((i : Int) + 1)) m)) j).toNat))).1 : Int)) (fun j => ((tM (4 * (uN t * ((fun i : Nat => vI (vlq (xq C) (zq ((i : Int) + 1)) m)) j).toNat))).2.1 : Int)) (fun j => ((tM (4 * ((fun i : Nat => vI (vlq (xq C) (zq ((i : Int) + 1)) m)) j).toNat)).1 : Int)) (fun j => ((tM (4 * ((fun i : Nat => vI (vlq (xq C) (zq ((i : Int) + 1)) m)) j).toNat)).2.1 : Int)) (fun j => (tM (4 * (uN t * ((fun i : Nat => vI (vlq (xq C) (zq ((i : Int) + 1)) m)) j).toNat))).2.2) (fun j => (tM (4 * ((fun i : Nat => vI (vlq (xq C) (zq ((i : Int) + 1)) m)) j).toNat)).2.2)
    w n1 n2 m1 m2 hq (by omega) rc k1 h1 h2 gc ?_ ?_ ?_ ?_ ?_ ?_
  · intro W g d hr hd
    exact hU.2.2 _ n d _ _ W n2 hd (Or.inr ⟨g, 0, rfl, hr⟩) (fun i hi => ⟨sec_yes (by omega) (by omega), res_yes (vI_lo _) (vI_hi _)⟩)
  · intro j hj w
    obtain ⟨y, y1, y2, y3⟩ := hy j
    have := hT.2.2 ((j : Int) + 1) y t w (sec_yes (by omega) (by omega)) y1 (by omega)
    show Calls Try.prog 12 #[.agg #[.int .i64 ((j : Int) + 1), .int .i64 (vI (vlq (xq C) (zq ((j : Int) + 1)) m))], .string t] w _
    rw [y2]
    show Calls Try.prog 12 _ w fun ex w' => ex = .returned (.tuple #[.agg #[.int .i64 ((tM (4 * (uN t * (vI (vlq (xq C) (zq ((j : Int) + 1)) m)).toNat))).1 : Int), .int .i64 ((tM (4 * (uN t * (vI (vlq (xq C) (zq ((j : Int) + 1)) m)).toNat))).2.1 : Int), .bool (tM (4 * (uN t * (vI (vlq (xq C) (zq ((j : Int) + 1)) m)).toNat))).2.2], .nilIface]) ∧ _
    rw [y3]
    exact this
  · intro W B r J xv pv kv hP hmr h3
    exact join_pick hJ (fun j => 4 * (uN t * ((fun i : Nat => vI (vlq (xq C) (zq ((i : Int) + 1)) m)) j).toNat)) hP n2 m1 hmr h3.1 h3.2.1 (jw_tells (uN t) hP n2 m1 hmr hc0 (okc 0 (by omega)))
  · intro W B r J xv pv kv hP hmr h3
    exact join_pick hJ (fun j => 4 * ((fun i : Nat => vI (vlq (xq C) (zq ((i : Int) + 1)) m)) j).toNat) hP n2 m1 hmr h3.1 h3.2.2.1 (jw_tells1 hP n2 m1 hmr hc0 (okc 0 (by omega)))
  · intro hne w
    rw [hc0] at hne ⊢
    have : c0 ≠ 0 := by rintro rfl; cases hne
    exact ssign_ok c0 t w (by omega) (by omega) (by omega)
  · intro hne w
    rw [hc0] at hne ⊢
    have : c0 ≠ 0 := by rintro rfl; cases hne
    exact key_yes c0 w (by omega) (by omega)
end Go.Proofs.Ytkhpmnehjifdcaf
/- ShareFns -/
namespace Go.Proofs.Ytkhpmnehjifdcaf
open Go.RowKit Go.Sort
set_option linter.unusedVariables false
set_option linter.unusedSimpArgs false
theorem isnum (n : Int) (w : World) : Calls Try.prog 19 #[.int .i64 n] w fun e w' => e = .returned (.bool (resB n)) ∧ w' = w := by
  by_cases h : n ≥ 0
  · by_cases h2 : n < 1013
    · rw [show resB n = true from decide_eq_true ⟨h, h2⟩]
      go_enter Try.func19, Try.ntmps19
      go_wp2_with fail
      go_ret
      exact ⟨rfl, rfl⟩
    · rw [show resB n = false from decide_eq_false fun k => h2 k.2]
      go_enter Try.func19, Try.ntmps19
      go_wp2_with fail
      go_ret
      exact ⟨rfl, rfl⟩
  · rw [show resB n = false from decide_eq_false fun k => h k.1]
    go_enter Try.func19, Try.ntmps19
    go_wp2_with fail
    go_ret
    exact ⟨rfl, rfl⟩
theorem spl_fn (x : Int) (t : Bool) (w : World) (h : resB x = t) : Calls Try.prog 18 #[.int .i64 x] w fun e w' => e = .returned (.bool (!t)) ∧ Below w.heap.size w w' := by
  have h1 := isnum x
  rw [h] at h1
  have H : Hid (∀ w, Calls Try.prog 19 #[.int .i64 x] w fun e w' => e = .returned (.bool t) ∧ w' = w) := h1
  clear h h1
  go_enter Try.func18, Try.ntmps18
  go_wp2_with (go_at_call 19; refine (H.out _).mono ?_; rintro e v1 ⟨rfl, hv1⟩; subst v1)
  go_ret
  exact ⟨rfl, by repeat (first | (with_reducible exact Below.refl _ _) | (with_reducible assumption) | (with_reducible refine Below.setCell ?_ (by first | (simp; done) | (simp; omega) | omega) _) | (with_reducible refine Below.alloc ?_ (by first | (simp; done) | (simp; omega) | omega) _) | (refine bl_call ?_ (by assumption) (by first | (simp; done) | (simp; omega) | omega)) | (with_reducible refine bl_drewN ?_) | (with_reducible refine Below.drew ?_) | (with_reducible refine bl_grow ?_ (by first | (simp; done) | (simp; omega) | omega)))⟩
theorem cmb_fn (x y : Int) (t : Bool) (w : World) (h : resB y = t) : Calls Try.prog 24 #[.agg #[.int .i64 x, .int .i64 y]] w fun e w' => e = .returned (.bool (!t)) ∧ Below w.heap.size w w' := by
  have h1 := isnum y
  rw [h] at h1
  have H : Hid (∀ w, Calls Try.prog 19 #[.int .i64 y] w fun e w' => e = .returned (.bool t) ∧ w' = w) := h1
  clear h h1
  go_enter Try.func24, Try.ntmps24
  go_wp2_with (go_at_call 19; refine (H.out _).mono ?_; rintro e v1 ⟨rfl, hv1⟩; subst v1)
  go_ret
  exact ⟨rfl, by repeat (first | (with_reducible exact Below.refl _ _) | (with_reducible assumption) | (with_reducible refine Below.setCell ?_ (by first | (simp; done) | (simp; omega) | omega) _) | (with_reducible refine Below.alloc ?_ (by first | (simp; done) | (simp; omega) | omega) _) | (refine bl_call ?_ (by assumption) (by first | (simp; done) | (simp; omega) | omega)) | (with_reducible refine bl_drewN ?_) | (with_reducible refine Below.drew ?_) | (with_reducible refine bl_grow ?_ (by first | (simp; done) | (simp; omega) | omega)))⟩
set_option maxRecDepth 100000 in
set_option maxHeartbeats 4000000 in
theorem idxI (b o n d t : Nat) (X : Nat → Int) (r : Int) (w : World) (hn : n ≤ 12) (ht : t ≤ n) (hr : RowI w b o n X) (hok : ∀ i, i < t → resB (X i) = true) (he : (t = n ∧ r = -1) ∨ (t < n ∧ resB (X t) = false ∧ r = t)) :
    Calls Try.prog 37 #[.slice (some ⟨b, o, none⟩) n d, .func (.func 18) #[] #[]] w fun e w' => e = .returned (.int .i64 r) ∧ Below w.heap.size w w' := by
  have HR : Hid (RowI w b o n X) := hr
  have HOK : Hid (∀ i, i < t → resB (X i) = true) := hok
  have HE : Hid ((t = n ∧ r = -1) ∨ (t < n ∧ resB (X t) = false ∧ r = t)) := he
  have hb := hr.1
  clear hr hok he
  go_enter Try.func37, Try.ntmps37
  go_wp2_with fail
  go_loopw [8] (fun ti wl => ∃ k : Nat, k ≤ t ∧ ti = .int .i64 k ∧ Below w.heap.size w wl) (fun ti _ => n - (intOf ti).toNat)
  case atStart => exact ⟨0, by omega, rfl, by repeat (first | (with_reducible exact Below.refl _ _) | (with_reducible assumption) | (with_reducible refine Below.setCell ?_ (by first | (simp; done) | (simp; omega) | omega) _) | (with_reducible refine Below.alloc ?_ (by first | (simp; done) | (simp; omega) | omega) _) | (refine bl_call ?_ (by assumption) (by first | (simp; done) | (simp; omega) | omega)) | (with_reducible refine bl_drewN ?_) | (with_reducible refine Below.drew ?_) | (with_reducible refine bl_grow ?_ (by first | (simp; done) | (simp; omega) | omega)))⟩
  case round =>
    obtain ⟨k, hk, rfl, hqV⟩ := hrel
    have hzV := hqV.size
    by_cases hlt : k < n
    · have hlt' : (k : Int) < n := by omega
      have hbV := Nat.lt_of_lt_of_le hb hzV
      have c0 := row_int HR.out hqV hlt
      by_cases hkt : k < t
      · have HP : Hid (resB (X k) = true) := HOK.out k hkt
        go_wp2_with (go_at_call 18; refine (spl_fn _ _ _ HP.out).mono ?_; rintro e w1 ⟨rfl, hb1⟩)
        go_roundw
        case rel => exact ⟨k + 1, by omega, by simp, by repeat (first | (with_reducible exact Below.refl _ _) | (with_reducible assumption) | (with_reducible refine Below.setCell ?_ (by first | (simp; done) | (simp; omega) | omega) _) | (with_reducible refine Below.alloc ?_ (by first | (simp; done) | (simp; omega) | omega) _) | (refine bl_call ?_ (by assumption) (by first | (simp; done) | (simp; omega) | omega)) | (with_reducible refine bl_drewN ?_) | (with_reducible refine Below.drew ?_) | (with_reducible refine bl_grow ?_ (by first | (simp; done) | (simp; omega) | omega)))⟩
        case measure => simp [intOf]; omega
      · have HKT : Hid (k = t) := by unfold Hid; omega
        have HP : Hid (resB (X k) = false) := by
          unfold Hid
          rcases HE.out with h | h
          · exfalso; have := HKT.out; omega
          · rw [HKT.out]; exact h.2.1
        have HRK : Hid (r = (k : Int)) := by
          unfold Hid
          rcases HE.out with h | h
          · exfalso; have := HKT.out; omega
          · rw [HKT.out]; exact h.2.2
        go_wp2_with (go_at_call 18; refine (spl_fn _ _ _ HP.out).mono ?_; rintro e w1 ⟨rfl, hb1⟩)
        go_ret
        exact ⟨ret_int HRK.out.symm, by repeat (first | (with_reducible exact Below.refl _ _) | (with_reducible assumption) | (with_reducible refine Below.setCell ?_ (by first | (simp; done) | (simp; omega) | omega) _) | (with_reducible refine Below.alloc ?_ (by first | (simp; done) | (simp; omega) | omega) _) | (refine bl_call ?_ (by assumption) (by first | (simp; done) | (simp; omega) | omega)) | (with_reducible refine bl_drewN ?_) | (with_reducible refine Below.drew ?_) | (with_reducible refine bl_grow ?_ (by first | (simp; done) | (simp; omega) | omega)))⟩
    · have hlt' : ¬ (k : Int) < n := by omega
      have HRK : Hid (r = -1) := by
        unfold Hid
        rcases HE.out with h | h
        · exact h.2
        · omega
      go_wp2_with fail
      go_ret
      exact ⟨ret_int HRK.out.symm, by repeat (first | (with_reducible exact Below.refl _ _) | (with_reducible assumption) | (with_reducible refine Below.setCell ?_ (by first | (simp; done) | (simp; omega) | omega) _) | (with_reducible refine Below.alloc ?_ (by first | (simp; done) | (simp; omega) | omega) _) | (refine bl_call ?_ (by assumption) (by first | (simp; done) | (simp; omega) | omega)) | (with_reducible refine bl_drewN ?_) | (with_reducible refine Below.drew ?_) | (with_reducible refine bl_grow ?_ (by first | (simp; done) | (simp; omega) | omega)))⟩
set_option maxRecDepth 100000 in
set_option maxHeartbeats 4000000 in
theorem idxI_no (b o n d : Nat) (X : Nat → Int) (w : World) (hn : n ≤ 12) (hr : RowI w b o n X) (hok : ∀ i, i < n → resB (X i) = true) : Calls Try.prog 20 #[.slice (some ⟨b, o, none⟩) n d, .func (.func 18) #[] #[]] w fun e w' => e = .returned (.bool false) ∧ Below w.heap.size w w' := by
  have H : Hid (Calls Try.prog 37 #[.slice (some ⟨b, o, none⟩) n d, .func (.func 18) #[] #[]] w fun e w' => e = .returned (.int .i64 (-1)) ∧ Below w.heap.size w w') := idxI b o n d n X (-1) w hn (Nat.le_refl _) hr hok (Or.inl ⟨rfl, rfl⟩)
  clear hr hok
  go_enter Try.func20, Try.ntmps20
  go_wp2_with (go_at_call 37; refine (H.out).mono ?_; rintro e w1 ⟨rfl, hb1⟩)
  go_ret
  exact ⟨rfl, by repeat (first | (with_reducible exact Below.refl _ _) | (with_reducible assumption) | (with_reducible refine Below.setCell ?_ (by first | (simp; done) | (simp; omega) | omega) _) | (with_reducible refine Below.alloc ?_ (by first | (simp; done) | (simp; omega) | omega) _) | (refine bl_call ?_ (by assumption) (by first | (simp; done) | (simp; omega) | omega)) | (with_reducible refine bl_drewN ?_) | (with_reducible refine Below.drew ?_) | (with_reducible refine bl_grow ?_ (by first | (simp; done) | (simp; omega) | omega)))⟩
set_option maxRecDepth 100000 in
set_option maxHeartbeats 4000000 in
theorem idxI_yes (b o n d : Nat) (X : Nat → Int) (w : World) (hn : n ≤ 12) (hr : RowI w b o n X) (hno : ∃ j, j < n ∧ resB (X j) = false) : Calls Try.prog 20 #[.slice (some ⟨b, o, none⟩) n d, .func (.func 18) #[] #[]] w fun e w' => e = .returned (.bool true) ∧ Below w.heap.size w w' := by
  obtain ⟨t, t1, t2, t3⟩ := first_no (fun i => resB (X i)) n
  rcases t3 with rfl | ⟨t3, t4⟩
  · obtain ⟨j, j1, j2⟩ := hno
    rw [t2 j j1] at j2
    cases j2
  have H : Hid (Calls Try.prog 37 #[.slice (some ⟨b, o, none⟩) n d, .func (.func 18) #[] #[]] w fun e w' => e = .returned (.int .i64 (t : Int)) ∧ Below w.heap.size w w') := idxI b o n d t X (t : Int) w hn t1 hr t2 (Or.inr ⟨t3, t4, rfl⟩)
  have h0 : (t : Int) ≥ 0 := by omega
  clear hr hno t1 t2 t3 t4
  go_enter Try.func20, Try.ntmps20
  go_wp2_with (go_at_call 37; refine (H.out).mono ?_; rintro e w1 ⟨rfl, hb1⟩)
  go_ret
  exact ⟨rfl, by repeat (first | (with_reducible exact Below.refl _ _) | (with_reducible assumption) | (with_reducible refine Below.setCell ?_ (by first | (simp; done) | (simp; omega) | omega) _) | (with_reducible refine Below.alloc ?_ (by first | (simp; done) | (simp; omega) | omega) _) | (refine bl_call ?_ (by assumption) (by first | (simp; done) | (simp; omega) | omega)) | (with_reducible refine bl_drewN ?_) | (with_reducible refine Below.drew ?_) | (with_reducible refine bl_grow ?_ (by first | (simp; done) | (simp; omega) | omega)))⟩
set_option maxRecDepth 100000 in
set_option maxHeartbeats 4000000 in
theorem idxP (b o n d t : Nat) (X Y : Nat → Int) (r : Int) (w : World) (hn : n ≤ 12) (ht : t ≤ n) (hr : RowP w b o n X Y) (hok : ∀ i, i < t → resB (Y i) = true) (he : (t = n ∧ r = -1) ∨ (t < n ∧ resB (Y t) = false ∧ r = t)) :
    Calls Try.prog 39 #[.slice (some ⟨b, o, none⟩) n d, .func (.func 24) #[] #[]] w fun e w' => e = .returned (.int .i64 r) ∧ Below w.heap.size w w' := by
  have HR : Hid (RowP w b o n X Y) := hr
  have HOK : Hid (∀ i, i < t → resB (Y i) = true) := hok
  have HE : Hid ((t = n ∧ r = -1) ∨ (t < n ∧ resB (Y t) = false ∧ r = t)) := he
  have hb := hr.1
  clear hr hok he
  go_enter Try.func39, Try.ntmps39
  go_wp2_with fail
  go_loopw [8] (fun ti wl => ∃ k : Nat, k ≤ t ∧ ti = .int .i64 k ∧ Below w.heap.size w wl) (fun ti _ => n - (intOf ti).toNat)
  case atStart => exact ⟨0, by omega, rfl, by repeat (first | (with_reducible exact Below.refl _ _) | (with_reducible assumption) | (with_reducible refine Below.setCell ?_ (by first | (simp; done) | (simp; omega) | omega) _) | (with_reducible refine Below.alloc ?_ (by first | (simp; done) | (simp; omega) | omega) _) | (refine bl_call ?_ (by assumption) (by first | (simp; done) | (simp; omega) | omega)) | (with_reducible refine bl_drewN ?_) | (with_reducible refine Below.drew ?_) | (with_reducible refine bl_grow ?_ (by first | (simp; done) | (simp; omega) | omega)))⟩
  case round =>
    obtain ⟨k, hk, rfl, hqV⟩ := hrel
    have hzV := hqV.size
    by_cases hlt : k < n
    · have hlt' : (k : Int) < n := by omega
      have hbV := Nat.lt_of_lt_of_le hb hzV
      obtain ⟨c0, c1⟩ := (HR.out.below hb hqV).2 k hlt
      by_cases hkt : k < t
      · have HP : Hid (resB (Y k) = true) := HOK.out k hkt
        go_wp2_with (go_at_call 24; refine (cmb_fn _ _ _ _ HP.out).mono ?_; rintro e w1 ⟨rfl, hb1⟩)
        go_roundw
        case rel => exact ⟨k + 1, by omega, by simp, by repeat (first | (with_reducible exact Below.refl _ _) | (with_reducible assumption) | (with_reducible refine Below.setCell ?_ (by first | (simp; done) | (simp; omega) | omega) _) | (with_reducible refine Below.alloc ?_ (by first | (simp; done) | (simp; omega) | omega) _) | (refine bl_call ?_ (by assumption) (by first | (simp; done) | (simp; omega) | omega)) | (with_reducible refine bl_drewN ?_) | (with_reducible refine Below.drew ?_) | (with_reducible refine bl_grow ?_ (by first | (simp; done) | (simp; omega) | omega)))⟩
        case measure => simp [intOf]; omega
      · have HKT : Hid (k = t) := by unfold Hid; omega
        have HP : Hid (resB (Y k) = false) := by
          unfold Hid
          rcases HE.out with h | h
          · exfalso; have := HKT.out; omega
          · rw [HKT.out]; exact h.2.1
        have HRK : Hid (r = (k : Int)) := by
          unfold Hid
          rcases HE.out with h | h
          · exfalso; have := HKT.out; omega
          · rw [HKT.out]; exact h.2.2
        go_wp2_with (go_at_call 24; refine (cmb_fn _ _ _ _ HP.out).mono ?_; rintro e w1 ⟨rfl, hb1⟩)
        go_ret
        exact ⟨ret_int HRK.out.symm, by repeat (first | (with_reducible exact Below.refl _ _) | (with_reducible assumption) | (with_reducible refine Below.setCell ?_ (by first | (simp; done) | (simp; omega) | omega) _) | (with_reducible refine Below.alloc ?_ (by first | (simp; done) | (simp; omega) | omega) _) | (refine bl_call ?_ (by assumption) (by first | (simp; done) | (simp; omega) | omega)) | (with_reducible refine bl_drewN ?_) | (with_reducible refine Below.drew ?_) | (with_reducible refine bl_grow ?_ (by first | (simp; done) | (simp; omega) | omega)))⟩
    · have hlt' : ¬ (k : Int) < n := by omega
      have HRK : Hid (r = -1) := by
        unfold Hid
        rcases HE.out with h | h
        · exact h.2
        · omega
      go_wp2_with fail
      go_ret
      exact ⟨ret_int HRK.out.symm, by repeat (first | (with_reducible exact Below.refl _ _) | (with_reducible assumption) | (with_reducible refine Below.setCell ?_ (by first | (simp; done) | (simp; omega) | omega) _) | (with_reducible refine Below.alloc ?_ (by first | (simp; done) | (simp; omega) | omega) _) | (refine bl_call ?_ (by assumption) (by first | (simp; done) | (simp; omega) | omega)) | (with_reducible refine bl_drewN ?_) | (with_reducible refine Below.drew ?_) | (with_reducible refine bl_grow ?_ (by first | (simp; done) | (simp; omega) | omega)))⟩
set_option maxRecDepth 100000 in
set_option maxHeartbeats 4000000 in
theorem idxP_no (b o n d : Nat) (X Y : Nat → Int) (w : World) (hn : n ≤ 12) (hr : RowP w b o n X Y) (hok : ∀ i, i < n → resB (Y i) = true) : Calls Try.prog 23 #[.slice (some ⟨b, o, none⟩) n d, .func (.func 24) #[] #[]] w fun e w' => e = .returned (.bool false) ∧ Below w.heap.size w w' := by
  have H : Hid (Calls Try.prog 39 #[.slice (some ⟨b, o, none⟩) n d, .func (.func 24) #[] #[]] w fun e w' => e = .returned (.int .i64 (-1)) ∧ Below w.heap.size w w') := idxP b o n d n X Y (-1) w hn (Nat.le_refl _) hr hok (Or.inl ⟨rfl, rfl⟩)
  clear hr hok
  go_enter Try.func23, Try.ntmps23
  go_wp2_with (go_at_call 39; refine (H.out).mono ?_; rintro e w1 ⟨rfl, hb1⟩)
  go_ret
  exact ⟨rfl, by repeat (first | (with_reducible exact Below.refl _ _) | (with_reducible assumption) | (with_reducible refine Below.setCell ?_ (by first | (simp; done) | (simp; omega) | omega) _) | (with_reducible refine Below.alloc ?_ (by first | (simp; done) | (simp; omega) | omega) _) | (refine bl_call ?_ (by assumption) (by first | (simp; done) | (simp; omega) | omega)) | (with_reducible refine bl_drewN ?_) | (with_reducible refine Below.drew ?_) | (with_reducible refine bl_grow ?_ (by first | (simp; done) | (simp; omega) | omega)))⟩
set_option maxRecDepth 100000 in
set_option maxHeartbeats 4000000 in
theorem idxP_yes (b o n d : Nat) (X Y : Nat → Int) (w : World) (hn : n ≤ 12) (hr : RowP w b o n X Y) (hno : ∃ j, j < n ∧ resB (Y j) = false) : Calls Try.prog 23 #[.slice (some ⟨b, o, none⟩) n d, .func (.func 24) #[] #[]] w fun e w' => e = .returned (.bool true) ∧ Below w.heap.size w w' := by
  obtain ⟨t, t1, t2, t3⟩ := first_no (fun i => resB (Y i)) n
  rcases t3 with rfl | ⟨t3, t4⟩
  · obtain ⟨j, j1, j2⟩ := hno
    rw [t2 j j1] at j2
    cases j2
  have H : Hid (Calls Try.prog 39 #[.slice (some ⟨b, o, none⟩) n d, .func (.func 24) #[] #[]] w fun e w' => e = .returned (.int .i64 (t : Int)) ∧ Below w.heap.size w w') := idxP b o n d t X Y (t : Int) w hn t1 hr t2 (Or.inr ⟨t3, t4, rfl⟩)
  have h0 : (t : Int) ≥ 0 := by omega
  clear hr hno t1 t2 t3 t4
  go_enter Try.func23, Try.ntmps23
  go_wp2_with (go_at_call 39; refine (H.out).mono ?_; rintro e w1 ⟨rfl, hb1⟩)
  go_ret
  exact ⟨rfl, by repeat (first | (with_reducible exact Below.refl _ _) | (with_reducible assumption) | (with_reducible refine Below.setCell ?_ (by first | (simp; done) | (simp; omega) | omega) _) | (with_reducible refine Below.alloc ?_ (by first | (simp; done) | (simp; omega) | omega) _) | (refine bl_call ?_ (by assumption) (by first | (simp; done) | (simp; omega) | omega)) | (with_reducible refine bl_drewN ?_) | (with_reducible refine Below.drew ?_) | (with_reducible refine bl_grow ?_ (by first | (simp; done) | (simp; omega) | omega)))⟩
set_option maxRecDepth 100000 in
set_option maxHeartbeats 4000000 in
theorem ixI (b o n d t : Nat) (X : Nat → Int) (x r : Int) (w : World) (hn : n ≤ 12) (ht : t ≤ n) (hr : RowI w b o n X) (hok : ∀ i, i < t → X i ≠ x) (he : (t = n ∧ r = -1) ∨ (t < n ∧ X t = x ∧ r = t)) :
    Calls Try.prog 48 #[.slice (some ⟨b, o, none⟩) n d, .int .i64 x] w fun e w' => e = .returned (.int .i64 r) ∧ Below w.heap.size w w' := by
  have HR : Hid (RowI w b o n X) := hr
  have HOK : Hid (∀ i, i < t → X i ≠ x) := hok
  have HE : Hid ((t = n ∧ r = -1) ∨ (t < n ∧ X t = x ∧ r = t)) := he
  have hb := hr.1
  clear hr hok he
  go_enter Try.func48, Try.ntmps48
  go_wp2_with fail
  go_loopw [8] (fun ti wl => ∃ k : Nat, k ≤ t ∧ ti = .int .i64 k ∧ Below w.heap.size w wl) (fun ti _ => n - (intOf ti).toNat)
  case atStart => exact ⟨0, by omega, rfl, by repeat (first | (with_reducible exact Below.refl _ _) | (with_reducible assumption) | (with_reducible refine Below.setCell ?_ (by first | (simp; done) | (simp; omega) | omega) _) | (with_reducible refine Below.alloc ?_ (by first | (simp; done) | (simp; omega) | omega) _) | (refine bl_call ?_ (by assumption) (by first | (simp; done) | (simp; omega) | omega)) | (with_reducible refine bl_drewN ?_) | (with_reducible refine Below.drew ?_) | (with_reducible refine bl_grow ?_ (by first | (simp; done) | (simp; omega) | omega)))⟩
  case round =>
    obtain ⟨k, hk, rfl, hqV⟩ := hrel
    have hzV := hqV.size
    by_cases hlt : k < n
    · have hlt' : (k : Int) < n := by omega
      have hbV := Nat.lt_of_lt_of_le hb hzV
      have c0 := row_int HR.out hqV hlt
      by_cases hkt : k < t
      · have hne : (x == X k) = false := by rw [beq_eq_false_iff_ne]; exact fun h => HOK.out k hkt h.symm
        go_wp2_with fail
        go_roundw
        case rel => exact ⟨k + 1, by omega, by simp, by repeat (first | (with_reducible exact Below.refl _ _) | (with_reducible assumption) | (with_reducible refine Below.setCell ?_ (by first | (simp; done) | (simp; omega) | omega) _) | (with_reducible refine Below.alloc ?_ (by first | (simp; done) | (simp; omega) | omega) _) | (refine bl_call ?_ (by assumption) (by first | (simp; done) | (simp; omega) | omega)) | (with_reducible refine bl_drewN ?_) | (with_reducible refine Below.drew ?_) | (with_reducible refine bl_grow ?_ (by first | (simp; done) | (simp; omega) | omega)))⟩
        case measure => simp [intOf]; omega
      · have HKT : Hid (k = t) := by unfold Hid; omega
        have heq : (x == X k) = true := by
          rcases HE.out with h | h
          · exfalso; have := HKT.out; omega
          · rw [HKT.out, h.2.1]; simp
        have HRK : Hid (r = (k : Int)) := by
          unfold Hid
          rcases HE.out with h | h
          · exfalso; have := HKT.out; omega
          · rw [HKT.out]; exact h.2.2
        go_wp2_with fail
        go_ret
        exact ⟨ret_int HRK.out.symm, by repeat (first | (with_reducible exact Below.refl _ _) | (with_reducible assumption) | (with_reducible refine Below.setCell ?_ (by first | (simp; done) | (simp; omega) | omega) _) | (with_reducible refine Below.alloc ?_ (by first | (simp; done) | (simp; omega) | omega) _) | (refine bl_call ?_ (by assumption) (by first | (simp; done) | (simp; omega) | omega)) | (with_reducible refine bl_drewN ?_) | (with_reducible refine Below.drew ?_) | (with_reducible refine bl_grow ?_ (by first | (simp; done) | (simp; omega) | omega)))⟩
    · have hlt' : ¬ (k : Int) < n := by omega
      have HRK : Hid (r = -1) := by
        unfold Hid
        rcases HE.out with h | h
        · exact h.2
        · omega
      go_wp2_with fail
      go_ret
      exact ⟨ret_int HRK.out.symm, by repeat (first | (with_reducible exact Below.refl _ _) | (with_reducible assumption) | (with_reducible refine Below.setCell ?_ (by first | (simp; done) | (simp; omega) | omega) _) | (with_reducible refine Below.alloc ?_ (by first | (simp; done) | (simp; omega) | omega) _) | (refine bl_call ?_ (by assumption) (by first | (simp; done) | (simp; omega) | omega)) | (with_reducible refine bl_drewN ?_) | (with_reducible refine Below.drew ?_) | (with_reducible refine bl_grow ?_ (by first | (simp; done) | (simp; omega) | omega)))⟩
set_option maxRecDepth 100000 in
set_option maxHeartbeats 4000000 in
theorem hasI (b o n d : Nat) (X : Nat → Int) (x : Int) (t : Bool) (w : World) (hn : n ≤ 12) (hr : RowI w b o n X) (h : (t = false ∧ ∀ i, i < n → X i ≠ x) ∨ (t = true ∧ ∃ j, j < n ∧ X j = x)) : Calls Try.prog 40 #[.slice (some ⟨b, o, none⟩) n d, .int .i64 x] w fun e w' => e = .returned (.bool t) ∧ Below w.heap.size w w' := by
  rcases h with ⟨rfl, h⟩ | ⟨rfl, h⟩
  · have H : Hid (Calls Try.prog 48 #[.slice (some ⟨b, o, none⟩) n d, .int .i64 x] w fun e w' => e = .returned (.int .i64 (-1)) ∧ Below w.heap.size w w') := ixI b o n d n X x (-1) w hn (Nat.le_refl _) hr h (Or.inl ⟨rfl, rfl⟩)
    clear hr h
    go_enter Try.func40, Try.ntmps40
    go_wp2_with (go_at_call 48; refine (H.out).mono ?_; rintro e w1 ⟨rfl, hb1⟩)
    go_ret
    exact ⟨rfl, by repeat (first | (with_reducible exact Below.refl _ _) | (with_reducible assumption) | (with_reducible refine Below.setCell ?_ (by first | (simp; done) | (simp; omega) | omega) _) | (with_reducible refine Below.alloc ?_ (by first | (simp; done) | (simp; omega) | omega) _) | (refine bl_call ?_ (by assumption) (by first | (simp; done) | (simp; omega) | omega)) | (with_reducible refine bl_drewN ?_) | (with_reducible refine Below.drew ?_) | (with_reducible refine bl_grow ?_ (by first | (simp; done) | (simp; omega) | omega)))⟩
  · obtain ⟨t, t1, t2, t3⟩ := first_no (fun i => !(X i == x)) n
    have t2' : ∀ i, i < t → X i ≠ x := fun i hi k => by have := t2 i hi; simp [k] at this
    rcases t3 with rfl | ⟨t3, t4⟩
    · obtain ⟨j, j1, j2⟩ := h
      exact absurd j2 (t2' j j1)
    have H : Hid (Calls Try.prog 48 #[.slice (some ⟨b, o, none⟩) n d, .int .i64 x] w fun e w' => e = .returned (.int .i64 (t : Int)) ∧ Below w.heap.size w w') := ixI b o n d t X x (t : Int) w hn t1 hr t2' (Or.inr ⟨t3, by simpa using t4, rfl⟩)
    have h0 : (t : Int) ≥ 0 := by omega
    clear hr h t1 t2 t2' t3 t4
    go_enter Try.func40, Try.ntmps40
    go_wp2_with (go_at_call 48; refine (H.out).mono ?_; rintro e w1 ⟨rfl, hb1⟩)
    go_ret
    exact ⟨rfl, by repeat (first | (with_reducible exact Below.refl _ _) | (with_reducible assumption) | (with_reducible refine Below.setCell ?_ (by first | (simp; done) | (simp; omega) | omega) _) | (with_reducible refine Below.alloc ?_ (by first | (simp; done) | (simp; omega) | omega) _) | (refine bl_call ?_ (by assumption) (by first | (simp; done) | (simp; omega) | omega)) | (with_reducible refine bl_drewN ?_) | (with_reducible refine Below.drew ?_) | (with_reducible refine bl_grow ?_ (by first | (simp; done) | (simp; omega) | omega)))⟩
set_option maxRecDepth 100000 in
set_option maxHeartbeats 4000000 in
theorem cpl_many (sa : Option Addr) (n d : Nat) (w : World) (h : 12 < n) (hn : n ≤ 9223372036854775807) : Calls Try.prog 25 #[.slice sa n d] w fun e w' => e = .returned (errOf 4) ∧ Below w.heap.size w w' := by
  have h' : (n : Int) > 12 := by omega
  go_enter Try.func25, Try.ntmps25
  go_wp2_with fail
  go_ret
  exact ⟨rfl, by repeat (first | (with_reducible exact Below.refl _ _) | (with_reducible assumption) | (with_reducible refine Below.setCell ?_ (by first | (simp; done) | (simp; omega) | omega) _) | (with_reducible refine Below.alloc ?_ (by first | (simp; done) | (simp; omega) | omega) _) | (refine bl_call ?_ (by assumption) (by first | (simp; done) | (simp; omega) | omega)) | (with_reducible refine bl_drewN ?_) | (with_reducible refine Below.drew ?_) | (with_reducible refine bl_grow ?_ (by first | (simp; done) | (simp; omega) | omega)))⟩
set_option maxRecDepth 100000 in
set_option maxHeartbeats 4000000 in
theorem cpl_nil (sa : Option Addr) (d : Nat) (w : World) : Calls Try.prog 25 #[.slice sa 0 d] w fun e w' => e = .returned (errOf 5) ∧ Below w.heap.size w w' := by
  go_enter Try.func25, Try.ntmps25
  go_wp2_with fail
  go_ret
  exact ⟨rfl, by repeat (first | (with_reducible exact Below.refl _ _) | (with_reducible assumption) | (with_reducible refine Below.setCell ?_ (by first | (simp; done) | (simp; omega) | omega) _) | (with_reducible refine Below.alloc ?_ (by first | (simp; done) | (simp; omega) | omega) _) | (refine bl_call ?_ (by assumption) (by first | (simp; done) | (simp; omega) | omega)) | (with_reducible refine bl_drewN ?_) | (with_reducible refine Below.drew ?_) | (with_reducible refine bl_grow ?_ (by first | (simp; done) | (simp; omega) | omega)))⟩
theorem ret_val {a b : Value} (h : a = b) : Ending.returned a = .returned b := by rw [h]
set_option maxRecDepth 100000 in
set_option maxHeartbeats 4000000 in
theorem cpl_row (b o n d : Nat) (X : Nat → Int) (v : Value) (w : World) (hn : n ≤ 12) (h0 : 0 < n) (hd : n ≤ d) (hr : RowI w b o n X) (hv : (plE secB X n = 0 ∧ v = .nilIface) ∨ ((plE secB X n == 0) = false ∧ v = errOf (plE secB X n))) :
    Calls Try.prog 25 #[.slice (some ⟨b, o, none⟩) n d] w fun e w' => e = .returned (v) ∧ Below w.heap.size w w' := by
  have HR : Hid (RowI w b o n X) := hr
  have HV : Hid ((plE secB X n = 0 ∧ v = .nilIface) ∨ ((plE secB X n == 0) = false ∧ v = errOf (plE secB X n))) := hv
  have hb := hr.1
  have h1' : ¬ (n : Int) > 12 := by omega
  have h2' : ((n : Int) == 0) = false := by rw [beq_eq_false_iff_ne]; omega
  clear hr hv
  go_enter Try.func25, Try.ntmps25
  go_wp2_with fail
  go_loopw [15] (fun ti wl => ∃ k : Nat, k ≤ n ∧ ti = .int .i64 k ∧ Hid (plE secB X k = 0) ∧ Below w.heap.size w wl) (fun ti _ => n - (intOf ti).toNat)
  case atStart => exact ⟨0, by omega, rfl, rfl, by repeat (first | (with_reducible exact Below.refl _ _) | (with_reducible assumption) | (with_reducible refine Below.setCell ?_ (by first | (simp; done) | (simp; omega) | omega) _) | (with_reducible refine Below.alloc ?_ (by first | (simp; done) | (simp; omega) | omega) _) | (refine bl_call ?_ (by assumption) (by first | (simp; done) | (simp; omega) | omega)) | (with_reducible refine bl_drewN ?_) | (with_reducible refine Below.drew ?_) | (with_reducible refine bl_grow ?_ (by first | (simp; done) | (simp; omega) | omega)))⟩
  case round =>
    obtain ⟨k, hk, rfl, HP, hqV⟩ := hrel
    have hzV := hqV.size
    by_cases hlt : k < n
    · have hlt' : (k : Int) < n := by omega
      have hbV := Nat.lt_of_lt_of_le hb hzV
      have c0 := row_int HR.out hqV hlt
      have HEV : ∀ c : Int, (c == 0) = false → plE secB X (k + 1) = c → v = errOf c := fun c hc h => by
        have e : plE secB X n = c := by rw [pl_stay (k := k + 1) (by rw [h]; exact hc) n (by omega), h]
        rcases HV.out with h | h
        · rw [e] at h; rw [h.1] at hc; cases hc
        · rw [h.2, e]
      have HNO : secB (X k) = false → v = errOf 1 := fun h => HEV 1 rfl (by show (bif plE secB X k == 0 then (bif secB (X k) then _ else 1) else _) = 1; rw [HP.out, h]; rfl)
      by_cases s1 : X k < 1
      · have HQ : Hid (v = errOf 1) := HNO (decide_eq_false fun h => by omega)
        clear HEV HNO
        go_wp2_with fail
        go_ret
        exact ⟨ret_val HQ.out.symm, by repeat (first | (with_reducible exact Below.refl _ _) | (with_reducible assumption) | (with_reducible refine Below.setCell ?_ (by first | (simp; done) | (simp; omega) | omega) _) | (with_reducible refine Below.alloc ?_ (by first | (simp; done) | (simp; omega) | omega) _) | (refine bl_call ?_ (by assumption) (by first | (simp; done) | (simp; omega) | omega)) | (with_reducible refine bl_drewN ?_) | (with_reducible refine Below.drew ?_) | (with_reducible refine bl_grow ?_ (by first | (simp; done) | (simp; omega) | omega)))⟩
      by_cases s2 : X k ≥ 1013
      · have HQ : Hid (v = errOf 1) := HNO (decide_eq_false fun h => by omega)
        clear HEV HNO
        go_wp2_with fail
        go_ret
        exact ⟨ret_val HQ.out.symm, by repeat (first | (with_reducible exact Below.refl _ _) | (with_reducible assumption) | (with_reducible refine Below.setCell ?_ (by first | (simp; done) | (simp; omega) | omega) _) | (with_reducible refine Below.alloc ?_ (by first | (simp; done) | (simp; omega) | omega) _) | (refine bl_call ?_ (by assumption) (by first | (simp; done) | (simp; omega) | omega)) | (with_reducible refine bl_drewN ?_) | (with_reducible refine Below.drew ?_) | (with_reducible refine bl_grow ?_ (by first | (simp; done) | (simp; omega) | omega)))⟩
      have HS : secB (X k) = true := decide_eq_true ⟨by omega, by omega⟩
      have hkd : k ≤ d := by omega
      have hkd' : ¬ (d : Int) < (k : Int) := by omega
      by_cases hcl : ∃ j, j < k ∧ X j = X k
      · have HQ : Hid (v = errOf 7) := HEV 7 rfl (by
          obtain ⟨j, j1, j2⟩ := hcl
          show (bif plE secB X k == 0 then (bif secB (X k) then (bif clsB X k then _ else _) else 1) else _) = 7; rw [HP.out, HS, cls_yes j1 j2]; rfl)
        have HC : Hid (∀ W, Below w.heap.size w W → Calls Try.prog 40 #[.slice (some ⟨b, o, none⟩) k d, .int .i64 (X k)] W fun e w' => e = .returned (.bool true) ∧ Below W.heap.size W w') := fun W hW => hasI b o k d X (X k) true W (by omega) ⟨(HR.out.below hb hW).1, fun i hi => (HR.out.below hb hW).2 i (by omega)⟩ (Or.inr ⟨rfl, hcl⟩)
        clear HEV HNO HS hcl
        go_wp2_with (go_at_call 40; refine (HC.out _ (by repeat (first | (with_reducible exact Below.refl _ _) | (with_reducible assumption) | (with_reducible refine Below.setCell ?_ (by first | (simp; done) | (simp; omega) | omega) _) | (with_reducible refine Below.alloc ?_ (by first | (simp; done) | (simp; omega) | omega) _) | (refine bl_call ?_ (by assumption) (by first | (simp; done) | (simp; omega) | omega)) | (with_reducible refine bl_drewN ?_) | (with_reducible refine Below.drew ?_) | (with_reducible refine bl_grow ?_ (by first | (simp; done) | (simp; omega) | omega))))).mono ?_; rintro e w1 ⟨rfl, hb1⟩)
        go_ret
        exact ⟨ret_val HQ.out.symm, by repeat (first | (with_reducible exact Below.refl _ _) | (with_reducible assumption) | (with_reducible refine Below.setCell ?_ (by first | (simp; done) | (simp; omega) | omega) _) | (with_reducible refine Below.alloc ?_ (by first | (simp; done) | (simp; omega) | omega) _) | (refine bl_call ?_ (by assumption) (by first | (simp; done) | (simp; omega) | omega)) | (with_reducible refine bl_drewN ?_) | (with_reducible refine Below.drew ?_) | (with_reducible refine bl_grow ?_ (by first | (simp; done) | (simp; omega) | omega)))⟩
      · have hcl' : ∀ j, j < k → X j ≠ X k := fun j hj h => hcl ⟨j, hj, h⟩
        have HQ : Hid (plE secB X (k + 1) = 0) := by
          unfold Hid
          show (bif plE secB X k == 0 then (bif secB (X k) then (bif clsB X k then _ else _) else 1) else _) = 0
          rw [HP.out, HS, cls_no hcl']; rfl
        have HC : Hid (∀ W, Below w.heap.size w W → Calls Try.prog 40 #[.slice (some ⟨b, o, none⟩) k d, .int .i64 (X k)] W fun e w' => e = .returned (.bool false) ∧ Below W.heap.size W w') := fun W hW => hasI b o k d X (X k) false W (by omega) ⟨(HR.out.below hb hW).1, fun i hi => (HR.out.below hb hW).2 i (by omega)⟩ (Or.inl ⟨rfl, hcl'⟩)
        clear HEV HNO HS hcl hcl'
        go_wp2_with (go_at_call 40; refine (HC.out _ (by repeat (first | (with_reducible exact Below.refl _ _) | (with_reducible assumption) | (with_reducible refine Below.setCell ?_ (by first | (simp; done) | (simp; omega) | omega) _) | (with_reducible refine Below.alloc ?_ (by first | (simp; done) | (simp; omega) | omega) _) | (refine bl_call ?_ (by assumption) (by first | (simp; done) | (simp; omega) | omega)) | (with_reducible refine bl_drewN ?_) | (with_reducible refine Below.drew ?_) | (with_reducible refine bl_grow ?_ (by first | (simp; done) | (simp; omega) | omega))))).mono ?_; rintro e w1 ⟨rfl, hb1⟩)
        go_roundw
        case rel => exact ⟨k + 1, by omega, by simp, HQ, by repeat (first | (with_reducible exact Below.refl _ _) | (with_reducible assumption) | (with_reducible refine Below.setCell ?_ (by first | (simp; done) | (simp; omega) | omega) _) | (with_reducible refine Below.alloc ?_ (by first | (simp; done) | (simp; omega) | omega) _) | (refine bl_call ?_ (by assumption) (by first | (simp; done) | (simp; omega) | omega)) | (with_reducible refine bl_drewN ?_) | (with_reducible refine Below.drew ?_) | (with_reducible refine bl_grow ?_ (by first | (simp; done) | (simp; omega) | omega)))⟩
        case measure => simp [intOf]; omega
    · have hlt' : ¬ (k : Int) < n := by omega
      have HQ : Hid (v = .nilIface) := by
        unfold Hid
        have hkn : k = n := by omega
        have := HP.out
        rw [hkn] at this
        rcases HV.out with h | h
        · exact h.2
        · rw [this] at h; cases h.1
      go_wp2_with fail
      go_ret
      exact ⟨ret_val HQ.out.symm, by repeat (first | (with_reducible exact Below.refl _ _) | (with_reducible assumption) | (with_reducible refine Below.setCell ?_ (by first | (simp; done) | (simp; omega) | omega) _) | (with_reducible refine Below.alloc ?_ (by first | (simp; done) | (simp; omega) | omega) _) | (refine bl_call ?_ (by assumption) (by first | (simp; done) | (simp; omega) | omega)) | (with_reducible refine bl_drewN ?_) | (with_reducible refine Below.drew ?_) | (with_reducible refine bl_grow ?_ (by first | (simp; done) | (simp; omega) | omega)))⟩
theorem pwq_val (a : QF) : ∀ n, (pwq a n).val = qpw a.val n
  | 0 => rfl
  | n + 1 => by
    show (pwq a n * a).val = _
    rw [Fin.val_mul, pwq_val a n]
    unfold qpw
    rw [Nat.pow_succ, Nat.mod_mul_mod]
theorem pwq_iv (a : QF) : pwq a 1011 = ivq a := by
  apply Fin.ext
  rw [pwq_val]
  unfold ivq
  exact (Nat.mod_eq_of_lt (qpw_lt _ _)).symm
set_option maxRecDepth 100000 in
set_option maxHeartbeats 4000000 in
theorem inv_q (q : QF) (w : World) : Calls Try.prog 41 #[.int .i64 (vI q)] w fun e w' => e = .returned (.int .i64 (vI (ivq q))) ∧ Below w.heap.size w w' := by
  have HI : Hid (∀ k : Nat, k = 1011 → vI (pwq q k) = vI (ivq q)) := fun k h => by rw [h, pwq_iv]
  have q0 := vI_lo q
  have q1 := vI_hi q
  go_enter Try.func41, Try.ntmps41
  go_wp2_with fail
  go_loopw [3, 4] (fun tp ti wl => ∃ k : Nat, k ≤ 1011 ∧ ti = .int .i64 k ∧ tp = .int .i64 (vI (pwq q k)) ∧ Below w.heap.size w wl) (fun _ ti _ => 1011 - (intOf ti).toNat)
  case atStart => exact ⟨0, by omega, rfl, rfl, by repeat (first | (with_reducible exact Below.refl _ _) | (with_reducible assumption) | (with_reducible refine Below.setCell ?_ (by first | (simp; done) | (simp; omega) | omega) _) | (with_reducible refine Below.alloc ?_ (by first | (simp; done) | (simp; omega) | omega) _) | (refine bl_call ?_ (by assumption) (by first | (simp; done) | (simp; omega) | omega)) | (with_reducible refine bl_drewN ?_) | (with_reducible refine Below.drew ?_) | (with_reducible refine bl_grow ?_ (by first | (simp; done) | (simp; omega) | omega)))⟩
  case round =>
    obtain ⟨k, hk, rfl, rfl, hqV⟩ := hrel
    by_cases hlt : k < 1011
    · have hlt' : (k : Int) < 1011 := by omega
      obtain ⟨p, hp⟩ : ∃ p, pwq q k = p := ⟨_, rfl⟩
      have E : Hid ((vI p * vI q) % 1013 = vI (pwq q (k + 1))) := by
        unfold Hid
        show _ = vI (pwq q k * q)
        rw [vI_mulv, hp]
      rw [hp]
      clear hp
      obtain ⟨r0, r1⟩ := vI_bd p q0 q1
      go_wp2_with fail
      go_roundw
      case rel => exact ⟨k + 1, by omega, by simp, by rw [← E.out], by repeat (first | (with_reducible exact Below.refl _ _) | (with_reducible assumption) | (with_reducible refine Below.setCell ?_ (by first | (simp; done) | (simp; omega) | omega) _) | (with_reducible refine Below.alloc ?_ (by first | (simp; done) | (simp; omega) | omega) _) | (refine bl_call ?_ (by assumption) (by first | (simp; done) | (simp; omega) | omega)) | (with_reducible refine bl_drewN ?_) | (with_reducible refine Below.drew ?_) | (with_reducible refine bl_grow ?_ (by first | (simp; done) | (simp; omega) | omega)))⟩
      case measure => simp [intOf]; omega
    · have hlt' : ¬ (k : Int) < 1011 := by omega
      go_wp2_with fail
      go_ret
      exact ⟨ret_int (HI.out k (by omega)), by repeat (first | (with_reducible exact Below.refl _ _) | (with_reducible assumption) | (with_reducible refine Below.setCell ?_ (by first | (simp; done) | (simp; omega) | omega) _) | (with_reducible refine Below.alloc ?_ (by first | (simp; done) | (simp; omega) | omega) _) | (refine bl_call ?_ (by assumption) (by first | (simp; done) | (simp; omega) | omega)) | (with_reducible refine bl_drewN ?_) | (with_reducible refine Below.drew ?_) | (with_reducible refine bl_grow ?_ (by first | (simp; done) | (simp; omega) | omega)))⟩
theorem vI_bd2 (a : QF) {n : Int} (h0 : 0 ≤ n) (h1 : n < 2026) : 0 ≤ vI a * n ∧ vI a * n ≤ 2100000 := by
  have h2 := vI_lo a
  have h3 := vI_hi a
  have h4 : vI a * n ≤ 1013 * 2026 := Int.mul_le_mul (by omega) (by omega) h0 (by omega)
  exact ⟨Int.mul_nonneg h2 h0, by omega⟩
set_option maxRecDepth 100000 in
set_option maxHeartbeats 4000000 in
theorem weight_at (b o n d i : Nat) (X : Nat → Int) (w : World) (hn : n ≤ 12) (hi : i < n) (hr : RowI w b o n X) (hx : ∀ i, i < n → 1 ≤ X i ∧ X i < 1013) (hd : Dist (xq X) n) :
    Calls Try.prog 26 #[.slice (some ⟨b, o, none⟩) n d, .int .i64 (X i)] w fun e w' => e = .returned (.int .i64 (vI (wtq (xq X) n i))) ∧ Below w.heap.size w w' := by
  have HR : Hid (RowI w b o n X) := hr
  have HX : Hid (∀ i, i < n → 1 ≤ X i ∧ X i < 1013) := hx
  have HD : Hid (Dist (xq X) n) := hd
  have hb := hr.1
  obtain ⟨z0, z1⟩ := hx i hi
  clear hr hx hd
  go_enter Try.func26, Try.ntmps26
  go_wp2_with fail
  go_loopw [5, 6, 11] (fun tu td tk wl => ∃ k : Nat, k ≤ n ∧ tk = .int .i64 k ∧ tu = .int .i64 (vI (upq (xq X) k i)) ∧ td = .int .i64 (vI (pr (xq X) k i)) ∧ Below w.heap.size w wl) (fun _ _ tk _ => n - (intOf tk).toNat)
  case atStart => exact ⟨0, by omega, rfl, rfl, rfl, by repeat (first | (with_reducible exact Below.refl _ _) | (with_reducible assumption) | (with_reducible refine Below.setCell ?_ (by first | (simp; done) | (simp; omega) | omega) _) | (with_reducible refine Below.alloc ?_ (by first | (simp; done) | (simp; omega) | omega) _) | (refine bl_call ?_ (by assumption) (by first | (simp; done) | (simp; omega) | omega)) | (with_reducible refine bl_drewN ?_) | (with_reducible refine Below.drew ?_) | (with_reducible refine bl_grow ?_ (by first | (simp; done) | (simp; omega) | omega)))⟩
  case round =>
    obtain ⟨k, hk, rfl, rfl, rfl, hqV⟩ := hrel
    have hzV := hqV.size
    have hbV := Nat.lt_of_lt_of_le hb hzV
    obtain ⟨p, hp⟩ : ∃ p, upq (xq X) k i = p := ⟨_, rfl⟩
    obtain ⟨q, hq⟩ : ∃ q, pr (xq X) k i = q := ⟨_, rfl⟩
    have HP : Hid (upq (xq X) k i = p) := hp
    have HQ : Hid (pr (xq X) k i = q) := hq
    rw [hp, hq]
    clear hp hq
    have p0 := vI_lo p
    have p1 := vI_hi p
    have q0 := vI_lo q
    have q1 := vI_hi q
    by_cases hlk : k < n
    · have hlk' : (k : Int) < n := by omega
      have c0 := row_int HR.out hqV hlk
      obtain ⟨x0, x1⟩ := HX.out k hlk
      by_cases hki : k = i
      · have hne : (X k != X i) = false := by rw [hki]; simp
        have HKI : Hid (k = i) := hki
        clear hki
        go_wp2_with fail
        go_roundw
        case rel => exact ⟨k + 1, by omega, by simp, (by rw [← HP.out, HKI.out, up_skip]), (by rw [← HQ.out, HKI.out, pr_skip]), by repeat (first | (with_reducible exact Below.refl _ _) | (with_reducible assumption) | (with_reducible refine Below.setCell ?_ (by first | (simp; done) | (simp; omega) | omega) _) | (with_reducible refine Below.alloc ?_ (by first | (simp; done) | (simp; omega) | omega) _) | (refine bl_call ?_ (by assumption) (by first | (simp; done) | (simp; omega) | omega)) | (with_reducible refine bl_drewN ?_) | (with_reducible refine Below.drew ?_) | (with_reducible refine bl_grow ?_ (by first | (simp; done) | (simp; omega) | omega)))⟩
        case measure => simp [intOf]; omega
      · have hne : (X k != X i) = true := by
          rw [bne_iff_ne]
          intro h
          exact hki (HD.out k i hlk hi (by unfold xq; rw [h]))
        have HKI : Hid (k ≠ i) := hki
        clear hki
        have E1 : Hid ((vI p * X k) % 1013 = vI (upq (xq X) (k + 1) i)) := by unfold Hid; rw [up_more _ HKI.out, vI_mul, HP.out]; rfl
        have E2 : Hid ((vI q * (X k - X i + 1013)) % 1013 = vI (pr (xq X) (k + 1) i)) := by
          unfold Hid
          rw [pr_more _ HKI.out, vI_mul, HQ.out, show zq (X k - X i + 1013) = zq (X k - X i) from zq_eq (by omega), zq_sub]; rfl
        obtain ⟨b1, b2⟩ := vI_bd p (n := X k) (by omega) x1
        obtain ⟨b3, b4⟩ := vI_bd2 q (n := X k - X i + 1013) (by omega) (by omega)
        go_wp2_with fail
        go_roundw
        case rel => exact ⟨k + 1, by omega, by simp, (by rw [← E1.out]), (by rw [← E2.out]), by repeat (first | (with_reducible exact Below.refl _ _) | (with_reducible assumption) | (with_reducible refine Below.setCell ?_ (by first | (simp; done) | (simp; omega) | omega) _) | (with_reducible refine Below.alloc ?_ (by first | (simp; done) | (simp; omega) | omega) _) | (refine bl_call ?_ (by assumption) (by first | (simp; done) | (simp; omega) | omega)) | (with_reducible refine bl_drewN ?_) | (with_reducible refine Below.drew ?_) | (with_reducible refine bl_grow ?_ (by first | (simp; done) | (simp; omega) | omega)))⟩
        case measure => simp [intOf]; omega
    · have hlk' : ¬ (k : Int) < n := by omega
      have EW : Hid ((vI p * vI (ivq q)) % 1013 = vI (wtq (xq X) n i)) := by
        unfold Hid wtq
        have hkn : k = n := by omega
        rw [vI_mulv, ← hkn, HP.out, HQ.out]
      obtain ⟨b1, b2⟩ := vI_bd p (vI_lo (ivq q)) (vI_hi (ivq q))
      go_wp2_with (go_at_call 41; refine (inv_q _ _).mono ?_; rintro e w1 ⟨rfl, hb1⟩)
      go_ret
      exact ⟨ret_int EW.out, by repeat (first | (with_reducible exact Below.refl _ _) | (with_reducible assumption) | (with_reducible refine Below.setCell ?_ (by first | (simp; done) | (simp; omega) | omega) _) | (with_reducible refine Below.alloc ?_ (by first | (simp; done) | (simp; omega) | omega) _) | (refine bl_call ?_ (by assumption) (by first | (simp; done) | (simp; omega) | omega)) | (with_reducible refine bl_drewN ?_) | (with_reducible refine Below.drew ?_) | (with_reducible refine bl_grow ?_ (by first | (simp; done) | (simp; omega) | omega)))⟩
theorem int_at {w : World} {s : Nat} (x : Value) (t : TypeId) (h : w.heap.size = s) : ∀ j u, [x][j]? = some u → (w.alloc (.cells #[x] t)).cell? ((⟨s, 0, none⟩ : Addr).add j) = some u := by subst h; exact cell_one_new w x t
theorem two_at {w : World} {s : Nat} (x y : Value) (t : TypeId) (h : w.heap.size = s) : ∀ j u, [x, y][j]? = some u → (w.alloc (.cells #[x, y] t)).cell? ((⟨s, 0, none⟩ : Addr).add j) = some u := by
  subst h
  intro j u hj
  rw [addr_add]
  match j, hj with
  | 0, hj => simp at hj; subst hj; simp
  | 1, hj => simp at hj; subst hj; simp
set_option maxRecDepth 100000 in
set_option maxHeartbeats 4000000 in
theorem places_of (sa : Option Addr) (n d : Nat) (X Y : Nat → Int) (w : World) (hn : n ≤ 12) (hr : n = 0 ∨ ∃ b o : Nat, sa = some ⟨b, o, none⟩ ∧ RowP w b o n X Y) :
    Calls Try.prog 22 #[.slice sa n d] w fun e w' => ∃ v, e = .returned v ∧ w'.ownsRow w.heap.size 3 1 v n (cellsI X n) ∧ Below w.heap.size w w' := by
  have HR : Hid (n = 0 ∨ ∃ b o : Nat, sa = some ⟨b, o, none⟩ ∧ RowP w b o n X Y) := hr
  clear hr
  obtain ⟨i0, hi, hv0, hv1, hv2⟩ := info_parts iinfo
  go_enter Try.func22, Try.ntmps22
  go_wp2_with (at_make; refine wpList_make_own _ rfl _ _ 22 rfl w.heap.size 3 i0 (.int .i64 0) 1 Try.underlying22 hi hv0 hv1 _ _ _ n rfl rfl rfl ?b2 ?b3 ?b4 ?_)
  case b2 => rw [hv2]; omega
  case b3 => unfold maxLen; omega
  case b4 => exact Nat.le_refl _
  intro w1 hown0 hgrow
  have hq1 : Below w.heap.size w w1 := (Below.refl _ _).grown hgrow (Nat.le_refl _) (fun k hk => by cases hk)
  clear hgrow
  go_wp2_with fail
  go_loopw [3, 11] (fun tv ti wl => ∃ i : Nat, i ≤ n ∧ ti = .int .i64 i ∧ wl.ownsRow w.heap.size 3 1 tv i (cellsI X i) ∧ Below w.heap.size w wl) (fun _ ti _ => n - (intOf ti).toNat)
  case atStart => exact ⟨0, by omega, rfl, hown0, by repeat (first | (with_reducible exact Below.refl _ _) | (with_reducible assumption) | (with_reducible refine Below.setCell ?_ (by first | (simp; done) | (simp; omega) | omega) _) | (with_reducible refine Below.alloc ?_ (by first | (simp; done) | (simp; omega) | omega) _) | (refine bl_call ?_ (by assumption) (by first | (simp; done) | (simp; omega) | omega)) | (with_reducible refine bl_drewN ?_) | (with_reducible refine Below.drew ?_) | (with_reducible refine bl_grow ?_ (by first | (simp; done) | (simp; omega) | omega)))⟩
  case round =>
    clear hown0
    obtain ⟨i, hin, rfl, hown, hqV⟩ := hrel
    rename World => wV
    have hzV := hqV.size
    by_cases hlt : i < n
    · have hlt' : (i : Int) < n := by omega
      obtain ⟨b, o, rfl, hr⟩ := HR.out.resolve_left (by omega)
      have hbV := Nat.lt_of_lt_of_le hr.1 hzV
      obtain ⟨c0, c1⟩ := (hr.below hr.1 hqV).2 i hlt
      clear hr
      go_wp2_with (at_builtin; refine wpList_append_own_at _ rfl _ _ 22 rfl w.heap.size 3 i0 (.int .i64 0) 1 8 Try.underlying22 hi hv0 hv1 hv2 rfl (by decide) _ _ _ rfl (own_stay hown (by repeat (first | (with_reducible exact Below.refl _ _) | (with_reducible assumption) | (with_reducible refine Below.setCell ?_ (by first | (simp; done) | (simp; omega) | omega) _) | (with_reducible refine Below.alloc ?_ (by first | (simp; done) | (simp; omega) | omega) _) | (refine bl_call ?_ (by assumption) (by first | (simp; done) | (simp; omega) | omega)) | (with_reducible refine bl_drewN ?_) | (with_reducible refine Below.drew ?_) | (with_reducible refine bl_grow ?_ (by first | (simp; done) | (simp; omega) | omega))))) ⟨wV.heap.size + 1, 0, none⟩ 1 1 [.int .i64 (X i)] rfl rfl ?c1 ?c2 ?c3 ?c4 ?c5 ?_)
      case c1 => exact int_at _ _ (by simp)
      case c2 => intro u hu; simp at hu; subst hu; rfl
      case c3 => unfold maxLen; omega
      case c4 => omega
      case c5 => simp; omega
      · intro v' w13 hown' hgrow _ hat
        have hq13 : Below w.heap.size w w13 := grown_under (B := w.heap.size) (by repeat (first | (with_reducible exact Below.refl _ _) | (with_reducible assumption) | (with_reducible refine Below.setCell ?_ (by first | (simp; done) | (simp; omega) | omega) _) | (with_reducible refine Below.alloc ?_ (by first | (simp; done) | (simp; omega) | omega) _) | (refine bl_call ?_ (by assumption) (by first | (simp; done) | (simp; omega) | omega)) | (with_reducible refine bl_drewN ?_) | (with_reducible refine Below.drew ?_) | (with_reducible refine bl_grow ?_ (by first | (simp; done) | (simp; omega) | omega)))) (own_stay hown (by repeat (first | (with_reducible exact Below.refl _ _) | (with_reducible assumption) | (with_reducible refine Below.setCell ?_ (by first | (simp; done) | (simp; omega) | omega) _) | (with_reducible refine Below.alloc ?_ (by first | (simp; done) | (simp; omega) | omega) _) | (refine bl_call ?_ (by assumption) (by first | (simp; done) | (simp; omega) | omega)) | (with_reducible refine bl_drewN ?_) | (with_reducible refine Below.drew ?_) | (with_reducible refine bl_grow ?_ (by first | (simp; done) | (simp; omega) | omega))))) hgrow (by simp; omega) (Nat.le_refl _)
        rw [← cellsI_succ] at hown'
        clear hgrow hat hown
        go_wp2_with fail
        go_roundw
        case rel => exact ⟨i + 1, by omega, by simp, hown', hq13⟩
        case measure => simp [intOf]; omega
    · have hlt' : ¬ (i : Int) < n := by omega
      obtain rfl : i = n := by omega
      go_wp2_with fail
      go_ret
      exact ⟨_, rfl, hown, by repeat (first | (with_reducible exact Below.refl _ _) | (with_reducible assumption) | (with_reducible refine Below.setCell ?_ (by first | (simp; done) | (simp; omega) | omega) _) | (with_reducible refine Below.alloc ?_ (by first | (simp; done) | (simp; omega) | omega) _) | (refine bl_call ?_ (by assumption) (by first | (simp; done) | (simp; omega) | omega)) | (with_reducible refine bl_drewN ?_) | (with_reducible refine Below.drew ?_) | (with_reducible refine bl_grow ?_ (by first | (simp; done) | (simp; omega) | omega)))⟩
end Go.Proofs.Ytkhpmnehjifdcaf
/- ShareVal -/
namespace Go.Proofs.Ytkhpmnehjifdcaf
open Go.RowKit Go.Shelf
set_option linter.unusedVariables false
set_option linter.unusedSimpArgs false
attribute [local go_sem] Oper.semAt_some
/-- From the last coefficient to the first: what has been reckoned behind so many. -/
def hoL (x : QF) : List (Nat × QF) → QF := List.foldl (fun s p => s * x + p.2) 0
theorem hoL_snoc (x : QF) (l : List (Nat × QF)) (p : Nat × QF) : hoL x (l ++ [p]) = hoL x l * x + p.2 := by unfold hoL; rw [List.foldl_append]; rfl
/-- What comes of so many, from the last on. -/
def upB (K : Nat → QF) (m k : Nat) : List (Nat × QF) := (List.range k).map fun j => (m - 1 - j, K (m - 1 - j))
theorem upB_succ (K : Nat → QF) (m k : Nat) : upB K m (k + 1) = upB K m k ++ [(m - 1 - k, K (m - 1 - k))] := by simp [upB, List.range_succ]
theorem upB_length (K : Nat → QF) (m k : Nat) : (upB K m k).length = k := by simp [upB]
theorem ho_part (K : Nat → QF) (x : QF) (m : Nat) : ∀ k j, k + j = m → vlq K x m = vlq K x j + pwq x j * hoL x (upB K m k)
  | 0, j, h => by
    obtain rfl : j = m := by omega
    show _ = vlq K x j + pwq x j * 0
    grind
  | k + 1, j, h => by
    rw [ho_part K x m k (j + 1) (by omega), upB_succ, hoL_snoc, show m - 1 - k = j by omega]
    show vlq K x j + K j * pwq x j + pwq x j * x * hoL x (upB K m k) = _
    grind
theorem ho_all (K : Nat → QF) (x : QF) (m : Nat) : hoL x (upB K m m) = vlq K x m := by
  have := ho_part K x m m 0 (by omega)
  rw [this]
  show _ = 0 + 1 * _
  grind
theorem cell_other {W : World} {a b : Addr} {u v : Value} (h : W.cell? b = some v) (hne : a ≠ b) : (W.setCell a u).cell? b = some v := by
  rw [World.cell?_setCell_other _ _ _ _ hne]; exact h
/-- What a round keeps: what lay below, and the box of what is gone over. -/
def KpB (n₀ Bs : Nat) (W W' : World) : Prop := Below n₀ W W' ∧ ∀ v, W.cell? ⟨Bs, 0, none⟩ = some v → W'.cell? ⟨Bs, 0, none⟩ = some v
theorem KpB.t {n₀ Bs : Nat} {A B C : World} (h : KpB n₀ Bs A B) (k : KpB n₀ Bs B C) : KpB n₀ Bs A C := ⟨h.1.trans k.1, fun v hv => k.2 v (h.2 v hv)⟩
theorem KpB.b {n₀ Bs : Nat} {w : World} (hn : n₀ ≤ w.heap.size) (W : World) (l : Nat) (o o' : Obj) (hl : w.heap.size ≤ l) (h : W.heap[l]? = some o) (h1 : o.isCells = false) (h2 : o.isWalk = false) : KpB n₀ Bs W (W.putObj l o') :=
  ⟨belowK_b hn W l o o' hl h h1 h2, fun v hv => cell_kept hv (grownBy_putObj' W l o') (fun r e => by cases e; exact ⟨_, h, h1⟩)⟩
set_option maxRecDepth 100000 in
set_option maxHeartbeats 2000000 in
theorem back1_in (F : Fence) (n : Nat) (hf : F.fn 47) (hro : F.round = none) (hn : 1 ≤ n) (l Bs n₀ b o m d : Nat) (K : Nat → QF) (hm : m ≤ 12) (hb : b < n₀) (J Jx : List (Nat × QF) → World → Prop)
    (hY : ∀ pre x W, J pre W → pre.length < m → YieldAt F (n - 1) Try.prog l #[.int .i64 (x.1 : Int), .int .i64 (vI x.2)] W fun e W' =>
      (e = .returned (.bool true) ∧ J (pre ++ [x]) W' ∧ KpB n₀ Bs W W') ∨ (e = .returned (.bool false) ∧ Jx (pre ++ [x]) W'))
    (W : World) (hBs : W.cell? ⟨Bs, 0, none⟩ = some (.slice (some ⟨b, o, none⟩) m d)) (hc : ∀ j, j < m → W.cell? ⟨b, o + j, none⟩ = some (.int .i64 (vI (K j)))) (h0 : J [] W) :
    CallsIn F n Try.prog 47 #[.func (.yield l) #[] #[], .pointer (some ⟨Bs, 0, none⟩)] W fun e W' => (∃ v, e = .returned v) ∧
      ((∃ ys, ys = upB K m m ∧ J ys W') ∨ (∃ pre, (∃ k, k ≤ m ∧ pre = upB K m k) ∧ Jx pre W')) := by
  refine callsIn_of_wp Try.func47 rfl hf ?_ hro
  simp only [Try.ntmps47, List.size_toArray, List.length_cons, List.length_nil, Nat.reduceAdd, Nat.reduceSub, Array.replicate_succ, Array.replicate_zero, List.push_toArray, List.append_toArray, List.nil_append, List.cons_append]
  gi_wp2
  gi_loopw [3] (fun i wr => ∃ j k : Nat, k + j = m ∧ i = .int .i64 ((j : Int) - 1) ∧ J (upB K m k) wr ∧ wr.cell? ⟨Bs, 0, none⟩ = some (.slice (some ⟨b, o, none⟩) m d) ∧ Below n₀ W wr)
    (fun i _ => (intOf i + 1).toNat)
  case atStart => exact ⟨m, 0, by omega, rfl, h0, hBs, Below.refl _ _⟩
  case round =>
    obtain ⟨j, k, hk, rfl, hJs, hBx, hnx⟩ := hrel
    cases j with
    | zero =>
      obtain rfl : k = m := by omega
      have e : ((0 : Nat) : Int) - 1 = -1 := rfl
      rw [e]
      gi_wp2
      go_end0
      exact ⟨⟨_, rfl⟩, .inl ⟨_, rfl, hJs⟩⟩
    | succ j =>
      have e : ((j + 1 : Nat) : Int) - 1 = (j : Int) := by omega
      rw [e]
      have hj : j < m := by omega
      have hj0 : (j : Int) ≥ 0 := by omega
      have hcx : wr.cell? ⟨b, o + j, none⟩ = some (.int .i64 (vI (K j))) := (hnx.cell (p := ⟨b, o + j, none⟩) hb).trans (hc j hj)
      have HU : upB K m (k + 1) = upB K m k ++ [(j, K j)] := by rw [upB_succ, show m - 1 - k = j by omega]
      obtain ⟨fn, tmps, assign, body, hy, hR⟩ := hY _ (j, K j) wr hJs (by rw [upB_length]; omega)
      dsimp only at hy
      gi_wp2
      refine hR.mono ?_
      rintro e W3 (⟨rfl, hJ3, hk3⟩ | ⟨rfl, hJx3⟩)
      · have hBx3 := hk3.2 _ hBx
        gi_wp2
        go_roundw
        case rel => exact ⟨j, k + 1, by omega, rfl, by rw [HU]; exact hJ3, hBx3, hnx.trans hk3.1⟩
        case measure => simp [intOf]
      · gi_wp2
        refine bodyPost_ret (results_none rfl _ _ _) rfl ?_
        exact ⟨⟨_, rfl⟩, .inr ⟨_, ⟨k + 1, by omega, HU.symm⟩, hJx3⟩⟩
set_option maxHeartbeats 1000000 in
theorem back_in (F : Fence) (n : Nat) (hf : F.fn 38) (hro : F.round = none) (a : Option Addr) (len cap : Nat) (w : World) :
    CallsIn F n Try.prog 38 #[.slice a len cap] w fun e w' => e = .returned (.func (.func 47) #[] #[.pointer (some ⟨w.heap.size, 0, none⟩)]) ∧ w' = w.alloc (.cells #[.slice a len cap] 22) := by
  refine callsIn_of_wp Try.func38 rfl hf ?_ hro
  simp only [Try.ntmps38, List.size_toArray, List.length_cons, List.length_nil, Nat.reduceAdd, Nat.reduceSub, Array.replicate_succ, Array.replicate_zero, List.push_toArray, List.append_toArray, List.nil_append, List.cons_append]
  gi_wp2
  go_ret
  exact ⟨rfl, rfl⟩
theorem back_stops (F : Fence) (n : Nat) (hf : F.fn 47) (hro : F.round = none) (hn : 1 ≤ n) (Bs n₀ b o m d : Nat) (K : Nat → QF) (hm : m ≤ 12) (hb : b < n₀) (w : World) (hBs : Bs < w.heap.size) (hn₀ : n₀ ≤ w.heap.size)
    (hc : w.cell? ⟨Bs, 0, none⟩ = some (.slice (some ⟨b, o, none⟩) m d)) (hI : ∀ j, j < m → w.cell? ⟨b, o + j, none⟩ = some (.int .i64 (vI (K j)))) :
    SeqStopsK F n Try.prog 47 #[.pointer (some ⟨Bs, 0, none⟩)] (fun x : Nat × QF => #[Value.int .i64 (x.1 : Int), Value.int .i64 (vI x.2)]) (KpB n₀ Bs) (fun ys => ys = upB K m m)
      (fun pre => ∃ k, k ≤ m ∧ pre = upB K m k) m w := fun l J Jx W hW _ _ hY h0 =>
  back1_in F n hf hro hn l Bs n₀ b o m d K hm hb J Jx hY W ((hW.cell (p := ⟨Bs, 0, none⟩) hBs).trans hc) (fun j hj => (hW.cell (p := ⟨b, o + j, none⟩) (Nat.lt_of_lt_of_le hb hn₀)).trans (hI j hj)) h0
set_option maxRecDepth 100000 in
set_option maxHeartbeats 2000000 in
theorem value_in (F : Fence) (n : Nat) (h3 : F.fn 21) (h5 : F.fn 38) (h7 : F.fn 47) (hro : F.round = none) (hn : 3 ≤ n) (b o m d : Nat) (K : Nat → QF) (x : Int) (hm : m ≤ 12) (x0 : 0 ≤ x) (x1 : x < 1013) (w : World) (hr : RowI w b o m (fun i => vI (K i))) :
    CallsIn F n Try.prog 21 #[.slice (some ⟨b, o, none⟩) m d, .int .i64 x] w fun e W' => e = .returned (.int .i64 (vI (vlq K (zq x) m))) ∧ Below w.heap.size w W' := by
  have h1 : 1 ≤ n := by omega
  have HR : Hid (RowI w b o m (fun i => vI (K i))) := hr
  clear hr
  refine callsIn_of_wp_marks Try.func21 rfl h3 ?_ hro
  simp only [Try.ntmps21, List.size_toArray, List.length_cons, List.length_nil, Nat.reduceAdd, Nat.reduceSub, Array.replicate_succ, Array.replicate_zero, List.push_toArray, List.append_toArray, List.nil_append, List.cons_append]
  gi_wp2_with (gi_at_call 38; refine (back_in F (n - 1) h5 hro _ _ _ _).mono ?_; rintro e w' ⟨rfl, rfl⟩)
  have bX := Boxed.new w 3 (.int .i64 x)
  have bS := Boxed.new (w.alloc (.cells #[.int .i64 x] 3)) 3 (.int .i64 0)
  have bN := Boxed.new ((w.alloc (.cells #[.int .i64 x] 3)).alloc (.cells #[.int .i64 0] 3)) 22 (.slice (some ⟨b, o, none⟩) m d)
  rw [World.size_alloc] at bS
  rw [World.size_alloc, World.size_alloc] at bN
  have hB0 : Below w.heap.size w (((w.alloc (.cells #[.int .i64 x] 3)).alloc (.cells #[.int .i64 0] 3)).alloc (.cells #[.slice (some ⟨b, o, none⟩) m d] 22)) := (((Below.refl _ w).alloc (Nat.le_refl _) _).alloc (by simp) _).alloc (by simp; omega) _
  refine wpIn_rangeFunc_ownG hro h1 (gf := 47) (lb := #[.pointer (some ⟨w.heap.size + 1 + 1, 0, none⟩)]) rfl h7 (enters_of Try.func47 (by kernel_rfl) rfl)
    (back_stops F (n - 1) h7 hro (by omega) (w.heap.size + 1 + 1) w.heap.size b o m d K hm HR.out.1 _ (by simp) (by simp; omega) bN.cell (fun j hj => (hB0.cell (p := ⟨b, o + j, none⟩) HR.out.1).trans (HR.out.2 j hj))) KpB.t (KpB.b (by simp; omega)) (Below.refl _ _) (fun _ => rfl)
    (fun pre W => (W.cell? ⟨w.heap.size + 1, 0, none⟩ = some (.int .i64 (vI (hoL (zq x) pre))) ∧ W.frozen? ⟨w.heap.size + 1, 0, none⟩ = false ∧ W.cell? ⟨w.heap.size, 0, none⟩ = some (.int .i64 x)) ∧ Below w.heap.size w W)
    (fun _ _ _ => False)
    (OwnFrom.and (Own.from (fun s A B row hs hg hr => ⟨cell_kept hs.1 hg hr, (frozen_kept hs.1 hg hr).trans hs.2.1, cell_kept hs.2.2 hg hr⟩) _) (ownFrom_below (Nat.le_refl _) (by simp; omega)))
    (fun _ _ _ _ _ hs _ _ => hs)
    ⟨⟨(bS.alloc _).cell, (bS.alloc _).frozen, ((bX.alloc _).alloc _).cell⟩, hB0⟩
    (fun y => { tmps := #[.slice (some ⟨b, o, none⟩) m d, .int .i64 x, undef, .pointer (some ⟨w.heap.size, 0, none⟩), .int .i64 0, .pointer (some ⟨w.heap.size + 1, 0, none⟩), undef, .int .i64 (vI y.2), .slice (some ⟨b, o, none⟩) m d, .func (.func 47) #[] #[.pointer (some ⟨w.heap.size + 1 + 1, 0, none⟩)], .int .i64 (y.1 : Int), .int .i64 (vI y.2), undef, undef, undef, undef, undef, undef, undef], defers := [] }) ?assign ?body ?done ?stop
  case assign =>
    intro l x W K hK
    gi_wp2
    exact hK
  case body =>
    rintro l pre y W ⟨⟨hc, hf, hx⟩, hB⟩ _
    obtain ⟨s, hs⟩ : ∃ s, hoL (zq x) pre = s := ⟨_, rfl⟩
    have E : Hid ((vI s * x + vI y.2) % 1013 = vI (hoL (zq x) (pre ++ [y]))) := by
      unfold Hid
      rw [hoL_snoc, hs, ← vI_zq, zq_add, zq_mul, zq_vI, zq_vI]
    rw [hs] at hc
    clear hs
    obtain ⟨p0, p1⟩ := vI_bd s x0 x1
    have y0 := vI_lo y.2
    have y1 := vI_hi y.2
    gi_wp2
    exact ⟨(KeepsOthers.setCell _ _ _).from _, ⟨(Below.refl w.heap.size W).setCell (p := ⟨w.heap.size + 1, 0, none⟩) (Nat.le_succ _) _, fun v hv => cell_other hv (by intro e; injection e with e; omega)⟩, ⟨by rw [← E.out]; exact World.cell?_setCell_same' _ _ _ (by rw [hc]; rfl), by rw [World.frozen?_setCell]; exact hf, cell_other hx (by intro e; injection e with e; omega)⟩, hB.setCell (p := ⟨w.heap.size + 1, 0, none⟩) (Nat.le_succ _) _⟩
  case done =>
    rintro D ys W hD rfl ⟨⟨hc, _, _⟩, hB⟩ hK
    rw [ho_all] at hc
    gi_wp2
    refine ⟨by simp, .inl ⟨_, _, rfl, run_takeDeferred hK, ?_⟩⟩
    exact ⟨_, results_tmp rfl _ _ _, rfl, hB.trans (belowK_b (w := w) (Nat.le_refl _) W D _ _ (by simp at hD; omega) hK rfl rfl)⟩
  case stop =>
    rintro D c pre W _ _ h _
    exact h.elim
theorem value_at (b o m d : Nat) (K : Nat → QF) (x : Int) (hm : m ≤ 12) (x0 : 0 ≤ x) (x1 : x < 1013) (w : World) (hr : RowI w b o m (fun i => vI (K i))) :
    Calls Try.prog 21 #[.slice (some ⟨b, o, none⟩) m d, .int .i64 x] w fun e w' => e = .returned (.int .i64 (vI (vlq K (zq x) m))) ∧ Below w.heap.size w w' :=
  (callsIn_wide (n := 3)).1 (value_in Fence.wide 3 trivial trivial trivial rfl (Nat.le_refl _) b o m d K x hm x0 x1 w hr)
end Go.Proofs.Ytkhpmnehjifdcaf
/- Share -/
namespace Go.Proofs.Ytkhpmnehjifdcaf
open Go.RowKit Go.Sort
set_option linter.unusedVariables false
set_option linter.unusedSimpArgs false
theorem hinfoS : (Try.prog.info? 31).map (fun i => (i.zero, i.size, i.bytes)) = some (some (.agg #[.int .i64 0, .int .i64 0]), 2, 16) := by kernel_rfl
set_option maxRecDepth 100000 in
set_option maxHeartbeats 4000000 in
theorem wts_err (sx : Option Addr) (p d : Nat) (c : Int) (w : World) (hp : p ≤ 9223372036854775807) (h : Calls Try.prog 25 #[.slice sx p d] w fun e w' => e = .returned (errOf c) ∧ Below w.heap.size w w') : Calls Try.prog 9 #[.slice sx p d] w fun e w' => e = .returned (.tuple #[.slice none 0 0, errOf c]) ∧ Below w.heap.size w w' := by
  have H : Hid (Calls Try.prog 25 #[.slice sx p d] w fun e w' => e = .returned (errOf c) ∧ Below w.heap.size w w') := h
  clear h
  go_enter Try.func9, Try.ntmps9
  go_wp2_with (go_at_call 25; refine (H.out).mono ?_; rintro e w1 ⟨rfl, hbw1⟩; have hqw1 : Below w.heap.size w w1 := (by repeat (first | (with_reducible exact Below.refl _ _) | (with_reducible assumption) | (with_reducible refine Below.setCell ?_ (by first | (simp; done) | (simp; omega) | omega) _) | (with_reducible refine Below.alloc ?_ (by first | (simp; done) | (simp; omega) | omega) _) | (refine bl_call ?_ (by assumption) (by first | (simp; done) | (simp; omega) | omega)) | (with_reducible refine bl_drewN ?_) | (with_reducible refine Below.drew ?_) | (with_reducible refine bl_grow ?_ (by first | (simp; done) | (simp; omega) | omega)))); have hzw1 := hqw1.size; clear hbw1)
  exact bodyPost_ret (v := .tuple #[.slice none 0 0, errOf c]) (by simp [results, Try.results9, go_sem, *]) rfl ⟨rfl, by repeat (first | (with_reducible exact Below.refl _ _) | (with_reducible assumption) | (with_reducible refine Below.setCell ?_ (by first | (simp; done) | (simp; omega) | omega) _) | (with_reducible refine Below.alloc ?_ (by first | (simp; done) | (simp; omega) | omega) _) | (refine bl_call ?_ (by assumption) (by first | (simp; done) | (simp; omega) | omega)) | (with_reducible refine bl_drewN ?_) | (with_reducible refine Below.drew ?_) | (with_reducible refine bl_grow ?_ (by first | (simp; done) | (simp; omega) | omega)))⟩
set_option maxRecDepth 100000 in
set_option maxHeartbeats 4000000 in
theorem wts_ok (b o p d : Nat) (X : Nat → Int) (w : World) (h0 : 0 < p) (h12 : p ≤ 12) (hd : p ≤ d) (hr : RowI w b o p X) (hpl : plE secB X p = 0) : Calls Try.prog 9 #[.slice (some ⟨b, o, none⟩) p d] w fun ex w' => ∃ u, ex = .returned (.tuple #[u, .nilIface]) ∧ w'.ownsRow w.heap.size 3 1 u p (cellsI (fun i => vI (wtq (xq X) p i)) p) ∧ Below w.heap.size w w' := by
  have HC : Hid (Calls Try.prog 25 #[.slice (some ⟨b, o, none⟩) p d] w fun e w' => e = .returned (.nilIface) ∧ Below w.heap.size w w') := cpl_row b o p d X .nilIface w h12 h0 hd hr (Or.inl ⟨hpl, rfl⟩)
  have HX : ∀ i, i < p → 1 ≤ X i ∧ X i < 1013 := fun i hi => sec_bd (pl_good hpl i hi).1
  have HD : Dist (xq X) p := pl_dist (fun m h => sec_bd h) hpl
  have HR : Hid (RowI w b o p X) := hr
  have HW : Hid (∀ W i, Below w.heap.size w W → i < p → Calls Try.prog 26 #[.slice (some ⟨b, o, none⟩) p d, .int .i64 (X i)] W fun e w' => e = .returned (.int .i64 (vI (wtq (xq X) p i))) ∧ Below W.heap.size W w') := fun W i hW hi => weight_at b o p d i X W h12 hi (hr.below hr.1 hW) HX HD
  have hb := hr.1
  clear hr hpl HX HD
  obtain ⟨i0, hi, hv0, hv1, hv2⟩ := info_parts iinfo
  go_enter Try.func9, Try.ntmps9
  go_wp2_with (first | (go_at_call 25; refine (HC.out).mono ?_; rintro e w1 ⟨rfl, hbw1⟩; have hqw1 : Below w.heap.size w w1 := (by repeat (first | (with_reducible exact Below.refl _ _) | (with_reducible assumption) | (with_reducible refine Below.setCell ?_ (by first | (simp; done) | (simp; omega) | omega) _) | (with_reducible refine Below.alloc ?_ (by first | (simp; done) | (simp; omega) | omega) _) | (refine bl_call ?_ (by assumption) (by first | (simp; done) | (simp; omega) | omega)) | (with_reducible refine bl_drewN ?_) | (with_reducible refine Below.drew ?_) | (with_reducible refine bl_grow ?_ (by first | (simp; done) | (simp; omega) | omega)))); have hzw1 := hqw1.size; clear hbw1) | (at_make; refine wpList_make_own _ rfl _ _ 22 rfl w.heap.size 3 i0 (.int .i64 0) 1 Try.underlying22 hi hv0 hv1 _ _ _ p rfl rfl rfl ?b2 ?b3 ?b4 ?_))
  case b2 => rw [hv2]; omega
  case b3 => unfold maxLen; omega
  case b4 => omega
  intro w2 hown0 hgrow
  have hq2 : Below w.heap.size w w2 := (by assumption : Below w.heap.size w _).grown hgrow (by omega) (fun k hk => by cases hk)
  clear hgrow
  go_wp2_with fail
  go_loopw [5, 18] (fun tv ti wl => ∃ i : Nat, i ≤ p ∧ ti = .int .i64 i ∧ wl.ownsRow w.heap.size 3 1 tv i (cellsI (fun i => vI (wtq (xq X) p i)) i) ∧ Below w.heap.size w wl) (fun _ ti _ => p - (intOf ti).toNat)
  case atStart => exact ⟨0, by omega, rfl, hown0, by repeat (first | (with_reducible exact Below.refl _ _) | (with_reducible assumption) | (with_reducible refine Below.setCell ?_ (by first | (simp; done) | (simp; omega) | omega) _) | (with_reducible refine Below.alloc ?_ (by first | (simp; done) | (simp; omega) | omega) _) | (refine bl_call ?_ (by assumption) (by first | (simp; done) | (simp; omega) | omega)) | (with_reducible refine bl_drewN ?_) | (with_reducible refine Below.drew ?_) | (with_reducible refine bl_grow ?_ (by first | (simp; done) | (simp; omega) | omega)))⟩
  case round =>
    clear hown0
    obtain ⟨i, hin, rfl, hown, hqV⟩ := hrel
    rename World => wV
    have hzV := hqV.size
    by_cases hlt : i < p
    · have hlt' : (i : Int) < p := by omega
      have hbV := Nat.lt_of_lt_of_le hb hzV
      have c0 := row_int HR.out hqV hlt
      have HWi : Hid (Calls Try.prog 26 #[.slice (some ⟨b, o, none⟩) p d, .int .i64 (X i)] wV fun e w' => e = .returned (.int .i64 (vI (wtq (xq X) p i))) ∧ Below wV.heap.size wV w') := HW.out wV i hqV hlt
      go_wp2_with (first | (go_at_call 26; refine HWi.out.mono ?_; rintro e w5 ⟨rfl, hb5⟩; have hq5 : Below w.heap.size w w5 := (by repeat (first | (with_reducible exact Below.refl _ _) | (with_reducible assumption) | (with_reducible refine Below.setCell ?_ (by first | (simp; done) | (simp; omega) | omega) _) | (with_reducible refine Below.alloc ?_ (by first | (simp; done) | (simp; omega) | omega) _) | (refine bl_call ?_ (by assumption) (by first | (simp; done) | (simp; omega) | omega)) | (with_reducible refine bl_drewN ?_) | (with_reducible refine Below.drew ?_) | (with_reducible refine bl_grow ?_ (by first | (simp; done) | (simp; omega) | omega)))); have hz5 := hq5.size; have hown5 := own_stay hown hb5) | (at_builtin; refine wpList_append_own_at _ rfl _ _ 22 rfl w.heap.size 3 i0 (.int .i64 0) 1 8 Try.underlying22 hi hv0 hv1 hv2 rfl (by decide) _ _ _ rfl (own_stay hown5 (by repeat (first | (with_reducible exact Below.refl _ _) | (with_reducible assumption) | (with_reducible refine Below.setCell ?_ (by first | (simp; done) | (simp; omega) | omega) _) | (with_reducible refine Below.alloc ?_ (by first | (simp; done) | (simp; omega) | omega) _) | (refine bl_call ?_ (by assumption) (by first | (simp; done) | (simp; omega) | omega)) | (with_reducible refine bl_drewN ?_) | (with_reducible refine Below.drew ?_) | (with_reducible refine bl_grow ?_ (by first | (simp; done) | (simp; omega) | omega))))) ⟨_, 0, none⟩ 1 1 [.int .i64 (vI (wtq (xq X) p i))] rfl rfl ?c1 ?c2 ?c3 ?c4 ?c5 ?_))
      case c1 => exact int_at _ _ (by simp)
      case c2 => intro u hu; simp at hu; subst hu; rfl
      case c3 => unfold maxLen; omega
      case c4 => omega
      case c5 => simp; omega
      · intro v' w13 hown' hgrow _ hat
        have hq13 : Below w.heap.size w w13 := grown_under (B := w.heap.size) (by repeat (first | (with_reducible exact Below.refl _ _) | (with_reducible assumption) | (with_reducible refine Below.setCell ?_ (by first | (simp; done) | (simp; omega) | omega) _) | (with_reducible refine Below.alloc ?_ (by first | (simp; done) | (simp; omega) | omega) _) | (refine bl_call ?_ (by assumption) (by first | (simp; done) | (simp; omega) | omega)) | (with_reducible refine bl_drewN ?_) | (with_reducible refine Below.drew ?_) | (with_reducible refine bl_grow ?_ (by first | (simp; done) | (simp; omega) | omega)))) (own_stay (by assumption) (by repeat (first | (with_reducible exact Below.refl _ _) | (with_reducible assumption) | (with_reducible refine Below.setCell ?_ (by first | (simp; done) | (simp; omega) | omega) _) | (with_reducible refine Below.alloc ?_ (by first | (simp; done) | (simp; omega) | omega) _) | (refine bl_call ?_ (by assumption) (by first | (simp; done) | (simp; omega) | omega)) | (with_reducible refine bl_drewN ?_) | (with_reducible refine Below.drew ?_) | (with_reducible refine bl_grow ?_ (by first | (simp; done) | (simp; omega) | omega))))) hgrow (by simp; omega) (Nat.le_refl _)
        rw [← cellsI_succ (fun i => vI (wtq (xq X) p i))] at hown'
        clear hgrow hat hown
        go_wp2_with fail
        go_roundw
        case rel => exact ⟨i + 1, by omega, by simp, hown', hq13⟩
        case measure => simp [intOf]; omega
    · have hlt' : ¬ (i : Int) < p := by omega
      obtain rfl : i = p := by omega
      go_wp2_with fail
      go_ret2
      exact ⟨_, rfl, hown, by repeat (first | (with_reducible exact Below.refl _ _) | (with_reducible assumption) | (with_reducible refine Below.setCell ?_ (by first | (simp; done) | (simp; omega) | omega) _) | (with_reducible refine Below.alloc ?_ (by first | (simp; done) | (simp; omega) | omega) _) | (refine bl_call ?_ (by assumption) (by first | (simp; done) | (simp; omega) | omega)) | (with_reducible refine bl_drewN ?_) | (with_reducible refine Below.drew ?_) | (with_reducible refine bl_grow ?_ (by first | (simp; done) | (simp; omega) | omega)))⟩
theorem weights_is : WeightsIs :=
  ⟨fun sx p d w h1 h2 => wts_err sx p d 4 w h2 (cpl_many sx p d w h1 h2), fun sx d w => wts_err sx 0 d 5 w (by omega) (cpl_nil sx d w),
   fun b o p d X w h0 h12 hd hr _ hne => wts_err _ p d _ w (by omega) (cpl_row b o p d X _ w h12 h0 hd hr (Or.inr ⟨hne, rfl⟩)),
   fun b o p d X w h0 h12 hd hr hpl => wts_ok b o p d X w h0 h12 hd hr hpl⟩
set_option maxRecDepth 100000 in
set_option maxHeartbeats 4000000 in
theorem split_many (sc : Option Addr) (m d : Nat) (z : Int) (w : World) (h : 12 < m) (hm : m ≤ 9223372036854775807) : Calls Try.prog 7 #[.slice sc m d, .int .i64 z] w fun e w' => e = .returned (.tuple #[.slice none 0 0, errOf 4]) ∧ Below w.heap.size w w' := by
  have h' : (m : Int) > 12 := by omega
  go_enter Try.func7, Try.ntmps7
  go_wp2_with fail
  exact bodyPost_ret (v := .tuple #[.slice none 0 0, errOf 4]) (by simp [results, Try.results7, go_sem, *]) rfl ⟨rfl, by repeat (first | (with_reducible exact Below.refl _ _) | (with_reducible assumption) | (with_reducible refine Below.setCell ?_ (by first | (simp; done) | (simp; omega) | omega) _) | (with_reducible refine Below.alloc ?_ (by first | (simp; done) | (simp; omega) | omega) _) | (refine bl_call ?_ (by assumption) (by first | (simp; done) | (simp; omega) | omega)) | (with_reducible refine bl_drewN ?_) | (with_reducible refine Below.drew ?_) | (with_reducible refine bl_grow ?_ (by first | (simp; done) | (simp; omega) | omega)))⟩
set_option maxRecDepth 100000 in
set_option maxHeartbeats 4000000 in
theorem split_nil (sc : Option Addr) (d : Nat) (z : Int) (w : World) : Calls Try.prog 7 #[.slice sc 0 d, .int .i64 z] w fun e w' => e = .returned (.tuple #[.slice none 0 0, errOf 1]) ∧ Below w.heap.size w w' := by
  go_enter Try.func7, Try.ntmps7
  go_wp2_with fail
  exact bodyPost_ret (v := .tuple #[.slice none 0 0, errOf 1]) (by simp [results, Try.results7, go_sem, *]) rfl ⟨rfl, by repeat (first | (with_reducible exact Below.refl _ _) | (with_reducible assumption) | (with_reducible refine Below.setCell ?_ (by first | (simp; done) | (simp; omega) | omega) _) | (with_reducible refine Below.alloc ?_ (by first | (simp; done) | (simp; omega) | omega) _) | (refine bl_call ?_ (by assumption) (by first | (simp; done) | (simp; omega) | omega)) | (with_reducible refine bl_drewN ?_) | (with_reducible refine Below.drew ?_) | (with_reducible refine bl_grow ?_ (by first | (simp; done) | (simp; omega) | omega)))⟩
set_option maxRecDepth 100000 in
set_option maxHeartbeats 4000000 in
theorem split_bad (sc : Option Addr) (m d : Nat) (z : Int) (t : Bool) (w : World) (h0 : 0 < m) (h : ¬ 12 < m) (hc : Calls Try.prog 20 #[.slice sc m d, .func (.func 18) #[] #[]] w fun e w' => e = .returned (.bool t) ∧ Below w.heap.size w w') (ht : t = true ∨ z < 1 ∨ 12 < z) : Calls Try.prog 7 #[.slice sc m d, .int .i64 z] w fun e w' => e = .returned (.tuple #[.slice none 0 0, errOf 1]) ∧ Below w.heap.size w w' := by
  have HC : Hid (Calls Try.prog 20 #[.slice sc m d, .func (.func 18) #[] #[]] w fun e w' => e = .returned (.bool t) ∧ Below w.heap.size w w') := hc
  have h' : ¬ (m : Int) > 12 := by omega
  have h2 : ((m : Int) == 0) = false := by rw [beq_eq_false_iff_ne]; omega
  clear hc
  cases t with
  | true =>
    clear ht
    go_enter Try.func7, Try.ntmps7
    go_wp2_with (go_at_call 20; refine (HC.out).mono ?_; rintro e w1 ⟨rfl, hbw1⟩; have hqw1 : Below w.heap.size w w1 := (by repeat (first | (with_reducible exact Below.refl _ _) | (with_reducible assumption) | (with_reducible refine Below.setCell ?_ (by first | (simp; done) | (simp; omega) | omega) _) | (with_reducible refine Below.alloc ?_ (by first | (simp; done) | (simp; omega) | omega) _) | (refine bl_call ?_ (by assumption) (by first | (simp; done) | (simp; omega) | omega)) | (with_reducible refine bl_drewN ?_) | (with_reducible refine Below.drew ?_) | (with_reducible refine bl_grow ?_ (by first | (simp; done) | (simp; omega) | omega)))); have hzw1 := hqw1.size; clear hbw1)
    exact bodyPost_ret (v := .tuple #[.slice none 0 0, errOf 1]) (by simp [results, Try.results7, go_sem, *]) rfl ⟨rfl, by repeat (first | (with_reducible exact Below.refl _ _) | (with_reducible assumption) | (with_reducible refine Below.setCell ?_ (by first | (simp; done) | (simp; omega) | omega) _) | (with_reducible refine Below.alloc ?_ (by first | (simp; done) | (simp; omega) | omega) _) | (refine bl_call ?_ (by assumption) (by first | (simp; done) | (simp; omega) | omega)) | (with_reducible refine bl_drewN ?_) | (with_reducible refine Below.drew ?_) | (with_reducible refine bl_grow ?_ (by first | (simp; done) | (simp; omega) | omega)))⟩
  | false =>
    by_cases z1 : z < 1
    · clear ht
      go_enter Try.func7, Try.ntmps7
      go_wp2_with (go_at_call 20; refine (HC.out).mono ?_; rintro e w1 ⟨rfl, hbw1⟩; have hqw1 : Below w.heap.size w w1 := (by repeat (first | (with_reducible exact Below.refl _ _) | (with_reducible assumption) | (with_reducible refine Below.setCell ?_ (by first | (simp; done) | (simp; omega) | omega) _) | (with_reducible refine Below.alloc ?_ (by first | (simp; done) | (simp; omega) | omega) _) | (refine bl_call ?_ (by assumption) (by first | (simp; done) | (simp; omega) | omega)) | (with_reducible refine bl_drewN ?_) | (with_reducible refine Below.drew ?_) | (with_reducible refine bl_grow ?_ (by first | (simp; done) | (simp; omega) | omega)))); have hzw1 := hqw1.size; clear hbw1)
      exact bodyPost_ret (v := .tuple #[.slice none 0 0, errOf 1]) (by simp [results, Try.results7, go_sem, *]) rfl ⟨rfl, by repeat (first | (with_reducible exact Below.refl _ _) | (with_reducible assumption) | (with_reducible refine Below.setCell ?_ (by first | (simp; done) | (simp; omega) | omega) _) | (with_reducible refine Below.alloc ?_ (by first | (simp; done) | (simp; omega) | omega) _) | (refine bl_call ?_ (by assumption) (by first | (simp; done) | (simp; omega) | omega)) | (with_reducible refine bl_drewN ?_) | (with_reducible refine Below.drew ?_) | (with_reducible refine bl_grow ?_ (by first | (simp; done) | (simp; omega) | omega)))⟩
    · have z2 : z > 12 := by
        rcases ht with ht | ht | ht
        · cases ht
        · omega
        · omega
      clear ht
      go_enter Try.func7, Try.ntmps7
      go_wp2_with (go_at_call 20; refine (HC.out).mono ?_; rintro e w1 ⟨rfl, hbw1⟩; have hqw1 : Below w.heap.size w w1 := (by repeat (first | (with_reducible exact Below.refl _ _) | (with_reducible assumption) | (with_reducible refine Below.setCell ?_ (by first | (simp; done) | (simp; omega) | omega) _) | (with_reducible refine Below.alloc ?_ (by first | (simp; done) | (simp; omega) | omega) _) | (refine bl_call ?_ (by assumption) (by first | (simp; done) | (simp; omega) | omega)) | (with_reducible refine bl_drewN ?_) | (with_reducible refine Below.drew ?_) | (with_reducible refine bl_grow ?_ (by first | (simp; done) | (simp; omega) | omega)))); have hzw1 := hqw1.size; clear hbw1)
      exact bodyPost_ret (v := .tuple #[.slice none 0 0, errOf 1]) (by simp [results, Try.results7, go_sem, *]) rfl ⟨rfl, by repeat (first | (with_reducible exact Below.refl _ _) | (with_reducible assumption) | (with_reducible refine Below.setCell ?_ (by first | (simp; done) | (simp; omega) | omega) _) | (with_reducible refine Below.alloc ?_ (by first | (simp; done) | (simp; omega) | omega) _) | (refine bl_call ?_ (by assumption) (by first | (simp; done) | (simp; omega) | omega)) | (with_reducible refine bl_drewN ?_) | (with_reducible refine Below.drew ?_) | (with_reducible refine bl_grow ?_ (by first | (simp; done) | (simp; omega) | omega)))⟩
set_option maxRecDepth 100000 in
set_option maxHeartbeats 4000000 in
theorem split_ok (b o m d : Nat) (C : Nat → Int) (n : Nat) (w : World) (h0 : 1 ≤ m) (h12 : m ≤ 12) (hr : RowI w b o m C) (hok : ∀ i, i < m → resB (C i) = true) (n1 : 1 ≤ n) (n2 : n ≤ 12) :
    Calls Try.prog 7 #[.slice (some ⟨b, o, none⟩) m d, .int .i64 (n : Int)] w fun ex w' => ∃ u, ex = .returned (.tuple #[u, .nilIface]) ∧ w'.ownsRow w.heap.size 31 2 u n (cellsP (fun i : Nat => (i : Int) + 1) (fun i => vI (vlq (xq C) (zq ((i : Int) + 1)) m)) n) ∧ Below w.heap.size w w' := by
  have HC : Hid (Calls Try.prog 20 #[.slice (some ⟨b, o, none⟩) m d, .func (.func 18) #[] #[]] w fun e w' => e = .returned (.bool false) ∧ Below w.heap.size w w') := idxI_no b o m d C w h12 hr hok
  have hr' : RowI w b o m (fun i => vI (xq C i)) := ⟨hr.1, fun i hi => by
    have e : vI (xq C i) = C i := by
      have := res_bd (hok i hi)
      show vI (zq (C i)) = C i
      rw [vI_zq]; omega
    show _ = some (Value.int .i64 (vI (xq C i)))
    rw [e]; exact hr.2 i hi⟩
  have HV : Hid (∀ W k, Below w.heap.size w W → k < n → Calls Try.prog 21 #[.slice (some ⟨b, o, none⟩) m d, .int .i64 ((k : Int) + 1)] W fun e w' => e = .returned (.int .i64 (vI (vlq (xq C) (zq ((k : Int) + 1)) m))) ∧ Below W.heap.size W w') :=
    fun W k hW hk => value_at b o m d (xq C) ((k : Int) + 1) h12 (by omega) (by omega) W (hr'.below hr'.1 hW)
  have hb := hr.1
  have h' : ¬ (m : Int) > 12 := by omega
  have h2 : ((m : Int) == 0) = false := by rw [beq_eq_false_iff_ne]; omega
  have z1 : ¬ (n : Int) < 1 := by omega
  have z2 : ¬ (n : Int) > 12 := by omega
  clear hr hr' hok
  obtain ⟨i0, hi, hv0, hv1, hv2⟩ := info_parts hinfoS
  go_enter Try.func7, Try.ntmps7
  go_wp2_with (first | (go_at_call 20; refine (HC.out).mono ?_; rintro e w1 ⟨rfl, hbw1⟩; have hqw1 : Below w.heap.size w w1 := (by repeat (first | (with_reducible exact Below.refl _ _) | (with_reducible assumption) | (with_reducible refine Below.setCell ?_ (by first | (simp; done) | (simp; omega) | omega) _) | (with_reducible refine Below.alloc ?_ (by first | (simp; done) | (simp; omega) | omega) _) | (refine bl_call ?_ (by assumption) (by first | (simp; done) | (simp; omega) | omega)) | (with_reducible refine bl_drewN ?_) | (with_reducible refine Below.drew ?_) | (with_reducible refine bl_grow ?_ (by first | (simp; done) | (simp; omega) | omega)))); have hzw1 := hqw1.size; clear hbw1) | (at_make; refine wpList_make_own _ rfl _ _ 23 rfl w.heap.size 31 i0 (.agg #[.int .i64 0, .int .i64 0]) 2 Try.underlying23 hi hv0 hv1 _ _ _ n rfl rfl rfl ?b2 ?b3 ?b4 ?_))
  case b2 => rw [hv2]; omega
  case b3 => unfold maxLen; omega
  case b4 => omega
  intro w2 hown0 hgrow
  have hq2 : Below w.heap.size w w2 := (by assumption : Below w.heap.size w _).grown hgrow (by omega) (fun k hk => by cases hk)
  clear hgrow
  go_wp2_with fail
  go_loopw [7, 8] (fun tv ti wl => ∃ i : Nat, i ≤ n ∧ ti = .int .i64 ((i : Int) + 1) ∧ wl.ownsRow w.heap.size 31 2 tv i (cellsP (fun i : Nat => (i : Int) + 1) (fun i => vI (vlq (xq C) (zq ((i : Int) + 1)) m)) i) ∧ Below w.heap.size w wl) (fun _ ti _ => n + 1 - (intOf ti).toNat)
  case atStart => exact ⟨0, by omega, rfl, hown0, by repeat (first | (with_reducible exact Below.refl _ _) | (with_reducible assumption) | (with_reducible refine Below.setCell ?_ (by first | (simp; done) | (simp; omega) | omega) _) | (with_reducible refine Below.alloc ?_ (by first | (simp; done) | (simp; omega) | omega) _) | (refine bl_call ?_ (by assumption) (by first | (simp; done) | (simp; omega) | omega)) | (with_reducible refine bl_drewN ?_) | (with_reducible refine Below.drew ?_) | (with_reducible refine bl_grow ?_ (by first | (simp; done) | (simp; omega) | omega)))⟩
  case round =>
    clear hown0
    obtain ⟨i, hin, rfl, hown, hqV⟩ := hrel
    rename World => wV
    have hzV := hqV.size
    by_cases hlt : i < n
    · have hlt' : (i : Int) + 1 ≤ n := by omega
      have HVi : Hid (Calls Try.prog 21 #[.slice (some ⟨b, o, none⟩) m d, .int .i64 ((i : Int) + 1)] wV fun e w' => e = .returned (.int .i64 (vI (vlq (xq C) (zq ((i : Int) + 1)) m))) ∧ Below wV.heap.size wV w') := HV.out wV i hqV hlt
      go_wp2_with (first | (go_at_call 21; refine HVi.out.mono ?_; rintro e w5 ⟨rfl, hb5⟩; have hq5 : Below w.heap.size w w5 := (by repeat (first | (with_reducible exact Below.refl _ _) | (with_reducible assumption) | (with_reducible refine Below.setCell ?_ (by first | (simp; done) | (simp; omega) | omega) _) | (with_reducible refine Below.alloc ?_ (by first | (simp; done) | (simp; omega) | omega) _) | (refine bl_call ?_ (by assumption) (by first | (simp; done) | (simp; omega) | omega)) | (with_reducible refine bl_drewN ?_) | (with_reducible refine Below.drew ?_) | (with_reducible refine bl_grow ?_ (by first | (simp; done) | (simp; omega) | omega)))); have hz5 := hq5.size; have hown5 := own_stay hown hb5) | (at_builtin; refine wpList_append_own_at _ rfl _ _ 23 rfl w.heap.size 31 i0 (.agg #[.int .i64 0, .int .i64 0]) 2 16 Try.underlying23 hi hv0 hv1 hv2 rfl (by decide) _ _ _ rfl (own_stay hown5 (by repeat (first | (with_reducible exact Below.refl _ _) | (with_reducible assumption) | (with_reducible refine Below.setCell ?_ (by first | (simp; done) | (simp; omega) | omega) _) | (with_reducible refine Below.alloc ?_ (by first | (simp; done) | (simp; omega) | omega) _) | (refine bl_call ?_ (by assumption) (by first | (simp; done) | (simp; omega) | omega)) | (with_reducible refine bl_drewN ?_) | (with_reducible refine Below.drew ?_) | (with_reducible refine bl_grow ?_ (by first | (simp; done) | (simp; omega) | omega))))) ⟨_, 0, none⟩ 1 1 [.int .i64 ((i : Int) + 1), .int .i64 (vI (vlq (xq C) (zq ((i : Int) + 1)) m))] rfl rfl ?c1 ?c2 ?c3 ?c4 ?c5 ?_))
      case c1 => exact two_at _ _ _ (by simp)
      case c2 => intro u hu; simp at hu; rcases hu with rfl | rfl <;> rfl
      case c3 => unfold maxLen; omega
      case c4 => omega
      case c5 => simp; omega
      · intro v' w13 hown' hgrow _ hat
        have hq13 : Below w.heap.size w w13 := grown_under (B := w.heap.size) (by repeat (first | (with_reducible exact Below.refl _ _) | (with_reducible assumption) | (with_reducible refine Below.setCell ?_ (by first | (simp; done) | (simp; omega) | omega) _) | (with_reducible refine Below.alloc ?_ (by first | (simp; done) | (simp; omega) | omega) _) | (refine bl_call ?_ (by assumption) (by first | (simp; done) | (simp; omega) | omega)) | (with_reducible refine bl_drewN ?_) | (with_reducible refine Below.drew ?_) | (with_reducible refine bl_grow ?_ (by first | (simp; done) | (simp; omega) | omega)))) (own_stay (by assumption) (by repeat (first | (with_reducible exact Below.refl _ _) | (with_reducible assumption) | (with_reducible refine Below.setCell ?_ (by first | (simp; done) | (simp; omega) | omega) _) | (with_reducible refine Below.alloc ?_ (by first | (simp; done) | (simp; omega) | omega) _) | (refine bl_call ?_ (by assumption) (by first | (simp; done) | (simp; omega) | omega)) | (with_reducible refine bl_drewN ?_) | (with_reducible refine Below.drew ?_) | (with_reducible refine bl_grow ?_ (by first | (simp; done) | (simp; omega) | omega))))) hgrow (by simp; omega) (Nat.le_refl _)
        rw [← cellsP_succ (fun i : Nat => (i : Int) + 1) (fun i => vI (vlq (xq C) (zq ((i : Int) + 1)) m))] at hown'
        clear hgrow hat hown
        go_wp2_with fail
        go_roundw
        case rel => exact ⟨i + 1, by omega, by simp, hown', hq13⟩
        case measure => simp [intOf]; omega
    · have hlt' : ¬ (i : Int) + 1 ≤ n := by omega
      obtain rfl : i = n := by omega
      go_wp2_with fail
      go_ret2
      exact ⟨_, rfl, hown, by repeat (first | (with_reducible exact Below.refl _ _) | (with_reducible assumption) | (with_reducible refine Below.setCell ?_ (by first | (simp; done) | (simp; omega) | omega) _) | (with_reducible refine Below.alloc ?_ (by first | (simp; done) | (simp; omega) | omega) _) | (refine bl_call ?_ (by assumption) (by first | (simp; done) | (simp; omega) | omega)) | (with_reducible refine bl_drewN ?_) | (with_reducible refine Below.drew ?_) | (with_reducible refine bl_grow ?_ (by first | (simp; done) | (simp; omega) | omega)))⟩
theorem split_is : SplitIs :=
  ⟨fun sc m d z w h hm => split_many sc m d z w h hm,
   fun sc m d C z w h hr hC hz hbad => by
     by_cases m0 : m = 0
     · subst m0; exact split_nil sc d z w
     · obtain ⟨b, o, rfl, r⟩ := hr.resolve_left m0
       by_cases hno : ∃ j, j < m ∧ resB (C j) = false
       · exact split_bad _ m d z true w (by omega) h (idxI_yes b o m d C w (by omega) r hno) (Or.inl rfl)
       · have hok : ∀ i, i < m → resB (C i) = true := fun i hi => by
           cases hq : resB (C i) with
           | true => rfl
           | false => exact absurd ⟨i, hi, hq⟩ hno
         exact split_bad _ m d z false w (by omega) h (idxI_no b o m d C w (by omega) r hok) (by
           rcases hbad with k | k | k | k
           · exact absurd k m0
           · exact Or.inr (Or.inl k)
           · exact Or.inr (Or.inr k)
           · exact absurd k hno),
   fun b o m d C n w h0 h12 hr hok n1 n2 => split_ok b o m d C n w h0 h12 hr hok n1 n2⟩
set_option maxRecDepth 100000 in
set_option maxHeartbeats 4000000 in
theorem comb_many (sl : Option Addr) (p d : Nat) (w : World) (h : 12 < p) (hp : p ≤ 9223372036854775807) : Calls Try.prog 8 #[.slice sl p d] w fun e w' => e = .returned (.tuple #[.int .i64 0, errOf 4]) ∧ Below w.heap.size w w' := by
  have h' : (p : Int) > 12 := by omega
  go_enter Try.func8, Try.ntmps8
  go_wp2_with fail
  exact bodyPost_ret (v := .tuple #[.int .i64 0, errOf 4]) (by simp [results, Try.results8, go_sem, *]) rfl ⟨rfl, by repeat (first | (with_reducible exact Below.refl _ _) | (with_reducible assumption) | (with_reducible refine Below.setCell ?_ (by first | (simp; done) | (simp; omega) | omega) _) | (with_reducible refine Below.alloc ?_ (by first | (simp; done) | (simp; omega) | omega) _) | (refine bl_call ?_ (by assumption) (by first | (simp; done) | (simp; omega) | omega)) | (with_reducible refine bl_drewN ?_) | (with_reducible refine Below.drew ?_) | (with_reducible refine bl_grow ?_ (by first | (simp; done) | (simp; omega) | omega)))⟩
set_option maxRecDepth 100000 in
set_option maxHeartbeats 4000000 in
theorem comb_err (sl : Option Addr) (p d : Nat) (X : Nat → Int) (c : Int) (w : World) (h : p ≤ 12) (hp : Calls Try.prog 22 #[.slice sl p d] w fun e w' => ∃ v, e = .returned v ∧ w'.ownsRow w.heap.size 3 1 v p (cellsI X p) ∧ Below w.heap.size w w') (hw : ∀ W v, Below w.heap.size w W → W.ownsRow w.heap.size 3 1 v p (cellsI X p) → Calls Try.prog 9 #[v] W fun e w' => e = .returned (.tuple #[.slice none 0 0, errOf c]) ∧ Below W.heap.size W w') : Calls Try.prog 8 #[.slice sl p d] w fun e w' => e = .returned (.tuple #[.int .i64 0, errOf c]) ∧ Below w.heap.size w w' := by
  have HP : Hid (Calls Try.prog 22 #[.slice sl p d] w fun e w' => ∃ v, e = .returned v ∧ w'.ownsRow w.heap.size 3 1 v p (cellsI X p) ∧ Below w.heap.size w w') := hp
  have HW : Hid (∀ W v, Below w.heap.size w W → W.ownsRow w.heap.size 3 1 v p (cellsI X p) → Calls Try.prog 9 #[v] W fun e w' => e = .returned (.tuple #[.slice none 0 0, errOf c]) ∧ Below W.heap.size W w') := hw
  have h' : ¬ (p : Int) > 12 := by omega
  clear hp hw
  go_enter Try.func8, Try.ntmps8
  go_wp2_with (first | (go_at_call 22; refine HP.out.mono ?_; rintro e w1 ⟨v1, rfl, ho1, hb1⟩; have hq1 : Below w.heap.size w w1 := (by repeat (first | (with_reducible exact Below.refl _ _) | (with_reducible assumption) | (with_reducible refine Below.setCell ?_ (by first | (simp; done) | (simp; omega) | omega) _) | (with_reducible refine Below.alloc ?_ (by first | (simp; done) | (simp; omega) | omega) _) | (refine bl_call ?_ (by assumption) (by first | (simp; done) | (simp; omega) | omega)) | (with_reducible refine bl_drewN ?_) | (with_reducible refine Below.drew ?_) | (with_reducible refine bl_grow ?_ (by first | (simp; done) | (simp; omega) | omega)))); have hz1 := hq1.size; have H2 := HW.out w1 v1 hq1 ho1; clear hb1 ho1) | (go_at_call 9; refine H2.mono ?_; rintro e w2 ⟨rfl, hb2⟩; have hq2 : Below w.heap.size w w2 := (by repeat (first | (with_reducible exact Below.refl _ _) | (with_reducible assumption) | (with_reducible refine Below.setCell ?_ (by first | (simp; done) | (simp; omega) | omega) _) | (with_reducible refine Below.alloc ?_ (by first | (simp; done) | (simp; omega) | omega) _) | (refine bl_call ?_ (by assumption) (by first | (simp; done) | (simp; omega) | omega)) | (with_reducible refine bl_drewN ?_) | (with_reducible refine Below.drew ?_) | (with_reducible refine bl_grow ?_ (by first | (simp; done) | (simp; omega) | omega)))); have hz2 := hq2.size; clear hb2))
  exact bodyPost_ret (v := .tuple #[.int .i64 0, errOf c]) (by simp [results, Try.results8, go_sem, *]) rfl ⟨rfl, by repeat (first | (with_reducible exact Below.refl _ _) | (with_reducible assumption) | (with_reducible refine Below.setCell ?_ (by first | (simp; done) | (simp; omega) | omega) _) | (with_reducible refine Below.alloc ?_ (by first | (simp; done) | (simp; omega) | omega) _) | (refine bl_call ?_ (by assumption) (by first | (simp; done) | (simp; omega) | omega)) | (with_reducible refine bl_drewN ?_) | (with_reducible refine Below.drew ?_) | (with_reducible refine bl_grow ?_ (by first | (simp; done) | (simp; omega) | omega)))⟩
set_option maxRecDepth 100000 in
set_option maxHeartbeats 4000000 in
theorem comb_y (b o p d : Nat) (X Y : Nat → Int) (w : World) (h : p ≤ 12) (hp : Calls Try.prog 22 #[.slice (some ⟨b, o, none⟩) p d] w fun e w' => ∃ v, e = .returned v ∧ w'.ownsRow w.heap.size 3 1 v p (cellsI X p) ∧ Below w.heap.size w w') (hw : ∀ W v, Below w.heap.size w W → W.ownsRow w.heap.size 3 1 v p (cellsI X p) → Calls Try.prog 9 #[v] W fun e w' => ∃ u, e = .returned (.tuple #[u, .nilIface]) ∧ w'.ownsRow W.heap.size 3 1 u p (cellsI (fun i => vI (wtq (xq X) p i)) p) ∧ Below W.heap.size W w') (hr : RowP w b o p X Y) (hno : ∃ j, j < p ∧ resB (Y j) = false) : Calls Try.prog 8 #[.slice (some ⟨b, o, none⟩) p d] w fun e w' => e = .returned (.tuple #[.int .i64 0, errOf 1]) ∧ Below w.heap.size w w' := by
  have HP : Hid (Calls Try.prog 22 #[.slice (some ⟨b, o, none⟩) p d] w fun e w' => ∃ v, e = .returned v ∧ w'.ownsRow w.heap.size 3 1 v p (cellsI X p) ∧ Below w.heap.size w w') := hp
  have HW : Hid (∀ W v, Below w.heap.size w W → W.ownsRow w.heap.size 3 1 v p (cellsI X p) → Calls Try.prog 9 #[v] W fun e w' => ∃ u, e = .returned (.tuple #[u, .nilIface]) ∧ w'.ownsRow W.heap.size 3 1 u p (cellsI (fun i => vI (wtq (xq X) p i)) p) ∧ Below W.heap.size W w') := hw
  have HC : Hid (∀ W, Below w.heap.size w W → Calls Try.prog 23 #[.slice (some ⟨b, o, none⟩) p d, .func (.func 24) #[] #[]] W fun e w' => e = .returned (.bool true) ∧ Below W.heap.size W w') := fun W hW => idxP_yes b o p d X Y W h (hr.below hr.1 hW) hno
  have h' : ¬ (p : Int) > 12 := by omega
  clear hp hw hr hno
  go_enter Try.func8, Try.ntmps8
  go_wp2_with (first | (go_at_call 22; refine HP.out.mono ?_; rintro e w1 ⟨v1, rfl, ho1, hb1⟩; have hq1 : Below w.heap.size w w1 := (by repeat (first | (with_reducible exact Below.refl _ _) | (with_reducible assumption) | (with_reducible refine Below.setCell ?_ (by first | (simp; done) | (simp; omega) | omega) _) | (with_reducible refine Below.alloc ?_ (by first | (simp; done) | (simp; omega) | omega) _) | (refine bl_call ?_ (by assumption) (by first | (simp; done) | (simp; omega) | omega)) | (with_reducible refine bl_drewN ?_) | (with_reducible refine Below.drew ?_) | (with_reducible refine bl_grow ?_ (by first | (simp; done) | (simp; omega) | omega)))); have hz1 := hq1.size; have H2 := HW.out w1 v1 hq1 ho1; clear hb1 ho1) | (go_at_call 9; refine H2.mono ?_; rintro e w2 ⟨u2, rfl, ho2, hb2⟩; have hq2 : Below w.heap.size w w2 := (by repeat (first | (with_reducible exact Below.refl _ _) | (with_reducible assumption) | (with_reducible refine Below.setCell ?_ (by first | (simp; done) | (simp; omega) | omega) _) | (with_reducible refine Below.alloc ?_ (by first | (simp; done) | (simp; omega) | omega) _) | (refine bl_call ?_ (by assumption) (by first | (simp; done) | (simp; omega) | omega)) | (with_reducible refine bl_drewN ?_) | (with_reducible refine Below.drew ?_) | (with_reducible refine bl_grow ?_ (by first | (simp; done) | (simp; omega) | omega)))); have hz2 := hq2.size; clear hb2) | (go_at_call 23; refine (HC.out _ (by repeat (first | (with_reducible exact Below.refl _ _) | (with_reducible assumption) | (with_reducible refine Below.setCell ?_ (by first | (simp; done) | (simp; omega) | omega) _) | (with_reducible refine Below.alloc ?_ (by first | (simp; done) | (simp; omega) | omega) _) | (refine bl_call ?_ (by assumption) (by first | (simp; done) | (simp; omega) | omega)) | (with_reducible refine bl_drewN ?_) | (with_reducible refine Below.drew ?_) | (with_reducible refine bl_grow ?_ (by first | (simp; done) | (simp; omega) | omega))))).mono ?_; rintro e w3 ⟨rfl, hb3⟩; have hq3 : Below w.heap.size w w3 := (by repeat (first | (with_reducible exact Below.refl _ _) | (with_reducible assumption) | (with_reducible refine Below.setCell ?_ (by first | (simp; done) | (simp; omega) | omega) _) | (with_reducible refine Below.alloc ?_ (by first | (simp; done) | (simp; omega) | omega) _) | (refine bl_call ?_ (by assumption) (by first | (simp; done) | (simp; omega) | omega)) | (with_reducible refine bl_drewN ?_) | (with_reducible refine Below.drew ?_) | (with_reducible refine bl_grow ?_ (by first | (simp; done) | (simp; omega) | omega)))); have hz3 := hq3.size; have ho3 := own_stay ho2 hb3; clear ho2))
  exact bodyPost_ret (v := .tuple #[.int .i64 0, errOf 1]) (by simp [results, Try.results8, go_sem, *]) rfl ⟨rfl, by repeat (first | (with_reducible exact Below.refl _ _) | (with_reducible assumption) | (with_reducible refine Below.setCell ?_ (by first | (simp; done) | (simp; omega) | omega) _) | (with_reducible refine Below.alloc ?_ (by first | (simp; done) | (simp; omega) | omega) _) | (refine bl_call ?_ (by assumption) (by first | (simp; done) | (simp; omega) | omega)) | (with_reducible refine bl_drewN ?_) | (with_reducible refine Below.drew ?_) | (with_reducible refine bl_grow ?_ (by first | (simp; done) | (simp; omega) | omega)))⟩
set_option maxRecDepth 100000 in
set_option maxHeartbeats 4000000 in
theorem comb_ok (b o p d : Nat) (X Y : Nat → Int) (w : World) (h0 : 0 < p) (h : p ≤ 12) (hp : Calls Try.prog 22 #[.slice (some ⟨b, o, none⟩) p d] w fun e w' => ∃ v, e = .returned v ∧ w'.ownsRow w.heap.size 3 1 v p (cellsI X p) ∧ Below w.heap.size w w') (hw : ∀ W v, Below w.heap.size w W → W.ownsRow w.heap.size 3 1 v p (cellsI X p) → Calls Try.prog 9 #[v] W fun e w' => ∃ u, e = .returned (.tuple #[u, .nilIface]) ∧ w'.ownsRow W.heap.size 3 1 u p (cellsI (fun i => vI (wtq (xq X) p i)) p) ∧ Below W.heap.size W w') (hr : RowP w b o p X Y) (hok : ∀ j, j < p → resB (Y j) = true) : Calls Try.prog 8 #[.slice (some ⟨b, o, none⟩) p d] w fun e w' => e = .returned (.tuple #[.int .i64 (smI X Y p p), .nilIface]) ∧ Below w.heap.size w w' := by
  have HP : Hid (Calls Try.prog 22 #[.slice (some ⟨b, o, none⟩) p d] w fun e w' => ∃ v, e = .returned v ∧ w'.ownsRow w.heap.size 3 1 v p (cellsI X p) ∧ Below w.heap.size w w') := hp
  have HW : Hid (∀ W v, Below w.heap.size w W → W.ownsRow w.heap.size 3 1 v p (cellsI X p) → Calls Try.prog 9 #[v] W fun e w' => ∃ u, e = .returned (.tuple #[u, .nilIface]) ∧ w'.ownsRow W.heap.size 3 1 u p (cellsI (fun i => vI (wtq (xq X) p i)) p) ∧ Below W.heap.size W w') := hw
  have HC : Hid (∀ W, Below w.heap.size w W → Calls Try.prog 23 #[.slice (some ⟨b, o, none⟩) p d, .func (.func 24) #[] #[]] W fun e w' => e = .returned (.bool false) ∧ Below W.heap.size W w') := fun W hW => idxP_no b o p d X Y W h (hr.below hr.1 hW) hok
  have h' : ¬ (p : Int) > 12 := by omega
  have HR : Hid (RowP w b o p X Y) := hr
  have HOK : Hid (∀ j, j < p → resB (Y j) = true) := hok
  have hb := hr.1
  clear hp hw hr hok
  go_enter Try.func8, Try.ntmps8
  go_wp2_with (first | (go_at_call 22; refine HP.out.mono ?_; rintro e w1 ⟨v1, rfl, ho1, hb1⟩; have hq1 : Below w.heap.size w w1 := (by repeat (first | (with_reducible exact Below.refl _ _) | (with_reducible assumption) | (with_reducible refine Below.setCell ?_ (by first | (simp; done) | (simp; omega) | omega) _) | (with_reducible refine Below.alloc ?_ (by first | (simp; done) | (simp; omega) | omega) _) | (refine bl_call ?_ (by assumption) (by first | (simp; done) | (simp; omega) | omega)) | (with_reducible refine bl_drewN ?_) | (with_reducible refine Below.drew ?_) | (with_reducible refine bl_grow ?_ (by first | (simp; done) | (simp; omega) | omega)))); have hz1 := hq1.size; have H2 := HW.out w1 v1 hq1 ho1; clear hb1 ho1) | (go_at_call 9; refine H2.mono ?_; rintro e w2 ⟨u2, rfl, ho2, hb2⟩; have hq2 : Below w.heap.size w w2 := (by repeat (first | (with_reducible exact Below.refl _ _) | (with_reducible assumption) | (with_reducible refine Below.setCell ?_ (by first | (simp; done) | (simp; omega) | omega) _) | (with_reducible refine Below.alloc ?_ (by first | (simp; done) | (simp; omega) | omega) _) | (refine bl_call ?_ (by assumption) (by first | (simp; done) | (simp; omega) | omega)) | (with_reducible refine bl_drewN ?_) | (with_reducible refine Below.drew ?_) | (with_reducible refine bl_grow ?_ (by first | (simp; done) | (simp; omega) | omega)))); have hz2 := hq2.size; clear hb2) | (go_at_call 23; refine (HC.out _ (by repeat (first | (with_reducible exact Below.refl _ _) | (with_reducible assumption) | (with_reducible refine Below.setCell ?_ (by first | (simp; done) | (simp; omega) | omega) _) | (with_reducible refine Below.alloc ?_ (by first | (simp; done) | (simp; omega) | omega) _) | (refine bl_call ?_ (by assumption) (by first | (simp; done) | (simp; omega) | omega)) | (with_reducible refine bl_drewN ?_) | (with_reducible refine Below.drew ?_) | (with_reducible refine bl_grow ?_ (by first | (simp; done) | (simp; omega) | omega))))).mono ?_; rintro e w3 ⟨rfl, hb3⟩; have hq3 : Below w.heap.size w w3 := (by repeat (first | (with_reducible exact Below.refl _ _) | (with_reducible assumption) | (with_reducible refine Below.setCell ?_ (by first | (simp; done) | (simp; omega) | omega) _) | (with_reducible refine Below.alloc ?_ (by first | (simp; done) | (simp; omega) | omega) _) | (refine bl_call ?_ (by assumption) (by first | (simp; done) | (simp; omega) | omega)) | (with_reducible refine bl_drewN ?_) | (with_reducible refine Below.drew ?_) | (with_reducible refine bl_grow ?_ (by first | (simp; done) | (simp; omega) | omega)))); have hz3 := hq3.size; have ho3 := own_stay ho2 hb3; clear ho2))
  obtain ⟨s4, c4, e4, k4⟩ := own_ints ho3
  obtain ⟨g, e5, _, _, r5⟩ := k4.resolve_left (by omega)
  subst e5
  subst e4
  have HRW : Hid (RowI w3 g 0 p (fun i => vI (wtq (xq X) p i))) := r5
  clear k4 r5 ho3
  clear H2
  go_loopw [6, 27] (fun ts ti wl => ∃ k : Nat, k ≤ p ∧ ti = .int .i64 k ∧ ts = .int .i64 (smI X Y p k) ∧ Below w3.heap.size w3 wl ∧ Below w.heap.size w wl) (fun _ ti _ => p - (intOf ti).toNat)
  case atStart => exact ⟨0, by omega, rfl, rfl, Below.refl _ _, by repeat (first | (with_reducible exact Below.refl _ _) | (with_reducible assumption) | (with_reducible refine Below.setCell ?_ (by first | (simp; done) | (simp; omega) | omega) _) | (with_reducible refine Below.alloc ?_ (by first | (simp; done) | (simp; omega) | omega) _) | (refine bl_call ?_ (by assumption) (by first | (simp; done) | (simp; omega) | omega)) | (with_reducible refine bl_drewN ?_) | (with_reducible refine Below.drew ?_) | (with_reducible refine bl_grow ?_ (by first | (simp; done) | (simp; omega) | omega)))⟩
  case round =>
    obtain ⟨k, hk, rfl, rfl, hqU, hqV⟩ := hrel
    rename World => wV
    have hzU := hqU.size
    have hzV := hqV.size
    by_cases hlt : k < p
    · have hlt' : (k : Int) < p := by omega
      have hbV := Nat.lt_of_lt_of_le hb hzV
      have hgV := Nat.lt_of_lt_of_le HRW.out.1 hzU
      obtain ⟨c0, c1⟩ := (HR.out.below hb hqV).2 k hlt
      have d0 := (hqU.cell (p := ⟨g, 0 + k, none⟩) HRW.out.1).trans (HRW.out.2 k hlt)
      rw [Nat.zero_add] at d0
      obtain ⟨y0, y1⟩ := res_bd (HOK.out k hlt)
      obtain ⟨q, hq⟩ : ∃ q, wtq (xq X) p k = q := ⟨_, rfl⟩
      obtain ⟨s, hs⟩ : ∃ s, smI X Y p k = s := ⟨_, rfl⟩
      have E : Hid ((s + vI q * Y k) % 1013 = smI X Y p (k + 1)) := by
        unfold Hid
        rw [← smI_step, hq, hs]
      have s0 : 0 ≤ s := by rw [← hs]; exact vI_lo _
      have s1 : s < 1013 := by rw [← hs]; exact vI_hi _
      dsimp only at d0
      rw [hq] at d0
      rw [hs]
      clear hq hs
      obtain ⟨q0, q1⟩ := vI_bd q y0 y1
      go_wp2_with fail
      refine wp_gen (fun W => At W (wV.heap.size) [.int .i64 (X k), .int .i64 (Y k)] ∧ Below wV.heap.size wV W) ⟨by repeat (first | (with_reducible assumption) | ((with_reducible refine at_new' _ _ _ _ ?_); (first | rfl | (simp; done))) | (with_reducible refine At.alloc ?_ _) | (with_reducible refine At.drew ?_) | (with_reducible refine At.drewN ?_) | (with_reducible refine At.set ?_ (by omega)) | (with_reducible apply At.store4) | (with_reducible apply At.store3) | (with_reducible apply At.store2) | (with_reducible apply At.put43) | (refine At.below ?_ (by with_reducible assumption))), by repeat (first | (with_reducible exact Below.refl _ _) | (with_reducible assumption) | (with_reducible refine Below.setCell ?_ (by first | (simp; done) | (simp; omega) | omega) _) | (with_reducible refine Below.alloc ?_ (by first | (simp; done) | (simp; omega) | omega) _) | (refine bl_call ?_ (by assumption) (by first | (simp; done) | (simp; omega) | omega)) | (with_reducible refine bl_drewN ?_) | (with_reducible refine Below.drew ?_) | (with_reducible refine bl_grow ?_ (by first | (simp; done) | (simp; omega) | omega)))⟩ ?_
      rintro W5 ⟨ksW5, hqW5⟩
      have hzW5 := hqW5.size
      obtain ⟨zsW5, cs0W5, cs1W5, fs0W5, fs1W5⟩ := ksW5.two
      have d1 := (hqW5.cell (p := ⟨g, k, none⟩) hgV).trans d0
      have hgW := Nat.lt_of_lt_of_le hgV hzW5
      have hqU5 : Below w3.heap.size w3 W5 := bl_call hqU hqW5 hzU
      have hqV5 : Below w.heap.size w W5 := bl_call hqV hqW5 hzV
      clear hqU hqV hqW5 c0 c1 d0
      go_quiet (fail)
      go_wp2_with fail
      go_roundw
      case rel => exact ⟨k + 1, by omega, by simp, by rw [← E.out], (by repeat (first | (with_reducible exact Below.refl _ _) | (with_reducible assumption) | (with_reducible refine Below.setCell ?_ (by first | (simp; done) | (simp; omega) | omega) _) | (with_reducible refine Below.alloc ?_ (by first | (simp; done) | (simp; omega) | omega) _) | (refine bl_call ?_ (by assumption) (by first | (simp; done) | (simp; omega) | omega)) | (with_reducible refine bl_drewN ?_) | (with_reducible refine Below.drew ?_) | (with_reducible refine bl_grow ?_ (by first | (simp; done) | (simp; omega) | omega)))), by repeat (first | (with_reducible exact Below.refl _ _) | (with_reducible assumption) | (with_reducible refine Below.setCell ?_ (by first | (simp; done) | (simp; omega) | omega) _) | (with_reducible refine Below.alloc ?_ (by first | (simp; done) | (simp; omega) | omega) _) | (refine bl_call ?_ (by assumption) (by first | (simp; done) | (simp; omega) | omega)) | (with_reducible refine bl_drewN ?_) | (with_reducible refine Below.drew ?_) | (with_reducible refine bl_grow ?_ (by first | (simp; done) | (simp; omega) | omega)))⟩
      case measure => simp [intOf]; omega
    · have hlt' : ¬ (k : Int) < p := by omega
      obtain rfl : k = p := by omega
      go_wp2_with fail
      exact bodyPost_ret (v := .tuple #[.int .i64 (smI X Y k k), .nilIface]) (by simp [results, Try.results8, go_sem, *]) rfl ⟨rfl, by repeat (first | (with_reducible exact Below.refl _ _) | (with_reducible assumption) | (with_reducible refine Below.setCell ?_ (by first | (simp; done) | (simp; omega) | omega) _) | (with_reducible refine Below.alloc ?_ (by first | (simp; done) | (simp; omega) | omega) _) | (refine bl_call ?_ (by assumption) (by first | (simp; done) | (simp; omega) | omega)) | (with_reducible refine bl_drewN ?_) | (with_reducible refine Below.drew ?_) | (with_reducible refine bl_grow ?_ (by first | (simp; done) | (simp; omega) | omega)))⟩
theorem combine_is : CombineIs :=
  ⟨fun sl p d w h1 h2 _ => comb_many sl p d w h1 (by omega),
   fun sl d w => comb_err sl 0 d (fun _ => 0) 5 w (by omega) (places_of sl 0 d (fun _ => 0) (fun _ => 0) w (by omega) (Or.inl rfl)) (fun W v hW ho => by
     obtain ⟨s, c, rfl, _⟩ := own_slice ho
     exact weights_is.2.1 s c W),
   fun b o p d X Y w h0 h12 hr hx hy hne => comb_err _ p d X _ w h12 (places_of _ p d X Y w h12 (Or.inr ⟨b, o, rfl, hr⟩)) (fun W v hW ho => by
     obtain ⟨s, c, rfl, k⟩ := own_ints ho
     obtain ⟨g, rfl, _, _, r⟩ := k.resolve_left (by omega)
     exact weights_is.2.2.1 g 0 p c X W h0 h12 (own_room ho) r hx hne),
   fun b o p d X Y w h0 h12 hr hy hpl hno => comb_y b o p d X Y w h12 (places_of _ p d X Y w h12 (Or.inr ⟨b, o, rfl, hr⟩)) (fun W v hW ho => by
     obtain ⟨s, c, rfl, k⟩ := own_ints ho
     obtain ⟨g, rfl, _, _, r⟩ := k.resolve_left (by omega)
     exact weights_is.2.2.2 g 0 p c X W h0 h12 (own_room ho) r hpl) hr hno,
   fun b o p d X Y w h0 h12 hr hpl hok => comb_ok b o p d X Y w h0 h12 (places_of _ p d X Y w h12 (Or.inr ⟨b, o, rfl, hr⟩)) (fun W v hW ho => by
     obtain ⟨s, c, rfl, k⟩ := own_ints ho
     obtain ⟨g, rfl, _, _, r⟩ := k.resolve_left (by omega)
     exact weights_is.2.2.2 g 0 p c X W h0 h12 (own_room ho) r hpl) hr hok⟩
end Go.Proofs.Ytkhpmnehjifdcaf
/- Quorum -/
namespace Go.Proofs.Ytkhpmnehjifdcaf
open Go.RowKit Go.Sort
set_option linter.unusedVariables false
set_option linter.unusedSimpArgs false
theorem qb_lt {W w1 : World} (hb : Below W.heap.size W w1) : ∀ b, b < W.heap.size → b < w1.heap.size := fun b h => Nat.lt_of_lt_of_le h hb.size
theorem qb_ne {W w1 : World} (hb : Below W.heap.size W w1) : ∀ b, b < W.heap.size → (b = w1.heap.size) = False := fun b h => eq_false (Nat.ne_of_lt (qb_lt hb b h))
theorem qb_ne2 {W w1 : World} (hb : Below W.heap.size W w1) : ∀ b, b < W.heap.size → (w1.heap.size = b) = False := fun b h => eq_false (Nat.ne_of_gt (qb_lt hb b h))
theorem em_res {y : Int} (h : resB y = true) : em y = y.toNat := by
  have := of_decide_eq_true (p := 0 ≤ y ∧ y < 1013) h
  unfold em; omega
theorem em_vI (q : QF) : em (vI q) = q.val := by
  have := q.isLt
  unfold em vI; omega
theorem csh_no (x y : Int) (w : World) (h : (secB x && resB y) = false) : Calls Try.prog 27 #[.agg #[.int .i64 x, .int .i64 y]] w fun e w' => e = .returned (errOf 1) ∧ Below w.heap.size w w' := by
  by_cases h1 : x < 1
  · go_enter Try.func27, Try.ntmps27
    go_wp2_with fail
    go_ret
    exact ⟨rfl, by repeat (first | (with_reducible exact Below.refl _ _) | (with_reducible assumption) | (with_reducible refine Below.setCell ?_ (by first | (simp; done) | (simp; omega) | omega) _) | (with_reducible refine Below.alloc ?_ (by first | (simp; done) | (simp; omega) | omega) _) | (refine bl_call ?_ (by assumption) (by first | (simp; done) | (simp; omega) | omega)) | (with_reducible refine bl_drewN ?_) | (with_reducible refine Below.drew ?_) | (with_reducible refine bl_grow ?_ (by first | (simp; done) | (simp; omega) | omega)))⟩
  by_cases h2 : x ≥ 1013
  · go_enter Try.func27, Try.ntmps27
    go_wp2_with fail
    go_ret
    exact ⟨rfl, by repeat (first | (with_reducible exact Below.refl _ _) | (with_reducible assumption) | (with_reducible refine Below.setCell ?_ (by first | (simp; done) | (simp; omega) | omega) _) | (with_reducible refine Below.alloc ?_ (by first | (simp; done) | (simp; omega) | omega) _) | (refine bl_call ?_ (by assumption) (by first | (simp; done) | (simp; omega) | omega)) | (with_reducible refine bl_drewN ?_) | (with_reducible refine Below.drew ?_) | (with_reducible refine bl_grow ?_ (by first | (simp; done) | (simp; omega) | omega)))⟩
  by_cases h3 : y < 0
  · go_enter Try.func27, Try.ntmps27
    go_wp2_with fail
    go_ret
    exact ⟨rfl, by repeat (first | (with_reducible exact Below.refl _ _) | (with_reducible assumption) | (with_reducible refine Below.setCell ?_ (by first | (simp; done) | (simp; omega) | omega) _) | (with_reducible refine Below.alloc ?_ (by first | (simp; done) | (simp; omega) | omega) _) | (refine bl_call ?_ (by assumption) (by first | (simp; done) | (simp; omega) | omega)) | (with_reducible refine bl_drewN ?_) | (with_reducible refine Below.drew ?_) | (with_reducible refine bl_grow ?_ (by first | (simp; done) | (simp; omega) | omega)))⟩
  by_cases h4 : y ≥ 1013
  · go_enter Try.func27, Try.ntmps27
    go_wp2_with fail
    go_ret
    exact ⟨rfl, by repeat (first | (with_reducible exact Below.refl _ _) | (with_reducible assumption) | (with_reducible refine Below.setCell ?_ (by first | (simp; done) | (simp; omega) | omega) _) | (with_reducible refine Below.alloc ?_ (by first | (simp; done) | (simp; omega) | omega) _) | (refine bl_call ?_ (by assumption) (by first | (simp; done) | (simp; omega) | omega)) | (with_reducible refine bl_drewN ?_) | (with_reducible refine Below.drew ?_) | (with_reducible refine bl_grow ?_ (by first | (simp; done) | (simp; omega) | omega)))⟩
  · exfalso
    rw [show secB x = true from decide_eq_true ⟨by omega, by omega⟩, show resB y = true from decide_eq_true ⟨by omega, by omega⟩] at h
    cases h
theorem csh_yes (x y : Int) (w : World) (h : (secB x && resB y) = true) : Calls Try.prog 27 #[.agg #[.int .i64 x, .int .i64 y]] w fun e w' => e = .returned (.nilIface) ∧ Below w.heap.size w w' := by
  rw [Bool.and_eq_true] at h
  have a := sec_bd h.1
  have b := res_bd h.2
  have h1 : ¬ x < 1 := by omega
  have h2 : ¬ x ≥ 1013 := by omega
  have h3 : ¬ y < 0 := by omega
  have h4 : ¬ y ≥ 1013 := by omega
  clear h a b
  go_enter Try.func27, Try.ntmps27
  go_wp2_with fail
  go_ret
  exact ⟨rfl, by repeat (first | (with_reducible exact Below.refl _ _) | (with_reducible assumption) | (with_reducible refine Below.setCell ?_ (by first | (simp; done) | (simp; omega) | omega) _) | (with_reducible refine Below.alloc ?_ (by first | (simp; done) | (simp; omega) | omega) _) | (refine bl_call ?_ (by assumption) (by first | (simp; done) | (simp; omega) | omega)) | (with_reducible refine bl_drewN ?_) | (with_reducible refine Below.drew ?_) | (with_reducible refine bl_grow ?_ (by first | (simp; done) | (simp; omega) | omega)))⟩
set_option maxRecDepth 100000 in
set_option maxHeartbeats 2000000 in
theorem part_no (x y : Int) (t : ByteArray) (w : World) (h : (secB x && resB y) = false) : Calls Try.prog 12 #[.agg #[.int .i64 x, .int .i64 y], .string t] w fun e w' => e = .returned (.tuple #[.agg #[.int .i64 0, .int .i64 0, .bool false], errOf 1]) ∧ Below w.heap.size w w' := by
  have H : Hid (∀ w, Calls Try.prog 27 #[.agg #[.int .i64 x, .int .i64 y]] w fun e w' => e = .returned (errOf 1) ∧ Below w.heap.size w w') := fun w => csh_no x y w h
  clear h
  have m1 : True := trivial
  go_enter Try.func12, Try.ntmps12
  go_wp2_with (go_at_call 27; clear m1; refine (H.out _).mono ?_; rintro e w1 ⟨rfl, hbw1⟩; have ksw1 : At w1 (w.heap.size) [.int .i64 x, .int .i64 y] := (by repeat (first | (with_reducible assumption) | ((with_reducible refine at_new' _ _ _ _ ?_); (first | rfl | (simp; done))) | (with_reducible refine At.alloc ?_ _) | (with_reducible refine At.drew ?_) | (with_reducible refine At.drewN ?_) | (with_reducible refine At.set ?_ (by omega)) | (with_reducible apply At.store4) | (with_reducible apply At.store3) | (with_reducible apply At.store2) | (with_reducible apply At.put43) | (refine At.below ?_ (by with_reducible assumption)))); have krw1 : At w1 (w.heap.size + 1) [.int .i64 0, .int .i64 0, .bool false] := (by repeat (first | (with_reducible assumption) | ((with_reducible refine at_new' _ _ _ _ ?_); (first | rfl | (simp; done))) | (with_reducible refine At.alloc ?_ _) | (with_reducible refine At.drew ?_) | (with_reducible refine At.drewN ?_) | (with_reducible refine At.set ?_ (by omega)) | (with_reducible apply At.store4) | (with_reducible apply At.store3) | (with_reducible apply At.store2) | (with_reducible apply At.put43) | (refine At.below ?_ (by with_reducible assumption)))); have hqw1 : Below w.heap.size w w1 := (by repeat (first | (with_reducible exact Below.refl _ _) | (with_reducible assumption) | (with_reducible refine Below.setCell ?_ (by first | (simp; done) | (simp; omega) | omega) _) | (with_reducible refine Below.alloc ?_ (by first | (simp; done) | (simp; omega) | omega) _) | (refine bl_call ?_ (by assumption) (by first | (simp; done) | (simp; omega) | omega)) | (with_reducible refine bl_drewN ?_) | (with_reducible refine Below.drew ?_) | (with_reducible refine bl_grow ?_ (by first | (simp; done) | (simp; omega) | omega)))); have hzw1 := hqw1.size; obtain ⟨zsw1, cs0w1, cs1w1, fs0w1, fs1w1⟩ := ksw1.two; obtain ⟨zrw1, cr0w1, cr1w1, cr2w1, fr0w1, fr1w1, fr2w1⟩ := krw1.three; clear hbw1)
  exact bodyPost_ret (v := .tuple #[.agg #[.int .i64 0, .int .i64 0, .bool false], errOf 1]) (by simp [results, Try.results12, go_sem, *]) rfl ⟨rfl, by repeat (first | (with_reducible exact Below.refl _ _) | (with_reducible assumption) | (with_reducible refine Below.setCell ?_ (by first | (simp; done) | (simp; omega) | omega) _) | (with_reducible refine Below.alloc ?_ (by first | (simp; done) | (simp; omega) | omega) _) | (refine bl_call ?_ (by assumption) (by first | (simp; done) | (simp; omega) | omega)) | (with_reducible refine bl_drewN ?_) | (with_reducible refine Below.drew ?_) | (with_reducible refine bl_grow ?_ (by first | (simp; done) | (simp; omega) | omega)))⟩
set_option maxRecDepth 100000 in
set_option maxHeartbeats 2000000 in
theorem part_full (x y : Int) (t : ByteArray) (w : World) (h : (secB x && resB y) = true) (h2 : 60 < t.size) (ht : t.size ≤ 9223372036854775807) : Calls Try.prog 12 #[.agg #[.int .i64 x, .int .i64 y], .string t] w fun e w' => e = .returned (.tuple #[.agg #[.int .i64 0, .int .i64 0, .bool false], errOf 4]) ∧ Below w.heap.size w w' := by
  have H : Hid (∀ w, Calls Try.prog 27 #[.agg #[.int .i64 x, .int .i64 y]] w fun e w' => e = .returned (.nilIface) ∧ Below w.heap.size w w') := fun w => csh_yes x y w h
  have h' : (t.size : Int) > 60 := by omega
  clear h
  have m1 : True := trivial
  go_enter Try.func12, Try.ntmps12
  go_wp2_with (go_at_call 27; clear m1; refine (H.out _).mono ?_; rintro e w1 ⟨rfl, hbw1⟩; have ksw1 : At w1 (w.heap.size) [.int .i64 x, .int .i64 y] := (by repeat (first | (with_reducible assumption) | ((with_reducible refine at_new' _ _ _ _ ?_); (first | rfl | (simp; done))) | (with_reducible refine At.alloc ?_ _) | (with_reducible refine At.drew ?_) | (with_reducible refine At.drewN ?_) | (with_reducible refine At.set ?_ (by omega)) | (with_reducible apply At.store4) | (with_reducible apply At.store3) | (with_reducible apply At.store2) | (with_reducible apply At.put43) | (refine At.below ?_ (by with_reducible assumption)))); have krw1 : At w1 (w.heap.size + 1) [.int .i64 0, .int .i64 0, .bool false] := (by repeat (first | (with_reducible assumption) | ((with_reducible refine at_new' _ _ _ _ ?_); (first | rfl | (simp; done))) | (with_reducible refine At.alloc ?_ _) | (with_reducible refine At.drew ?_) | (with_reducible refine At.drewN ?_) | (with_reducible refine At.set ?_ (by omega)) | (with_reducible apply At.store4) | (with_reducible apply At.store3) | (with_reducible apply At.store2) | (with_reducible apply At.put43) | (refine At.below ?_ (by with_reducible assumption)))); have hqw1 : Below w.heap.size w w1 := (by repeat (first | (with_reducible exact Below.refl _ _) | (with_reducible assumption) | (with_reducible refine Below.setCell ?_ (by first | (simp; done) | (simp; omega) | omega) _) | (with_reducible refine Below.alloc ?_ (by first | (simp; done) | (simp; omega) | omega) _) | (refine bl_call ?_ (by assumption) (by first | (simp; done) | (simp; omega) | omega)) | (with_reducible refine bl_drewN ?_) | (with_reducible refine Below.drew ?_) | (with_reducible refine bl_grow ?_ (by first | (simp; done) | (simp; omega) | omega)))); have hzw1 := hqw1.size; obtain ⟨zsw1, cs0w1, cs1w1, fs0w1, fs1w1⟩ := ksw1.two; obtain ⟨zrw1, cr0w1, cr1w1, cr2w1, fr0w1, fr1w1, fr2w1⟩ := krw1.three; clear hbw1)
  exact bodyPost_ret (v := .tuple #[.agg #[.int .i64 0, .int .i64 0, .bool false], errOf 4]) (by simp [results, Try.results12, go_sem, *]) rfl ⟨rfl, by repeat (first | (with_reducible exact Below.refl _ _) | (with_reducible assumption) | (with_reducible refine Below.setCell ?_ (by first | (simp; done) | (simp; omega) | omega) _) | (with_reducible refine Below.alloc ?_ (by first | (simp; done) | (simp; omega) | omega) _) | (refine bl_call ?_ (by assumption) (by first | (simp; done) | (simp; omega) | omega)) | (with_reducible refine bl_drewN ?_) | (with_reducible refine Below.drew ?_) | (with_reducible refine bl_grow ?_ (by first | (simp; done) | (simp; omega) | omega)))⟩
set_option maxRecDepth 100000 in
set_option maxHeartbeats 2000000 in
theorem part_ok (x y : Int) (m : Nat) (t : ByteArray) (w : World) (h : (secB x && resB y) = true) (hm : y = (m : Int)) (h2 : t.size ≤ 60) : Calls Try.prog 12 #[.agg #[.int .i64 x, .int .i64 y], .string t] w fun e w' => e = .returned (.tuple #[.agg #[.int .i64 ((tM (4 * (uN t * m))).1 : Int), .int .i64 ((tM (4 * (uN t * m))).2.1 : Int), .bool (tM (4 * (uN t * m))).2.2], .nilIface]) ∧ Below w.heap.size w w' := by
  have H : Hid (∀ w, Calls Try.prog 27 #[.agg #[.int .i64 x, .int .i64 y]] w fun e w' => e = .returned (.nilIface) ∧ Below w.heap.size w w') := fun w => csh_yes x y w h
  have E : Hid (tM (4 * uN t * em y) = tM (4 * (uN t * m))) := by
    unfold Hid
    rw [Bool.and_eq_true] at h
    rw [em_res h.2, hm, Int.toNat_natCast, Nat.mul_assoc]
  have h' : ¬ (t.size : Int) > 60 := by omega
  have ht : t.size ≤ 9223372036854775807 := by omega
  clear h hm
  have m1 : True := trivial
  go_enter Try.func12, Try.ntmps12
  go_wp2_with (go_at_call 27; clear m1; refine (H.out _).mono ?_; rintro e V ⟨rfl, hbV⟩; have ksV : At V (w.heap.size) [.int .i64 x, .int .i64 y] := (by repeat (first | (with_reducible assumption) | ((with_reducible refine at_new' _ _ _ _ ?_); (first | rfl | (simp; done))) | (with_reducible refine At.alloc ?_ _) | (with_reducible refine At.drew ?_) | (with_reducible refine At.drewN ?_) | (with_reducible refine At.set ?_ (by omega)) | (with_reducible apply At.store4) | (with_reducible apply At.store3) | (with_reducible apply At.store2) | (with_reducible apply At.put43) | (refine At.below ?_ (by with_reducible assumption)))); have krV : At V (w.heap.size + 1) [.int .i64 0, .int .i64 0, .bool false] := (by repeat (first | (with_reducible assumption) | ((with_reducible refine at_new' _ _ _ _ ?_); (first | rfl | (simp; done))) | (with_reducible refine At.alloc ?_ _) | (with_reducible refine At.drew ?_) | (with_reducible refine At.drewN ?_) | (with_reducible refine At.set ?_ (by omega)) | (with_reducible apply At.store4) | (with_reducible apply At.store3) | (with_reducible apply At.store2) | (with_reducible apply At.put43) | (refine At.below ?_ (by with_reducible assumption)))); have hqV : Below w.heap.size w V := (by repeat (first | (with_reducible exact Below.refl _ _) | (with_reducible assumption) | (with_reducible refine Below.setCell ?_ (by first | (simp; done) | (simp; omega) | omega) _) | (with_reducible refine Below.alloc ?_ (by first | (simp; done) | (simp; omega) | omega) _) | (refine bl_call ?_ (by assumption) (by first | (simp; done) | (simp; omega) | omega)) | (with_reducible refine bl_drewN ?_) | (with_reducible refine Below.drew ?_) | (with_reducible refine bl_grow ?_ (by first | (simp; done) | (simp; omega) | omega)))); have hzV := hqV.size; obtain ⟨zsV, cs0V, cs1V, fs0V, fs1V⟩ := ksV.two; obtain ⟨zrV, cr0V, cr1V, cr2V, fr0V, fr1V, fr2V⟩ := krV.three; clear hbV)
  refine below_gate 5 4 #[true, true, true, true, true, false, false, false, false] (by kernel_rfl) (by kernel_rfl) rfl rfl ?_
  dsimp only [List.take]
  repeat (go_big_quiet_step (first | (go_at_call 13; with_reducible exact Calls.regrown_of (spot_w _ _ ht)) | (go_at_call 28; with_reducible exact Calls.regrown_of (times_eq E.out _))))
  refine wpQuiet_nil ?_
  intro W hw1
  have hrW := regrown_below hw1
  clear hw1
  have ksW := ksV.below hrW
  have krW := krV.below hrW
  have hqW := bl_call hqV hrW (by omega)
  have hzW := hqW.size
  clear hrW ksV cs0V fs0V cs1V fs1V krV cr0V fr0V cr1V fr1V cr2V fr2V hqV
  obtain ⟨zsW, cs0W, cs1W, fs0W, fs1W⟩ := ksW.two
  obtain ⟨zrW, cr0W, cr1W, cr2W, fr0W, fr1W, fr2W⟩ := krW.three
  refine wpAny_take (i := 5) (v := ?v5) rfl (by kernel_rfl) (by kernel_rfl) (by kernel_rfl) (fun _ _ _ h => h) (Or.inl ⟨by rfl, ?y5⟩) ?z5
  case y5 => ((intro w); (go_simp); (try with_reducible rfl))
  case z5 =>
  refine wpAny_take (i := 6) (v := ?v6) rfl (by kernel_rfl) (by kernel_rfl) (by kernel_rfl) (fun _ _ _ h => h) (Or.inl ⟨by rfl, ?y6⟩) ?z6
  case y6 => ((intro w); (go_simp); (try with_reducible rfl))
  case z6 =>
  refine wpAny_ready (rs := [7]) (by kernel_rfl) (by simp) (AllReady.cons rfl (fun K hK => ?_) AllReady.nil)
  go_simp
  refine hK _ _ ?_
  clear hK K
  refine wpAny_ready (rs := [8]) (by kernel_rfl) (by simp) (AllReady.cons rfl (fun K hK => ?_) AllReady.nil)
  go_simp
  refine hK _ _ ?_
  clear hK K
  refine wpAny_done (by kernel_rfl) ?_ _
  go_wp2_with fail
  exact bodyPost_ret (v := .tuple #[.agg #[.int .i64 ((tM (4 * (uN t * m))).1 : Int), .int .i64 ((tM (4 * (uN t * m))).2.1 : Int), .bool (tM (4 * (uN t * m))).2.2], .nilIface]) (by simp [results, Try.results12, go_sem, *]) rfl ⟨rfl, by repeat (first | (with_reducible exact Below.refl _ _) | (with_reducible assumption) | (with_reducible refine Below.setCell ?_ (by first | (simp; done) | (simp; omega) | omega) _) | (with_reducible refine Below.alloc ?_ (by first | (simp; done) | (simp; omega) | omega) _) | (refine bl_call ?_ (by assumption) (by first | (simp; done) | (simp; omega) | omega)) | (with_reducible refine bl_drewN ?_) | (with_reducible refine Below.drew ?_) | (with_reducible refine bl_grow ?_ (by first | (simp; done) | (simp; omega) | omega)))⟩
theorem part_is : PartIs :=
  ⟨fun x y t w _ h => part_no x y t w h, fun x y t w h h2 ht => part_full x y t w h h2 ht,
   fun x y t w hx hy ht => part_ok x (y : Int) y t w (by rw [hx, show resB (y : Int) = true from decide_eq_true ⟨by omega, by omega⟩]; rfl) rfl ht⟩
theorem rowI_at {w W : World} {g q n : Nat} {F : Nat → Int} (h : RowI w g q n F) (k : Below w.heap.size w W) {i : Nat} (hi : i < n) : g < W.heap.size ∧ W.cell? ⟨g, q + i, none⟩ = some (.int .i64 (F i)) :=
  ⟨Nat.lt_of_lt_of_le h.1 k.size, (h.below h.1 k).2 i hi⟩
set_option maxRecDepth 100000 in
set_option maxHeartbeats 2000000 in
theorem weighed_row (b o g q p c d : Nat) (X PX PY : Nat → Int) (PF : Nat → Bool) (K : Nat → Nat) (w : World) (h12 : p ≤ 12) (hr : RowO w b o p PX PY PF) (hK : ∀ i, i < p → PX i = ((tM (K i)).1 : Int) ∧ PY i = ((tM (K i)).2.1 : Int) ∧ PF i = (tM (K i)).2.2) (hw : RowI w g q p (fun i => vI (wtq (xq X) p i))) :
    Calls Try.prog 35 #[.slice (some ⟨b, o, none⟩) p c, .slice (some ⟨g, q, none⟩) p d] w fun e w' => e = .returned (.tuple #[.agg #[.int .i64 ((tM (jwN K X p p)).1 : Int), .int .i64 ((tM (jwN K X p p)).2.1 : Int), .bool (tM (jwN K X p p)).2.2], .nilIface]) ∧ Below w.heap.size w w' := by
  have HR : Hid (RowO w b o p PX PY PF) := hr
  have HW : Hid (RowI w g q p (fun i => vI (wtq (xq X) p i))) := hw
  have HK : Hid (∀ i, i < p → PX i = ((tM (K i)).1 : Int) ∧ PY i = ((tM (K i)).2.1 : Int) ∧ PF i = (tM (K i)).2.2) := hK
  have hb := hr.1
  have hg := hw.1
  clear hr hK hw
  go_enter Try.func35, Try.ntmps35
  go_wp2_with fail
  go_loopw [14] (fun ti wl => ∃ k : Nat, k ≤ p ∧ ti = .int .i64 k ∧ At wl (w.heap.size) [.int .i64 0, .int .i64 0, .bool false] ∧ At wl (w.heap.size + 1) [.int .i64 ((tM (jwN K X p k)).1 : Int), .int .i64 ((tM (jwN K X p k)).2.1 : Int), .bool (tM (jwN K X p k)).2.2] ∧ Below w.heap.size w wl) (fun ti _ => p - (intOf ti).toNat)
  case atStart => exact ⟨0, by omega, rfl, by repeat (first | (with_reducible assumption) | ((with_reducible refine at_new' _ _ _ _ ?_); (first | rfl | (simp; done))) | (with_reducible refine At.alloc ?_ _) | (with_reducible refine At.drew ?_) | (with_reducible refine At.drewN ?_) | (with_reducible refine At.set ?_ (by omega)) | (with_reducible apply At.store4) | (with_reducible apply At.store3) | (with_reducible apply At.store2) | (with_reducible apply At.put43) | (refine At.below ?_ (by with_reducible assumption))), by show At _ _ [.int .i64 0, .int .i64 0, .bool true]; exact (by repeat (first | (with_reducible assumption) | ((with_reducible refine at_new' _ _ _ _ ?_); (first | rfl | (simp; done))) | (with_reducible refine At.alloc ?_ _) | (with_reducible refine At.drew ?_) | (with_reducible refine At.drewN ?_) | (with_reducible refine At.set ?_ (by omega)) | (with_reducible apply At.store4) | (with_reducible apply At.store3) | (with_reducible apply At.store2) | (with_reducible apply At.put43) | (refine At.below ?_ (by with_reducible assumption)))), by repeat (first | (with_reducible exact Below.refl _ _) | (with_reducible assumption) | (with_reducible refine Below.setCell ?_ (by first | (simp; done) | (simp; omega) | omega) _) | (with_reducible refine Below.alloc ?_ (by first | (simp; done) | (simp; omega) | omega) _) | (refine bl_call ?_ (by assumption) (by first | (simp; done) | (simp; omega) | omega)) | (with_reducible refine bl_drewN ?_) | (with_reducible refine Below.drew ?_) | (with_reducible refine bl_grow ?_ (by first | (simp; done) | (simp; omega) | omega)))⟩
  case round =>
    obtain ⟨k, hk, rfl, krV, kpV, hqV⟩ := hrel
    rename World => V
    have hzV := hqV.size
    obtain ⟨zrV, cr0V, cr1V, cr2V, fr0V, fr1V, fr2V⟩ := krV.three
    obtain ⟨zpV, cp0V, cp1V, cp2V, fp0V, fp1V, fp2V⟩ := kpV.three
    by_cases hlt : k < p
    · have hlt' : (k : Int) < p := by omega
      have hbV := Nat.lt_of_lt_of_le hb hzV
      have hgV := Nat.lt_of_lt_of_le hg hzV
      obtain ⟨c0, c1, c2⟩ := (HR.out.below hb hqV).2 k hlt
      obtain ⟨e0, e1, e2⟩ := HK.out k hlt
      rw [e0] at c0
      rw [e1] at c1
      rw [e2] at c2
      clear e0 e1 e2
      have E : Hid (tM (K k * em (vI (wtq (xq X) p k))) = tM (K k * (wtq (xq X) p k).val)) := by unfold Hid; rw [em_vI]
      go_wp2_with fail
      go_cut [9, 10] from 19 to 42 (fun t9 t10 wx => ∃ b9 : Nat, t9 = .pointer (some ⟨b9, 0, none⟩) ∧ t10 = .nilIface ∧ At wx (w.heap.size) [.int .i64 0, .int .i64 0, .bool false] ∧ At wx (w.heap.size + 1) [.int .i64 ((tM (jwN K X p k)).1 : Int), .int .i64 ((tM (jwN K X p k)).2.1 : Int), .bool (tM (jwN K X p k)).2.2] ∧ At wx b9 [.int .i64 ((tM (K k * (wtq (xq X) p k).val)).1 : Int), .int .i64 ((tM (K k * (wtq (xq X) p k).val)).2.1 : Int), .bool (tM (K k * (wtq (xq X) p k).val)).2.2] ∧ w.heap.size + 1 < b9 ∧ Below w.heap.size w wx)
      case first =>
        go_region_held3 (fun W => ((V.heap.size) < W.heap.size ∧ W.cell? ⟨V.heap.size, 0, none⟩ = some (.int .i64 ((tM (K k)).1 : Int)) ∧ W.cell? ⟨V.heap.size, 1, none⟩ = some (.int .i64 ((tM (K k)).2.1 : Int)) ∧ W.cell? ⟨V.heap.size, 2, none⟩ = some (.bool (tM (K k)).2.2) ∧ W.frozen? ⟨V.heap.size, 0, none⟩ = false ∧ W.frozen? ⟨V.heap.size, 1, none⟩ = false ∧ W.frozen? ⟨V.heap.size, 2, none⟩ = false) ∧ (g < W.heap.size ∧ W.cell? ⟨g, q + k, none⟩ = some (.int .i64 (vI (wtq (xq X) p k))))) (exact ⟨At.three (by repeat (first | (with_reducible assumption) | ((with_reducible refine at_new' _ _ _ _ ?_); (first | rfl | (simp; done))) | (with_reducible refine At.alloc ?_ _) | (with_reducible refine At.drew ?_) | (with_reducible refine At.drewN ?_) | (with_reducible refine At.set ?_ (by omega)) | (with_reducible apply At.store4) | (with_reducible apply At.store3) | (with_reducible apply At.store2) | (with_reducible apply At.put43) | (refine At.below ?_ (by with_reducible assumption)))), rowI_at HW.out (by repeat (first | (with_reducible exact Below.refl _ _) | (with_reducible assumption) | (with_reducible refine Below.setCell ?_ (by first | (simp; done) | (simp; omega) | omega) _) | (with_reducible refine Below.alloc ?_ (by first | (simp; done) | (simp; omega) | omega) _) | (refine bl_call ?_ (by assumption) (by first | (simp; done) | (simp; omega) | omega)) | (with_reducible refine bl_drewN ?_) | (with_reducible refine Below.drew ?_) | (with_reducible refine bl_grow ?_ (by first | (simp; done) | (simp; omega) | omega)))) hlt⟩) (first | (go_at_call 28; refine (times_eq E.out _).mono ?_; rintro e w2 ⟨rfl, hb2⟩; obtain ⟨hc2, hf2⟩ := bcell hb2; have hq2 : Below w.heap.size w w2 := (by repeat (first | (with_reducible exact Below.refl _ _) | (with_reducible assumption) | (with_reducible refine Below.setCell ?_ (by first | (simp; done) | (simp; omega) | omega) _) | (with_reducible refine Below.alloc ?_ (by first | (simp; done) | (simp; omega) | omega) _) | (refine bl_call ?_ (by assumption) (by first | (simp; done) | (simp; omega) | omega)) | (with_reducible refine bl_drewN ?_) | (with_reducible refine Below.drew ?_) | (with_reducible refine bl_grow ?_ (by first | (simp; done) | (simp; omega) | omega)))); have hz2 := hq2.size; clear hq2; have hl2 := qb_lt hb2; have hn2 := qb_ne hb2; have hm2 := qb_ne2 hb2; have hs2 := hb2.size; (try simp at hs2)))
        all_goals (go_wp2_with fail)
        all_goals go_meet
        all_goals (case rel => exact ⟨_, rfl, rfl, by repeat (first | (with_reducible assumption) | ((with_reducible refine at_new' _ _ _ _ ?_); (first | rfl | (simp; done))) | (with_reducible refine At.alloc ?_ _) | (with_reducible refine At.drew ?_) | (with_reducible refine At.drewN ?_) | (with_reducible refine At.set ?_ (by omega)) | (with_reducible apply At.store4) | (with_reducible apply At.store3) | (with_reducible apply At.store2) | (with_reducible apply At.put43) | (refine At.below ?_ (by with_reducible assumption))), by repeat (first | (with_reducible assumption) | ((with_reducible refine at_new' _ _ _ _ ?_); (first | rfl | (simp; done))) | (with_reducible refine At.alloc ?_ _) | (with_reducible refine At.drew ?_) | (with_reducible refine At.drewN ?_) | (with_reducible refine At.set ?_ (by omega)) | (with_reducible apply At.store4) | (with_reducible apply At.store3) | (with_reducible apply At.store2) | (with_reducible apply At.put43) | (refine At.below ?_ (by with_reducible assumption))), by repeat (first | (with_reducible assumption) | ((with_reducible refine at_new' _ _ _ _ ?_); (first | rfl | (simp; done))) | (with_reducible refine At.alloc ?_ _) | (with_reducible refine At.drew ?_) | (with_reducible refine At.drewN ?_) | (with_reducible refine At.set ?_ (by omega)) | (with_reducible apply At.store4) | (with_reducible apply At.store3) | (with_reducible apply At.store2) | (with_reducible apply At.put43) | (refine At.below ?_ (by with_reducible assumption))), by omega, by repeat (first | (with_reducible exact Below.refl _ _) | (with_reducible assumption) | (with_reducible refine Below.setCell ?_ (by first | (simp; done) | (simp; omega) | omega) _) | (with_reducible refine Below.alloc ?_ (by first | (simp; done) | (simp; omega) | omega) _) | (refine bl_call ?_ (by assumption) (by first | (simp; done) | (simp; omega) | omega)) | (with_reducible refine bl_drewN ?_) | (with_reducible refine Below.drew ?_) | (with_reducible refine bl_grow ?_ (by first | (simp; done) | (simp; omega) | omega)))⟩)
      case rest =>
        clear c0 c1 c2 krV cr0V fr0V cr1V fr1V cr2V fr2V kpV cp0V fp0V cp1V fp1V cp2V fp2V hqV
        obtain ⟨b9, rfl, rfl, krwc, kpwc, kxwc, hb9, hqwc⟩ := hcut
        have hzwc := hqwc.size
        obtain ⟨zrwc, cr0wc, cr1wc, cr2wc, fr0wc, fr1wc, fr2wc⟩ := krwc.three
        obtain ⟨zpwc, cp0wc, cp1wc, cp2wc, fp0wc, fp1wc, fp2wc⟩ := kpwc.three
        obtain ⟨zxwc, cx0wc, cx1wc, cx2wc, fx0wc, fx1wc, fx2wc⟩ := kxwc.three
        have m1 : True := trivial
        go_wp2_with (go_at_call 46; clear m1; refine (cadd_tM _ _ _).mono ?_; rintro e w3 ⟨rfl, hbw3⟩; have krw3 : At w3 (w.heap.size) [.int .i64 0, .int .i64 0, .bool false] := (by repeat (first | (with_reducible assumption) | ((with_reducible refine at_new' _ _ _ _ ?_); (first | rfl | (simp; done))) | (with_reducible refine At.alloc ?_ _) | (with_reducible refine At.drew ?_) | (with_reducible refine At.drewN ?_) | (with_reducible refine At.set ?_ (by omega)) | (with_reducible apply At.store4) | (with_reducible apply At.store3) | (with_reducible apply At.store2) | (with_reducible apply At.put43) | (refine At.below ?_ (by with_reducible assumption)))); have kpw3 : At w3 (w.heap.size + 1) [.int .i64 ((tM (jwN K X p k)).1 : Int), .int .i64 ((tM (jwN K X p k)).2.1 : Int), .bool (tM (jwN K X p k)).2.2] := (by repeat (first | (with_reducible assumption) | ((with_reducible refine at_new' _ _ _ _ ?_); (first | rfl | (simp; done))) | (with_reducible refine At.alloc ?_ _) | (with_reducible refine At.drew ?_) | (with_reducible refine At.drewN ?_) | (with_reducible refine At.set ?_ (by omega)) | (with_reducible apply At.store4) | (with_reducible apply At.store3) | (with_reducible apply At.store2) | (with_reducible apply At.put43) | (refine At.below ?_ (by with_reducible assumption)))); have hqw3 : Below w.heap.size w w3 := (by repeat (first | (with_reducible exact Below.refl _ _) | (with_reducible assumption) | (with_reducible refine Below.setCell ?_ (by first | (simp; done) | (simp; omega) | omega) _) | (with_reducible refine Below.alloc ?_ (by first | (simp; done) | (simp; omega) | omega) _) | (refine bl_call ?_ (by assumption) (by first | (simp; done) | (simp; omega) | omega)) | (with_reducible refine bl_drewN ?_) | (with_reducible refine Below.drew ?_) | (with_reducible refine bl_grow ?_ (by first | (simp; done) | (simp; omega) | omega)))); have hzw3 := hqw3.size; obtain ⟨zrw3, cr0w3, cr1w3, cr2w3, fr0w3, fr1w3, fr2w3⟩ := krw3.three; obtain ⟨zpw3, cp0w3, cp1w3, cp2w3, fp0w3, fp1w3, fp2w3⟩ := kpw3.three; clear krwc cr0wc fr0wc cr1wc fr1wc cr2wc fr2wc kpwc cp0wc fp0wc cp1wc fp1wc cp2wc fp2wc hqwc; clear hbw3)
        go_roundw
        case rel => exact ⟨k + 1, by omega, by simp, by repeat (first | (with_reducible assumption) | ((with_reducible refine at_new' _ _ _ _ ?_); (first | rfl | (simp; done))) | (with_reducible refine At.alloc ?_ _) | (with_reducible refine At.drew ?_) | (with_reducible refine At.drewN ?_) | (with_reducible refine At.set ?_ (by omega)) | (with_reducible apply At.store4) | (with_reducible apply At.store3) | (with_reducible apply At.store2) | (with_reducible apply At.put43) | (refine At.below ?_ (by with_reducible assumption))), (show At _ _ [.int .i64 ((tM (jwN K X p k + K k * (wtq (xq X) p k).val)).1 : Int), .int .i64 ((tM (jwN K X p k + K k * (wtq (xq X) p k).val)).2.1 : Int), .bool (tM (jwN K X p k + K k * (wtq (xq X) p k).val)).2.2] from by repeat (first | (with_reducible assumption) | ((with_reducible refine at_new' _ _ _ _ ?_); (first | rfl | (simp; done))) | (with_reducible refine At.alloc ?_ _) | (with_reducible refine At.drew ?_) | (with_reducible refine At.drewN ?_) | (with_reducible refine At.set ?_ (by omega)) | (with_reducible apply At.store4) | (with_reducible apply At.store3) | (with_reducible apply At.store2) | (with_reducible apply At.put43) | (refine At.below ?_ (by with_reducible assumption)))), by repeat (first | (with_reducible exact Below.refl _ _) | (with_reducible assumption) | (with_reducible refine Below.setCell ?_ (by first | (simp; done) | (simp; omega) | omega) _) | (with_reducible refine Below.alloc ?_ (by first | (simp; done) | (simp; omega) | omega) _) | (refine bl_call ?_ (by assumption) (by first | (simp; done) | (simp; omega) | omega)) | (with_reducible refine bl_drewN ?_) | (with_reducible refine Below.drew ?_) | (with_reducible refine bl_grow ?_ (by first | (simp; done) | (simp; omega) | omega)))⟩
        case measure => simp [intOf]; omega
    · have hlt' : ¬ (k : Int) < p := by omega
      obtain rfl : k = p := by omega
      go_wp2_with fail
      exact bodyPost_ret (v := .tuple #[.agg #[.int .i64 ((tM (jwN K X k k)).1 : Int), .int .i64 ((tM (jwN K X k k)).2.1 : Int), .bool (tM (jwN K X k k)).2.2], .nilIface]) (by simp [results, Try.results35, go_sem, *]) rfl ⟨rfl, by repeat (first | (with_reducible exact Below.refl _ _) | (with_reducible assumption) | (with_reducible refine Below.setCell ?_ (by first | (simp; done) | (simp; omega) | omega) _) | (with_reducible refine Below.alloc ?_ (by first | (simp; done) | (simp; omega) | omega) _) | (refine bl_call ?_ (by assumption) (by first | (simp; done) | (simp; omega) | omega)) | (with_reducible refine bl_drewN ?_) | (with_reducible refine Below.drew ?_) | (with_reducible refine bl_grow ?_ (by first | (simp; done) | (simp; omega) | omega)))⟩
set_option maxRecDepth 100000 in
set_option maxHeartbeats 2000000 in
theorem qjoin_odd (sx sb : Option Addr) (p d q c : Nat) (w : World) (hp : p ≤ 9223372036854775807) (hq : q ≤ 9223372036854775807) (h : p ≠ q) : Calls Try.prog 15 #[.slice sx p d, .slice sb q c] w fun e w' => e = .returned (.tuple #[.agg #[.int .i64 0, .int .i64 0, .bool false], errOf 3]) ∧ Below w.heap.size w w' := by
  have h' : ((q : Int) != (p : Int)) = true := by rw [bne_iff_ne]; omega
  go_enter Try.func15, Try.ntmps15
  go_wp2_with fail
  exact bodyPost_ret (v := .tuple #[.agg #[.int .i64 0, .int .i64 0, .bool false], errOf 3]) (by simp [results, Try.results15, go_sem, *]) rfl ⟨rfl, by repeat (first | (with_reducible exact Below.refl _ _) | (with_reducible assumption) | (with_reducible refine Below.setCell ?_ (by first | (simp; done) | (simp; omega) | omega) _) | (with_reducible refine Below.alloc ?_ (by first | (simp; done) | (simp; omega) | omega) _) | (refine bl_call ?_ (by assumption) (by first | (simp; done) | (simp; omega) | omega)) | (with_reducible refine bl_drewN ?_) | (with_reducible refine Below.drew ?_) | (with_reducible refine bl_grow ?_ (by first | (simp; done) | (simp; omega) | omega)))⟩
set_option maxRecDepth 100000 in
set_option maxHeartbeats 2000000 in
theorem qjoin_err (sx sb : Option Addr) (p d c : Nat) (e0 : Int) (w : World) (hp : p ≤ 9223372036854775807) (h : ∀ W, Below w.heap.size w W → Calls Try.prog 9 #[.slice sx p d] W fun e w' => e = .returned (.tuple #[.slice none 0 0, errOf e0]) ∧ Below W.heap.size W w') : Calls Try.prog 15 #[.slice sx p d, .slice sb p c] w fun e w' => e = .returned (.tuple #[.agg #[.int .i64 0, .int .i64 0, .bool false], errOf e0]) ∧ Below w.heap.size w w' := by
  have H : Hid (∀ W, Below w.heap.size w W → Calls Try.prog 9 #[.slice sx p d] W fun e w' => e = .returned (.tuple #[.slice none 0 0, errOf e0]) ∧ Below W.heap.size W w') := h
  have h' : ((p : Int) != (p : Int)) = false := by simp
  clear h
  have m1 : True := trivial
  go_enter Try.func15, Try.ntmps15
  go_wp2_with (go_at_call 9; clear m1; refine (H.out _ (by repeat (first | (with_reducible exact Below.refl _ _) | (with_reducible assumption) | (with_reducible refine Below.setCell ?_ (by first | (simp; done) | (simp; omega) | omega) _) | (with_reducible refine Below.alloc ?_ (by first | (simp; done) | (simp; omega) | omega) _) | (refine bl_call ?_ (by assumption) (by first | (simp; done) | (simp; omega) | omega)) | (with_reducible refine bl_drewN ?_) | (with_reducible refine Below.drew ?_) | (with_reducible refine bl_grow ?_ (by first | (simp; done) | (simp; omega) | omega))))).mono ?_; rintro e w1 ⟨rfl, hbw1⟩; have krw1 : At w1 (w.heap.size) [.int .i64 0, .int .i64 0, .bool false] := (by repeat (first | (with_reducible assumption) | ((with_reducible refine at_new' _ _ _ _ ?_); (first | rfl | (simp; done))) | (with_reducible refine At.alloc ?_ _) | (with_reducible refine At.drew ?_) | (with_reducible refine At.drewN ?_) | (with_reducible refine At.set ?_ (by omega)) | (with_reducible apply At.store4) | (with_reducible apply At.store3) | (with_reducible apply At.store2) | (with_reducible apply At.put43) | (refine At.below ?_ (by with_reducible assumption)))); have hqw1 : Below w.heap.size w w1 := (by repeat (first | (with_reducible exact Below.refl _ _) | (with_reducible assumption) | (with_reducible refine Below.setCell ?_ (by first | (simp; done) | (simp; omega) | omega) _) | (with_reducible refine Below.alloc ?_ (by first | (simp; done) | (simp; omega) | omega) _) | (refine bl_call ?_ (by assumption) (by first | (simp; done) | (simp; omega) | omega)) | (with_reducible refine bl_drewN ?_) | (with_reducible refine Below.drew ?_) | (with_reducible refine bl_grow ?_ (by first | (simp; done) | (simp; omega) | omega)))); have hzw1 := hqw1.size; obtain ⟨zrw1, cr0w1, cr1w1, cr2w1, fr0w1, fr1w1, fr2w1⟩ := krw1.three; clear hbw1)
  exact bodyPost_ret (v := .tuple #[.agg #[.int .i64 0, .int .i64 0, .bool false], errOf e0]) (by simp [results, Try.results15, go_sem, *]) rfl ⟨rfl, by repeat (first | (with_reducible exact Below.refl _ _) | (with_reducible assumption) | (with_reducible refine Below.setCell ?_ (by first | (simp; done) | (simp; omega) | omega) _) | (with_reducible refine Below.alloc ?_ (by first | (simp; done) | (simp; omega) | omega) _) | (refine bl_call ?_ (by assumption) (by first | (simp; done) | (simp; omega) | omega)) | (with_reducible refine bl_drewN ?_) | (with_reducible refine Below.drew ?_) | (with_reducible refine bl_grow ?_ (by first | (simp; done) | (simp; omega) | omega)))⟩
set_option maxRecDepth 100000 in
set_option maxHeartbeats 2000000 in
theorem qjoin_bad (b o b' o' p d c : Nat) (X : Nat → Int) (e0 : Int) (w : World) (hp : p ≤ 12) (h : ∀ W, Below w.heap.size w W → Calls Try.prog 9 #[.slice (some ⟨b, o, none⟩) p d] W fun e w' => ∃ u, e = .returned (.tuple #[u, .nilIface]) ∧ w'.ownsRow W.heap.size 3 1 u p (cellsI (fun i => vI (wtq (xq X) p i)) p) ∧ Below W.heap.size W w') (hc : ∀ W, Below w.heap.size w W → Calls Try.prog 34 #[.slice (some ⟨b', o', none⟩) p c] W fun e w' => e = .returned (errOf e0) ∧ Below W.heap.size W w') : Calls Try.prog 15 #[.slice (some ⟨b, o, none⟩) p d, .slice (some ⟨b', o', none⟩) p c] w fun e w' => e = .returned (.tuple #[.agg #[.int .i64 0, .int .i64 0, .bool false], errOf e0]) ∧ Below w.heap.size w w' := by
  have H : Hid (∀ W, Below w.heap.size w W → Calls Try.prog 9 #[.slice (some ⟨b, o, none⟩) p d] W fun e w' => ∃ u, e = .returned (.tuple #[u, .nilIface]) ∧ w'.ownsRow W.heap.size 3 1 u p (cellsI (fun i => vI (wtq (xq X) p i)) p) ∧ Below W.heap.size W w') := h
  have HC : Hid (∀ W, Below w.heap.size w W → Calls Try.prog 34 #[.slice (some ⟨b', o', none⟩) p c] W fun e w' => e = .returned (errOf e0) ∧ Below W.heap.size W w') := hc
  have h' : ((p : Int) != (p : Int)) = false := by simp
  clear h hc
  go_enter Try.func15, Try.ntmps15
  go_wp2_with (go_at_call 9; refine (H.out _ (by repeat (first | (with_reducible exact Below.refl _ _) | (with_reducible assumption) | (with_reducible refine Below.setCell ?_ (by first | (simp; done) | (simp; omega) | omega) _) | (with_reducible refine Below.alloc ?_ (by first | (simp; done) | (simp; omega) | omega) _) | (refine bl_call ?_ (by assumption) (by first | (simp; done) | (simp; omega) | omega)) | (with_reducible refine bl_drewN ?_) | (with_reducible refine Below.drew ?_) | (with_reducible refine bl_grow ?_ (by first | (simp; done) | (simp; omega) | omega))))).mono ?_; rintro e w1 ⟨u1, rfl, ho1, hb1⟩; have kr1 : At w1 (w.heap.size) [.int .i64 0, .int .i64 0, .bool false] := (by repeat (first | (with_reducible assumption) | ((with_reducible refine at_new' _ _ _ _ ?_); (first | rfl | (simp; done))) | (with_reducible refine At.alloc ?_ _) | (with_reducible refine At.drew ?_) | (with_reducible refine At.drewN ?_) | (with_reducible refine At.set ?_ (by omega)) | (with_reducible apply At.store4) | (with_reducible apply At.store3) | (with_reducible apply At.store2) | (with_reducible apply At.put43) | (refine At.below ?_ (by with_reducible assumption)))); have hq1 : Below w.heap.size w w1 := (by repeat (first | (with_reducible exact Below.refl _ _) | (with_reducible assumption) | (with_reducible refine Below.setCell ?_ (by first | (simp; done) | (simp; omega) | omega) _) | (with_reducible refine Below.alloc ?_ (by first | (simp; done) | (simp; omega) | omega) _) | (refine bl_call ?_ (by assumption) (by first | (simp; done) | (simp; omega) | omega)) | (with_reducible refine bl_drewN ?_) | (with_reducible refine Below.drew ?_) | (with_reducible refine bl_grow ?_ (by first | (simp; done) | (simp; omega) | omega)))); have hz1 := hq1.size; obtain ⟨zr1, cr01, cr11, cr21, fr01, fr11, fr21⟩ := kr1.three; clear hb1)
  go_wp2_with (go_at_call 34; refine (HC.out _ hq1).mono ?_; rintro e w2 ⟨rfl, hb2⟩; have kr2 : At w2 (w.heap.size) [.int .i64 0, .int .i64 0, .bool false] := (by repeat (first | (with_reducible assumption) | ((with_reducible refine at_new' _ _ _ _ ?_); (first | rfl | (simp; done))) | (with_reducible refine At.alloc ?_ _) | (with_reducible refine At.drew ?_) | (with_reducible refine At.drewN ?_) | (with_reducible refine At.set ?_ (by omega)) | (with_reducible apply At.store4) | (with_reducible apply At.store3) | (with_reducible apply At.store2) | (with_reducible apply At.put43) | (refine At.below ?_ (by with_reducible assumption)))); have hq2 : Below w.heap.size w w2 := (by repeat (first | (with_reducible exact Below.refl _ _) | (with_reducible assumption) | (with_reducible refine Below.setCell ?_ (by first | (simp; done) | (simp; omega) | omega) _) | (with_reducible refine Below.alloc ?_ (by first | (simp; done) | (simp; omega) | omega) _) | (refine bl_call ?_ (by assumption) (by first | (simp; done) | (simp; omega) | omega)) | (with_reducible refine bl_drewN ?_) | (with_reducible refine Below.drew ?_) | (with_reducible refine bl_grow ?_ (by first | (simp; done) | (simp; omega) | omega)))); have hz2 := hq2.size; have ho2 := own_stay ho1 hb2; obtain ⟨zr2, cr02, cr12, cr22, fr02, fr12, fr22⟩ := kr2.three; clear hb2 ho1 kr1 cr01 fr01 cr11 fr11 cr21 fr21 hq1)
  exact bodyPost_ret (v := .tuple #[.agg #[.int .i64 0, .int .i64 0, .bool false], errOf e0]) (by simp [results, Try.results15, go_sem, *]) rfl ⟨rfl, by repeat (first | (with_reducible exact Below.refl _ _) | (with_reducible assumption) | (with_reducible refine Below.setCell ?_ (by first | (simp; done) | (simp; omega) | omega) _) | (with_reducible refine Below.alloc ?_ (by first | (simp; done) | (simp; omega) | omega) _) | (refine bl_call ?_ (by assumption) (by first | (simp; done) | (simp; omega) | omega)) | (with_reducible refine bl_drewN ?_) | (with_reducible refine Below.drew ?_) | (with_reducible refine bl_grow ?_ (by first | (simp; done) | (simp; omega) | omega)))⟩
set_option maxRecDepth 100000 in
set_option maxHeartbeats 2000000 in
theorem qjoin_ok (b o b' o' p d c : Nat) (X PX PY : Nat → Int) (PF : Nat → Bool) (K : Nat → Nat) (w : World) (h0 : 0 < p) (hp : p ≤ 12) (h : ∀ W, Below w.heap.size w W → Calls Try.prog 9 #[.slice (some ⟨b, o, none⟩) p d] W fun e w' => ∃ u, e = .returned (.tuple #[u, .nilIface]) ∧ w'.ownsRow W.heap.size 3 1 u p (cellsI (fun i => vI (wtq (xq X) p i)) p) ∧ Below W.heap.size W w') (hc : ∀ W, Below w.heap.size w W → Calls Try.prog 34 #[.slice (some ⟨b', o', none⟩) p c] W fun e w' => e = .returned (.nilIface) ∧ Below W.heap.size W w') (hr : RowO w b' o' p PX PY PF) (hK : ∀ i, i < p → PX i = ((tM (K i)).1 : Int) ∧ PY i = ((tM (K i)).2.1 : Int) ∧ PF i = (tM (K i)).2.2) : Calls Try.prog 15 #[.slice (some ⟨b, o, none⟩) p d, .slice (some ⟨b', o', none⟩) p c] w fun e w' => e = .returned (.tuple #[.agg #[.int .i64 ((tM (jwN K X p p)).1 : Int), .int .i64 ((tM (jwN K X p p)).2.1 : Int), .bool (tM (jwN K X p p)).2.2], .nilIface]) ∧ Below w.heap.size w w' := by
  have H : Hid (∀ W, Below w.heap.size w W → Calls Try.prog 9 #[.slice (some ⟨b, o, none⟩) p d] W fun e w' => ∃ u, e = .returned (.tuple #[u, .nilIface]) ∧ w'.ownsRow W.heap.size 3 1 u p (cellsI (fun i => vI (wtq (xq X) p i)) p) ∧ Below W.heap.size W w') := h
  have HC : Hid (∀ W, Below w.heap.size w W → Calls Try.prog 34 #[.slice (some ⟨b', o', none⟩) p c] W fun e w' => e = .returned (.nilIface) ∧ Below W.heap.size W w') := hc
  have HWE : Hid (∀ W u B, Below w.heap.size w W → W.ownsRow B 3 1 u p (cellsI (fun i => vI (wtq (xq X) p i)) p) → Calls Try.prog 35 #[.slice (some ⟨b', o', none⟩) p c, u] W fun e w' => e = .returned (.tuple #[.agg #[.int .i64 ((tM (jwN K X p p)).1 : Int), .int .i64 ((tM (jwN K X p p)).2.1 : Int), .bool (tM (jwN K X p p)).2.2], .nilIface]) ∧ Below W.heap.size W w') := fun W u B hW hu => by
    obtain ⟨sa, cc, rfl, k⟩ := own_ints hu
    obtain ⟨g, rfl, _, _, r⟩ := k.resolve_left (by omega)
    exact weighed_row b' o' g 0 p c cc X PX PY PF K W hp (hr.below hr.1 hW) hK r
  have h' : ((p : Int) != (p : Int)) = false := by simp
  clear h hc hr hK
  go_enter Try.func15, Try.ntmps15
  go_wp2_with (go_at_call 9; refine (H.out _ (by repeat (first | (with_reducible exact Below.refl _ _) | (with_reducible assumption) | (with_reducible refine Below.setCell ?_ (by first | (simp; done) | (simp; omega) | omega) _) | (with_reducible refine Below.alloc ?_ (by first | (simp; done) | (simp; omega) | omega) _) | (refine bl_call ?_ (by assumption) (by first | (simp; done) | (simp; omega) | omega)) | (with_reducible refine bl_drewN ?_) | (with_reducible refine Below.drew ?_) | (with_reducible refine bl_grow ?_ (by first | (simp; done) | (simp; omega) | omega))))).mono ?_; rintro e w1 ⟨u1, rfl, ho1, hb1⟩; have kr1 : At w1 (w.heap.size) [.int .i64 0, .int .i64 0, .bool false] := (by repeat (first | (with_reducible assumption) | ((with_reducible refine at_new' _ _ _ _ ?_); (first | rfl | (simp; done))) | (with_reducible refine At.alloc ?_ _) | (with_reducible refine At.drew ?_) | (with_reducible refine At.drewN ?_) | (with_reducible refine At.set ?_ (by omega)) | (with_reducible apply At.store4) | (with_reducible apply At.store3) | (with_reducible apply At.store2) | (with_reducible apply At.put43) | (refine At.below ?_ (by with_reducible assumption)))); have hq1 : Below w.heap.size w w1 := (by repeat (first | (with_reducible exact Below.refl _ _) | (with_reducible assumption) | (with_reducible refine Below.setCell ?_ (by first | (simp; done) | (simp; omega) | omega) _) | (with_reducible refine Below.alloc ?_ (by first | (simp; done) | (simp; omega) | omega) _) | (refine bl_call ?_ (by assumption) (by first | (simp; done) | (simp; omega) | omega)) | (with_reducible refine bl_drewN ?_) | (with_reducible refine Below.drew ?_) | (with_reducible refine bl_grow ?_ (by first | (simp; done) | (simp; omega) | omega)))); have hz1 := hq1.size; obtain ⟨zr1, cr01, cr11, cr21, fr01, fr11, fr21⟩ := kr1.three; clear hb1)
  go_wp2_with (go_at_call 34; refine (HC.out _ hq1).mono ?_; rintro e w2 ⟨rfl, hb2⟩; have kr2 : At w2 (w.heap.size) [.int .i64 0, .int .i64 0, .bool false] := (by repeat (first | (with_reducible assumption) | ((with_reducible refine at_new' _ _ _ _ ?_); (first | rfl | (simp; done))) | (with_reducible refine At.alloc ?_ _) | (with_reducible refine At.drew ?_) | (with_reducible refine At.drewN ?_) | (with_reducible refine At.set ?_ (by omega)) | (with_reducible apply At.store4) | (with_reducible apply At.store3) | (with_reducible apply At.store2) | (with_reducible apply At.put43) | (refine At.below ?_ (by with_reducible assumption)))); have hq2 : Below w.heap.size w w2 := (by repeat (first | (with_reducible exact Below.refl _ _) | (with_reducible assumption) | (with_reducible refine Below.setCell ?_ (by first | (simp; done) | (simp; omega) | omega) _) | (with_reducible refine Below.alloc ?_ (by first | (simp; done) | (simp; omega) | omega) _) | (refine bl_call ?_ (by assumption) (by first | (simp; done) | (simp; omega) | omega)) | (with_reducible refine bl_drewN ?_) | (with_reducible refine Below.drew ?_) | (with_reducible refine bl_grow ?_ (by first | (simp; done) | (simp; omega) | omega)))); have hz2 := hq2.size; have ho2 := own_stay ho1 hb2; obtain ⟨zr2, cr02, cr12, cr22, fr02, fr12, fr22⟩ := kr2.three; clear hb2 ho1 kr1 cr01 fr01 cr11 fr11 cr21 fr21 hq1)
  go_wp2_with ((go_at_call 35; refine (HWE.out _ _ _ hq2 ho2).mono ?_; rintro e w3 ⟨rfl, hb3⟩; have kr3 : At w3 (w.heap.size) [.int .i64 0, .int .i64 0, .bool false] := (by repeat (first | (with_reducible assumption) | ((with_reducible refine at_new' _ _ _ _ ?_); (first | rfl | (simp; done))) | (with_reducible refine At.alloc ?_ _) | (with_reducible refine At.drew ?_) | (with_reducible refine At.drewN ?_) | (with_reducible refine At.set ?_ (by omega)) | (with_reducible apply At.store4) | (with_reducible apply At.store3) | (with_reducible apply At.store2) | (with_reducible apply At.put43) | (refine At.below ?_ (by with_reducible assumption)))); have hq3 : Below w.heap.size w w3 := (by repeat (first | (with_reducible exact Below.refl _ _) | (with_reducible assumption) | (with_reducible refine Below.setCell ?_ (by first | (simp; done) | (simp; omega) | omega) _) | (with_reducible refine Below.alloc ?_ (by first | (simp; done) | (simp; omega) | omega) _) | (refine bl_call ?_ (by assumption) (by first | (simp; done) | (simp; omega) | omega)) | (with_reducible refine bl_drewN ?_) | (with_reducible refine Below.drew ?_) | (with_reducible refine bl_grow ?_ (by first | (simp; done) | (simp; omega) | omega)))); have hz3 := hq3.size; obtain ⟨zr3, cr03, cr13, cr23, fr03, fr13, fr23⟩ := kr3.three; clear hb3))
  exact bodyPost_ret (v := .tuple #[.agg #[.int .i64 ((tM (jwN K X p p)).1 : Int), .int .i64 ((tM (jwN K X p p)).2.1 : Int), .bool (tM (jwN K X p p)).2.2], .nilIface]) (by simp [results, Try.results15, go_sem, *]) rfl ⟨rfl, by repeat (first | (with_reducible exact Below.refl _ _) | (with_reducible assumption) | (with_reducible refine Below.setCell ?_ (by first | (simp; done) | (simp; omega) | omega) _) | (with_reducible refine Below.alloc ?_ (by first | (simp; done) | (simp; omega) | omega) _) | (refine bl_call ?_ (by assumption) (by first | (simp; done) | (simp; omega) | omega)) | (with_reducible refine bl_drewN ?_) | (with_reducible refine Below.drew ?_) | (with_reducible refine bl_grow ?_ (by first | (simp; done) | (simp; omega) | omega)))⟩
theorem join_is : JoinIs :=
  ⟨fun sx sb p d q c w hp hq h => qjoin_odd sx sb p d q c w hp hq h,
   fun sx sb p d c w h hp => qjoin_err sx sb p d c 4 w hp (fun W _ => weights_is.1 sx p d W h hp),
   fun sx sb d c w => qjoin_err sx sb 0 d c 5 w (by omega) (fun W _ => weights_is.2.1 sx d W),
   fun b o b' o' p d c X PX PY PF w h0 h12 hd hc hr hx hr' hne => qjoin_err _ _ p d c _ w (by omega) (fun W hW => weights_is.2.2.1 b o p d X W h0 h12 hd (hr.below hr.1 hW) hx hne),
   fun b o b' o' p d c X PX PY PF w K j h0 h12 hd hc hr hx hr' hpl hj hK hne => qjoin_bad b o b' o' p d c X _ w h12 (fun W hW => weights_is.2.2.2 b o p d X W h0 h12 hd (hr.below hr.1 hW) hpl)
     (fun W hW => checkAll_row b' o' p c j PX PY PF W (by omega) (hr'.below hr'.1 hW) (by omega) (fun i hi => by obtain ⟨a1, a2, a3⟩ := hK i hi; rw [a1, a2, a3]; exact ck_tM _) _ (Or.inr ⟨hj, hne, rfl⟩)),
   fun b o b' o' p d c X PX PY PF w K h0 h12 hd hc hr hx hr' hpl hK => qjoin_ok b o b' o' p d c X PX PY PF K w h0 h12 (fun W hW => weights_is.2.2.2 b o p d X W h0 h12 hd (hr.below hr.1 hW) hpl)
     (fun W hW => checkAll_row b' o' p c p PX PY PF W (by omega) (hr'.below hr'.1 hW) (Nat.le_refl _) (fun i hi => by obtain ⟨a1, a2, a3⟩ := hK i hi; rw [a1, a2, a3]; exact ck_tM _) _ (Or.inl ⟨rfl, rfl⟩)) hr' hK⟩
theorem pinfo : (Try.prog.info? 39).map (fun i => (i.zero, i.size, i.bytes)) = some (some (.agg #[.int .i64 0, .int .i64 0, .bool false]), 3, 24) := by kernel_rfl
theorem three_new {w : World} {b : Nat} (h : w.heap.size = b) (x y z : Value) (t : TypeId) : ∀ j u, [x, y, z][j]? = some u → (w.alloc (.cells #[x, y, z] t)).cell? ((⟨b, 0, none⟩ : Addr).add j) = some u := by
  subst h
  intro j u hj
  rw [addr_add]
  match j, hj with
  | 0, hj => simp at hj; subst hj; simp
  | 1, hj => simp at hj; subst hj; simp
  | 2, hj => simp at hj; subst hj; simp
set_option maxRecDepth 100000 in
set_option maxHeartbeats 2000000 in
theorem public_many (sl : Option Addr) (n d : Nat) (w : World) (h : 12 < n) (hn : n ≤ 9223372036854775807) : Calls Try.prog 14 #[.slice sl n d] w fun e w' => e = .returned (.tuple #[.slice none 0 0, errOf 4]) ∧ Below w.heap.size w w' := by
  have h' : (n : Int) > 12 := by omega
  go_enter Try.func14, Try.ntmps14
  go_wp2_with fail
  go_ret2
  exact ⟨rfl, by repeat (first | (with_reducible exact Below.refl _ _) | (with_reducible assumption) | (with_reducible refine Below.setCell ?_ (by first | (simp; done) | (simp; omega) | omega) _) | (with_reducible refine Below.alloc ?_ (by first | (simp; done) | (simp; omega) | omega) _) | (refine bl_call ?_ (by assumption) (by first | (simp; done) | (simp; omega) | omega)) | (with_reducible refine bl_drewN ?_) | (with_reducible refine Below.drew ?_) | (with_reducible refine bl_grow ?_ (by first | (simp; done) | (simp; omega) | omega)))⟩
set_option maxRecDepth 100000 in
set_option maxHeartbeats 2000000 in
theorem public_bad (sl : Option Addr) (n d t : Nat) (X Y : Nat → Int) (w : World) (hn : n ≤ 12) (hr : (n = 0 ∨ ∃ b o : Nat, sl = some ⟨b, o, none⟩ ∧ RowP w b o n X Y)) (hok : ∀ i, i < t → (secB (X i) && resB (Y i)) = true) (ht : t < n) (hbad : (secB (X t) && resB (Y t)) = false) : Calls Try.prog 14 #[.slice sl n d] w fun e w' => e = .returned (.tuple #[.slice none 0 0, errOf 1]) ∧ Below w.heap.size w w' := by
  have HR : Hid ((n = 0 ∨ ∃ b o : Nat, sl = some ⟨b, o, none⟩ ∧ RowP w b o n X Y)) := hr
  have HO : Hid (∀ i, i < t → (secB (X i) && resB (Y i)) = true) := hok
  have HB : Hid (∀ w, Calls Try.prog 27 #[.agg #[.int .i64 (X t), .int .i64 (Y t)]] w fun e w' => e = .returned (errOf 1) ∧ Below w.heap.size w w') := fun w => csh_no _ _ w hbad
  clear hbad
  have h' : ¬ (n : Int) > 12 := by omega
  clear hr hok
  obtain ⟨i0, hi, hv0, hv1, hv2⟩ := info_parts pinfo
  have m1 : True := trivial
  go_enter Try.func14, Try.ntmps14
  go_upto_region 4 with (go_at_call 33; clear m1; refine (base_is _).mono ?_; rintro e w1 ⟨rfl, hbw1⟩; have hqw1 : Below w.heap.size w w1 := (by repeat (first | (with_reducible exact Below.refl _ _) | (with_reducible assumption) | (with_reducible refine Below.setCell ?_ (by first | (simp; done) | (simp; omega) | omega) _) | (with_reducible refine Below.alloc ?_ (by first | (simp; done) | (simp; omega) | omega) _) | (refine bl_call ?_ (by assumption) (by first | (simp; done) | (simp; omega) | omega)) | (with_reducible refine bl_drewN ?_) | (with_reducible refine Below.drew ?_) | (with_reducible refine bl_grow ?_ (by first | (simp; done) | (simp; omega) | omega)))); have hzw1 := hqw1.size; clear hbw1)
  refine wp_gen (fun V => At V (w1.heap.size) [.int .i64 ((tM 4).1 : Int), .int .i64 ((tM 4).2.1 : Int), .bool (tM 4).2.2] ∧ Below w.heap.size w V) ⟨by repeat (first | (with_reducible assumption) | ((with_reducible refine at_new' _ _ _ _ ?_); (first | rfl | (simp; done))) | (with_reducible refine At.alloc ?_ _) | (with_reducible refine At.drew ?_) | (with_reducible refine At.drewN ?_) | (with_reducible refine At.set ?_ (by omega)) | (with_reducible apply At.store4) | (with_reducible apply At.store3) | (with_reducible apply At.store2) | (with_reducible apply At.put43) | (refine At.below ?_ (by with_reducible assumption))), by repeat (first | (with_reducible exact Below.refl _ _) | (with_reducible assumption) | (with_reducible refine Below.setCell ?_ (by first | (simp; done) | (simp; omega) | omega) _) | (with_reducible refine Below.alloc ?_ (by first | (simp; done) | (simp; omega) | omega) _) | (refine bl_call ?_ (by assumption) (by first | (simp; done) | (simp; omega) | omega)) | (with_reducible refine bl_drewN ?_) | (with_reducible refine Below.drew ?_) | (with_reducible refine bl_grow ?_ (by first | (simp; done) | (simp; omega) | omega)))⟩ ?_
  rintro V ⟨kpV, hqV⟩
  have hzV := hqV.size
  obtain ⟨zpV, cp0V, cp1V, cp2V, fp0V, fp1V, fp2V⟩ := kpV.three
  go_wp2_with (at_make; refine wpList_make_own _ rfl _ _ 43 rfl V.heap.size 39 i0 (.agg #[.int .i64 0, .int .i64 0, .bool false]) 3 Try.underlying43 hi hv0 hv1 _ _ _ n rfl rfl rfl ?b1 ?b2 ?b3 ?_)
  case b1 => rw [hv2]; omega
  case b2 => unfold maxLen; omega
  case b3 => omega
  intro w2 ho2 hg2
  have hq2 : Below V.heap.size V w2 := (Below.refl _ _ : Below V.heap.size V _).grown hg2 (Nat.le_refl _) (fun k h => by cases h)
  clear hg2
  go_wp2_with fail
  go_loopw [5, 21] (fun tv ti wl => ∃ k : Nat, k ≤ t ∧ ti = .int .i64 k ∧ wl.ownsRow V.heap.size 39 3 tv k (cellsT (fun i => ((tM (4 * (Y i).toNat)).1 : Int)) (fun i => ((tM (4 * (Y i).toNat)).2.1 : Int)) (fun i => (tM (4 * (Y i).toNat)).2.2) k) ∧ Below V.heap.size V wl) (fun _ ti _ => n - (intOf ti).toNat)
  case atStart => exact ⟨0, by omega, rfl, ho2, hq2⟩
  case round =>
    clear ho2 hq2
    obtain ⟨k, hk, rfl, hown, hqU⟩ := hrel
    rename World => U
    have hzU := hqU.size
    have kpU : At U (w1.heap.size) [.int .i64 ((tM 4).1 : Int), .int .i64 ((tM 4).2.1 : Int), .bool (tM 4).2.2] := kpV.below hqU
    obtain ⟨zpU, cp0U, cp1U, cp2U, fp0U, fp1U, fp2U⟩ := kpU.three
    by_cases hlt : k < n
    · have hlt' : (k : Int) < (n : Int) := by omega
      obtain ⟨b, o, rfl, hz⟩ : ∃ b o : Nat, sl = some ⟨b, o, none⟩ ∧ RowP w b o n X Y := HR.out.resolve_left (by omega)
      have hqw : Below w.heap.size w U := bl_call hqV hqU hzV
      have hbU := Nat.lt_of_lt_of_le hz.1 hqw.size
      obtain ⟨c0, c1⟩ := (hz.below hz.1 hqw).2 k hlt
      clear hz hqw
      by_cases hkt : k < t
      · have HS : Hid (∀ w, Calls Try.prog 27 #[.agg #[.int .i64 (X k), .int .i64 (Y k)]] w fun e w' => e = .returned (.nilIface) ∧ Below w.heap.size w w') := fun w => csh_yes _ _ w (HO.out k (by omega))
        have E : Hid (tM (4 * em (Y k)) = tM (4 * (Y k).toNat)) := by
          unfold Hid
          have := HO.out k (by omega)
          rw [Bool.and_eq_true] at this
          rw [em_res this.2]
        go_wp2_with (first | (go_at_call 27; refine (HS.out _).mono ?_; rintro e w6 ⟨rfl, hb6⟩; have kp6 : At w6 (w1.heap.size) [.int .i64 ((tM 4).1 : Int), .int .i64 ((tM 4).2.1 : Int), .bool (tM 4).2.2] := (by repeat (first | (with_reducible assumption) | ((with_reducible refine at_new' _ _ _ _ ?_); (first | rfl | (simp; done))) | (with_reducible refine At.alloc ?_ _) | (with_reducible refine At.drew ?_) | (with_reducible refine At.drewN ?_) | (with_reducible refine At.set ?_ (by omega)) | (with_reducible apply At.store4) | (with_reducible apply At.store3) | (with_reducible apply At.store2) | (with_reducible apply At.put43) | (refine At.below ?_ (by with_reducible assumption)))); have ks6 : At w6 (U.heap.size) [.int .i64 (X k), .int .i64 (Y k)] := (by repeat (first | (with_reducible assumption) | ((with_reducible refine at_new' _ _ _ _ ?_); (first | rfl | (simp; done))) | (with_reducible refine At.alloc ?_ _) | (with_reducible refine At.drew ?_) | (with_reducible refine At.drewN ?_) | (with_reducible refine At.set ?_ (by omega)) | (with_reducible apply At.store4) | (with_reducible apply At.store3) | (with_reducible apply At.store2) | (with_reducible apply At.put43) | (refine At.below ?_ (by with_reducible assumption)))); have hu6 : Below U.heap.size U w6 := (by repeat (first | (with_reducible exact Below.refl _ _) | (with_reducible assumption) | (with_reducible refine Below.setCell ?_ (by first | (simp; done) | (simp; omega) | omega) _) | (with_reducible refine Below.alloc ?_ (by first | (simp; done) | (simp; omega) | omega) _) | (refine bl_call ?_ (by assumption) (by first | (simp; done) | (simp; omega) | omega)) | (with_reducible refine bl_drewN ?_) | (with_reducible refine Below.drew ?_) | (with_reducible refine bl_grow ?_ (by first | (simp; done) | (simp; omega) | omega)))); have ho6 := own_stay hown hu6; have hy6 := hu6.size; have hq6 : Below V.heap.size V w6 := bl_call hqU hu6 hzU; have hz6 := hq6.size; clear hu6; obtain ⟨zp6, cp06, cp16, cp26, fp06, fp16, fp26⟩ := kp6.three; obtain ⟨zs6, cs06, cs16, fs06, fs16⟩ := ks6.two; clear hb6) | (go_at_call 28; refine (times_eq E.out _).mono ?_; rintro e w7 ⟨rfl, hb7⟩; have kp7 : At w7 (w1.heap.size) [.int .i64 ((tM 4).1 : Int), .int .i64 ((tM 4).2.1 : Int), .bool (tM 4).2.2] := (by repeat (first | (with_reducible assumption) | ((with_reducible refine at_new' _ _ _ _ ?_); (first | rfl | (simp; done))) | (with_reducible refine At.alloc ?_ _) | (with_reducible refine At.drew ?_) | (with_reducible refine At.drewN ?_) | (with_reducible refine At.set ?_ (by omega)) | (with_reducible apply At.store4) | (with_reducible apply At.store3) | (with_reducible apply At.store2) | (with_reducible apply At.put43) | (refine At.below ?_ (by with_reducible assumption)))); have hq7 : Below V.heap.size V w7 := (by repeat (first | (with_reducible exact Below.refl _ _) | (with_reducible assumption) | (with_reducible refine Below.setCell ?_ (by first | (simp; done) | (simp; omega) | omega) _) | (with_reducible refine Below.alloc ?_ (by first | (simp; done) | (simp; omega) | omega) _) | (refine bl_call ?_ (by assumption) (by first | (simp; done) | (simp; omega) | omega)) | (with_reducible refine bl_drewN ?_) | (with_reducible refine Below.drew ?_) | (with_reducible refine bl_grow ?_ (by first | (simp; done) | (simp; omega) | omega)))); have hz7 := hq7.size; have ho7 := own_stay ho6 hb7; obtain ⟨zp7, cp07, cp17, cp27, fp07, fp17, fp27⟩ := kp7.three; clear kp6 cp06 fp06 cp16 fp16 cp26 fp26 ks6 cs06 fs06 cs16 fs16 hq6 ho6) | (at_builtin; refine wpList_append_own_at _ rfl _ _ 43 rfl V.heap.size 39 i0 (.agg #[.int .i64 0, .int .i64 0, .bool false]) 3 24 Try.underlying43 hi hv0 hv1 hv2 rfl (by decide) _ _ _ rfl (own_stay ho7 (by repeat (first | (with_reducible exact Below.refl _ _) | (with_reducible assumption) | (with_reducible refine Below.setCell ?_ (by first | (simp; done) | (simp; omega) | omega) _) | (with_reducible refine Below.alloc ?_ (by first | (simp; done) | (simp; omega) | omega) _) | (refine bl_call ?_ (by assumption) (by first | (simp; done) | (simp; omega) | omega)) | (with_reducible refine bl_drewN ?_) | (with_reducible refine Below.drew ?_) | (with_reducible refine bl_grow ?_ (by first | (simp; done) | (simp; omega) | omega))))) ⟨_, 0, none⟩ 1 1 [.int .i64 ((tM (4 * (Y k).toNat)).1 : Int), .int .i64 ((tM (4 * (Y k).toNat)).2.1 : Int), .bool (tM (4 * (Y k).toNat)).2.2] rfl rfl ?c1 ?c2 ?c3 ?c4 ?c5 ?_))
        case c1 => exact three_new (by simp) _ _ _ _
        case c2 => intro u hu; simp at hu; rcases hu with rfl | rfl | rfl <;> rfl
        case c3 => unfold maxLen; omega
        case c4 => omega
        case c5 => simp; omega
        · intro v' w13 hown' hgrow _ hat
          have hq13 : Below V.heap.size V w13 := grown_under (B := V.heap.size) (by repeat (first | (with_reducible exact Below.refl _ _) | (with_reducible assumption) | (with_reducible refine Below.setCell ?_ (by first | (simp; done) | (simp; omega) | omega) _) | (with_reducible refine Below.alloc ?_ (by first | (simp; done) | (simp; omega) | omega) _) | (refine bl_call ?_ (by assumption) (by first | (simp; done) | (simp; omega) | omega)) | (with_reducible refine bl_drewN ?_) | (with_reducible refine Below.drew ?_) | (with_reducible refine bl_grow ?_ (by first | (simp; done) | (simp; omega) | omega)))) (own_stay ho7 (by repeat (first | (with_reducible exact Below.refl _ _) | (with_reducible assumption) | (with_reducible refine Below.setCell ?_ (by first | (simp; done) | (simp; omega) | omega) _) | (with_reducible refine Below.alloc ?_ (by first | (simp; done) | (simp; omega) | omega) _) | (refine bl_call ?_ (by assumption) (by first | (simp; done) | (simp; omega) | omega)) | (with_reducible refine bl_drewN ?_) | (with_reducible refine Below.drew ?_) | (with_reducible refine bl_grow ?_ (by first | (simp; done) | (simp; omega) | omega))))) hgrow (by simp; omega) (Nat.le_refl _)
          rw [← cellsT_succ (fun i => ((tM (4 * (Y i).toNat)).1 : Int)) (fun i => ((tM (4 * (Y i).toNat)).2.1 : Int)) (fun i => (tM (4 * (Y i).toNat)).2.2)] at hown'
          clear hgrow hat ho7 hq7
          go_wp2_with fail
          go_roundw
          case rel => exact ⟨k + 1, by omega, by simp, hown', hq13⟩
          case measure => simp [intOf]; omega
      · obtain rfl : k = t := by omega
        go_wp2_with (go_at_call 27; refine (HB.out _).mono ?_; rintro e w6 ⟨rfl, hb6⟩; have kp6 : At w6 (w1.heap.size) [.int .i64 ((tM 4).1 : Int), .int .i64 ((tM 4).2.1 : Int), .bool (tM 4).2.2] := (by repeat (first | (with_reducible assumption) | ((with_reducible refine at_new' _ _ _ _ ?_); (first | rfl | (simp; done))) | (with_reducible refine At.alloc ?_ _) | (with_reducible refine At.drew ?_) | (with_reducible refine At.drewN ?_) | (with_reducible refine At.set ?_ (by omega)) | (with_reducible apply At.store4) | (with_reducible apply At.store3) | (with_reducible apply At.store2) | (with_reducible apply At.put43) | (refine At.below ?_ (by with_reducible assumption)))); have ks6 : At w6 (U.heap.size) [.int .i64 (X k), .int .i64 (Y k)] := (by repeat (first | (with_reducible assumption) | ((with_reducible refine at_new' _ _ _ _ ?_); (first | rfl | (simp; done))) | (with_reducible refine At.alloc ?_ _) | (with_reducible refine At.drew ?_) | (with_reducible refine At.drewN ?_) | (with_reducible refine At.set ?_ (by omega)) | (with_reducible apply At.store4) | (with_reducible apply At.store3) | (with_reducible apply At.store2) | (with_reducible apply At.put43) | (refine At.below ?_ (by with_reducible assumption)))); have hu6 : Below U.heap.size U w6 := (by repeat (first | (with_reducible exact Below.refl _ _) | (with_reducible assumption) | (with_reducible refine Below.setCell ?_ (by first | (simp; done) | (simp; omega) | omega) _) | (with_reducible refine Below.alloc ?_ (by first | (simp; done) | (simp; omega) | omega) _) | (refine bl_call ?_ (by assumption) (by first | (simp; done) | (simp; omega) | omega)) | (with_reducible refine bl_drewN ?_) | (with_reducible refine Below.drew ?_) | (with_reducible refine bl_grow ?_ (by first | (simp; done) | (simp; omega) | omega)))); have ho6 := own_stay hown hu6; have hy6 := hu6.size; have hq6 : Below V.heap.size V w6 := bl_call hqU hu6 hzU; have hz6 := hq6.size; clear hu6; obtain ⟨zp6, cp06, cp16, cp26, fp06, fp16, fp26⟩ := kp6.three; obtain ⟨zs6, cs06, cs16, fs06, fs16⟩ := ks6.two; clear hb6)
        go_ret2
        exact ⟨rfl, bl_call hqV (by repeat (first | (with_reducible exact Below.refl _ _) | (with_reducible assumption) | (with_reducible refine Below.setCell ?_ (by first | (simp; done) | (simp; omega) | omega) _) | (with_reducible refine Below.alloc ?_ (by first | (simp; done) | (simp; omega) | omega) _) | (refine bl_call ?_ (by assumption) (by first | (simp; done) | (simp; omega) | omega)) | (with_reducible refine bl_drewN ?_) | (with_reducible refine Below.drew ?_) | (with_reducible refine bl_grow ?_ (by first | (simp; done) | (simp; omega) | omega)))) hzV⟩
    · have hlt' : ¬ (k : Int) < (n : Int) := by omega
      exact absurd hk (by omega)
set_option maxRecDepth 100000 in
set_option maxHeartbeats 2000000 in
theorem public_ok (sl : Option Addr) (n d t : Nat) (X Y : Nat → Int) (w : World) (hn : n ≤ 12) (hr : (n = 0 ∨ ∃ b o : Nat, sl = some ⟨b, o, none⟩ ∧ RowP w b o n X Y)) (hok : ∀ i, i < n → (secB (X i) && resB (Y i)) = true)  : Calls Try.prog 14 #[.slice sl n d] w fun ex w' => ∃ u, ex = .returned (.tuple #[u, .nilIface]) ∧ w'.ownsRow w.heap.size 39 3 u n (cellsT (fun i => ((tM (4 * (Y i).toNat)).1 : Int)) (fun i => ((tM (4 * (Y i).toNat)).2.1 : Int)) (fun i => (tM (4 * (Y i).toNat)).2.2) n) ∧ Below w.heap.size w w' := by
  have HR : Hid ((n = 0 ∨ ∃ b o : Nat, sl = some ⟨b, o, none⟩ ∧ RowP w b o n X Y)) := hr
  have HO : Hid (∀ i, i < n → (secB (X i) && resB (Y i)) = true) := hok
  
  have h' : ¬ (n : Int) > 12 := by omega
  clear hr hok
  obtain ⟨i0, hi, hv0, hv1, hv2⟩ := info_parts pinfo
  have m1 : True := trivial
  go_enter Try.func14, Try.ntmps14
  go_upto_region 4 with (go_at_call 33; clear m1; refine (base_is _).mono ?_; rintro e w1 ⟨rfl, hbw1⟩; have hqw1 : Below w.heap.size w w1 := (by repeat (first | (with_reducible exact Below.refl _ _) | (with_reducible assumption) | (with_reducible refine Below.setCell ?_ (by first | (simp; done) | (simp; omega) | omega) _) | (with_reducible refine Below.alloc ?_ (by first | (simp; done) | (simp; omega) | omega) _) | (refine bl_call ?_ (by assumption) (by first | (simp; done) | (simp; omega) | omega)) | (with_reducible refine bl_drewN ?_) | (with_reducible refine Below.drew ?_) | (with_reducible refine bl_grow ?_ (by first | (simp; done) | (simp; omega) | omega)))); have hzw1 := hqw1.size; clear hbw1)
  refine wp_gen (fun V => At V (w1.heap.size) [.int .i64 ((tM 4).1 : Int), .int .i64 ((tM 4).2.1 : Int), .bool (tM 4).2.2] ∧ Below w.heap.size w V) ⟨by repeat (first | (with_reducible assumption) | ((with_reducible refine at_new' _ _ _ _ ?_); (first | rfl | (simp; done))) | (with_reducible refine At.alloc ?_ _) | (with_reducible refine At.drew ?_) | (with_reducible refine At.drewN ?_) | (with_reducible refine At.set ?_ (by omega)) | (with_reducible apply At.store4) | (with_reducible apply At.store3) | (with_reducible apply At.store2) | (with_reducible apply At.put43) | (refine At.below ?_ (by with_reducible assumption))), by repeat (first | (with_reducible exact Below.refl _ _) | (with_reducible assumption) | (with_reducible refine Below.setCell ?_ (by first | (simp; done) | (simp; omega) | omega) _) | (with_reducible refine Below.alloc ?_ (by first | (simp; done) | (simp; omega) | omega) _) | (refine bl_call ?_ (by assumption) (by first | (simp; done) | (simp; omega) | omega)) | (with_reducible refine bl_drewN ?_) | (with_reducible refine Below.drew ?_) | (with_reducible refine bl_grow ?_ (by first | (simp; done) | (simp; omega) | omega)))⟩ ?_
  rintro V ⟨kpV, hqV⟩
  have hzV := hqV.size
  obtain ⟨zpV, cp0V, cp1V, cp2V, fp0V, fp1V, fp2V⟩ := kpV.three
  go_wp2_with (at_make; refine wpList_make_own _ rfl _ _ 43 rfl V.heap.size 39 i0 (.agg #[.int .i64 0, .int .i64 0, .bool false]) 3 Try.underlying43 hi hv0 hv1 _ _ _ n rfl rfl rfl ?b1 ?b2 ?b3 ?_)
  case b1 => rw [hv2]; omega
  case b2 => unfold maxLen; omega
  case b3 => omega
  intro w2 ho2 hg2
  have hq2 : Below V.heap.size V w2 := (Below.refl _ _ : Below V.heap.size V _).grown hg2 (Nat.le_refl _) (fun k h => by cases h)
  clear hg2
  go_wp2_with fail
  go_loopw [5, 21] (fun tv ti wl => ∃ k : Nat, k ≤ n ∧ ti = .int .i64 k ∧ wl.ownsRow V.heap.size 39 3 tv k (cellsT (fun i => ((tM (4 * (Y i).toNat)).1 : Int)) (fun i => ((tM (4 * (Y i).toNat)).2.1 : Int)) (fun i => (tM (4 * (Y i).toNat)).2.2) k) ∧ Below V.heap.size V wl) (fun _ ti _ => n - (intOf ti).toNat)
  case atStart => exact ⟨0, by omega, rfl, ho2, hq2⟩
  case round =>
    clear ho2 hq2
    obtain ⟨k, hk, rfl, hown, hqU⟩ := hrel
    rename World => U
    have hzU := hqU.size
    have kpU : At U (w1.heap.size) [.int .i64 ((tM 4).1 : Int), .int .i64 ((tM 4).2.1 : Int), .bool (tM 4).2.2] := kpV.below hqU
    obtain ⟨zpU, cp0U, cp1U, cp2U, fp0U, fp1U, fp2U⟩ := kpU.three
    by_cases hlt : k < n
    · have hlt' : (k : Int) < (n : Int) := by omega
      obtain ⟨b, o, rfl, hz⟩ : ∃ b o : Nat, sl = some ⟨b, o, none⟩ ∧ RowP w b o n X Y := HR.out.resolve_left (by omega)
      have hqw : Below w.heap.size w U := bl_call hqV hqU hzV
      have hbU := Nat.lt_of_lt_of_le hz.1 hqw.size
      obtain ⟨c0, c1⟩ := (hz.below hz.1 hqw).2 k hlt
      clear hz hqw
      have HS : Hid (∀ w, Calls Try.prog 27 #[.agg #[.int .i64 (X k), .int .i64 (Y k)]] w fun e w' => e = .returned (.nilIface) ∧ Below w.heap.size w w') := fun w => csh_yes _ _ w (HO.out k (by omega))
      have E : Hid (tM (4 * em (Y k)) = tM (4 * (Y k).toNat)) := by
        unfold Hid
        have := HO.out k (by omega)
        rw [Bool.and_eq_true] at this
        rw [em_res this.2]
      go_wp2_with (first | (go_at_call 27; refine (HS.out _).mono ?_; rintro e w6 ⟨rfl, hb6⟩; have kp6 : At w6 (w1.heap.size) [.int .i64 ((tM 4).1 : Int), .int .i64 ((tM 4).2.1 : Int), .bool (tM 4).2.2] := (by repeat (first | (with_reducible assumption) | ((with_reducible refine at_new' _ _ _ _ ?_); (first | rfl | (simp; done))) | (with_reducible refine At.alloc ?_ _) | (with_reducible refine At.drew ?_) | (with_reducible refine At.drewN ?_) | (with_reducible refine At.set ?_ (by omega)) | (with_reducible apply At.store4) | (with_reducible apply At.store3) | (with_reducible apply At.store2) | (with_reducible apply At.put43) | (refine At.below ?_ (by with_reducible assumption)))); have ks6 : At w6 (U.heap.size) [.int .i64 (X k), .int .i64 (Y k)] := (by repeat (first | (with_reducible assumption) | ((with_reducible refine at_new' _ _ _ _ ?_); (first | rfl | (simp; done))) | (with_reducible refine At.alloc ?_ _) | (with_reducible refine At.drew ?_) | (with_reducible refine At.drewN ?_) | (with_reducible refine At.set ?_ (by omega)) | (with_reducible apply At.store4) | (with_reducible apply At.store3) | (with_reducible apply At.store2) | (with_reducible apply At.put43) | (refine At.below ?_ (by with_reducible assumption)))); have hu6 : Below U.heap.size U w6 := (by repeat (first | (with_reducible exact Below.refl _ _) | (with_reducible assumption) | (with_reducible refine Below.setCell ?_ (by first | (simp; done) | (simp; omega) | omega) _) | (with_reducible refine Below.alloc ?_ (by first | (simp; done) | (simp; omega) | omega) _) | (refine bl_call ?_ (by assumption) (by first | (simp; done) | (simp; omega) | omega)) | (with_reducible refine bl_drewN ?_) | (with_reducible refine Below.drew ?_) | (with_reducible refine bl_grow ?_ (by first | (simp; done) | (simp; omega) | omega)))); have ho6 := own_stay hown hu6; have hy6 := hu6.size; have hq6 : Below V.heap.size V w6 := bl_call hqU hu6 hzU; have hz6 := hq6.size; clear hu6; obtain ⟨zp6, cp06, cp16, cp26, fp06, fp16, fp26⟩ := kp6.three; obtain ⟨zs6, cs06, cs16, fs06, fs16⟩ := ks6.two; clear hb6) | (go_at_call 28; refine (times_eq E.out _).mono ?_; rintro e w7 ⟨rfl, hb7⟩; have kp7 : At w7 (w1.heap.size) [.int .i64 ((tM 4).1 : Int), .int .i64 ((tM 4).2.1 : Int), .bool (tM 4).2.2] := (by repeat (first | (with_reducible assumption) | ((with_reducible refine at_new' _ _ _ _ ?_); (first | rfl | (simp; done))) | (with_reducible refine At.alloc ?_ _) | (with_reducible refine At.drew ?_) | (with_reducible refine At.drewN ?_) | (with_reducible refine At.set ?_ (by omega)) | (with_reducible apply At.store4) | (with_reducible apply At.store3) | (with_reducible apply At.store2) | (with_reducible apply At.put43) | (refine At.below ?_ (by with_reducible assumption)))); have hq7 : Below V.heap.size V w7 := (by repeat (first | (with_reducible exact Below.refl _ _) | (with_reducible assumption) | (with_reducible refine Below.setCell ?_ (by first | (simp; done) | (simp; omega) | omega) _) | (with_reducible refine Below.alloc ?_ (by first | (simp; done) | (simp; omega) | omega) _) | (refine bl_call ?_ (by assumption) (by first | (simp; done) | (simp; omega) | omega)) | (with_reducible refine bl_drewN ?_) | (with_reducible refine Below.drew ?_) | (with_reducible refine bl_grow ?_ (by first | (simp; done) | (simp; omega) | omega)))); have hz7 := hq7.size; have ho7 := own_stay ho6 hb7; obtain ⟨zp7, cp07, cp17, cp27, fp07, fp17, fp27⟩ := kp7.three; clear kp6 cp06 fp06 cp16 fp16 cp26 fp26 ks6 cs06 fs06 cs16 fs16 hq6 ho6) | (at_builtin; refine wpList_append_own_at _ rfl _ _ 43 rfl V.heap.size 39 i0 (.agg #[.int .i64 0, .int .i64 0, .bool false]) 3 24 Try.underlying43 hi hv0 hv1 hv2 rfl (by decide) _ _ _ rfl (own_stay ho7 (by repeat (first | (with_reducible exact Below.refl _ _) | (with_reducible assumption) | (with_reducible refine Below.setCell ?_ (by first | (simp; done) | (simp; omega) | omega) _) | (with_reducible refine Below.alloc ?_ (by first | (simp; done) | (simp; omega) | omega) _) | (refine bl_call ?_ (by assumption) (by first | (simp; done) | (simp; omega) | omega)) | (with_reducible refine bl_drewN ?_) | (with_reducible refine Below.drew ?_) | (with_reducible refine bl_grow ?_ (by first | (simp; done) | (simp; omega) | omega))))) ⟨_, 0, none⟩ 1 1 [.int .i64 ((tM (4 * (Y k).toNat)).1 : Int), .int .i64 ((tM (4 * (Y k).toNat)).2.1 : Int), .bool (tM (4 * (Y k).toNat)).2.2] rfl rfl ?c1 ?c2 ?c3 ?c4 ?c5 ?_))
      case c1 => exact three_new (by simp) _ _ _ _
      case c2 => intro u hu; simp at hu; rcases hu with rfl | rfl | rfl <;> rfl
      case c3 => unfold maxLen; omega
      case c4 => omega
      case c5 => simp; omega
      · intro v' w13 hown' hgrow _ hat
        have hq13 : Below V.heap.size V w13 := grown_under (B := V.heap.size) (by repeat (first | (with_reducible exact Below.refl _ _) | (with_reducible assumption) | (with_reducible refine Below.setCell ?_ (by first | (simp; done) | (simp; omega) | omega) _) | (with_reducible refine Below.alloc ?_ (by first | (simp; done) | (simp; omega) | omega) _) | (refine bl_call ?_ (by assumption) (by first | (simp; done) | (simp; omega) | omega)) | (with_reducible refine bl_drewN ?_) | (with_reducible refine Below.drew ?_) | (with_reducible refine bl_grow ?_ (by first | (simp; done) | (simp; omega) | omega)))) (own_stay ho7 (by repeat (first | (with_reducible exact Below.refl _ _) | (with_reducible assumption) | (with_reducible refine Below.setCell ?_ (by first | (simp; done) | (simp; omega) | omega) _) | (with_reducible refine Below.alloc ?_ (by first | (simp; done) | (simp; omega) | omega) _) | (refine bl_call ?_ (by assumption) (by first | (simp; done) | (simp; omega) | omega)) | (with_reducible refine bl_drewN ?_) | (with_reducible refine Below.drew ?_) | (with_reducible refine bl_grow ?_ (by first | (simp; done) | (simp; omega) | omega))))) hgrow (by simp; omega) (Nat.le_refl _)
        rw [← cellsT_succ (fun i => ((tM (4 * (Y i).toNat)).1 : Int)) (fun i => ((tM (4 * (Y i).toNat)).2.1 : Int)) (fun i => (tM (4 * (Y i).toNat)).2.2)] at hown'
        clear hgrow hat ho7 hq7
        go_wp2_with fail
        go_roundw
        case rel => exact ⟨k + 1, by omega, by simp, hown', hq13⟩
        case measure => simp [intOf]; omega
    · have hlt' : ¬ (k : Int) < (n : Int) := by omega
      obtain rfl : k = n := by omega
      go_wp2_with fail
      go_ret2
      exact ⟨_, rfl, own_base hown hzV, bl_call hqV hqU hzV⟩
theorem public_is : PublicIs :=
  ⟨fun sl n d w h hn => public_many sl n d w h hn,
   fun b o n d X Y w h12 hd hr hx hy hbad => by
     obtain ⟨t, h1, h2, h3⟩ := first_no (fun i => secB (X i) && resB (Y i)) n
     rcases h3 with rfl | ⟨h3, h4⟩
     · obtain ⟨j, hj, hj2⟩ := hbad
       have := h2 j hj
       simp only [hj2] at this
       cases this
     · exact public_bad _ n d t X Y w h12 (Or.inr ⟨b, o, rfl, hr⟩) h2 h3 h4,
   fun sl n d X Y w h12 hd hr hok => public_ok sl n d 0 X Y w h12 hr (fun i hi => by rw [(hok i hi).1, (hok i hi).2]; rfl)⟩
end Go.Proofs.Ytkhpmnehjifdcaf
/- QuorumSealsWalk -/
namespace Go.Proofs.Ytkhpmnehjifdcaf
open Go.RowKit Go.Sort
set_option linter.unusedVariables false
theorem walkQuorumSeals (w : World) (sc : Option Addr) (m dc : Nat) (z : Int) (sp : Option Addr) (q dp : Nat) (t : ByteArray) (hm : m ≤ maxLen) (uC : m = 0 ∨ ∃ (b o : Nat) (X : Nat → Int), sc = some ⟨b, o, none⟩ ∧ RowI w b o m X ∧ ∀ i, i < m → (Lit.int .i64 (X i)).wf = true) (hz : (Lit.int .i64 z).wf = true) (hq : q ≤ maxLen) (uP : q = 0 ∨ ∃ (b o : Nat) (X : Nat → Int), sp = some ⟨b, o, none⟩ ∧ RowI w b o q X ∧ ∀ i, i < q → (Lit.int .i64 (X i)).wf = true) (ht : t.size ≤ maxLen) :
    Calls Try.prog 5 #[.slice sc m dc, .int .i64 z, .slice sp q dp, .string t] w fun e w' => e = .returned (.bool true) ∧ Below w.heap.size w w' :=
  quorumSeals_by split_is part_is join_is public_is w sc m dc z sp q dp t hm uC hz hq uP ht
end Go.Proofs.Ytkhpmnehjifdcaf
/- Open -/
namespace Go.Proofs.Ytkhpmnehjifdcaf
open Go.ChangeShapes Go.WideShapes Go.ChangeAt Go.RowKit Go.Joins Go.Deep Go.WideElems
set_option linter.unusedVariables false
set_option linter.unusedSimpArgs false

section
variable {H : Type} {enc : TypeId × Value → H} {P : Program} {w : World} {held : Bool}

theorem weights_in {e : TypeId} {d : DataW H} {x : Nat} : ∀ {l : List (DataW H)}, d ∈ l → x ∈ d.weights P e → x ∈ DataW.weightsAll P e l
  | [], h, _ => by cases h
  | c :: r, h, hx => by
    show x ∈ c.weights P e ++ DataW.weightsAll P e r
    rcases List.mem_cons.1 h with rfl | h
    · exact List.mem_append_left _ hx
    · exact List.mem_append_right _ (weights_in h hx)
/-- How long a slice is, by the form's own reach. -/
theorem len_slice {t e : TypeId} {sa : Option Addr} {n c : Nat} {d : DataW H} {p : List MemPlace} (ht : P.underlying t = some (.slice e))
    (h : DataW.Trod enc P w 0 (fun _ => true) held t (.slice sa n c) d p) (hw : ∀ x ∈ d.weights P t, x ≤ reachBytes) : n * P.bytesOf e ≤ reachBytes := by
  obtain ⟨fuel, hf⟩ := h
  rcases open_slice ht hf with ⟨hc, _⟩ | ⟨a, len, cap, m, k, D, Pl, hc, _, hl, hm, hmm, hx, hall⟩
  · simp [Value.cells] at hc
    obtain ⟨rfl, rfl, rfl⟩ := hc
    rw [Nat.zero_mul]; exact Nat.zero_le _
  · simp [Value.cells] at hc
    obtain ⟨rfl, rfl, rfl⟩ := hc
    simp only [if_true] at hmm
    subst hmm
    have hd : d = .slice ((List.range n).map D) ((List.range (m - n)).map fun j => D (n + j)) := congrArg Prod.fst hx
    have hmem : (n + (m - n)) * P.bytesOf e ∈ d.weights P t := by
      rw [hd]
      unfold DataW.weights
      rw [ht]
      simp
    have h1 := hw _ hmem
    have h2 : n * P.bytesOf e ≤ (n + (m - n)) * P.bytesOf e := Nat.mul_le_mul_right _ (by omega)
    exact Nat.le_trans h2 h1
/-- A slice has room for what it holds. -/
theorem room_slice {t e : TypeId} {sa : Option Addr} {n c : Nat} {d : DataW H} {p : List MemPlace} (ht : P.underlying t = some (.slice e))
    (h : DataW.Trod enc P w 0 (fun _ => true) held t (.slice sa n c) d p) : n ≤ c := by
  obtain ⟨fuel, hf⟩ := h
  rcases open_slice ht hf with ⟨hc, _⟩ | ⟨a, len, cap, m, k, D, Pl, hc, _, hl, hm, hmm, hx, hall⟩
  · simp [Value.cells] at hc
    obtain ⟨rfl, rfl, rfl⟩ := hc
    exact Nat.le_refl _
  · simp [Value.cells] at hc
    obtain ⟨rfl, rfl, rfl⟩ := hc
    exact hl
/-- A slice of texts: how long each one is, too. -/
theorem open_texts {r : Reach} {b0 : Nat} {t e : TypeId} {v : Value} {d : DataW H} {p : List MemPlace} (ht : P.underlying t = some (.slice e)) (he : P.underlying e = some .string) (ce : P.cellsOf e = 1)
    (hv : Value.okWide P w r b0 t v) (h : DataW.Trod enc P w 0 (fun _ => true) held t v d p) (hw : ∀ x ∈ d.weights P t, x ≤ reachBytes) :
    ∃ (sa : Option Addr) (n c : Nat), v = .slice sa n c ∧ n ≤ maxLen ∧ (n = 0 ∨ ∃ (b o : Nat) (T : Nat → ByteArray), sa = some ⟨b, o, none⟩ ∧ RowZ w b o n T ∧ ∀ i, i < n → (T i).size ≤ reachBytes) := by
  obtain ⟨sa, n, c, rfl⟩ := okWide_slice ht hv
  obtain ⟨fuel, hf⟩ := h
  rcases open_slice ht hf with ⟨hc, _⟩ | ⟨a, len, cap, m, k, D, Pl, hc, _, hl, hm, hmm, hx, hall⟩
  · simp [Value.cells] at hc
    obtain ⟨rfl, rfl, rfl⟩ := hc
    exact ⟨none, 0, 0, rfl, by decide, Or.inl rfl⟩
  · simp [Value.cells] at hc
    obtain ⟨rfl, rfl, rfl⟩ := hc
    simp only [if_true] at hmm
    subst hmm
    refine ⟨some a, n, m, rfl, by omega, ?_⟩
    rcases Nat.eq_zero_or_pos n with h0 | hn
    · exact Or.inl h0
    right
    have each : ∀ i, i < n → ∃ q : ByteArray, w.cell? (a.add i) = some (.string q) ∧ q.size ≤ reachBytes := by
      intro i hi
      obtain ⟨cs, h1, h2⟩ := hall i (by omega)
      rw [ce] at h1
      obtain ⟨_, hlen, hcell⟩ := World.cells?_some h1
      obtain ⟨s, rfl, hs, _⟩ := DataW.trod_string he h2
      have e0 := hcell 0 (by omega)
      refine ⟨s, by simpa [Addr.add, Nat.mul_one] using e0, ?_⟩
      have hd : d = .slice ((List.range n).map D) ((List.range (m - n)).map fun j => D (n + j)) := congrArg Prod.fst hx
      have hD : D i = .lit (.string s.data.toList) := congrArg Prod.fst hs
      have hmem : s.data.toList.length ∈ d.weights P t := by
        rw [hd]
        unfold DataW.weights
        rw [ht]
        refine List.mem_cons_of_mem _ (List.mem_append_left _ (weights_in (d := D i) (List.mem_map.2 ⟨i, List.mem_range.2 hi, rfl⟩) ?_))
        rw [hD]
        unfold DataW.weights
        simp
      have := hw _ hmem
      rw [Array.length_toList] at this
      exact this
    obtain ⟨q, hq⟩ := choose_lt (α := ByteArray) each
    obtain ⟨b, o, spot⟩ := a
    have hspot : spot = none := by simpa [Addr.add] using World.cell?_spot (hq 0 hn).1
    subst hspot
    refine ⟨b, o, q, rfl, ⟨?_, fun i hi => ?_⟩, fun i hi => (hq i hi).2⟩
    · have h1 := (hq 0 hn).1
      rw [Addr.add_lit] at h1; exact World.block_lt_of_cell? _ _ h1
    · have h1 := (hq i hi).1
      rwa [Addr.add_lit] at h1
/-- A slice of ints. -/
theorem open_nums {r : Reach} {b0 : Nat} {t e : TypeId} {v : Value} {d : DataW H} {p : List MemPlace} (ht : P.underlying t = some (.slice e)) (he : P.underlying e = some (.int .i64)) (ce : P.cellsOf e = 1)
    (hv : Value.okWide P w r b0 t v) (h : DataW.Trod enc P w 0 (fun _ => true) held t v d p) :
    ∃ (sa : Option Addr) (n c : Nat), v = .slice sa n c ∧ n ≤ maxLen ∧ (n = 0 ∨ ∃ (b o : Nat) (X : Nat → Int), sa = some ⟨b, o, none⟩ ∧ RowI w b o n X ∧ ∀ i, i < n → (Lit.int .i64 (X i)).wf = true) := by
  obtain ⟨sa, n, c, rfl⟩ := okWide_slice ht hv
  obtain ⟨fuel, hf⟩ := h
  rcases open_slice ht hf with ⟨hc, _⟩ | ⟨a, len, cap, m, k, D, Pl, hc, _, hl, hm, hmm, hx, hall⟩
  · simp [Value.cells] at hc
    obtain ⟨rfl, rfl, rfl⟩ := hc
    exact ⟨none, 0, 0, rfl, by decide, Or.inl rfl⟩
  · simp [Value.cells] at hc
    obtain ⟨rfl, rfl, rfl⟩ := hc
    simp only [if_true] at hmm
    subst hmm
    refine ⟨some a, n, m, rfl, by omega, ?_⟩
    rcases Nat.eq_zero_or_pos n with h0 | hn
    · exact Or.inl h0
    right
    have each : ∀ i, i < n → ∃ q : Int, w.cell? (a.add i) = some (.int .i64 q) ∧ (Lit.int .i64 q).wf = true := by
      intro i hi
      obtain ⟨cs, h1, h2⟩ := hall i (by omega)
      rw [ce] at h1
      obtain ⟨_, hlen, hcell⟩ := World.cells?_some h1
      obtain ⟨s, rfl, hs, ws⟩ := DataW.trod_int he h2
      have e0 := hcell 0 (by omega)
      exact ⟨s, by simpa [Addr.add, Nat.mul_one] using e0, ws⟩
    obtain ⟨q, hq⟩ := choose_lt (α := Int) each
    obtain ⟨b, o, spot⟩ := a
    have hspot : spot = none := by simpa [Addr.add] using World.cell?_spot (hq 0 hn).1
    subst hspot
    refine ⟨b, o, q, rfl, ⟨?_, fun i hi => ?_⟩, fun i hi => (hq i hi).2⟩
    · have h1 := (hq 0 hn).1
      rw [Addr.add_lit] at h1; exact World.block_lt_of_cell? _ _ h1
    · have h1 := (hq i hi).1
      rwa [Addr.add_lit] at h1
theorem cells_two {W : World} {base : Nat} {a : Addr} {cs : List Value} (h : W.cells? base a 2 = some cs) : ∃ v0 v1, cs = [v0, v1] ∧ W.cell? a = some v0 ∧ W.cell? (a.add 1) = some v1 := by
  obtain ⟨_, hlen, hcell⟩ := World.cells?_some h
  match cs, hlen with
  | [v0, v1], _ =>
    have e0 := hcell 0 (by omega)
    have e1 := hcell 1 (by omega)
    exact ⟨v0, v1, rfl, by simpa [Addr.add] using e0, by simpa using e1⟩
/-- A slice of structs of two ints. -/
theorem open_twos {r : Reach} {b0 : Nat} {t e : TypeId} {f0 f1 : Field} {v : Value} {d : DataW H} {p : List MemPlace} (ht : P.underlying t = some (.slice e)) (he : P.underlying e = some (.struct #[f0, f1])) (ce : P.cellsOf e = 2)
    (o0 : f0.offset = 0) (o1 : f1.offset = 1) (c0 : P.cellsOf f0.type = 1) (c1 : P.cellsOf f1.type = 1) (u0 : P.underlying f0.type = some (.int .i64)) (u1 : P.underlying f1.type = some (.int .i64))
    (hv : Value.okWide P w r b0 t v) (h : DataW.Trod enc P w 0 (fun _ => true) held t v d p) :
    ∃ (sa : Option Addr) (n c : Nat), v = .slice sa n c ∧ n ≤ maxLen ∧ (n = 0 ∨ ∃ (b o : Nat) (X Y : Nat → Int), sa = some ⟨b, o, none⟩ ∧ RowP w b o n X Y ∧ ∀ i, i < n → (Lit.int .i64 (X i)).wf = true ∧ (Lit.int .i64 (Y i)).wf = true) := by
  obtain ⟨sa, n, c, rfl⟩ := okWide_slice ht hv
  obtain ⟨fuel, hf⟩ := h
  rcases open_slice ht hf with ⟨hc, _⟩ | ⟨a, len, cap, m, k, D, Pl, hc, _, hl, hm, hmm, hx, hall⟩
  · simp [Value.cells] at hc
    obtain ⟨rfl, rfl, rfl⟩ := hc
    exact ⟨none, 0, 0, rfl, by decide, Or.inl rfl⟩
  · simp [Value.cells] at hc
    obtain ⟨rfl, rfl, rfl⟩ := hc
    simp only [if_true] at hmm
    subst hmm
    refine ⟨some a, n, m, rfl, by omega, ?_⟩
    rcases Nat.eq_zero_or_pos n with h0 | hn
    · exact Or.inl h0
    right
    have each : ∀ i, i < n → ∃ q : Int × Int, w.cell? (a.add (i * 2)) = some (.int .i64 q.1) ∧ w.cell? (a.add (i * 2 + 1)) = some (.int .i64 q.2) ∧ (Lit.int .i64 q.1).wf = true ∧ (Lit.int .i64 q.2).wf = true := by
      intro i hi
      obtain ⟨cs, h1, h2⟩ := hall i (by omega)
      rw [ce] at h1
      obtain ⟨v0, v1, rfl, g0, g1⟩ := cells_two h1
      rw [add_add] at g1
      obtain ⟨xs, k', hk, _, _, hxl, hfd⟩ := DataW.trod_struct he h2
      match xs, hxl with
      | [y0, y1], _ =>
        have q0 := hfd 0 f0 rfl
        have q1 := hfd 1 f1 rfl
        simp [o0, o1, c0, c1] at q0 q1
        obtain ⟨x, e0, _, wx⟩ := DataW.trod_int u0 q0
        obtain ⟨y, e1, _, wy⟩ := DataW.trod_int u1 q1
        simp at e0 e1
        subst e0 e1
        exact ⟨(x, y), g0, g1, wx, wy⟩
    obtain ⟨q, hq⟩ := choose_lt (α := Int × Int) each
    obtain ⟨b, o, spot⟩ := a
    have hspot : spot = none := by simpa [Addr.add] using World.cell?_spot (hq 0 hn).1
    subst hspot
    refine ⟨b, o, fun i => (q i).1, fun i => (q i).2, rfl, ⟨?_, fun i hi => ?_⟩, fun i hi => (hq i hi).2.2⟩
    · have h1 := (hq 0 hn).1
      rw [Addr.add_lit] at h1; exact World.block_lt_of_cell? _ _ h1
    · obtain ⟨h1, h2, _⟩ := hq i hi
      simp only [Addr.add_lit] at h1 h2
      exact ⟨h1, by rw [Nat.add_assoc]; exact h2⟩
end
end Go.Proofs.Ytkhpmnehjifdcaf
