/- Texts joined: TopSharedBy ShareFns ShareVal Share Quorum TopSharedWalk Open. stonetop.TopShared answers true, by what packages share and quorum are to answer. What the small functions of package share answer: which numbers are ones, which places clash, the inverse, one weight, the places of shares. What share.valueAt answers: a polynomial's value, from the last coefficient to the first (a range over slices.Backward). What package share answers: Split, Weights, Combine. What package quorum answers: Part, Join, Public. Proved: stonetop.TopShared answers true for every list of coefficients, every number, every list of places and every text: shares of a secret, by enough of them, seal as the secret does, and so do parts that are packed as bytes and read. No condition stands behind it. Slices of ints, of structs of two ints and of texts, opened at every place. -/
import Derived.Test.YtmijjjdedadklagQuorumEq
import Derived.Test.YtmijjjdedadklagPickRows
import Derived.Test.YtmijjjdedadklagJoinPick
import Derived.Test.YtmijjjdedadklagQA
import Derived.Deep.RegionHeld3
import Derived.Deep.AppendLies
import Derived.Deep.CutRange
import Derived.Deep.CutBlock
import Derived.Test.YtmijjjdedadklagShareIs
import Derived.Test.YtmijjjdedadklagOwn
import Derived.Test.YtmijjjdedadklagMem
import Derived.BigQuiet
import Derived.RangeFuncBox
import Derived.RangeFuncLeaves
import Derived.Shelf.Abstract
import Derived.WalkKit
import Derived.OwnWalkIn
import Derived.TacticsInMore
import Derived.LoopNIn
import Derived.LoopIn
import Derived.Test.YtmijjjdedadklagQuorumIs
import Derived.Test.YtmijjjdedadklagTimesOrd
import Derived.Test.YtmijjjdedadklagCurveEq
import Derived.Test.YtmijjjdedadklagUSpot
import Derived.Test.YtmijjjdedadklagGate
import Derived.SizedLaws
/- TopSharedBy -/
namespace Go.Proofs.Ytmijjjdedadklag
open Go.RowKit Go.Sort
set_option linter.unusedVariables false
set_option linter.unusedSimpArgs false
set_option maxRecDepth 100000 in
set_option maxHeartbeats 16000000 in
theorem tsharedA (sc sp : Option Addr) (m dc q dp : Nat) (z c : Int) (t : ByteArray) (w : World) (h1 : ∀ w, Calls Try.prog 7 #[] w fun ex w' => ex = .returned (.bool true) ∧ Below w.heap.size w w') (ha : ∀ W, Below w.heap.size w W → Calls Try.prog 8 #[.slice sc m dc, .int .i64 z] W fun ex w' => ex = .returned (.tuple #[.slice none 0 0, errOf c]) ∧ Below W.heap.size W w') : Calls Try.prog 3 #[.slice sc m dc, .int .i64 z, .slice sp q dp, .string t] w fun e w' => e = .returned (.bool true) ∧ Below w.heap.size w w' := by
  have H1 : Hid (∀ w, Calls Try.prog 7 #[] w fun ex w' => ex = .returned (.bool true) ∧ Below w.heap.size w w') := h1
  have HA : Hid (∀ W, Below w.heap.size w W → Calls Try.prog 8 #[.slice sc m dc, .int .i64 z] W fun ex w' => ex = .returned (.tuple #[.slice none 0 0, errOf c]) ∧ Below W.heap.size W w') := ha
  clear h1 ha
  have m1 : True := trivial; have m2 : True := trivial; have m3 : True := trivial; have m4 : True := trivial
  go_enter Try.func3, Try.ntmps3
  go_wp2_with (first | (go_at_call 7; clear m1; refine (H1.out _).mono ?_; rintro e w1 ⟨rfl, hb1⟩; have hq1 : Below w.heap.size w w1 := (by repeat (first | (with_reducible exact Below.refl _ _) | (with_reducible assumption) | (with_reducible refine Below.setCell ?_ (by first | (simp; done) | (simp; omega) | omega) _) | (with_reducible refine Below.alloc ?_ (by first | (simp; done) | (simp; omega) | omega) _) | (refine bl_call ?_ (by assumption) (by first | (simp; done) | (simp; omega) | omega)) | (with_reducible refine bl_drewN ?_) | (with_reducible refine Below.drew ?_) | (with_reducible refine bl_grow ?_ (by first | (simp; done) | (simp; omega) | omega)))); have hz1 := hq1.size; clear hb1) | (go_at_call 8; clear m2; refine (HA.out _ (by repeat (first | (with_reducible exact Below.refl _ _) | (with_reducible assumption) | (with_reducible refine Below.setCell ?_ (by first | (simp; done) | (simp; omega) | omega) _) | (with_reducible refine Below.alloc ?_ (by first | (simp; done) | (simp; omega) | omega) _) | (refine bl_call ?_ (by assumption) (by first | (simp; done) | (simp; omega) | omega)) | (with_reducible refine bl_drewN ?_) | (with_reducible refine Below.drew ?_) | (with_reducible refine bl_grow ?_ (by first | (simp; done) | (simp; omega) | omega))))).mono ?_; rintro e w3 ⟨rfl, hb3⟩; have hq3 : Below w.heap.size w w3 := (by repeat (first | (with_reducible exact Below.refl _ _) | (with_reducible assumption) | (with_reducible refine Below.setCell ?_ (by first | (simp; done) | (simp; omega) | omega) _) | (with_reducible refine Below.alloc ?_ (by first | (simp; done) | (simp; omega) | omega) _) | (refine bl_call ?_ (by assumption) (by first | (simp; done) | (simp; omega) | omega)) | (with_reducible refine bl_drewN ?_) | (with_reducible refine Below.drew ?_) | (with_reducible refine bl_grow ?_ (by first | (simp; done) | (simp; omega) | omega)))); have hz3 := hq3.size; clear hb3))
  go_ret
  exact ⟨rfl, by repeat (first | (with_reducible exact Below.refl _ _) | (with_reducible assumption) | (with_reducible refine Below.setCell ?_ (by first | (simp; done) | (simp; omega) | omega) _) | (with_reducible refine Below.alloc ?_ (by first | (simp; done) | (simp; omega) | omega) _) | (refine bl_call ?_ (by assumption) (by first | (simp; done) | (simp; omega) | omega)) | (with_reducible refine bl_drewN ?_) | (with_reducible refine Below.drew ?_) | (with_reducible refine bl_grow ?_ (by first | (simp; done) | (simp; omega) | omega)))⟩
set_option maxRecDepth 100000 in
set_option maxHeartbeats 16000000 in
theorem tsharedB (bc oc m dc : Nat) (sp : Option Addr) (q dp n : Nat) (t : ByteArray) (PY : Nat → Int) (w : World) (n1 : 1 ≤ n) (ht : 60 < t.size) (ht9 : t.size ≤ 9223372036854775807) (h1 : ∀ w, Calls Try.prog 7 #[] w fun ex w' => ex = .returned (.bool true) ∧ Below w.heap.size w w') (hl : ∀ W, Below w.heap.size w W → Calls Try.prog 8 #[.slice (some ⟨bc, oc, none⟩) m dc, .int .i64 (n : Int)] W fun ex w' => ∃ u, ex = .returned (.tuple #[u, .nilIface]) ∧ w'.ownsRow W.heap.size 36 2 u n (cellsP (fun i : Nat => (i : Int) + 1) PY n) ∧ Below W.heap.size W w') : Calls Try.prog 3 #[.slice (some ⟨bc, oc, none⟩) m dc, .int .i64 (n : Int), .slice sp q dp, .string t] w fun e w' => e = .returned (.bool true) ∧ Below w.heap.size w w' := by
  have H1 : Hid (∀ w, Calls Try.prog 7 #[] w fun ex w' => ex = .returned (.bool true) ∧ Below w.heap.size w w') := h1
  have HL : Hid (∀ W, Below w.heap.size w W → Calls Try.prog 8 #[.slice (some ⟨bc, oc, none⟩) m dc, .int .i64 (n : Int)] W fun ex w' => ∃ u, ex = .returned (.tuple #[u, .nilIface]) ∧ w'.ownsRow W.heap.size 36 2 u n (cellsP (fun i : Nat => (i : Int) + 1) PY n) ∧ Below W.heap.size W w') := hl
  have ht' : (t.size : Int) > 60 := by omega
  clear h1 hl ht
  have m1 : True := trivial; have m2 : True := trivial; have m3 : True := trivial; have m4 : True := trivial
  go_enter Try.func3, Try.ntmps3
  go_wp2_with (first | (go_at_call 7; clear m1; refine (H1.out _).mono ?_; rintro e w1 ⟨rfl, hb1⟩; have hq1 : Below w.heap.size w w1 := (by repeat (first | (with_reducible exact Below.refl _ _) | (with_reducible assumption) | (with_reducible refine Below.setCell ?_ (by first | (simp; done) | (simp; omega) | omega) _) | (with_reducible refine Below.alloc ?_ (by first | (simp; done) | (simp; omega) | omega) _) | (refine bl_call ?_ (by assumption) (by first | (simp; done) | (simp; omega) | omega)) | (with_reducible refine bl_drewN ?_) | (with_reducible refine Below.drew ?_) | (with_reducible refine bl_grow ?_ (by first | (simp; done) | (simp; omega) | omega)))); have hz1 := hq1.size; clear hb1) | (go_at_call 8; clear m2; refine (HL.out _ (by repeat (first | (with_reducible exact Below.refl _ _) | (with_reducible assumption) | (with_reducible refine Below.setCell ?_ (by first | (simp; done) | (simp; omega) | omega) _) | (with_reducible refine Below.alloc ?_ (by first | (simp; done) | (simp; omega) | omega) _) | (refine bl_call ?_ (by assumption) (by first | (simp; done) | (simp; omega) | omega)) | (with_reducible refine bl_drewN ?_) | (with_reducible refine Below.drew ?_) | (with_reducible refine bl_grow ?_ (by first | (simp; done) | (simp; omega) | omega))))).mono ?_; rintro e w4 ⟨u4_, rfl, ho4, hb4⟩; have hq4 : Below w.heap.size w w4 := (by repeat (first | (with_reducible exact Below.refl _ _) | (with_reducible assumption) | (with_reducible refine Below.setCell ?_ (by first | (simp; done) | (simp; omega) | omega) _) | (with_reducible refine Below.alloc ?_ (by first | (simp; done) | (simp; omega) | omega) _) | (refine bl_call ?_ (by assumption) (by first | (simp; done) | (simp; omega) | omega)) | (with_reducible refine bl_drewN ?_) | (with_reducible refine Below.drew ?_) | (with_reducible refine bl_grow ?_ (by first | (simp; done) | (simp; omega) | omega)))); have hz4 := hq4.size; obtain ⟨s4, cl, e4, hr4⟩ := own_pairs ho4; obtain ⟨gl, ex4, _, _, hgl⟩ := hr4.resolve_left (by omega); subst ex4; subst e4; have HL4 : Hid (RowP w4 gl 0 n (fun i : Nat => (i : Int) + 1) PY) := hgl; clear hr4 hgl ho4 hb4))
  go_ret
  exact ⟨rfl, by repeat (first | (with_reducible exact Below.refl _ _) | (with_reducible assumption) | (with_reducible refine Below.setCell ?_ (by first | (simp; done) | (simp; omega) | omega) _) | (with_reducible refine Below.alloc ?_ (by first | (simp; done) | (simp; omega) | omega) _) | (refine bl_call ?_ (by assumption) (by first | (simp; done) | (simp; omega) | omega)) | (with_reducible refine bl_drewN ?_) | (with_reducible refine Below.drew ?_) | (with_reducible refine bl_grow ?_ (by first | (simp; done) | (simp; omega) | omega)))⟩
theorem sinfoT : (Try.prog.info? 32).map (fun i => (i.zero, i.size, i.bytes)) = some (some (.agg #[.int .i64 0, .int .i64 0, .bool false]), 3, 24) := by kernel_rfl
set_option maxRecDepth 100000 in
set_option maxHeartbeats 32000000 in
theorem tsharedL (bc oc m dc : Nat) (sp : Option Addr) (q dp n : Nat) (zx zy yx yy : Int) (zf yf : Bool) (t : ByteArray) (C K PY QX QY : Nat → Int) (QF : Nat → Bool) (T : Nat → ByteArray) (w : World) (hn1 : 1 ≤ n) (hn : n ≤ 12) (hm1 : 1 ≤ m) (hm : m ≤ 12) (hq9 : q ≤ 9223372036854775807) (ht : t.size ≤ 60)
    (hrc : RowI w bc oc m C) (hrp : q = 0 ∨ ∃ b o : Nat, sp = some ⟨b, o, none⟩ ∧ RowI w b o q K) (h1 : ∀ w, Calls Try.prog 7 #[] w fun ex w' => ex = .returned (.bool true) ∧ Below w.heap.size w w') (hl : ∀ W, Below w.heap.size w W → Calls Try.prog 8 #[.slice (some ⟨bc, oc, none⟩) m dc, .int .i64 (n : Int)] W fun ex w' => ∃ u, ex = .returned (.tuple #[u, .nilIface]) ∧ w'.ownsRow W.heap.size 36 2 u n (cellsP (fun i : Nat => (i : Int) + 1) PY n) ∧ Below W.heap.size W w') (hpt : ∀ j, j < n → ∀ w, Calls Try.prog 9 #[.agg #[.int .i64 ((j : Int) + 1), .int .i64 (PY j)], .string t] w fun ex w' => ex = .returned (.tuple #[.agg #[.int .i64 (QX j), .int .i64 (QY j), .bool (QF j)], .nilIface]) ∧ Below w.heap.size w w') (hpk : ∀ j, j < n → ∀ w, Calls Try.prog 10 #[.agg #[.int .i64 (QX j), .int .i64 (QY j), .bool (QF j)]] w fun ex w' => ex = .returned (.tuple #[.string (T j), .nilIface]) ∧ Below w.heap.size w w') (huk : ∀ j, j < n → ∀ w, Calls Try.prog 11 #[.string (T j)] w fun ex w' => ex = .returned (.tuple #[.agg #[.int .i64 (QX j), .int .i64 (QY j), .bool (QF j)], .nilIface]) ∧ Below w.heap.size w w')
    (hj : ∀ (W : World) (B r : Nat) (J : Nat → Nat) (xv pv : Value), Picks J r n → m ≤ r → R3 3 32 B W xv r (cellsI (pkX J) r) pv r (pkT QX QY QF J r) (.slice none 0 0) 0 [] → Calls Try.prog 12 #[xv, pv] W fun ex w' => ex = .returned (.tuple #[.agg #[.int .i64 zx, .int .i64 zy, .bool zf], .nilIface]) ∧ Below W.heap.size W w') (hke : (C 0 == 0) = false → ∀ w, Calls Try.prog 13 #[.int .i64 (C 0)] w fun ex w' => ex = .returned (.tuple #[.agg #[.int .i64 yx, .int .i64 yy, .bool yf], .nilIface]) ∧ Below w.heap.size w w') (hve : (C 0 == 0) = false → ∀ w, Calls Try.prog 14 #[.agg #[.int .i64 yx, .int .i64 yy, .bool yf], .string t, .agg #[.int .i64 zx, .int .i64 zy, .bool zf]] w fun ex w' => ex = .returned (.tuple #[.bool true, .nilIface]) ∧ Below w.heap.size w w') : Calls Try.prog 3 #[.slice (some ⟨bc, oc, none⟩) m dc, .int .i64 (n : Int), .slice sp q dp, .string t] w fun e w' => e = .returned (.bool true) ∧ Below w.heap.size w w' := by
  have H1 : Hid (∀ w, Calls Try.prog 7 #[] w fun ex w' => ex = .returned (.bool true) ∧ Below w.heap.size w w') := h1
  have HL : Hid (∀ W, Below w.heap.size w W → Calls Try.prog 8 #[.slice (some ⟨bc, oc, none⟩) m dc, .int .i64 (n : Int)] W fun ex w' => ∃ u, ex = .returned (.tuple #[u, .nilIface]) ∧ w'.ownsRow W.heap.size 36 2 u n (cellsP (fun i : Nat => (i : Int) + 1) PY n) ∧ Below W.heap.size W w') := hl
  have HPT : Hid (∀ j, j < n → ∀ w, Calls Try.prog 9 #[.agg #[.int .i64 ((j : Int) + 1), .int .i64 (PY j)], .string t] w fun ex w' => ex = .returned (.tuple #[.agg #[.int .i64 (QX j), .int .i64 (QY j), .bool (QF j)], .nilIface]) ∧ Below w.heap.size w w') := hpt
  have HPK : Hid (∀ j, j < n → ∀ w, Calls Try.prog 10 #[.agg #[.int .i64 (QX j), .int .i64 (QY j), .bool (QF j)]] w fun ex w' => ex = .returned (.tuple #[.string (T j), .nilIface]) ∧ Below w.heap.size w w') := hpk
  have HUK : Hid (∀ j, j < n → ∀ w, Calls Try.prog 11 #[.string (T j)] w fun ex w' => ex = .returned (.tuple #[.agg #[.int .i64 (QX j), .int .i64 (QY j), .bool (QF j)], .nilIface]) ∧ Below w.heap.size w w') := huk
  have HJ : Hid (∀ (W : World) (B r : Nat) (J : Nat → Nat) (xv pv : Value), Picks J r n → m ≤ r → R3 3 32 B W xv r (cellsI (pkX J) r) pv r (pkT QX QY QF J r) (.slice none 0 0) 0 [] → Calls Try.prog 12 #[xv, pv] W fun ex w' => ex = .returned (.tuple #[.agg #[.int .i64 zx, .int .i64 zy, .bool zf], .nilIface]) ∧ Below W.heap.size W w') := hj
  have HRC : Hid (RowI w bc oc m C) := hrc
  have HRP : Hid (q = 0 ∨ ∃ b o : Nat, sp = some ⟨b, o, none⟩ ∧ RowI w b o q K) := hrp
  have HKE : Hid ((C 0 == 0) = false → ∀ w, Calls Try.prog 13 #[.int .i64 (C 0)] w fun ex w' => ex = .returned (.tuple #[.agg #[.int .i64 yx, .int .i64 yy, .bool yf], .nilIface]) ∧ Below w.heap.size w w') := hke
  have HVE : Hid ((C 0 == 0) = false → ∀ w, Calls Try.prog 14 #[.agg #[.int .i64 yx, .int .i64 yy, .bool yf], .string t, .agg #[.int .i64 zx, .int .i64 zy, .bool zf]] w fun ex w' => ex = .returned (.tuple #[.bool true, .nilIface]) ∧ Below w.heap.size w w') := hve
  obtain ⟨i0, hi, hv0, hv1, hv2⟩ := info_parts iinfo
  obtain ⟨s0, hs, hu0, hu1, hu2⟩ := info_parts sinfoT
  clear h1 hl hpt hpk huk hj hrc hrp hke hve
  have ht' : ¬ (t.size : Int) > 60 := by omega
  have n3 : ((n : Int) != (n : Int)) = false := by simp
  have n4 : ¬ (m : Int) < 1 := by omega
  have n5 : ¬ (n : Int) > 12 := by omega
  clear ht
  have m1 : True := trivial; have m2 : True := trivial; have m3 : True := trivial; have m4 : True := trivial; have m5 : True := trivial; have m6 : True := trivial; have m7 : True := trivial; have m8 : True := trivial
  go_enter Try.func3, Try.ntmps3
  go_upto_if 57 with (first | (go_at_call 7; clear m1; refine (H1.out _).mono ?_; rintro e w1 ⟨rfl, hb1⟩; have hq1 : Below w.heap.size w w1 := (by repeat (first | (with_reducible exact Below.refl _ _) | (with_reducible assumption) | (with_reducible refine Below.setCell ?_ (by first | (simp; done) | (simp; omega) | omega) _) | (with_reducible refine Below.alloc ?_ (by first | (simp; done) | (simp; omega) | omega) _) | (refine bl_call ?_ (by assumption) (by first | (simp; done) | (simp; omega) | omega)) | (with_reducible refine bl_drewN ?_) | (with_reducible refine Below.drew ?_) | (with_reducible refine bl_grow ?_ (by first | (simp; done) | (simp; omega) | omega)))); have hz1 := hq1.size; clear hb1) | (go_at_call 8; clear m2; refine (HL.out _ (by repeat (first | (with_reducible exact Below.refl _ _) | (with_reducible assumption) | (with_reducible refine Below.setCell ?_ (by first | (simp; done) | (simp; omega) | omega) _) | (with_reducible refine Below.alloc ?_ (by first | (simp; done) | (simp; omega) | omega) _) | (refine bl_call ?_ (by assumption) (by first | (simp; done) | (simp; omega) | omega)) | (with_reducible refine bl_drewN ?_) | (with_reducible refine Below.drew ?_) | (with_reducible refine bl_grow ?_ (by first | (simp; done) | (simp; omega) | omega))))).mono ?_; rintro e w4 ⟨u4_, rfl, ho4, hb4⟩; have hq4 : Below w.heap.size w w4 := (by repeat (first | (with_reducible exact Below.refl _ _) | (with_reducible assumption) | (with_reducible refine Below.setCell ?_ (by first | (simp; done) | (simp; omega) | omega) _) | (with_reducible refine Below.alloc ?_ (by first | (simp; done) | (simp; omega) | omega) _) | (refine bl_call ?_ (by assumption) (by first | (simp; done) | (simp; omega) | omega)) | (with_reducible refine bl_drewN ?_) | (with_reducible refine Below.drew ?_) | (with_reducible refine bl_grow ?_ (by first | (simp; done) | (simp; omega) | omega)))); have hz4 := hq4.size; obtain ⟨s4, cl, e4, hr4⟩ := own_pairs ho4; obtain ⟨gl, ex4, _, _, hgl⟩ := hr4.resolve_left (by omega); subst ex4; subst e4; have HL4 : Hid (RowP w4 gl 0 n (fun i : Nat => (i : Int) + 1) PY) := hgl; clear hr4 hgl ho4 hb4))
  
  go_cut [] from 29 to 57 (fun wx => wx = w4)
  case first => as_aux_lemma =>
    go_wp2_with fail
    go_meet
    case rel => rfl
  case rest =>
  have hcut' := hcut.symm
  subst hcut'
  go_upto_block 0 with fail
  
  refine wp_gen (fun V => FlagsG 12 V w4.heap.size (fun _ => false) ∧ Below w4.heap.size w4 V) ⟨(by
    refine ⟨by simp, fun j hj => ⟨?_, ?_⟩⟩
    · match j, hj with
      | 0, _ | 1, _ | 2, _ | 3, _ | 4, _ | 5, _ | 6, _ | 7, _ | 8, _ | 9, _ | 10, _ | 11, _ => simp
    · match j, hj with
      | 0, _ | 1, _ | 2, _ | 3, _ | 4, _ | 5, _ | 6, _ | 7, _ | 8, _ | 9, _ | 10, _ | 11, _ => simp), by repeat (first | (with_reducible exact Below.refl _ _) | (with_reducible assumption) | (with_reducible refine Below.setCell ?_ (by first | (simp; done) | (simp; omega) | omega) _) | (with_reducible refine Below.alloc ?_ (by first | (simp; done) | (simp; omega) | omega) _) | (refine bl_call ?_ (by assumption) (by first | (simp; done) | (simp; omega) | omega)) | (with_reducible refine bl_drewN ?_) | (with_reducible refine Below.drew ?_) | (with_reducible refine bl_grow ?_ (by first | (simp; done) | (simp; omega) | omega)))⟩ ?_
  rintro V ⟨hFV, hqV⟩
  go_cut [12, 13] from 29 to 122 (fun t12 t13 wx => (∃ (r : Nat) (J : Nat → Nat), Picks J r n ∧ R3 3 32 (w4.heap.size + 1) wx t12 r (cellsI (pkX J) r) t13 r (pkT QX QY QF J r) (.slice none 0 0) 0 []) ∧ Below w4.heap.size w4 wx)
  case first => as_aux_lemma =>
    go_wp2_with fail
    go_loopw [12, 13, 15] (fun tx tp ti wl => ∃ k : Nat, k ≤ q ∧ ti = .int .i64 k ∧ ∃ (r : Nat) (J : Nat → Nat), Picks J r n ∧ R3 3 32 (w4.heap.size + 1) wl tx r (cellsI (pkX J) r) tp r (pkT QX QY QF J r) (.slice none 0 0) 0 [] ∧ FlagsG 12 wl w4.heap.size (pickD J r) ∧ Below w4.heap.size w4 wl) (fun _ _ ti _ => q - (intOf ti).toNat)
    case atStart => exact ⟨0, by omega, rfl, 0, fun _ => 0, picks_none n, ⟨World.ownsRow_nil _ _ _ _, World.ownsRow_nil _ _ _ _, World.ownsRow_nil _ _ _ _, Ap.nil _, Ap.nil _, Ap.nil _⟩, hFV, hqV⟩
    case round =>
      obtain ⟨k, hk, rfl, r, J, hP, h3, hFl, hqU⟩ := hrel
      have hzU := hqU.size
      have hr12 := hP.le
      by_cases hlt : k < q
      · have hlt' : (k : Int) < (q : Int) := by omega
        obtain ⟨bp, op, rfl, hrp⟩ := HRP.out.resolve_left (by omega)
        have hqw : Below w.heap.size w wr := bl_call hq4 hqU (by omega)
        have hbp := Nat.lt_of_lt_of_le hrp.1 hqw.size
        have cK := (hqw.cell (p := ⟨bp, op + k, none⟩) hrp.1).trans (hrp.2 k hlt)
        have hbw := hrp.1
        clear hrp
        by_cases g1 : K k < 0
        · go_wp2_with fail
          go_roundw
          case rel => exact ⟨k + 1, by omega, by simp, r, J, hP, h3, hFl, by repeat (first | (with_reducible exact Below.refl _ _) | (with_reducible assumption) | (with_reducible refine Below.setCell ?_ (by first | (simp; done) | (simp; omega) | omega) _) | (with_reducible refine Below.alloc ?_ (by first | (simp; done) | (simp; omega) | omega) _) | (refine bl_call ?_ (by assumption) (by first | (simp; done) | (simp; omega) | omega)) | (with_reducible refine bl_drewN ?_) | (with_reducible refine Below.drew ?_) | (with_reducible refine bl_grow ?_ (by first | (simp; done) | (simp; omega) | omega)))⟩
          case measure => simp [intOf]; omega
        · by_cases g2 : K k ≥ (n : Int)
          · go_wp2_with fail
            go_roundw
            case rel => exact ⟨k + 1, by omega, by simp, r, J, hP, h3, hFl, by repeat (first | (with_reducible exact Below.refl _ _) | (with_reducible assumption) | (with_reducible refine Below.setCell ?_ (by first | (simp; done) | (simp; omega) | omega) _) | (with_reducible refine Below.alloc ?_ (by first | (simp; done) | (simp; omega) | omega) _) | (refine bl_call ?_ (by assumption) (by first | (simp; done) | (simp; omega) | omega)) | (with_reducible refine bl_drewN ?_) | (with_reducible refine Below.drew ?_) | (with_reducible refine bl_grow ?_ (by first | (simp; done) | (simp; omega) | omega)))⟩
            case measure => simp [intOf]; omega
          · obtain ⟨j, hj⟩ : ∃ j : Nat, K k = (j : Int) := ⟨(K k).toNat, by omega⟩
            rw [hj] at cK g1 g2
            have hjn : j < n := by omega
            have j12 : (j : Int) < 12 := by omega
            obtain ⟨cF, fF⟩ := hFl.2 j (by omega)
            clear hj
            cases hb : pickD J r j with
            | true =>
              rw [hb] at cF
              
              go_wp2_with fail
              go_roundw
              case rel => exact ⟨k + 1, by omega, by simp, r, J, hP, h3, hFl, by repeat (first | (with_reducible exact Below.refl _ _) | (with_reducible assumption) | (with_reducible refine Below.setCell ?_ (by first | (simp; done) | (simp; omega) | omega) _) | (with_reducible refine Below.alloc ?_ (by first | (simp; done) | (simp; omega) | omega) _) | (refine bl_call ?_ (by assumption) (by first | (simp; done) | (simp; omega) | omega)) | (with_reducible refine bl_drewN ?_) | (with_reducible refine Below.drew ?_) | (with_reducible refine bl_grow ?_ (by first | (simp; done) | (simp; omega) | omega)))⟩
              case measure => simp [intOf]; omega
            | false =>
              rw [hb] at cF
              have HPM : Hid (Picks (extN J r j) (r + 1) n) := picks_more hP hjn hb
              have h3S := h3.set (c := w4.heap.size) (o := j) (by omega) (.bool true)
              have hFS := hFl.put (j := j) (by omega)
              rw [← pickD_more] at hFS
              have hqS : Below w4.heap.size w4 (wr.setCell ⟨w4.heap.size, j, none⟩ (.bool true)) := (by repeat (first | (with_reducible exact Below.refl _ _) | (with_reducible assumption) | (with_reducible refine Below.setCell ?_ (by first | (simp; done) | (simp; omega) | omega) _) | (with_reducible refine Below.alloc ?_ (by first | (simp; done) | (simp; omega) | omega) _) | (refine bl_call ?_ (by assumption) (by first | (simp; done) | (simp; omega) | omega)) | (with_reducible refine bl_drewN ?_) | (with_reducible refine Below.drew ?_) | (with_reducible refine bl_grow ?_ (by first | (simp; done) | (simp; omega) | omega))))
              have cXw := (HL4.out.2 j hjn).1
              have cYw := (HL4.out.2 j hjn).2
              rw [Nat.zero_add] at cXw cYw
              have cX := (hqU.cell (p := ⟨gl, j * 2, none⟩) HL4.out.1).trans cXw
              have cY := (hqU.cell (p := ⟨gl, j * 2 + 1, none⟩) HL4.out.1).trans cYw
              have hgl : gl < wr.heap.size := Nat.lt_of_lt_of_le HL4.out.1 hzU
              have hne1 : gl ≠ w4.heap.size := Nat.ne_of_lt HL4.out.1
              have hne2 : bp ≠ w4.heap.size := by omega
              go_wp2_with (first | (go_at_call 9; refine (HPT.out j hjn _).mono ?_; rintro e w5 ⟨rfl, hb5⟩; have hq5 : Below w4.heap.size w4 w5 := bl_call hqS hb5 hqS.size; have hz5 := hq5.size; have h35 := h3S.below hb5; have hF5 := hFS.below hb5; clear hb5) | (go_at_call 10; refine (HPK.out j hjn _).mono ?_; rintro e w6 ⟨rfl, hb6⟩; have hq6 : Below w4.heap.size w4 w6 := (by repeat (first | (with_reducible exact Below.refl _ _) | (with_reducible assumption) | (with_reducible refine Below.setCell ?_ (by first | (simp; done) | (simp; omega) | omega) _) | (with_reducible refine Below.alloc ?_ (by first | (simp; done) | (simp; omega) | omega) _) | (refine bl_call ?_ (by assumption) (by first | (simp; done) | (simp; omega) | omega)) | (with_reducible refine bl_drewN ?_) | (with_reducible refine Below.drew ?_) | (with_reducible refine bl_grow ?_ (by first | (simp; done) | (simp; omega) | omega)))); have hz6 := hq6.size; have h36 := (h35.below (by repeat (first | (with_reducible exact Below.refl _ _) | (with_reducible assumption) | (with_reducible refine Below.setCell ?_ (by first | (simp; done) | (simp; omega) | omega) _) | (with_reducible refine Below.alloc ?_ (by first | (simp; done) | (simp; omega) | omega) _) | (refine bl_call ?_ (by assumption) (by first | (simp; done) | (simp; omega) | omega)) | (with_reducible refine bl_drewN ?_) | (with_reducible refine Below.drew ?_) | (with_reducible refine bl_grow ?_ (by first | (simp; done) | (simp; omega) | omega))))).below hb6; have hF6 := (hF5.below (by repeat (first | (with_reducible exact Below.refl _ _) | (with_reducible assumption) | (with_reducible refine Below.setCell ?_ (by first | (simp; done) | (simp; omega) | omega) _) | (with_reducible refine Below.alloc ?_ (by first | (simp; done) | (simp; omega) | omega) _) | (refine bl_call ?_ (by assumption) (by first | (simp; done) | (simp; omega) | omega)) | (with_reducible refine bl_drewN ?_) | (with_reducible refine Below.drew ?_) | (with_reducible refine bl_grow ?_ (by first | (simp; done) | (simp; omega) | omega))))).below hb6; clear hb6) | (go_at_call 11; refine (HUK.out j hjn _).mono ?_; rintro e w7 ⟨rfl, hb7⟩; have hq7 : Below w4.heap.size w4 w7 := (by repeat (first | (with_reducible exact Below.refl _ _) | (with_reducible assumption) | (with_reducible refine Below.setCell ?_ (by first | (simp; done) | (simp; omega) | omega) _) | (with_reducible refine Below.alloc ?_ (by first | (simp; done) | (simp; omega) | omega) _) | (refine bl_call ?_ (by assumption) (by first | (simp; done) | (simp; omega) | omega)) | (with_reducible refine bl_drewN ?_) | (with_reducible refine Below.drew ?_) | (with_reducible refine bl_grow ?_ (by first | (simp; done) | (simp; omega) | omega)))); have hz7 := hq7.size; have h37 := h36.below hb7; have hF7 := hF6.below hb7; have cX7 := (hq7.cell (p := ⟨gl, j * 2, none⟩) HL4.out.1).trans cXw; have hgl7 := Nat.lt_of_lt_of_le HL4.out.1 hz7; clear hb7) | (at_builtin; refine wpList_append_own_at _ rfl _ _ 22 rfl (w4.heap.size + 1) 3 i0 (.int .i64 0) 1 8 Try.underlying22 hi hv0 hv1 hv2 rfl (by decide) _ _ _ rfl (own_stay h37.1 (by repeat (first | (with_reducible exact Below.refl _ _) | (with_reducible assumption) | (with_reducible refine Below.setCell ?_ (by first | (simp; done) | (simp; omega) | omega) _) | (with_reducible refine Below.alloc ?_ (by first | (simp; done) | (simp; omega) | omega) _) | (refine bl_call ?_ (by assumption) (by first | (simp; done) | (simp; omega) | omega)) | (with_reducible refine bl_drewN ?_) | (with_reducible refine Below.drew ?_) | (with_reducible refine bl_grow ?_ (by first | (simp; done) | (simp; omega) | omega))))) ⟨_, 0, none⟩ 1 1 [.int .i64 ((j : Int) + 1)] rfl rfl (one_newB' (by simp) _ _) one_one (by unfold maxLen; omega) (by omega) (by simp; omega) ?_))
              
              intro vx w8 hox hgx _ hatx
              have hq8 : Below w4.heap.size w4 w8 := grown_under (B := (w4.heap.size + 1)) (by repeat (first | (with_reducible exact Below.refl _ _) | (with_reducible assumption) | (with_reducible refine Below.setCell ?_ (by first | (simp; done) | (simp; omega) | omega) _) | (with_reducible refine Below.alloc ?_ (by first | (simp; done) | (simp; omega) | omega) _) | (refine bl_call ?_ (by assumption) (by first | (simp; done) | (simp; omega) | omega)) | (with_reducible refine bl_drewN ?_) | (with_reducible refine Below.drew ?_) | (with_reducible refine bl_grow ?_ (by first | (simp; done) | (simp; omega) | omega)))) (own_stay h37.1 (by repeat (first | (with_reducible exact Below.refl _ _) | (with_reducible assumption) | (with_reducible refine Below.setCell ?_ (by first | (simp; done) | (simp; omega) | omega) _) | (with_reducible refine Below.alloc ?_ (by first | (simp; done) | (simp; omega) | omega) _) | (refine bl_call ?_ (by assumption) (by first | (simp; done) | (simp; omega) | omega)) | (with_reducible refine bl_drewN ?_) | (with_reducible refine Below.drew ?_) | (with_reducible refine bl_grow ?_ (by first | (simp; done) | (simp; omega) | omega))))) hgx (by simp; omega) (by omega)
              have hz8 := hq8.size
              have kp8 : At w8 w7.heap.size [.int .i64 (QX j), .int .i64 (QY j), .bool (QF j)] := At.grown (by repeat (first | (with_reducible assumption) | ((with_reducible refine at_new' _ _ _ _ ?_); (first | rfl | (simp; done))) | (with_reducible refine At.alloc ?_ _) | (with_reducible refine At.drew ?_) | (with_reducible refine At.drewN ?_) | (with_reducible refine At.set ?_ (by omega)) | (with_reducible apply At.store4) | (with_reducible apply At.store3) | (with_reducible apply At.store2) | (with_reducible apply At.put43) | (refine At.below ?_ (by with_reducible assumption)))) hgx (fun e => by have := (h37.1.lt _ e).2; omega)
              have h38 := (h37.below (by repeat (first | (with_reducible exact Below.refl _ _) | (with_reducible assumption) | (with_reducible refine Below.setCell ?_ (by first | (simp; done) | (simp; omega) | omega) _) | (with_reducible refine Below.alloc ?_ (by first | (simp; done) | (simp; omega) | omega) _) | (refine bl_call ?_ (by assumption) (by first | (simp; done) | (simp; omega) | omega)) | (with_reducible refine bl_drewN ?_) | (with_reducible refine Below.drew ?_) | (with_reducible refine bl_grow ?_ (by first | (simp; done) | (simp; omega) | omega))))).growX (own_cellsB (irow_ext J r j) hox) hgx (by simpa using hatx)
              have hF8 := (hF7.below (by repeat (first | (with_reducible exact Below.refl _ _) | (with_reducible assumption) | (with_reducible refine Below.setCell ?_ (by first | (simp; done) | (simp; omega) | omega) _) | (with_reducible refine Below.alloc ?_ (by first | (simp; done) | (simp; omega) | omega) _) | (refine bl_call ?_ (by assumption) (by first | (simp; done) | (simp; omega) | omega)) | (with_reducible refine bl_drewN ?_) | (with_reducible refine Below.drew ?_) | (with_reducible refine bl_grow ?_ (by first | (simp; done) | (simp; omega) | omega))))).grown hgx (apart_above h37.1 (by omega))
              obtain ⟨zp8, cp0, cp1, cp2, fp0, fp1, fp2⟩ := kp8.three
              clear hgx hatx hox h35 hF5 hq5 h36 hF6 hq6 h37 hF7 hq7
              go_wp2_with (at_builtin; refine wpList_append_own_at _ rfl _ _ 29 rfl (w4.heap.size + 1) 32 s0 (.agg #[.int .i64 0, .int .i64 0, .bool false]) 3 24 Try.underlying29 hs hu0 hu1 hu2 rfl (by decide) _ _ _ rfl (own_stay h38.2.1 (by repeat (first | (with_reducible exact Below.refl _ _) | (with_reducible assumption) | (with_reducible refine Below.setCell ?_ (by first | (simp; done) | (simp; omega) | omega) _) | (with_reducible refine Below.alloc ?_ (by first | (simp; done) | (simp; omega) | omega) _) | (refine bl_call ?_ (by assumption) (by first | (simp; done) | (simp; omega) | omega)) | (with_reducible refine bl_drewN ?_) | (with_reducible refine Below.drew ?_) | (with_reducible refine bl_grow ?_ (by first | (simp; done) | (simp; omega) | omega))))) ⟨_, 0, none⟩ 1 1 [.int .i64 (QX j), .int .i64 (QY j), .bool (QF j)] rfl rfl (three_newB (by simp) _ _ _ _) one_three (by unfold maxLen; omega) (by omega) (by simp; omega) ?_)
              intro vp w9 hop hgp _ hatp
              have hq9_ : Below w4.heap.size w4 w9 := grown_under (B := (w4.heap.size + 1)) (by repeat (first | (with_reducible exact Below.refl _ _) | (with_reducible assumption) | (with_reducible refine Below.setCell ?_ (by first | (simp; done) | (simp; omega) | omega) _) | (with_reducible refine Below.alloc ?_ (by first | (simp; done) | (simp; omega) | omega) _) | (refine bl_call ?_ (by assumption) (by first | (simp; done) | (simp; omega) | omega)) | (with_reducible refine bl_drewN ?_) | (with_reducible refine Below.drew ?_) | (with_reducible refine bl_grow ?_ (by first | (simp; done) | (simp; omega) | omega)))) (own_stay h38.2.1 (by repeat (first | (with_reducible exact Below.refl _ _) | (with_reducible assumption) | (with_reducible refine Below.setCell ?_ (by first | (simp; done) | (simp; omega) | omega) _) | (with_reducible refine Below.alloc ?_ (by first | (simp; done) | (simp; omega) | omega) _) | (refine bl_call ?_ (by assumption) (by first | (simp; done) | (simp; omega) | omega)) | (with_reducible refine bl_drewN ?_) | (with_reducible refine Below.drew ?_) | (with_reducible refine bl_grow ?_ (by first | (simp; done) | (simp; omega) | omega))))) hgp (by simp; omega) (by omega)
              have hz9 := hq9_.size
              have h39 := (h38.below (by repeat (first | (with_reducible exact Below.refl _ _) | (with_reducible assumption) | (with_reducible refine Below.setCell ?_ (by first | (simp; done) | (simp; omega) | omega) _) | (with_reducible refine Below.alloc ?_ (by first | (simp; done) | (simp; omega) | omega) _) | (refine bl_call ?_ (by assumption) (by first | (simp; done) | (simp; omega) | omega)) | (with_reducible refine bl_drewN ?_) | (with_reducible refine Below.drew ?_) | (with_reducible refine bl_grow ?_ (by first | (simp; done) | (simp; omega) | omega))))).growP (own_cellsB (trow_ext QX QY QF J r j) hop) hgp (by simpa using hatp)
              have hF9 := (hF8.below (by repeat (first | (with_reducible exact Below.refl _ _) | (with_reducible assumption) | (with_reducible refine Below.setCell ?_ (by first | (simp; done) | (simp; omega) | omega) _) | (with_reducible refine Below.alloc ?_ (by first | (simp; done) | (simp; omega) | omega) _) | (refine bl_call ?_ (by assumption) (by first | (simp; done) | (simp; omega) | omega)) | (with_reducible refine bl_drewN ?_) | (with_reducible refine Below.drew ?_) | (with_reducible refine bl_grow ?_ (by first | (simp; done) | (simp; omega) | omega))))).grown hgp (apart_above h38.2.1 (by omega))
              clear hgp hatp hop h38 hF8 hq8
              go_wp2_with fail
              go_roundw
              case rel => exact ⟨k + 1, by omega, by simp, r + 1, extN J r j, HPM.out, h39, hF9, hq9_⟩
              case measure => simp [intOf]; omega
      · have hlt' : ¬ (k : Int) < (q : Int) := by omega
        go_wp2_with fail
        go_meet
        case rel => exact ⟨⟨r, J, hP, h3⟩, by repeat (first | (with_reducible exact Below.refl _ _) | (with_reducible assumption) | (with_reducible refine Below.setCell ?_ (by first | (simp; done) | (simp; omega) | omega) _) | (with_reducible refine Below.alloc ?_ (by first | (simp; done) | (simp; omega) | omega) _) | (refine bl_call ?_ (by assumption) (by first | (simp; done) | (simp; omega) | omega)) | (with_reducible refine bl_drewN ?_) | (with_reducible refine Below.drew ?_) | (with_reducible refine bl_grow ?_ (by first | (simp; done) | (simp; omega) | omega)))⟩
  case rest =>
  clear hFV hqV
  obtain ⟨⟨r, J, hP, h3⟩, hqwc⟩ := hcut
  have hzwc := hqwc.size
  have hr12 := hP.le
  have hqw : Below w.heap.size w wc := bl_call hq4 hqwc hz4
  have hzw := hqw.size
  have cC : wc.cell? ⟨bc, oc, none⟩ = some (.int .i64 (C 0)) := (hqw.cell (p := ⟨bc, oc, none⟩) HRC.out.1).trans (HRC.out.2 0 (by omega))
  have hbc := Nat.lt_of_lt_of_le HRC.out.1 hzw
  obtain ⟨sX, cX_, eX, _⟩ := own_slice h3.1
  subst eX
  have H3 : Hid (R3 3 32 (w4.heap.size + 1) wc (.slice sX r cX_) r (cellsI (pkX J) r) u13 r (pkT QX QY QF J r) (.slice none 0 0) 0 []) := h3
  clear h3
  by_cases hmr : m ≤ r
  · have a1 : ¬ (r : Int) < (m : Int) := by omega
    have a2 : (0 : Int) < (m : Int) := by omega
    cases hc0 : C 0 == 0 with
    | true =>
      go_wp2_with fail
      go_ret
      exact ⟨rfl, by repeat (first | (with_reducible exact Below.refl _ _) | (with_reducible assumption) | (with_reducible refine Below.setCell ?_ (by first | (simp; done) | (simp; omega) | omega) _) | (with_reducible refine Below.alloc ?_ (by first | (simp; done) | (simp; omega) | omega) _) | (refine bl_call ?_ (by assumption) (by first | (simp; done) | (simp; omega) | omega)) | (with_reducible refine bl_drewN ?_) | (with_reducible refine Below.drew ?_) | (with_reducible refine bl_grow ?_ (by first | (simp; done) | (simp; omega) | omega)))⟩
    | false =>
      have HK_ : Hid (∀ w, Calls Try.prog 13 #[.int .i64 (C 0)] w fun ex w' => ex = .returned (.tuple #[.agg #[.int .i64 yx, .int .i64 yy, .bool yf], .nilIface]) ∧ Below w.heap.size w w') := HKE.out hc0
      have HV_ : Hid (∀ w, Calls Try.prog 14 #[.agg #[.int .i64 yx, .int .i64 yy, .bool yf], .string t, .agg #[.int .i64 zx, .int .i64 zy, .bool zf]] w fun ex w' => ex = .returned (.tuple #[.bool true, .nilIface]) ∧ Below w.heap.size w w') := HVE.out hc0
      clear hc0
      go_wp2_with (first | (go_at_call 12; clear m4; refine (HJ.out _ _ r J _ _ hP hmr H3.out).mono ?_; rintro e v1 ⟨rfl, hb1⟩; have hqv1 : Below w.heap.size w v1 := bl_call hqw hb1 hzw; have hzv1 := hqv1.size; have cCv1 : v1.cell? ⟨bc, oc, none⟩ = some (.int .i64 (C 0)) := (hqv1.cell (p := ⟨bc, oc, none⟩) HRC.out.1).trans (HRC.out.2 0 (by omega)); have hbcv1 := Nat.lt_of_lt_of_le HRC.out.1 hzv1; clear hb1) | (go_at_call 13; clear m5; refine (HK_.out _).mono ?_; rintro e v2 ⟨rfl, hb2⟩; have kzv2 : At v2 (v1.heap.size) [.int .i64 zx, .int .i64 zy, .bool zf] := (by repeat (first | (with_reducible assumption) | ((with_reducible refine at_new' _ _ _ _ ?_); (first | rfl | (simp; done))) | (with_reducible refine At.alloc ?_ _) | (with_reducible refine At.drew ?_) | (with_reducible refine At.drewN ?_) | (with_reducible refine At.set ?_ (by omega)) | (with_reducible apply At.store4) | (with_reducible apply At.store3) | (with_reducible apply At.store2) | (with_reducible apply At.put43) | (refine At.below ?_ (by with_reducible assumption)))); have hqv2 : Below w.heap.size w v2 := (by repeat (first | (with_reducible exact Below.refl _ _) | (with_reducible assumption) | (with_reducible refine Below.setCell ?_ (by first | (simp; done) | (simp; omega) | omega) _) | (with_reducible refine Below.alloc ?_ (by first | (simp; done) | (simp; omega) | omega) _) | (refine bl_call ?_ (by assumption) (by first | (simp; done) | (simp; omega) | omega)) | (with_reducible refine bl_drewN ?_) | (with_reducible refine Below.drew ?_) | (with_reducible refine bl_grow ?_ (by first | (simp; done) | (simp; omega) | omega)))); have hzv2 := hqv2.size; obtain ⟨zzv2, cz0v2, cz1v2, cz2v2, fz0v2, fz1v2, fz2v2⟩ := kzv2.three; clear hb2) | (go_at_call 14; clear m6; refine (HV_.out _).mono ?_; rintro e v3 ⟨rfl, hb3⟩; have hqv3 : Below w.heap.size w v3 := (by repeat (first | (with_reducible exact Below.refl _ _) | (with_reducible assumption) | (with_reducible refine Below.setCell ?_ (by first | (simp; done) | (simp; omega) | omega) _) | (with_reducible refine Below.alloc ?_ (by first | (simp; done) | (simp; omega) | omega) _) | (refine bl_call ?_ (by assumption) (by first | (simp; done) | (simp; omega) | omega)) | (with_reducible refine bl_drewN ?_) | (with_reducible refine Below.drew ?_) | (with_reducible refine bl_grow ?_ (by first | (simp; done) | (simp; omega) | omega)))); have hzv3 := hqv3.size; clear hb3))
      all_goals go_ret
      all_goals exact ⟨rfl, by repeat (first | (with_reducible exact Below.refl _ _) | (with_reducible assumption) | (with_reducible refine Below.setCell ?_ (by first | (simp; done) | (simp; omega) | omega) _) | (with_reducible refine Below.alloc ?_ (by first | (simp; done) | (simp; omega) | omega) _) | (refine bl_call ?_ (by assumption) (by first | (simp; done) | (simp; omega) | omega)) | (with_reducible refine bl_drewN ?_) | (with_reducible refine Below.drew ?_) | (with_reducible refine bl_grow ?_ (by first | (simp; done) | (simp; omega) | omega)))⟩
  · have a1 : (r : Int) < (m : Int) := by omega
    go_wp2_with fail
    go_ret
    exact ⟨rfl, by repeat (first | (with_reducible exact Below.refl _ _) | (with_reducible assumption) | (with_reducible refine Below.setCell ?_ (by first | (simp; done) | (simp; omega) | omega) _) | (with_reducible refine Below.alloc ?_ (by first | (simp; done) | (simp; omega) | omega) _) | (refine bl_call ?_ (by assumption) (by first | (simp; done) | (simp; omega) | omega)) | (with_reducible refine bl_drewN ?_) | (with_reducible refine Below.drew ?_) | (with_reducible refine bl_grow ?_ (by first | (simp; done) | (simp; omega) | omega)))⟩
theorem topShared_by (hS : SplitIs) (hT : PartIs) (hJ : JoinIs) (w : World) (sc : Option Addr) (m dc : Nat) (z : Int) (sp : Option Addr) (q dp : Nat) (t : ByteArray)
    (hm : m ≤ maxLen) (uC : m = 0 ∨ ∃ (b o : Nat) (X : Nat → Int), sc = some ⟨b, o, none⟩ ∧ RowI w b o m X ∧ ∀ i, i < m → (Lit.int .i64 (X i)).wf = true) (hz : (Lit.int .i64 z).wf = true)
    (hq : q ≤ maxLen) (uP : q = 0 ∨ ∃ (b o : Nat) (X : Nat → Int), sp = some ⟨b, o, none⟩ ∧ RowI w b o q X ∧ ∀ i, i < q → (Lit.int .i64 (X i)).wf = true) (ht : t.size ≤ maxLen) : Calls Try.prog 3 #[.slice sc m dc, .int .i64 z, .slice sp q dp, .string t] w fun e w' => e = .returned (.bool true) ∧ Below w.heap.size w w' := by
  have ht9 : t.size ≤ 9223372036854775807 := ht
  obtain ⟨C, c1, c2⟩ : ∃ C : Nat → Int, (m = 0 ∨ ∃ b o : Nat, sc = some ⟨b, o, none⟩ ∧ RowI w b o m C) ∧ ∀ i, i < m → (Lit.int .i64 (C i)).wf = true := by
    rcases uC with h | ⟨b, o, X, e, r, k⟩
    · exact ⟨fun _ => 0, Or.inl h, fun i hi => by omega⟩
    · exact ⟨X, Or.inr ⟨b, o, e, r⟩, k⟩
  obtain ⟨K, k1⟩ : ∃ K : Nat → Int, q = 0 ∨ ∃ b o : Nat, sp = some ⟨b, o, none⟩ ∧ RowI w b o q K := by
    rcases uP with h | ⟨b, o, X, e, r, k⟩
    · exact ⟨fun _ => 0, Or.inl h⟩
    · exact ⟨X, Or.inr ⟨b, o, e, r⟩⟩
  rcases split_case hS sc m dc C z w hm c1 c2 hz with ⟨c, ha⟩ | ⟨bc, oc, n, rfl, rc, m1, m2, okc, rfl, n1, n2, gc⟩
  · exact tsharedA sc sp m dc q dp z c t w tone_is ha
  by_cases h60 : 60 < t.size
  · exact tsharedB bc oc m dc sp q dp n t _ w n1 h60 ht9 tone_is gc
  obtain ⟨c0, hc0⟩ : ∃ c0 : Nat, C 0 = (c0 : Int) := ⟨(C 0).toNat, by have := res_bd (okc 0 (by omega)); omega⟩
  have hb0 := res_bd (okc 0 (by omega))
  have hy : ∀ j : Nat, ∃ y : Nat, y < 1013 ∧ vI (vlq (xq C) (zq ((j : Int) + 1)) m) = (y : Int) ∧ (vI (vlq (xq C) (zq ((j : Int) + 1)) m)).toNat = y := fun j => by
    have l := vI_lo (vlq (xq C) (zq ((j : Int) + 1)) m)
    have h := vI_hi (vlq (xq C) (zq ((j : Int) + 1)) m)
    exact ⟨(vI (vlq (xq C) (zq ((j : Int) + 1)) m)).toNat, by omega, by omega, rfl⟩
  refine tsharedL bc oc m dc sp q dp n ((tM (4 * (uN t * c0))).1 : Int) ((tM (4 * (uN t * c0))).2.1 : Int) ((tM (4 * c0)).1 : Int) ((tM (4 * c0)).2.1 : Int) (tM (4 * (uN t * c0))).2.2 (tM (4 * c0)).2.2 t C K (fun i : Nat => vI (vlq (xq C) (zq ((i : Int) + 1)) m))
    (fun j => ((tM (4 * (uN t * ((fun i : Nat => vI (vlq (xq C) (zq ((i : Int) + 1)) m)) j).toNat))).1 : Int)) (fun j => ((tM (4 * (uN t * ((fun i : Nat => vI (vlq (xq C) (zq ((i : Int) + 1)) m)) j).toNat))).2.1 : Int)) (fun j => (tM (4 * (uN t * ((fun i : Nat => vI (vlq (xq C) (zq ((i : Int) + 1)) m)) j).toNat))).2.2) (fun j => pkB (tM (4 * (uN t * ((fun i : Nat => vI (vlq (xq C) (zq ((i : Int) + 1)) m)) j).toNat))))
    w n1 n2 m1 m2 hq (by omega) rc k1 tone_is gc ?_ (fun j _ w => pack_tM _ w) (fun j _ w => unpack_tM _ w) ?_ ?_ ?_
  · intro j hj w
    obtain ⟨y, y1, y2, y3⟩ := hy j
    have := hT.2.2 ((j : Int) + 1) y t w (sec_yes (by omega) (by omega)) y1 (by omega)
    show Calls Try.prog 9 #[.agg #[.int .i64 ((j : Int) + 1), .int .i64 (vI (vlq (xq C) (zq ((j : Int) + 1)) m))], .string t] w _
    rw [y2]
    show Calls Try.prog 9 _ w fun ex w' => ex = .returned (.tuple #[.agg #[.int .i64 ((tM (4 * (uN t * (vI (vlq (xq C) (zq ((j : Int) + 1)) m)).toNat))).1 : Int), .int .i64 ((tM (4 * (uN t * (vI (vlq (xq C) (zq ((j : Int) + 1)) m)).toNat))).2.1 : Int), .bool (tM (4 * (uN t * (vI (vlq (xq C) (zq ((j : Int) + 1)) m)).toNat))).2.2], .nilIface]) ∧ _
    rw [y3]
    exact this
  · intro W B r J xv pv hP hmr h3
    exact join_pick hJ (fun j => 4 * (uN t * ((fun i : Nat => vI (vlq (xq C) (zq ((i : Int) + 1)) m)) j).toNat)) hP n2 m1 hmr h3.1 h3.2.1 (jw_tells (uN t) hP n2 m1 hmr hc0 (okc 0 (by omega)))
  · intro hne w
    rw [hc0] at hne ⊢
    have : c0 ≠ 0 := by rintro rfl; cases hne
    exact key_yes c0 w (by omega) (by omega)
  · intro hne w
    exact sverify_yes (by omega) rfl w
end Go.Proofs.Ytmijjjdedadklag
/- ShareFns -/
namespace Go.Proofs.Ytmijjjdedadklag
open Go.RowKit Go.Sort
set_option linter.unusedVariables false
set_option linter.unusedSimpArgs false
theorem isnum (n : Int) (w : World) : Calls Try.prog 26 #[.int .i64 n] w fun e w' => e = .returned (.bool (resB n)) ∧ w' = w := by
  by_cases h : n ≥ 0
  · by_cases h2 : n < 1013
    · rw [show resB n = true from decide_eq_true ⟨h, h2⟩]
      go_enter Try.func26, Try.ntmps26
      go_wp2_with fail
      go_ret
      exact ⟨rfl, rfl⟩
    · rw [show resB n = false from decide_eq_false fun k => h2 k.2]
      go_enter Try.func26, Try.ntmps26
      go_wp2_with fail
      go_ret
      exact ⟨rfl, rfl⟩
  · rw [show resB n = false from decide_eq_false fun k => h k.1]
    go_enter Try.func26, Try.ntmps26
    go_wp2_with fail
    go_ret
    exact ⟨rfl, rfl⟩
theorem spl_fn (x : Int) (t : Bool) (w : World) (h : resB x = t) : Calls Try.prog 25 #[.int .i64 x] w fun e w' => e = .returned (.bool (!t)) ∧ Below w.heap.size w w' := by
  have h1 := isnum x
  rw [h] at h1
  have H : Hid (∀ w, Calls Try.prog 26 #[.int .i64 x] w fun e w' => e = .returned (.bool t) ∧ w' = w) := h1
  clear h h1
  go_enter Try.func25, Try.ntmps25
  go_wp2_with (go_at_call 26; refine (H.out _).mono ?_; rintro e v1 ⟨rfl, hv1⟩; subst v1)
  go_ret
  exact ⟨rfl, by repeat (first | (with_reducible exact Below.refl _ _) | (with_reducible assumption) | (with_reducible refine Below.setCell ?_ (by first | (simp; done) | (simp; omega) | omega) _) | (with_reducible refine Below.alloc ?_ (by first | (simp; done) | (simp; omega) | omega) _) | (refine bl_call ?_ (by assumption) (by first | (simp; done) | (simp; omega) | omega)) | (with_reducible refine bl_drewN ?_) | (with_reducible refine Below.drew ?_) | (with_reducible refine bl_grow ?_ (by first | (simp; done) | (simp; omega) | omega)))⟩
set_option maxRecDepth 100000 in
set_option maxHeartbeats 4000000 in
theorem idxI (b o n d t : Nat) (X : Nat → Int) (r : Int) (w : World) (hn : n ≤ 12) (ht : t ≤ n) (hr : RowI w b o n X) (hok : ∀ i, i < t → resB (X i) = true) (he : (t = n ∧ r = -1) ∨ (t < n ∧ resB (X t) = false ∧ r = t)) :
    Calls Try.prog 60 #[.slice (some ⟨b, o, none⟩) n d, .func (.func 25) #[] #[]] w fun e w' => e = .returned (.int .i64 r) ∧ Below w.heap.size w w' := by
  have HR : Hid (RowI w b o n X) := hr
  have HOK : Hid (∀ i, i < t → resB (X i) = true) := hok
  have HE : Hid ((t = n ∧ r = -1) ∨ (t < n ∧ resB (X t) = false ∧ r = t)) := he
  have hb := hr.1
  clear hr hok he
  go_enter Try.func60, Try.ntmps60
  go_wp2_with fail
  go_loopw [8] (fun ti wl => ∃ k : Nat, k ≤ t ∧ ti = .int .i64 k ∧ Below w.heap.size w wl) (fun ti _ => n - (intOf ti).toNat)
  case atStart => exact ⟨0, by omega, rfl, by repeat (first | (with_reducible exact Below.refl _ _) | (with_reducible assumption) | (with_reducible refine Below.setCell ?_ (by first | (simp; done) | (simp; omega) | omega) _) | (with_reducible refine Below.alloc ?_ (by first | (simp; done) | (simp; omega) | omega) _) | (refine bl_call ?_ (by assumption) (by first | (simp; done) | (simp; omega) | omega)) | (with_reducible refine bl_drewN ?_) | (with_reducible refine Below.drew ?_) | (with_reducible refine bl_grow ?_ (by first | (simp; done) | (simp; omega) | omega)))⟩
  case round =>
    obtain ⟨k, hk, rfl, hqV⟩ := hrel
    have hzV := hqV.size
    by_cases hlt : k < n
    · have hlt' : (k : Int) < n := by omega
      have hbV := Nat.lt_of_lt_of_le hb hzV
      have c0 := row_int HR.out hqV hlt
      by_cases hkt : k < t
      · have HP : Hid (resB (X k) = true) := HOK.out k hkt
        go_wp2_with (go_at_call 25; refine (spl_fn _ _ _ HP.out).mono ?_; rintro e w1 ⟨rfl, hb1⟩)
        go_roundw
        case rel => exact ⟨k + 1, by omega, by simp, by repeat (first | (with_reducible exact Below.refl _ _) | (with_reducible assumption) | (with_reducible refine Below.setCell ?_ (by first | (simp; done) | (simp; omega) | omega) _) | (with_reducible refine Below.alloc ?_ (by first | (simp; done) | (simp; omega) | omega) _) | (refine bl_call ?_ (by assumption) (by first | (simp; done) | (simp; omega) | omega)) | (with_reducible refine bl_drewN ?_) | (with_reducible refine Below.drew ?_) | (with_reducible refine bl_grow ?_ (by first | (simp; done) | (simp; omega) | omega)))⟩
        case measure => simp [intOf]; omega
      · have HKT : Hid (k = t) := by unfold Hid; omega
        have HP : Hid (resB (X k) = false) := by
          unfold Hid
          rcases HE.out with h | h
          · exfalso; have := HKT.out; omega
          · rw [HKT.out]; exact h.2.1
        have HRK : Hid (r = (k : Int)) := by
          unfold Hid
          rcases HE.out with h | h
          · exfalso; have := HKT.out; omega
          · rw [HKT.out]; exact h.2.2
        go_wp2_with (go_at_call 25; refine (spl_fn _ _ _ HP.out).mono ?_; rintro e w1 ⟨rfl, hb1⟩)
        go_ret
        exact ⟨ret_int HRK.out.symm, by repeat (first | (with_reducible exact Below.refl _ _) | (with_reducible assumption) | (with_reducible refine Below.setCell ?_ (by first | (simp; done) | (simp; omega) | omega) _) | (with_reducible refine Below.alloc ?_ (by first | (simp; done) | (simp; omega) | omega) _) | (refine bl_call ?_ (by assumption) (by first | (simp; done) | (simp; omega) | omega)) | (with_reducible refine bl_drewN ?_) | (with_reducible refine Below.drew ?_) | (with_reducible refine bl_grow ?_ (by first | (simp; done) | (simp; omega) | omega)))⟩
    · have hlt' : ¬ (k : Int) < n := by omega
      have HRK : Hid (r = -1) := by
        unfold Hid
        rcases HE.out with h | h
        · exact h.2
        · omega
      go_wp2_with fail
      go_ret
      exact ⟨ret_int HRK.out.symm, by repeat (first | (with_reducible exact Below.refl _ _) | (with_reducible assumption) | (with_reducible refine Below.setCell ?_ (by first | (simp; done) | (simp; omega) | omega) _) | (with_reducible refine Below.alloc ?_ (by first | (simp; done) | (simp; omega) | omega) _) | (refine bl_call ?_ (by assumption) (by first | (simp; done) | (simp; omega) | omega)) | (with_reducible refine bl_drewN ?_) | (with_reducible refine Below.drew ?_) | (with_reducible refine bl_grow ?_ (by first | (simp; done) | (simp; omega) | omega)))⟩
set_option maxRecDepth 100000 in
set_option maxHeartbeats 4000000 in
theorem idxI_no (b o n d : Nat) (X : Nat → Int) (w : World) (hn : n ≤ 12) (hr : RowI w b o n X) (hok : ∀ i, i < n → resB (X i) = true) : Calls Try.prog 27 #[.slice (some ⟨b, o, none⟩) n d, .func (.func 25) #[] #[]] w fun e w' => e = .returned (.bool false) ∧ Below w.heap.size w w' := by
  have H : Hid (Calls Try.prog 60 #[.slice (some ⟨b, o, none⟩) n d, .func (.func 25) #[] #[]] w fun e w' => e = .returned (.int .i64 (-1)) ∧ Below w.heap.size w w') := idxI b o n d n X (-1) w hn (Nat.le_refl _) hr hok (Or.inl ⟨rfl, rfl⟩)
  clear hr hok
  go_enter Try.func27, Try.ntmps27
  go_wp2_with (go_at_call 60; refine (H.out).mono ?_; rintro e w1 ⟨rfl, hb1⟩)
  go_ret
  exact ⟨rfl, by repeat (first | (with_reducible exact Below.refl _ _) | (with_reducible assumption) | (with_reducible refine Below.setCell ?_ (by first | (simp; done) | (simp; omega) | omega) _) | (with_reducible refine Below.alloc ?_ (by first | (simp; done) | (simp; omega) | omega) _) | (refine bl_call ?_ (by assumption) (by first | (simp; done) | (simp; omega) | omega)) | (with_reducible refine bl_drewN ?_) | (with_reducible refine Below.drew ?_) | (with_reducible refine bl_grow ?_ (by first | (simp; done) | (simp; omega) | omega)))⟩
set_option maxRecDepth 100000 in
set_option maxHeartbeats 4000000 in
theorem idxI_yes (b o n d : Nat) (X : Nat → Int) (w : World) (hn : n ≤ 12) (hr : RowI w b o n X) (hno : ∃ j, j < n ∧ resB (X j) = false) : Calls Try.prog 27 #[.slice (some ⟨b, o, none⟩) n d, .func (.func 25) #[] #[]] w fun e w' => e = .returned (.bool true) ∧ Below w.heap.size w w' := by
  obtain ⟨t, t1, t2, t3⟩ := first_no (fun i => resB (X i)) n
  rcases t3 with rfl | ⟨t3, t4⟩
  · obtain ⟨j, j1, j2⟩ := hno
    rw [t2 j j1] at j2
    cases j2
  have H : Hid (Calls Try.prog 60 #[.slice (some ⟨b, o, none⟩) n d, .func (.func 25) #[] #[]] w fun e w' => e = .returned (.int .i64 (t : Int)) ∧ Below w.heap.size w w') := idxI b o n d t X (t : Int) w hn t1 hr t2 (Or.inr ⟨t3, t4, rfl⟩)
  have h0 : (t : Int) ≥ 0 := by omega
  clear hr hno t1 t2 t3 t4
  go_enter Try.func27, Try.ntmps27
  go_wp2_with (go_at_call 60; refine (H.out).mono ?_; rintro e w1 ⟨rfl, hb1⟩)
  go_ret
  exact ⟨rfl, by repeat (first | (with_reducible exact Below.refl _ _) | (with_reducible assumption) | (with_reducible refine Below.setCell ?_ (by first | (simp; done) | (simp; omega) | omega) _) | (with_reducible refine Below.alloc ?_ (by first | (simp; done) | (simp; omega) | omega) _) | (refine bl_call ?_ (by assumption) (by first | (simp; done) | (simp; omega) | omega)) | (with_reducible refine bl_drewN ?_) | (with_reducible refine Below.drew ?_) | (with_reducible refine bl_grow ?_ (by first | (simp; done) | (simp; omega) | omega)))⟩
set_option maxRecDepth 100000 in
set_option maxHeartbeats 4000000 in
theorem ixI (b o n d t : Nat) (X : Nat → Int) (x r : Int) (w : World) (hn : n ≤ 12) (ht : t ≤ n) (hr : RowI w b o n X) (hok : ∀ i, i < t → X i ≠ x) (he : (t = n ∧ r = -1) ∨ (t < n ∧ X t = x ∧ r = t)) :
    Calls Try.prog 95 #[.slice (some ⟨b, o, none⟩) n d, .int .i64 x] w fun e w' => e = .returned (.int .i64 r) ∧ Below w.heap.size w w' := by
  have HR : Hid (RowI w b o n X) := hr
  have HOK : Hid (∀ i, i < t → X i ≠ x) := hok
  have HE : Hid ((t = n ∧ r = -1) ∨ (t < n ∧ X t = x ∧ r = t)) := he
  have hb := hr.1
  clear hr hok he
  go_enter Try.func95, Try.ntmps95
  go_wp2_with fail
  go_loopw [8] (fun ti wl => ∃ k : Nat, k ≤ t ∧ ti = .int .i64 k ∧ Below w.heap.size w wl) (fun ti _ => n - (intOf ti).toNat)
  case atStart => exact ⟨0, by omega, rfl, by repeat (first | (with_reducible exact Below.refl _ _) | (with_reducible assumption) | (with_reducible refine Below.setCell ?_ (by first | (simp; done) | (simp; omega) | omega) _) | (with_reducible refine Below.alloc ?_ (by first | (simp; done) | (simp; omega) | omega) _) | (refine bl_call ?_ (by assumption) (by first | (simp; done) | (simp; omega) | omega)) | (with_reducible refine bl_drewN ?_) | (with_reducible refine Below.drew ?_) | (with_reducible refine bl_grow ?_ (by first | (simp; done) | (simp; omega) | omega)))⟩
  case round =>
    obtain ⟨k, hk, rfl, hqV⟩ := hrel
    have hzV := hqV.size
    by_cases hlt : k < n
    · have hlt' : (k : Int) < n := by omega
      have hbV := Nat.lt_of_lt_of_le hb hzV
      have c0 := row_int HR.out hqV hlt
      by_cases hkt : k < t
      · have hne : (x == X k) = false := by rw [beq_eq_false_iff_ne]; exact fun h => HOK.out k hkt h.symm
        go_wp2_with fail
        go_roundw
        case rel => exact ⟨k + 1, by omega, by simp, by repeat (first | (with_reducible exact Below.refl _ _) | (with_reducible assumption) | (with_reducible refine Below.setCell ?_ (by first | (simp; done) | (simp; omega) | omega) _) | (with_reducible refine Below.alloc ?_ (by first | (simp; done) | (simp; omega) | omega) _) | (refine bl_call ?_ (by assumption) (by first | (simp; done) | (simp; omega) | omega)) | (with_reducible refine bl_drewN ?_) | (with_reducible refine Below.drew ?_) | (with_reducible refine bl_grow ?_ (by first | (simp; done) | (simp; omega) | omega)))⟩
        case measure => simp [intOf]; omega
      · have HKT : Hid (k = t) := by unfold Hid; omega
        have heq : (x == X k) = true := by
          rcases HE.out with h | h
          · exfalso; have := HKT.out; omega
          · rw [HKT.out, h.2.1]; simp
        have HRK : Hid (r = (k : Int)) := by
          unfold Hid
          rcases HE.out with h | h
          · exfalso; have := HKT.out; omega
          · rw [HKT.out]; exact h.2.2
        go_wp2_with fail
        go_ret
        exact ⟨ret_int HRK.out.symm, by repeat (first | (with_reducible exact Below.refl _ _) | (with_reducible assumption) | (with_reducible refine Below.setCell ?_ (by first | (simp; done) | (simp; omega) | omega) _) | (with_reducible refine Below.alloc ?_ (by first | (simp; done) | (simp; omega) | omega) _) | (refine bl_call ?_ (by assumption) (by first | (simp; done) | (simp; omega) | omega)) | (with_reducible refine bl_drewN ?_) | (with_reducible refine Below.drew ?_) | (with_reducible refine bl_grow ?_ (by first | (simp; done) | (simp; omega) | omega)))⟩
    · have hlt' : ¬ (k : Int) < n := by omega
      have HRK : Hid (r = -1) := by
        unfold Hid
        rcases HE.out with h | h
        · exact h.2
        · omega
      go_wp2_with fail
      go_ret
      exact ⟨ret_int HRK.out.symm, by repeat (first | (with_reducible exact Below.refl _ _) | (with_reducible assumption) | (with_reducible refine Below.setCell ?_ (by first | (simp; done) | (simp; omega) | omega) _) | (with_reducible refine Below.alloc ?_ (by first | (simp; done) | (simp; omega) | omega) _) | (refine bl_call ?_ (by assumption) (by first | (simp; done) | (simp; omega) | omega)) | (with_reducible refine bl_drewN ?_) | (with_reducible refine Below.drew ?_) | (with_reducible refine bl_grow ?_ (by first | (simp; done) | (simp; omega) | omega)))⟩
set_option maxRecDepth 100000 in
set_option maxHeartbeats 4000000 in
theorem hasI (b o n d : Nat) (X : Nat → Int) (x : Int) (t : Bool) (w : World) (hn : n ≤ 12) (hr : RowI w b o n X) (h : (t = false ∧ ∀ i, i < n → X i ≠ x) ∨ (t = true ∧ ∃ j, j < n ∧ X j = x)) : Calls Try.prog 85 #[.slice (some ⟨b, o, none⟩) n d, .int .i64 x] w fun e w' => e = .returned (.bool t) ∧ Below w.heap.size w w' := by
  rcases h with ⟨rfl, h⟩ | ⟨rfl, h⟩
  · have H : Hid (Calls Try.prog 95 #[.slice (some ⟨b, o, none⟩) n d, .int .i64 x] w fun e w' => e = .returned (.int .i64 (-1)) ∧ Below w.heap.size w w') := ixI b o n d n X x (-1) w hn (Nat.le_refl _) hr h (Or.inl ⟨rfl, rfl⟩)
    clear hr h
    go_enter Try.func85, Try.ntmps85
    go_wp2_with (go_at_call 95; refine (H.out).mono ?_; rintro e w1 ⟨rfl, hb1⟩)
    go_ret
    exact ⟨rfl, by repeat (first | (with_reducible exact Below.refl _ _) | (with_reducible assumption) | (with_reducible refine Below.setCell ?_ (by first | (simp; done) | (simp; omega) | omega) _) | (with_reducible refine Below.alloc ?_ (by first | (simp; done) | (simp; omega) | omega) _) | (refine bl_call ?_ (by assumption) (by first | (simp; done) | (simp; omega) | omega)) | (with_reducible refine bl_drewN ?_) | (with_reducible refine Below.drew ?_) | (with_reducible refine bl_grow ?_ (by first | (simp; done) | (simp; omega) | omega)))⟩
  · obtain ⟨t, t1, t2, t3⟩ := first_no (fun i => !(X i == x)) n
    have t2' : ∀ i, i < t → X i ≠ x := fun i hi k => by have := t2 i hi; simp [k] at this
    rcases t3 with rfl | ⟨t3, t4⟩
    · obtain ⟨j, j1, j2⟩ := h
      exact absurd j2 (t2' j j1)
    have H : Hid (Calls Try.prog 95 #[.slice (some ⟨b, o, none⟩) n d, .int .i64 x] w fun e w' => e = .returned (.int .i64 (t : Int)) ∧ Below w.heap.size w w') := ixI b o n d t X x (t : Int) w hn t1 hr t2' (Or.inr ⟨t3, by simpa using t4, rfl⟩)
    have h0 : (t : Int) ≥ 0 := by omega
    clear hr h t1 t2 t2' t3 t4
    go_enter Try.func85, Try.ntmps85
    go_wp2_with (go_at_call 95; refine (H.out).mono ?_; rintro e w1 ⟨rfl, hb1⟩)
    go_ret
    exact ⟨rfl, by repeat (first | (with_reducible exact Below.refl _ _) | (with_reducible assumption) | (with_reducible refine Below.setCell ?_ (by first | (simp; done) | (simp; omega) | omega) _) | (with_reducible refine Below.alloc ?_ (by first | (simp; done) | (simp; omega) | omega) _) | (refine bl_call ?_ (by assumption) (by first | (simp; done) | (simp; omega) | omega)) | (with_reducible refine bl_drewN ?_) | (with_reducible refine Below.drew ?_) | (with_reducible refine bl_grow ?_ (by first | (simp; done) | (simp; omega) | omega)))⟩
set_option maxRecDepth 100000 in
set_option maxHeartbeats 4000000 in
theorem cpl_many (sa : Option Addr) (n d : Nat) (w : World) (h : 12 < n) (hn : n ≤ 9223372036854775807) : Calls Try.prog 71 #[.slice sa n d] w fun e w' => e = .returned (errOf 4) ∧ Below w.heap.size w w' := by
  have h' : (n : Int) > 12 := by omega
  go_enter Try.func71, Try.ntmps71
  go_wp2_with fail
  go_ret
  exact ⟨rfl, by repeat (first | (with_reducible exact Below.refl _ _) | (with_reducible assumption) | (with_reducible refine Below.setCell ?_ (by first | (simp; done) | (simp; omega) | omega) _) | (with_reducible refine Below.alloc ?_ (by first | (simp; done) | (simp; omega) | omega) _) | (refine bl_call ?_ (by assumption) (by first | (simp; done) | (simp; omega) | omega)) | (with_reducible refine bl_drewN ?_) | (with_reducible refine Below.drew ?_) | (with_reducible refine bl_grow ?_ (by first | (simp; done) | (simp; omega) | omega)))⟩
set_option maxRecDepth 100000 in
set_option maxHeartbeats 4000000 in
theorem cpl_nil (sa : Option Addr) (d : Nat) (w : World) : Calls Try.prog 71 #[.slice sa 0 d] w fun e w' => e = .returned (errOf 5) ∧ Below w.heap.size w w' := by
  go_enter Try.func71, Try.ntmps71
  go_wp2_with fail
  go_ret
  exact ⟨rfl, by repeat (first | (with_reducible exact Below.refl _ _) | (with_reducible assumption) | (with_reducible refine Below.setCell ?_ (by first | (simp; done) | (simp; omega) | omega) _) | (with_reducible refine Below.alloc ?_ (by first | (simp; done) | (simp; omega) | omega) _) | (refine bl_call ?_ (by assumption) (by first | (simp; done) | (simp; omega) | omega)) | (with_reducible refine bl_drewN ?_) | (with_reducible refine Below.drew ?_) | (with_reducible refine bl_grow ?_ (by first | (simp; done) | (simp; omega) | omega)))⟩
theorem ret_val {a b : Value} (h : a = b) : Ending.returned a = .returned b := by rw [h]
set_option maxRecDepth 100000 in
set_option maxHeartbeats 4000000 in
theorem cpl_row (b o n d : Nat) (X : Nat → Int) (v : Value) (w : World) (hn : n ≤ 12) (h0 : 0 < n) (hd : n ≤ d) (hr : RowI w b o n X) (hv : (plE secB X n = 0 ∧ v = .nilIface) ∨ ((plE secB X n == 0) = false ∧ v = errOf (plE secB X n))) :
    Calls Try.prog 71 #[.slice (some ⟨b, o, none⟩) n d] w fun e w' => e = .returned (v) ∧ Below w.heap.size w w' := by
  have HR : Hid (RowI w b o n X) := hr
  have HV : Hid ((plE secB X n = 0 ∧ v = .nilIface) ∨ ((plE secB X n == 0) = false ∧ v = errOf (plE secB X n))) := hv
  have hb := hr.1
  have h1' : ¬ (n : Int) > 12 := by omega
  have h2' : ((n : Int) == 0) = false := by rw [beq_eq_false_iff_ne]; omega
  clear hr hv
  go_enter Try.func71, Try.ntmps71
  go_wp2_with fail
  go_loopw [15] (fun ti wl => ∃ k : Nat, k ≤ n ∧ ti = .int .i64 k ∧ Hid (plE secB X k = 0) ∧ Below w.heap.size w wl) (fun ti _ => n - (intOf ti).toNat)
  case atStart => exact ⟨0, by omega, rfl, rfl, by repeat (first | (with_reducible exact Below.refl _ _) | (with_reducible assumption) | (with_reducible refine Below.setCell ?_ (by first | (simp; done) | (simp; omega) | omega) _) | (with_reducible refine Below.alloc ?_ (by first | (simp; done) | (simp; omega) | omega) _) | (refine bl_call ?_ (by assumption) (by first | (simp; done) | (simp; omega) | omega)) | (with_reducible refine bl_drewN ?_) | (with_reducible refine Below.drew ?_) | (with_reducible refine bl_grow ?_ (by first | (simp; done) | (simp; omega) | omega)))⟩
  case round =>
    obtain ⟨k, hk, rfl, HP, hqV⟩ := hrel
    have hzV := hqV.size
    by_cases hlt : k < n
    · have hlt' : (k : Int) < n := by omega
      have hbV := Nat.lt_of_lt_of_le hb hzV
      have c0 := row_int HR.out hqV hlt
      have HEV : ∀ c : Int, (c == 0) = false → plE secB X (k + 1) = c → v = errOf c := fun c hc h => by
        have e : plE secB X n = c := by rw [pl_stay (k := k + 1) (by rw [h]; exact hc) n (by omega), h]
        rcases HV.out with h | h
        · rw [e] at h; rw [h.1] at hc; cases hc
        · rw [h.2, e]
      have HNO : secB (X k) = false → v = errOf 1 := fun h => HEV 1 rfl (by show (bif plE secB X k == 0 then (bif secB (X k) then _ else 1) else _) = 1; rw [HP.out, h]; rfl)
      by_cases s1 : X k < 1
      · have HQ : Hid (v = errOf 1) := HNO (decide_eq_false fun h => by omega)
        clear HEV HNO
        go_wp2_with fail
        go_ret
        exact ⟨ret_val HQ.out.symm, by repeat (first | (with_reducible exact Below.refl _ _) | (with_reducible assumption) | (with_reducible refine Below.setCell ?_ (by first | (simp; done) | (simp; omega) | omega) _) | (with_reducible refine Below.alloc ?_ (by first | (simp; done) | (simp; omega) | omega) _) | (refine bl_call ?_ (by assumption) (by first | (simp; done) | (simp; omega) | omega)) | (with_reducible refine bl_drewN ?_) | (with_reducible refine Below.drew ?_) | (with_reducible refine bl_grow ?_ (by first | (simp; done) | (simp; omega) | omega)))⟩
      by_cases s2 : X k ≥ 1013
      · have HQ : Hid (v = errOf 1) := HNO (decide_eq_false fun h => by omega)
        clear HEV HNO
        go_wp2_with fail
        go_ret
        exact ⟨ret_val HQ.out.symm, by repeat (first | (with_reducible exact Below.refl _ _) | (with_reducible assumption) | (with_reducible refine Below.setCell ?_ (by first | (simp; done) | (simp; omega) | omega) _) | (with_reducible refine Below.alloc ?_ (by first | (simp; done) | (simp; omega) | omega) _) | (refine bl_call ?_ (by assumption) (by first | (simp; done) | (simp; omega) | omega)) | (with_reducible refine bl_drewN ?_) | (with_reducible refine Below.drew ?_) | (with_reducible refine bl_grow ?_ (by first | (simp; done) | (simp; omega) | omega)))⟩
      have HS : secB (X k) = true := decide_eq_true ⟨by omega, by omega⟩
      have hkd : k ≤ d := by omega
      have hkd' : ¬ (d : Int) < (k : Int) := by omega
      by_cases hcl : ∃ j, j < k ∧ X j = X k
      · have HQ : Hid (v = errOf 7) := HEV 7 rfl (by
          obtain ⟨j, j1, j2⟩ := hcl
          show (bif plE secB X k == 0 then (bif secB (X k) then (bif clsB X k then _ else _) else 1) else _) = 7; rw [HP.out, HS, cls_yes j1 j2]; rfl)
        have HC : Hid (∀ W, Below w.heap.size w W → Calls Try.prog 85 #[.slice (some ⟨b, o, none⟩) k d, .int .i64 (X k)] W fun e w' => e = .returned (.bool true) ∧ Below W.heap.size W w') := fun W hW => hasI b o k d X (X k) true W (by omega) ⟨(HR.out.below hb hW).1, fun i hi => (HR.out.below hb hW).2 i (by omega)⟩ (Or.inr ⟨rfl, hcl⟩)
        clear HEV HNO HS hcl
        go_wp2_with (go_at_call 85; refine (HC.out _ (by repeat (first | (with_reducible exact Below.refl _ _) | (with_reducible assumption) | (with_reducible refine Below.setCell ?_ (by first | (simp; done) | (simp; omega) | omega) _) | (with_reducible refine Below.alloc ?_ (by first | (simp; done) | (simp; omega) | omega) _) | (refine bl_call ?_ (by assumption) (by first | (simp; done) | (simp; omega) | omega)) | (with_reducible refine bl_drewN ?_) | (with_reducible refine Below.drew ?_) | (with_reducible refine bl_grow ?_ (by first | (simp; done) | (simp; omega) | omega))))).mono ?_; rintro e w1 ⟨rfl, hb1⟩)
        go_ret
        exact ⟨ret_val HQ.out.symm, by repeat (first | (with_reducible exact Below.refl _ _) | (with_reducible assumption) | (with_reducible refine Below.setCell ?_ (by first | (simp; done) | (simp; omega) | omega) _) | (with_reducible refine Below.alloc ?_ (by first | (simp; done) | (simp; omega) | omega) _) | (refine bl_call ?_ (by assumption) (by first | (simp; done) | (simp; omega) | omega)) | (with_reducible refine bl_drewN ?_) | (with_reducible refine Below.drew ?_) | (with_reducible refine bl_grow ?_ (by first | (simp; done) | (simp; omega) | omega)))⟩
      · have hcl' : ∀ j, j < k → X j ≠ X k := fun j hj h => hcl ⟨j, hj, h⟩
        have HQ : Hid (plE secB X (k + 1) = 0) := by
          unfold Hid
          show (bif plE secB X k == 0 then (bif secB (X k) then (bif clsB X k then _ else _) else 1) else _) = 0
          rw [HP.out, HS, cls_no hcl']; rfl
        have HC : Hid (∀ W, Below w.heap.size w W → Calls Try.prog 85 #[.slice (some ⟨b, o, none⟩) k d, .int .i64 (X k)] W fun e w' => e = .returned (.bool false) ∧ Below W.heap.size W w') := fun W hW => hasI b o k d X (X k) false W (by omega) ⟨(HR.out.below hb hW).1, fun i hi => (HR.out.below hb hW).2 i (by omega)⟩ (Or.inl ⟨rfl, hcl'⟩)
        clear HEV HNO HS hcl hcl'
        go_wp2_with (go_at_call 85; refine (HC.out _ (by repeat (first | (with_reducible exact Below.refl _ _) | (with_reducible assumption) | (with_reducible refine Below.setCell ?_ (by first | (simp; done) | (simp; omega) | omega) _) | (with_reducible refine Below.alloc ?_ (by first | (simp; done) | (simp; omega) | omega) _) | (refine bl_call ?_ (by assumption) (by first | (simp; done) | (simp; omega) | omega)) | (with_reducible refine bl_drewN ?_) | (with_reducible refine Below.drew ?_) | (with_reducible refine bl_grow ?_ (by first | (simp; done) | (simp; omega) | omega))))).mono ?_; rintro e w1 ⟨rfl, hb1⟩)
        go_roundw
        case rel => exact ⟨k + 1, by omega, by simp, HQ, by repeat (first | (with_reducible exact Below.refl _ _) | (with_reducible assumption) | (with_reducible refine Below.setCell ?_ (by first | (simp; done) | (simp; omega) | omega) _) | (with_reducible refine Below.alloc ?_ (by first | (simp; done) | (simp; omega) | omega) _) | (refine bl_call ?_ (by assumption) (by first | (simp; done) | (simp; omega) | omega)) | (with_reducible refine bl_drewN ?_) | (with_reducible refine Below.drew ?_) | (with_reducible refine bl_grow ?_ (by first | (simp; done) | (simp; omega) | omega)))⟩
        case measure => simp [intOf]; omega
    · have hlt' : ¬ (k : Int) < n := by omega
      have HQ : Hid (v = .nilIface) := by
        unfold Hid
        have hkn : k = n := by omega
        have := HP.out
        rw [hkn] at this
        rcases HV.out with h | h
        · exact h.2
        · rw [this] at h; cases h.1
      go_wp2_with fail
      go_ret
      exact ⟨ret_val HQ.out.symm, by repeat (first | (with_reducible exact Below.refl _ _) | (with_reducible assumption) | (with_reducible refine Below.setCell ?_ (by first | (simp; done) | (simp; omega) | omega) _) | (with_reducible refine Below.alloc ?_ (by first | (simp; done) | (simp; omega) | omega) _) | (refine bl_call ?_ (by assumption) (by first | (simp; done) | (simp; omega) | omega)) | (with_reducible refine bl_drewN ?_) | (with_reducible refine Below.drew ?_) | (with_reducible refine bl_grow ?_ (by first | (simp; done) | (simp; omega) | omega)))⟩
theorem pwq_val (a : QF) : ∀ n, (pwq a n).val = qpw a.val n
  | 0 => rfl
  | n + 1 => by
    show (pwq a n * a).val = _
    rw [Fin.val_mul, pwq_val a n]
    unfold qpw
    rw [Nat.pow_succ, Nat.mod_mul_mod]
theorem pwq_iv (a : QF) : pwq a 1011 = ivq a := by
  apply Fin.ext
  rw [pwq_val]
  unfold ivq
  exact (Nat.mod_eq_of_lt (qpw_lt _ _)).symm
set_option maxRecDepth 100000 in
set_option maxHeartbeats 4000000 in
theorem inv_q (q : QF) (w : World) : Calls Try.prog 86 #[.int .i64 (vI q)] w fun e w' => e = .returned (.int .i64 (vI (ivq q))) ∧ Below w.heap.size w w' := by
  have HI : Hid (∀ k : Nat, k = 1011 → vI (pwq q k) = vI (ivq q)) := fun k h => by rw [h, pwq_iv]
  have q0 := vI_lo q
  have q1 := vI_hi q
  go_enter Try.func86, Try.ntmps86
  go_wp2_with fail
  go_loopw [3, 4] (fun tp ti wl => ∃ k : Nat, k ≤ 1011 ∧ ti = .int .i64 k ∧ tp = .int .i64 (vI (pwq q k)) ∧ Below w.heap.size w wl) (fun _ ti _ => 1011 - (intOf ti).toNat)
  case atStart => exact ⟨0, by omega, rfl, rfl, by repeat (first | (with_reducible exact Below.refl _ _) | (with_reducible assumption) | (with_reducible refine Below.setCell ?_ (by first | (simp; done) | (simp; omega) | omega) _) | (with_reducible refine Below.alloc ?_ (by first | (simp; done) | (simp; omega) | omega) _) | (refine bl_call ?_ (by assumption) (by first | (simp; done) | (simp; omega) | omega)) | (with_reducible refine bl_drewN ?_) | (with_reducible refine Below.drew ?_) | (with_reducible refine bl_grow ?_ (by first | (simp; done) | (simp; omega) | omega)))⟩
  case round =>
    obtain ⟨k, hk, rfl, rfl, hqV⟩ := hrel
    by_cases hlt : k < 1011
    · have hlt' : (k : Int) < 1011 := by omega
      obtain ⟨p, hp⟩ : ∃ p, pwq q k = p := ⟨_, rfl⟩
      have E : Hid ((vI p * vI q) % 1013 = vI (pwq q (k + 1))) := by
        unfold Hid
        show _ = vI (pwq q k * q)
        rw [vI_mulv, hp]
      rw [hp]
      clear hp
      obtain ⟨r0, r1⟩ := vI_bd p q0 q1
      go_wp2_with fail
      go_roundw
      case rel => exact ⟨k + 1, by omega, by simp, by rw [← E.out], by repeat (first | (with_reducible exact Below.refl _ _) | (with_reducible assumption) | (with_reducible refine Below.setCell ?_ (by first | (simp; done) | (simp; omega) | omega) _) | (with_reducible refine Below.alloc ?_ (by first | (simp; done) | (simp; omega) | omega) _) | (refine bl_call ?_ (by assumption) (by first | (simp; done) | (simp; omega) | omega)) | (with_reducible refine bl_drewN ?_) | (with_reducible refine Below.drew ?_) | (with_reducible refine bl_grow ?_ (by first | (simp; done) | (simp; omega) | omega)))⟩
      case measure => simp [intOf]; omega
    · have hlt' : ¬ (k : Int) < 1011 := by omega
      go_wp2_with fail
      go_ret
      exact ⟨ret_int (HI.out k (by omega)), by repeat (first | (with_reducible exact Below.refl _ _) | (with_reducible assumption) | (with_reducible refine Below.setCell ?_ (by first | (simp; done) | (simp; omega) | omega) _) | (with_reducible refine Below.alloc ?_ (by first | (simp; done) | (simp; omega) | omega) _) | (refine bl_call ?_ (by assumption) (by first | (simp; done) | (simp; omega) | omega)) | (with_reducible refine bl_drewN ?_) | (with_reducible refine Below.drew ?_) | (with_reducible refine bl_grow ?_ (by first | (simp; done) | (simp; omega) | omega)))⟩
theorem vI_bd2 (a : QF) {n : Int} (h0 : 0 ≤ n) (h1 : n < 2026) : 0 ≤ vI a * n ∧ vI a * n ≤ 2100000 := by
  have h2 := vI_lo a
  have h3 := vI_hi a
  have h4 : vI a * n ≤ 1013 * 2026 := Int.mul_le_mul (by omega) (by omega) h0 (by omega)
  exact ⟨Int.mul_nonneg h2 h0, by omega⟩
set_option maxRecDepth 100000 in
set_option maxHeartbeats 4000000 in
theorem weight_at (b o n d i : Nat) (X : Nat → Int) (w : World) (hn : n ≤ 12) (hi : i < n) (hr : RowI w b o n X) (hx : ∀ i, i < n → 1 ≤ X i ∧ X i < 1013) (hd : Dist (xq X) n) :
    Calls Try.prog 72 #[.slice (some ⟨b, o, none⟩) n d, .int .i64 (X i)] w fun e w' => e = .returned (.int .i64 (vI (wtq (xq X) n i))) ∧ Below w.heap.size w w' := by
  have HR : Hid (RowI w b o n X) := hr
  have HX : Hid (∀ i, i < n → 1 ≤ X i ∧ X i < 1013) := hx
  have HD : Hid (Dist (xq X) n) := hd
  have hb := hr.1
  obtain ⟨z0, z1⟩ := hx i hi
  clear hr hx hd
  go_enter Try.func72, Try.ntmps72
  go_wp2_with fail
  go_loopw [5, 6, 11] (fun tu td tk wl => ∃ k : Nat, k ≤ n ∧ tk = .int .i64 k ∧ tu = .int .i64 (vI (upq (xq X) k i)) ∧ td = .int .i64 (vI (pr (xq X) k i)) ∧ Below w.heap.size w wl) (fun _ _ tk _ => n - (intOf tk).toNat)
  case atStart => exact ⟨0, by omega, rfl, rfl, rfl, by repeat (first | (with_reducible exact Below.refl _ _) | (with_reducible assumption) | (with_reducible refine Below.setCell ?_ (by first | (simp; done) | (simp; omega) | omega) _) | (with_reducible refine Below.alloc ?_ (by first | (simp; done) | (simp; omega) | omega) _) | (refine bl_call ?_ (by assumption) (by first | (simp; done) | (simp; omega) | omega)) | (with_reducible refine bl_drewN ?_) | (with_reducible refine Below.drew ?_) | (with_reducible refine bl_grow ?_ (by first | (simp; done) | (simp; omega) | omega)))⟩
  case round =>
    obtain ⟨k, hk, rfl, rfl, rfl, hqV⟩ := hrel
    have hzV := hqV.size
    have hbV := Nat.lt_of_lt_of_le hb hzV
    obtain ⟨p, hp⟩ : ∃ p, upq (xq X) k i = p := ⟨_, rfl⟩
    obtain ⟨q, hq⟩ : ∃ q, pr (xq X) k i = q := ⟨_, rfl⟩
    have HP : Hid (upq (xq X) k i = p) := hp
    have HQ : Hid (pr (xq X) k i = q) := hq
    rw [hp, hq]
    clear hp hq
    have p0 := vI_lo p
    have p1 := vI_hi p
    have q0 := vI_lo q
    have q1 := vI_hi q
    by_cases hlk : k < n
    · have hlk' : (k : Int) < n := by omega
      have c0 := row_int HR.out hqV hlk
      obtain ⟨x0, x1⟩ := HX.out k hlk
      by_cases hki : k = i
      · have hne : (X k != X i) = false := by rw [hki]; simp
        have HKI : Hid (k = i) := hki
        clear hki
        go_wp2_with fail
        go_roundw
        case rel => exact ⟨k + 1, by omega, by simp, (by rw [← HP.out, HKI.out, up_skip]), (by rw [← HQ.out, HKI.out, pr_skip]), by repeat (first | (with_reducible exact Below.refl _ _) | (with_reducible assumption) | (with_reducible refine Below.setCell ?_ (by first | (simp; done) | (simp; omega) | omega) _) | (with_reducible refine Below.alloc ?_ (by first | (simp; done) | (simp; omega) | omega) _) | (refine bl_call ?_ (by assumption) (by first | (simp; done) | (simp; omega) | omega)) | (with_reducible refine bl_drewN ?_) | (with_reducible refine Below.drew ?_) | (with_reducible refine bl_grow ?_ (by first | (simp; done) | (simp; omega) | omega)))⟩
        case measure => simp [intOf]; omega
      · have hne : (X k != X i) = true := by
          rw [bne_iff_ne]
          intro h
          exact hki (HD.out k i hlk hi (by unfold xq; rw [h]))
        have HKI : Hid (k ≠ i) := hki
        clear hki
        have E1 : Hid ((vI p * X k) % 1013 = vI (upq (xq X) (k + 1) i)) := by unfold Hid; rw [up_more _ HKI.out, vI_mul, HP.out]; rfl
        have E2 : Hid ((vI q * (X k - X i + 1013)) % 1013 = vI (pr (xq X) (k + 1) i)) := by
          unfold Hid
          rw [pr_more _ HKI.out, vI_mul, HQ.out, show zq (X k - X i + 1013) = zq (X k - X i) from zq_eq (by omega), zq_sub]; rfl
        obtain ⟨b1, b2⟩ := vI_bd p (n := X k) (by omega) x1
        obtain ⟨b3, b4⟩ := vI_bd2 q (n := X k - X i + 1013) (by omega) (by omega)
        go_wp2_with fail
        go_roundw
        case rel => exact ⟨k + 1, by omega, by simp, (by rw [← E1.out]), (by rw [← E2.out]), by repeat (first | (with_reducible exact Below.refl _ _) | (with_reducible assumption) | (with_reducible refine Below.setCell ?_ (by first | (simp; done) | (simp; omega) | omega) _) | (with_reducible refine Below.alloc ?_ (by first | (simp; done) | (simp; omega) | omega) _) | (refine bl_call ?_ (by assumption) (by first | (simp; done) | (simp; omega) | omega)) | (with_reducible refine bl_drewN ?_) | (with_reducible refine Below.drew ?_) | (with_reducible refine bl_grow ?_ (by first | (simp; done) | (simp; omega) | omega)))⟩
        case measure => simp [intOf]; omega
    · have hlk' : ¬ (k : Int) < n := by omega
      have EW : Hid ((vI p * vI (ivq q)) % 1013 = vI (wtq (xq X) n i)) := by
        unfold Hid wtq
        have hkn : k = n := by omega
        rw [vI_mulv, ← hkn, HP.out, HQ.out]
      obtain ⟨b1, b2⟩ := vI_bd p (vI_lo (ivq q)) (vI_hi (ivq q))
      go_wp2_with (go_at_call 86; refine (inv_q _ _).mono ?_; rintro e w1 ⟨rfl, hb1⟩)
      go_ret
      exact ⟨ret_int EW.out, by repeat (first | (with_reducible exact Below.refl _ _) | (with_reducible assumption) | (with_reducible refine Below.setCell ?_ (by first | (simp; done) | (simp; omega) | omega) _) | (with_reducible refine Below.alloc ?_ (by first | (simp; done) | (simp; omega) | omega) _) | (refine bl_call ?_ (by assumption) (by first | (simp; done) | (simp; omega) | omega)) | (with_reducible refine bl_drewN ?_) | (with_reducible refine Below.drew ?_) | (with_reducible refine bl_grow ?_ (by first | (simp; done) | (simp; omega) | omega)))⟩
theorem int_at {w : World} {s : Nat} (x : Value) (t : TypeId) (h : w.heap.size = s) : ∀ j u, [x][j]? = some u → (w.alloc (.cells #[x] t)).cell? ((⟨s, 0, none⟩ : Addr).add j) = some u := by subst h; exact cell_one_new w x t
theorem two_at {w : World} {s : Nat} (x y : Value) (t : TypeId) (h : w.heap.size = s) : ∀ j u, [x, y][j]? = some u → (w.alloc (.cells #[x, y] t)).cell? ((⟨s, 0, none⟩ : Addr).add j) = some u := by
  subst h
  intro j u hj
  rw [addr_add]
  match j, hj with
  | 0, hj => simp at hj; subst hj; simp
  | 1, hj => simp at hj; subst hj; simp
end Go.Proofs.Ytmijjjdedadklag
/- ShareVal -/
namespace Go.Proofs.Ytmijjjdedadklag
open Go.RowKit Go.Shelf
set_option linter.unusedVariables false
set_option linter.unusedSimpArgs false
attribute [local go_sem] Oper.semAt_some
/-- From the last coefficient to the first: what has been reckoned behind so many. -/
def hoL (x : QF) : List (Nat × QF) → QF := List.foldl (fun s p => s * x + p.2) 0
theorem hoL_snoc (x : QF) (l : List (Nat × QF)) (p : Nat × QF) : hoL x (l ++ [p]) = hoL x l * x + p.2 := by unfold hoL; rw [List.foldl_append]; rfl
/-- What comes of so many, from the last on. -/
def upB (K : Nat → QF) (m k : Nat) : List (Nat × QF) := (List.range k).map fun j => (m - 1 - j, K (m - 1 - j))
theorem upB_succ (K : Nat → QF) (m k : Nat) : upB K m (k + 1) = upB K m k ++ [(m - 1 - k, K (m - 1 - k))] := by simp [upB, List.range_succ]
theorem upB_length (K : Nat → QF) (m k : Nat) : (upB K m k).length = k := by simp [upB]
theorem ho_part (K : Nat → QF) (x : QF) (m : Nat) : ∀ k j, k + j = m → vlq K x m = vlq K x j + pwq x j * hoL x (upB K m k)
  | 0, j, h => by
    obtain rfl : j = m := by omega
    show _ = vlq K x j + pwq x j * 0
    grind
  | k + 1, j, h => by
    rw [ho_part K x m k (j + 1) (by omega), upB_succ, hoL_snoc, show m - 1 - k = j by omega]
    show vlq K x j + K j * pwq x j + pwq x j * x * hoL x (upB K m k) = _
    grind
theorem ho_all (K : Nat → QF) (x : QF) (m : Nat) : hoL x (upB K m m) = vlq K x m := by
  have := ho_part K x m m 0 (by omega)
  rw [this]
  show _ = 0 + 1 * _
  grind
theorem cell_other {W : World} {a b : Addr} {u v : Value} (h : W.cell? b = some v) (hne : a ≠ b) : (W.setCell a u).cell? b = some v := by
  rw [World.cell?_setCell_other _ _ _ _ hne]; exact h
/-- What a round keeps: what lay below, and the box of what is gone over. -/
def KpB (n₀ Bs : Nat) (W W' : World) : Prop := Below n₀ W W' ∧ ∀ v, W.cell? ⟨Bs, 0, none⟩ = some v → W'.cell? ⟨Bs, 0, none⟩ = some v
theorem KpB.t {n₀ Bs : Nat} {A B C : World} (h : KpB n₀ Bs A B) (k : KpB n₀ Bs B C) : KpB n₀ Bs A C := ⟨h.1.trans k.1, fun v hv => k.2 v (h.2 v hv)⟩
theorem KpB.b {n₀ Bs : Nat} {w : World} (hn : n₀ ≤ w.heap.size) (W : World) (l : Nat) (o o' : Obj) (hl : w.heap.size ≤ l) (h : W.heap[l]? = some o) (h1 : o.isCells = false) (h2 : o.isWalk = false) : KpB n₀ Bs W (W.putObj l o') :=
  ⟨belowK_b hn W l o o' hl h h1 h2, fun v hv => cell_kept hv (grownBy_putObj' W l o') (fun r e => by cases e; exact ⟨_, h, h1⟩)⟩
set_option maxRecDepth 100000 in
set_option maxHeartbeats 2000000 in
theorem back1_in (F : Fence) (n : Nat) (hf : F.fn 83) (hro : F.round = none) (hn : 1 ≤ n) (l Bs n₀ b o m d : Nat) (K : Nat → QF) (hm : m ≤ 12) (hb : b < n₀) (J Jx : List (Nat × QF) → World → Prop)
    (hY : ∀ pre x W, J pre W → pre.length < m → YieldAt F (n - 1) Try.prog l #[.int .i64 (x.1 : Int), .int .i64 (vI x.2)] W fun e W' =>
      (e = .returned (.bool true) ∧ J (pre ++ [x]) W' ∧ KpB n₀ Bs W W') ∨ (e = .returned (.bool false) ∧ Jx (pre ++ [x]) W'))
    (W : World) (hBs : W.cell? ⟨Bs, 0, none⟩ = some (.slice (some ⟨b, o, none⟩) m d)) (hc : ∀ j, j < m → W.cell? ⟨b, o + j, none⟩ = some (.int .i64 (vI (K j)))) (h0 : J [] W) :
    CallsIn F n Try.prog 83 #[.func (.yield l) #[] #[], .pointer (some ⟨Bs, 0, none⟩)] W fun e W' => (∃ v, e = .returned v) ∧
      ((∃ ys, ys = upB K m m ∧ J ys W') ∨ (∃ pre, (∃ k, k ≤ m ∧ pre = upB K m k) ∧ Jx pre W')) := by
  refine callsIn_of_wp Try.func83 rfl hf ?_ hro
  simp only [Try.ntmps83, List.size_toArray, List.length_cons, List.length_nil, Nat.reduceAdd, Nat.reduceSub, Array.replicate_succ, Array.replicate_zero, List.push_toArray, List.append_toArray, List.nil_append, List.cons_append]
  gi_wp2
  gi_loopw [3] (fun i wr => ∃ j k : Nat, k + j = m ∧ i = .int .i64 ((j : Int) - 1) ∧ J (upB K m k) wr ∧ wr.cell? ⟨Bs, 0, none⟩ = some (.slice (some ⟨b, o, none⟩) m d) ∧ Below n₀ W wr)
    (fun i _ => (intOf i + 1).toNat)
  case atStart => exact ⟨m, 0, by omega, rfl, h0, hBs, Below.refl _ _⟩
  case round =>
    obtain ⟨j, k, hk, rfl, hJs, hBx, hnx⟩ := hrel
    cases j with
    | zero =>
      obtain rfl : k = m := by omega
      have e : ((0 : Nat) : Int) - 1 = -1 := rfl
      rw [e]
      gi_wp2
      go_end0
      exact ⟨⟨_, rfl⟩, .inl ⟨_, rfl, hJs⟩⟩
    | succ j =>
      have e : ((j + 1 : Nat) : Int) - 1 = (j : Int) := by omega
      rw [e]
      have hj : j < m := by omega
      have hj0 : (j : Int) ≥ 0 := by omega
      have hcx : wr.cell? ⟨b, o + j, none⟩ = some (.int .i64 (vI (K j))) := (hnx.cell (p := ⟨b, o + j, none⟩) hb).trans (hc j hj)
      have HU : upB K m (k + 1) = upB K m k ++ [(j, K j)] := by rw [upB_succ, show m - 1 - k = j by omega]
      obtain ⟨fn, tmps, assign, body, hy, hR⟩ := hY _ (j, K j) wr hJs (by rw [upB_length]; omega)
      dsimp only at hy
      gi_wp2
      refine hR.mono ?_
      rintro e W3 (⟨rfl, hJ3, hk3⟩ | ⟨rfl, hJx3⟩)
      · have hBx3 := hk3.2 _ hBx
        gi_wp2
        go_roundw
        case rel => exact ⟨j, k + 1, by omega, rfl, by rw [HU]; exact hJ3, hBx3, hnx.trans hk3.1⟩
        case measure => simp [intOf]
      · gi_wp2
        refine bodyPost_ret (results_none rfl _ _ _) rfl ?_
        exact ⟨⟨_, rfl⟩, .inr ⟨_, ⟨k + 1, by omega, HU.symm⟩, hJx3⟩⟩
set_option maxHeartbeats 1000000 in
theorem back_in (F : Fence) (n : Nat) (hf : F.fn 61) (hro : F.round = none) (a : Option Addr) (len cap : Nat) (w : World) :
    CallsIn F n Try.prog 61 #[.slice a len cap] w fun e w' => e = .returned (.func (.func 83) #[] #[.pointer (some ⟨w.heap.size, 0, none⟩)]) ∧ w' = w.alloc (.cells #[.slice a len cap] 22) := by
  refine callsIn_of_wp Try.func61 rfl hf ?_ hro
  simp only [Try.ntmps61, List.size_toArray, List.length_cons, List.length_nil, Nat.reduceAdd, Nat.reduceSub, Array.replicate_succ, Array.replicate_zero, List.push_toArray, List.append_toArray, List.nil_append, List.cons_append]
  gi_wp2
  go_ret
  exact ⟨rfl, rfl⟩
theorem back_stops (F : Fence) (n : Nat) (hf : F.fn 83) (hro : F.round = none) (hn : 1 ≤ n) (Bs n₀ b o m d : Nat) (K : Nat → QF) (hm : m ≤ 12) (hb : b < n₀) (w : World) (hBs : Bs < w.heap.size) (hn₀ : n₀ ≤ w.heap.size)
    (hc : w.cell? ⟨Bs, 0, none⟩ = some (.slice (some ⟨b, o, none⟩) m d)) (hI : ∀ j, j < m → w.cell? ⟨b, o + j, none⟩ = some (.int .i64 (vI (K j)))) :
    SeqStopsK F n Try.prog 83 #[.pointer (some ⟨Bs, 0, none⟩)] (fun x : Nat × QF => #[Value.int .i64 (x.1 : Int), Value.int .i64 (vI x.2)]) (KpB n₀ Bs) (fun ys => ys = upB K m m)
      (fun pre => ∃ k, k ≤ m ∧ pre = upB K m k) m w := fun l J Jx W hW _ _ hY h0 =>
  back1_in F n hf hro hn l Bs n₀ b o m d K hm hb J Jx hY W ((hW.cell (p := ⟨Bs, 0, none⟩) hBs).trans hc) (fun j hj => (hW.cell (p := ⟨b, o + j, none⟩) (Nat.lt_of_lt_of_le hb hn₀)).trans (hI j hj)) h0
set_option maxRecDepth 100000 in
set_option maxHeartbeats 2000000 in
theorem value_in (F : Fence) (n : Nat) (h3 : F.fn 28) (h5 : F.fn 61) (h7 : F.fn 83) (hro : F.round = none) (hn : 3 ≤ n) (b o m d : Nat) (K : Nat → QF) (x : Int) (hm : m ≤ 12) (x0 : 0 ≤ x) (x1 : x < 1013) (w : World) (hr : RowI w b o m (fun i => vI (K i))) :
    CallsIn F n Try.prog 28 #[.slice (some ⟨b, o, none⟩) m d, .int .i64 x] w fun e W' => e = .returned (.int .i64 (vI (vlq K (zq x) m))) ∧ Below w.heap.size w W' := by
  have h1 : 1 ≤ n := by omega
  have HR : Hid (RowI w b o m (fun i => vI (K i))) := hr
  clear hr
  refine callsIn_of_wp_marks Try.func28 rfl h3 ?_ hro
  simp only [Try.ntmps28, List.size_toArray, List.length_cons, List.length_nil, Nat.reduceAdd, Nat.reduceSub, Array.replicate_succ, Array.replicate_zero, List.push_toArray, List.append_toArray, List.nil_append, List.cons_append]
  gi_wp2_with (gi_at_call 61; refine (back_in F (n - 1) h5 hro _ _ _ _).mono ?_; rintro e w' ⟨rfl, rfl⟩)
  have bX := Boxed.new w 3 (.int .i64 x)
  have bS := Boxed.new (w.alloc (.cells #[.int .i64 x] 3)) 3 (.int .i64 0)
  have bN := Boxed.new ((w.alloc (.cells #[.int .i64 x] 3)).alloc (.cells #[.int .i64 0] 3)) 22 (.slice (some ⟨b, o, none⟩) m d)
  rw [World.size_alloc] at bS
  rw [World.size_alloc, World.size_alloc] at bN
  have hB0 : Below w.heap.size w (((w.alloc (.cells #[.int .i64 x] 3)).alloc (.cells #[.int .i64 0] 3)).alloc (.cells #[.slice (some ⟨b, o, none⟩) m d] 22)) := (((Below.refl _ w).alloc (Nat.le_refl _) _).alloc (by simp) _).alloc (by simp; omega) _
  refine wpIn_rangeFunc_ownG hro h1 (gf := 83) (lb := #[.pointer (some ⟨w.heap.size + 1 + 1, 0, none⟩)]) rfl h7 (enters_of Try.func83 (by kernel_rfl) rfl)
    (back_stops F (n - 1) h7 hro (by omega) (w.heap.size + 1 + 1) w.heap.size b o m d K hm HR.out.1 _ (by simp) (by simp; omega) bN.cell (fun j hj => (hB0.cell (p := ⟨b, o + j, none⟩) HR.out.1).trans (HR.out.2 j hj))) KpB.t (KpB.b (by simp; omega)) (Below.refl _ _) (fun _ => rfl)
    (fun pre W => (W.cell? ⟨w.heap.size + 1, 0, none⟩ = some (.int .i64 (vI (hoL (zq x) pre))) ∧ W.frozen? ⟨w.heap.size + 1, 0, none⟩ = false ∧ W.cell? ⟨w.heap.size, 0, none⟩ = some (.int .i64 x)) ∧ Below w.heap.size w W)
    (fun _ _ _ => False)
    (OwnFrom.and (Own.from (fun s A B row hs hg hr => ⟨cell_kept hs.1 hg hr, (frozen_kept hs.1 hg hr).trans hs.2.1, cell_kept hs.2.2 hg hr⟩) _) (ownFrom_below (Nat.le_refl _) (by simp; omega)))
    (fun _ _ _ _ _ hs _ _ => hs)
    ⟨⟨(bS.alloc _).cell, (bS.alloc _).frozen, ((bX.alloc _).alloc _).cell⟩, hB0⟩
    (fun y => { tmps := #[.slice (some ⟨b, o, none⟩) m d, .int .i64 x, undef, .pointer (some ⟨w.heap.size, 0, none⟩), .int .i64 0, .pointer (some ⟨w.heap.size + 1, 0, none⟩), undef, .int .i64 (vI y.2), .slice (some ⟨b, o, none⟩) m d, .func (.func 83) #[] #[.pointer (some ⟨w.heap.size + 1 + 1, 0, none⟩)], .int .i64 (y.1 : Int), .int .i64 (vI y.2), undef, undef, undef, undef, undef, undef, undef], defers := [] }) ?assign ?body ?done ?stop
  case assign =>
    intro l x W K hK
    gi_wp2
    exact hK
  case body =>
    rintro l pre y W ⟨⟨hc, hf, hx⟩, hB⟩ _
    obtain ⟨s, hs⟩ : ∃ s, hoL (zq x) pre = s := ⟨_, rfl⟩
    have E : Hid ((vI s * x + vI y.2) % 1013 = vI (hoL (zq x) (pre ++ [y]))) := by
      unfold Hid
      rw [hoL_snoc, hs, ← vI_zq, zq_add, zq_mul, zq_vI, zq_vI]
    rw [hs] at hc
    clear hs
    obtain ⟨p0, p1⟩ := vI_bd s x0 x1
    have y0 := vI_lo y.2
    have y1 := vI_hi y.2
    gi_wp2
    exact ⟨(KeepsOthers.setCell _ _ _).from _, ⟨(Below.refl w.heap.size W).setCell (p := ⟨w.heap.size + 1, 0, none⟩) (Nat.le_succ _) _, fun v hv => cell_other hv (by intro e; injection e with e; omega)⟩, ⟨by rw [← E.out]; exact World.cell?_setCell_same' _ _ _ (by rw [hc]; rfl), by rw [World.frozen?_setCell]; exact hf, cell_other hx (by intro e; injection e with e; omega)⟩, hB.setCell (p := ⟨w.heap.size + 1, 0, none⟩) (Nat.le_succ _) _⟩
  case done =>
    rintro D ys W hD rfl ⟨⟨hc, _, _⟩, hB⟩ hK
    rw [ho_all] at hc
    gi_wp2
    refine ⟨by simp, .inl ⟨_, _, rfl, run_takeDeferred hK, ?_⟩⟩
    exact ⟨_, results_tmp rfl _ _ _, rfl, hB.trans (belowK_b (w := w) (Nat.le_refl _) W D _ _ (by simp at hD; omega) hK rfl rfl)⟩
  case stop =>
    rintro D c pre W _ _ h _
    exact h.elim
theorem value_at (b o m d : Nat) (K : Nat → QF) (x : Int) (hm : m ≤ 12) (x0 : 0 ≤ x) (x1 : x < 1013) (w : World) (hr : RowI w b o m (fun i => vI (K i))) :
    Calls Try.prog 28 #[.slice (some ⟨b, o, none⟩) m d, .int .i64 x] w fun e w' => e = .returned (.int .i64 (vI (vlq K (zq x) m))) ∧ Below w.heap.size w w' :=
  (callsIn_wide (n := 3)).1 (value_in Fence.wide 3 trivial trivial trivial rfl (Nat.le_refl _) b o m d K x hm x0 x1 w hr)
end Go.Proofs.Ytmijjjdedadklag
/- Share -/
namespace Go.Proofs.Ytmijjjdedadklag
open Go.RowKit Go.Sort
set_option linter.unusedVariables false
set_option linter.unusedSimpArgs false
theorem hinfoS : (Try.prog.info? 36).map (fun i => (i.zero, i.size, i.bytes)) = some (some (.agg #[.int .i64 0, .int .i64 0]), 2, 16) := by kernel_rfl
set_option maxRecDepth 100000 in
set_option maxHeartbeats 4000000 in
theorem wts_err (sx : Option Addr) (p d : Nat) (c : Int) (w : World) (hp : p ≤ 9223372036854775807) (h : Calls Try.prog 71 #[.slice sx p d] w fun e w' => e = .returned (errOf c) ∧ Below w.heap.size w w') : Calls Try.prog 36 #[.slice sx p d] w fun e w' => e = .returned (.tuple #[.slice none 0 0, errOf c]) ∧ Below w.heap.size w w' := by
  have H : Hid (Calls Try.prog 71 #[.slice sx p d] w fun e w' => e = .returned (errOf c) ∧ Below w.heap.size w w') := h
  clear h
  go_enter Try.func36, Try.ntmps36
  go_wp2_with (go_at_call 71; refine (H.out).mono ?_; rintro e w1 ⟨rfl, hbw1⟩; have hqw1 : Below w.heap.size w w1 := (by repeat (first | (with_reducible exact Below.refl _ _) | (with_reducible assumption) | (with_reducible refine Below.setCell ?_ (by first | (simp; done) | (simp; omega) | omega) _) | (with_reducible refine Below.alloc ?_ (by first | (simp; done) | (simp; omega) | omega) _) | (refine bl_call ?_ (by assumption) (by first | (simp; done) | (simp; omega) | omega)) | (with_reducible refine bl_drewN ?_) | (with_reducible refine Below.drew ?_) | (with_reducible refine bl_grow ?_ (by first | (simp; done) | (simp; omega) | omega)))); have hzw1 := hqw1.size; clear hbw1)
  exact bodyPost_ret (v := .tuple #[.slice none 0 0, errOf c]) (by simp [results, Try.results36, go_sem, *]) rfl ⟨rfl, by repeat (first | (with_reducible exact Below.refl _ _) | (with_reducible assumption) | (with_reducible refine Below.setCell ?_ (by first | (simp; done) | (simp; omega) | omega) _) | (with_reducible refine Below.alloc ?_ (by first | (simp; done) | (simp; omega) | omega) _) | (refine bl_call ?_ (by assumption) (by first | (simp; done) | (simp; omega) | omega)) | (with_reducible refine bl_drewN ?_) | (with_reducible refine Below.drew ?_) | (with_reducible refine bl_grow ?_ (by first | (simp; done) | (simp; omega) | omega)))⟩
set_option maxRecDepth 100000 in
set_option maxHeartbeats 4000000 in
theorem wts_ok (b o p d : Nat) (X : Nat → Int) (w : World) (h0 : 0 < p) (h12 : p ≤ 12) (hd : p ≤ d) (hr : RowI w b o p X) (hpl : plE secB X p = 0) : Calls Try.prog 36 #[.slice (some ⟨b, o, none⟩) p d] w fun ex w' => ∃ u, ex = .returned (.tuple #[u, .nilIface]) ∧ w'.ownsRow w.heap.size 3 1 u p (cellsI (fun i => vI (wtq (xq X) p i)) p) ∧ Below w.heap.size w w' := by
  have HC : Hid (Calls Try.prog 71 #[.slice (some ⟨b, o, none⟩) p d] w fun e w' => e = .returned (.nilIface) ∧ Below w.heap.size w w') := cpl_row b o p d X .nilIface w h12 h0 hd hr (Or.inl ⟨hpl, rfl⟩)
  have HX : ∀ i, i < p → 1 ≤ X i ∧ X i < 1013 := fun i hi => sec_bd (pl_good hpl i hi).1
  have HD : Dist (xq X) p := pl_dist (fun m h => sec_bd h) hpl
  have HR : Hid (RowI w b o p X) := hr
  have HW : Hid (∀ W i, Below w.heap.size w W → i < p → Calls Try.prog 72 #[.slice (some ⟨b, o, none⟩) p d, .int .i64 (X i)] W fun e w' => e = .returned (.int .i64 (vI (wtq (xq X) p i))) ∧ Below W.heap.size W w') := fun W i hW hi => weight_at b o p d i X W h12 hi (hr.below hr.1 hW) HX HD
  have hb := hr.1
  clear hr hpl HX HD
  obtain ⟨i0, hi, hv0, hv1, hv2⟩ := info_parts iinfo
  go_enter Try.func36, Try.ntmps36
  go_wp2_with (first | (go_at_call 71; refine (HC.out).mono ?_; rintro e w1 ⟨rfl, hbw1⟩; have hqw1 : Below w.heap.size w w1 := (by repeat (first | (with_reducible exact Below.refl _ _) | (with_reducible assumption) | (with_reducible refine Below.setCell ?_ (by first | (simp; done) | (simp; omega) | omega) _) | (with_reducible refine Below.alloc ?_ (by first | (simp; done) | (simp; omega) | omega) _) | (refine bl_call ?_ (by assumption) (by first | (simp; done) | (simp; omega) | omega)) | (with_reducible refine bl_drewN ?_) | (with_reducible refine Below.drew ?_) | (with_reducible refine bl_grow ?_ (by first | (simp; done) | (simp; omega) | omega)))); have hzw1 := hqw1.size; clear hbw1) | (at_make; refine wpList_make_own _ rfl _ _ 22 rfl w.heap.size 3 i0 (.int .i64 0) 1 Try.underlying22 hi hv0 hv1 _ _ _ p rfl rfl rfl ?b2 ?b3 ?b4 ?_))
  case b2 => rw [hv2]; omega
  case b3 => unfold maxLen; omega
  case b4 => omega
  intro w2 hown0 hgrow
  have hq2 : Below w.heap.size w w2 := (by assumption : Below w.heap.size w _).grown hgrow (by omega) (fun k hk => by cases hk)
  clear hgrow
  go_wp2_with fail
  go_loopw [5, 18] (fun tv ti wl => ∃ i : Nat, i ≤ p ∧ ti = .int .i64 i ∧ wl.ownsRow w.heap.size 3 1 tv i (cellsI (fun i => vI (wtq (xq X) p i)) i) ∧ Below w.heap.size w wl) (fun _ ti _ => p - (intOf ti).toNat)
  case atStart => exact ⟨0, by omega, rfl, hown0, by repeat (first | (with_reducible exact Below.refl _ _) | (with_reducible assumption) | (with_reducible refine Below.setCell ?_ (by first | (simp; done) | (simp; omega) | omega) _) | (with_reducible refine Below.alloc ?_ (by first | (simp; done) | (simp; omega) | omega) _) | (refine bl_call ?_ (by assumption) (by first | (simp; done) | (simp; omega) | omega)) | (with_reducible refine bl_drewN ?_) | (with_reducible refine Below.drew ?_) | (with_reducible refine bl_grow ?_ (by first | (simp; done) | (simp; omega) | omega)))⟩
  case round =>
    clear hown0
    obtain ⟨i, hin, rfl, hown, hqV⟩ := hrel
    rename World => wV
    have hzV := hqV.size
    by_cases hlt : i < p
    · have hlt' : (i : Int) < p := by omega
      have hbV := Nat.lt_of_lt_of_le hb hzV
      have c0 := row_int HR.out hqV hlt
      have HWi : Hid (Calls Try.prog 72 #[.slice (some ⟨b, o, none⟩) p d, .int .i64 (X i)] wV fun e w' => e = .returned (.int .i64 (vI (wtq (xq X) p i))) ∧ Below wV.heap.size wV w') := HW.out wV i hqV hlt
      go_wp2_with (first | (go_at_call 72; refine HWi.out.mono ?_; rintro e w5 ⟨rfl, hb5⟩; have hq5 : Below w.heap.size w w5 := (by repeat (first | (with_reducible exact Below.refl _ _) | (with_reducible assumption) | (with_reducible refine Below.setCell ?_ (by first | (simp; done) | (simp; omega) | omega) _) | (with_reducible refine Below.alloc ?_ (by first | (simp; done) | (simp; omega) | omega) _) | (refine bl_call ?_ (by assumption) (by first | (simp; done) | (simp; omega) | omega)) | (with_reducible refine bl_drewN ?_) | (with_reducible refine Below.drew ?_) | (with_reducible refine bl_grow ?_ (by first | (simp; done) | (simp; omega) | omega)))); have hz5 := hq5.size; have hown5 := own_stay hown hb5) | (at_builtin; refine wpList_append_own_at _ rfl _ _ 22 rfl w.heap.size 3 i0 (.int .i64 0) 1 8 Try.underlying22 hi hv0 hv1 hv2 rfl (by decide) _ _ _ rfl (own_stay hown5 (by repeat (first | (with_reducible exact Below.refl _ _) | (with_reducible assumption) | (with_reducible refine Below.setCell ?_ (by first | (simp; done) | (simp; omega) | omega) _) | (with_reducible refine Below.alloc ?_ (by first | (simp; done) | (simp; omega) | omega) _) | (refine bl_call ?_ (by assumption) (by first | (simp; done) | (simp; omega) | omega)) | (with_reducible refine bl_drewN ?_) | (with_reducible refine Below.drew ?_) | (with_reducible refine bl_grow ?_ (by first | (simp; done) | (simp; omega) | omega))))) ⟨_, 0, none⟩ 1 1 [.int .i64 (vI (wtq (xq X) p i))] rfl rfl ?c1 ?c2 ?c3 ?c4 ?c5 ?_))
      case c1 => exact int_at _ _ (by simp)
      case c2 => intro u hu; simp at hu; subst hu; rfl
      case c3 => unfold maxLen; omega
      case c4 => omega
      case c5 => simp; omega
      · intro v' w13 hown' hgrow _ hat
        have hq13 : Below w.heap.size w w13 := grown_under (B := w.heap.size) (by repeat (first | (with_reducible exact Below.refl _ _) | (with_reducible assumption) | (with_reducible refine Below.setCell ?_ (by first | (simp; done) | (simp; omega) | omega) _) | (with_reducible refine Below.alloc ?_ (by first | (simp; done) | (simp; omega) | omega) _) | (refine bl_call ?_ (by assumption) (by first | (simp; done) | (simp; omega) | omega)) | (with_reducible refine bl_drewN ?_) | (with_reducible refine Below.drew ?_) | (with_reducible refine bl_grow ?_ (by first | (simp; done) | (simp; omega) | omega)))) (own_stay (by assumption) (by repeat (first | (with_reducible exact Below.refl _ _) | (with_reducible assumption) | (with_reducible refine Below.setCell ?_ (by first | (simp; done) | (simp; omega) | omega) _) | (with_reducible refine Below.alloc ?_ (by first | (simp; done) | (simp; omega) | omega) _) | (refine bl_call ?_ (by assumption) (by first | (simp; done) | (simp; omega) | omega)) | (with_reducible refine bl_drewN ?_) | (with_reducible refine Below.drew ?_) | (with_reducible refine bl_grow ?_ (by first | (simp; done) | (simp; omega) | omega))))) hgrow (by simp; omega) (Nat.le_refl _)
        rw [← cellsI_succ (fun i => vI (wtq (xq X) p i))] at hown'
        clear hgrow hat hown
        go_wp2_with fail
        go_roundw
        case rel => exact ⟨i + 1, by omega, by simp, hown', hq13⟩
        case measure => simp [intOf]; omega
    · have hlt' : ¬ (i : Int) < p := by omega
      obtain rfl : i = p := by omega
      go_wp2_with fail
      go_ret2
      exact ⟨_, rfl, hown, by repeat (first | (with_reducible exact Below.refl _ _) | (with_reducible assumption) | (with_reducible refine Below.setCell ?_ (by first | (simp; done) | (simp; omega) | omega) _) | (with_reducible refine Below.alloc ?_ (by first | (simp; done) | (simp; omega) | omega) _) | (refine bl_call ?_ (by assumption) (by first | (simp; done) | (simp; omega) | omega)) | (with_reducible refine bl_drewN ?_) | (with_reducible refine Below.drew ?_) | (with_reducible refine bl_grow ?_ (by first | (simp; done) | (simp; omega) | omega)))⟩
theorem weights_is : WeightsIs :=
  ⟨fun sx p d w h1 h2 => wts_err sx p d 4 w h2 (cpl_many sx p d w h1 h2), fun sx d w => wts_err sx 0 d 5 w (by omega) (cpl_nil sx d w),
   fun b o p d X w h0 h12 hd hr _ hne => wts_err _ p d _ w (by omega) (cpl_row b o p d X _ w h12 h0 hd hr (Or.inr ⟨hne, rfl⟩)),
   fun b o p d X w h0 h12 hd hr hpl => wts_ok b o p d X w h0 h12 hd hr hpl⟩
set_option maxRecDepth 100000 in
set_option maxHeartbeats 4000000 in
theorem split_many (sc : Option Addr) (m d : Nat) (z : Int) (w : World) (h : 12 < m) (hm : m ≤ 9223372036854775807) : Calls Try.prog 8 #[.slice sc m d, .int .i64 z] w fun e w' => e = .returned (.tuple #[.slice none 0 0, errOf 4]) ∧ Below w.heap.size w w' := by
  have h' : (m : Int) > 12 := by omega
  go_enter Try.func8, Try.ntmps8
  go_wp2_with fail
  exact bodyPost_ret (v := .tuple #[.slice none 0 0, errOf 4]) (by simp [results, Try.results8, go_sem, *]) rfl ⟨rfl, by repeat (first | (with_reducible exact Below.refl _ _) | (with_reducible assumption) | (with_reducible refine Below.setCell ?_ (by first | (simp; done) | (simp; omega) | omega) _) | (with_reducible refine Below.alloc ?_ (by first | (simp; done) | (simp; omega) | omega) _) | (refine bl_call ?_ (by assumption) (by first | (simp; done) | (simp; omega) | omega)) | (with_reducible refine bl_drewN ?_) | (with_reducible refine Below.drew ?_) | (with_reducible refine bl_grow ?_ (by first | (simp; done) | (simp; omega) | omega)))⟩
set_option maxRecDepth 100000 in
set_option maxHeartbeats 4000000 in
theorem split_nil (sc : Option Addr) (d : Nat) (z : Int) (w : World) : Calls Try.prog 8 #[.slice sc 0 d, .int .i64 z] w fun e w' => e = .returned (.tuple #[.slice none 0 0, errOf 1]) ∧ Below w.heap.size w w' := by
  go_enter Try.func8, Try.ntmps8
  go_wp2_with fail
  exact bodyPost_ret (v := .tuple #[.slice none 0 0, errOf 1]) (by simp [results, Try.results8, go_sem, *]) rfl ⟨rfl, by repeat (first | (with_reducible exact Below.refl _ _) | (with_reducible assumption) | (with_reducible refine Below.setCell ?_ (by first | (simp; done) | (simp; omega) | omega) _) | (with_reducible refine Below.alloc ?_ (by first | (simp; done) | (simp; omega) | omega) _) | (refine bl_call ?_ (by assumption) (by first | (simp; done) | (simp; omega) | omega)) | (with_reducible refine bl_drewN ?_) | (with_reducible refine Below.drew ?_) | (with_reducible refine bl_grow ?_ (by first | (simp; done) | (simp; omega) | omega)))⟩
set_option maxRecDepth 100000 in
set_option maxHeartbeats 4000000 in
theorem split_bad (sc : Option Addr) (m d : Nat) (z : Int) (t : Bool) (w : World) (h0 : 0 < m) (h : ¬ 12 < m) (hc : Calls Try.prog 27 #[.slice sc m d, .func (.func 25) #[] #[]] w fun e w' => e = .returned (.bool t) ∧ Below w.heap.size w w') (ht : t = true ∨ z < 1 ∨ 12 < z) : Calls Try.prog 8 #[.slice sc m d, .int .i64 z] w fun e w' => e = .returned (.tuple #[.slice none 0 0, errOf 1]) ∧ Below w.heap.size w w' := by
  have HC : Hid (Calls Try.prog 27 #[.slice sc m d, .func (.func 25) #[] #[]] w fun e w' => e = .returned (.bool t) ∧ Below w.heap.size w w') := hc
  have h' : ¬ (m : Int) > 12 := by omega
  have h2 : ((m : Int) == 0) = false := by rw [beq_eq_false_iff_ne]; omega
  clear hc
  cases t with
  | true =>
    clear ht
    go_enter Try.func8, Try.ntmps8
    go_wp2_with (go_at_call 27; refine (HC.out).mono ?_; rintro e w1 ⟨rfl, hbw1⟩; have hqw1 : Below w.heap.size w w1 := (by repeat (first | (with_reducible exact Below.refl _ _) | (with_reducible assumption) | (with_reducible refine Below.setCell ?_ (by first | (simp; done) | (simp; omega) | omega) _) | (with_reducible refine Below.alloc ?_ (by first | (simp; done) | (simp; omega) | omega) _) | (refine bl_call ?_ (by assumption) (by first | (simp; done) | (simp; omega) | omega)) | (with_reducible refine bl_drewN ?_) | (with_reducible refine Below.drew ?_) | (with_reducible refine bl_grow ?_ (by first | (simp; done) | (simp; omega) | omega)))); have hzw1 := hqw1.size; clear hbw1)
    exact bodyPost_ret (v := .tuple #[.slice none 0 0, errOf 1]) (by simp [results, Try.results8, go_sem, *]) rfl ⟨rfl, by repeat (first | (with_reducible exact Below.refl _ _) | (with_reducible assumption) | (with_reducible refine Below.setCell ?_ (by first | (simp; done) | (simp; omega) | omega) _) | (with_reducible refine Below.alloc ?_ (by first | (simp; done) | (simp; omega) | omega) _) | (refine bl_call ?_ (by assumption) (by first | (simp; done) | (simp; omega) | omega)) | (with_reducible refine bl_drewN ?_) | (with_reducible refine Below.drew ?_) | (with_reducible refine bl_grow ?_ (by first | (simp; done) | (simp; omega) | omega)))⟩
  | false =>
    by_cases z1 : z < 1
    · clear ht
      go_enter Try.func8, Try.ntmps8
      go_wp2_with (go_at_call 27; refine (HC.out).mono ?_; rintro e w1 ⟨rfl, hbw1⟩; have hqw1 : Below w.heap.size w w1 := (by repeat (first | (with_reducible exact Below.refl _ _) | (with_reducible assumption) | (with_reducible refine Below.setCell ?_ (by first | (simp; done) | (simp; omega) | omega) _) | (with_reducible refine Below.alloc ?_ (by first | (simp; done) | (simp; omega) | omega) _) | (refine bl_call ?_ (by assumption) (by first | (simp; done) | (simp; omega) | omega)) | (with_reducible refine bl_drewN ?_) | (with_reducible refine Below.drew ?_) | (with_reducible refine bl_grow ?_ (by first | (simp; done) | (simp; omega) | omega)))); have hzw1 := hqw1.size; clear hbw1)
      exact bodyPost_ret (v := .tuple #[.slice none 0 0, errOf 1]) (by simp [results, Try.results8, go_sem, *]) rfl ⟨rfl, by repeat (first | (with_reducible exact Below.refl _ _) | (with_reducible assumption) | (with_reducible refine Below.setCell ?_ (by first | (simp; done) | (simp; omega) | omega) _) | (with_reducible refine Below.alloc ?_ (by first | (simp; done) | (simp; omega) | omega) _) | (refine bl_call ?_ (by assumption) (by first | (simp; done) | (simp; omega) | omega)) | (with_reducible refine bl_drewN ?_) | (with_reducible refine Below.drew ?_) | (with_reducible refine bl_grow ?_ (by first | (simp; done) | (simp; omega) | omega)))⟩
    · have z2 : z > 12 := by
        rcases ht with ht | ht | ht
        · cases ht
        · omega
        · omega
      clear ht
      go_enter Try.func8, Try.ntmps8
      go_wp2_with (go_at_call 27; refine (HC.out).mono ?_; rintro e w1 ⟨rfl, hbw1⟩; have hqw1 : Below w.heap.size w w1 := (by repeat (first | (with_reducible exact Below.refl _ _) | (with_reducible assumption) | (with_reducible refine Below.setCell ?_ (by first | (simp; done) | (simp; omega) | omega) _) | (with_reducible refine Below.alloc ?_ (by first | (simp; done) | (simp; omega) | omega) _) | (refine bl_call ?_ (by assumption) (by first | (simp; done) | (simp; omega) | omega)) | (with_reducible refine bl_drewN ?_) | (with_reducible refine Below.drew ?_) | (with_reducible refine bl_grow ?_ (by first | (simp; done) | (simp; omega) | omega)))); have hzw1 := hqw1.size; clear hbw1)
      exact bodyPost_ret (v := .tuple #[.slice none 0 0, errOf 1]) (by simp [results, Try.results8, go_sem, *]) rfl ⟨rfl, by repeat (first | (with_reducible exact Below.refl _ _) | (with_reducible assumption) | (with_reducible refine Below.setCell ?_ (by first | (simp; done) | (simp; omega) | omega) _) | (with_reducible refine Below.alloc ?_ (by first | (simp; done) | (simp; omega) | omega) _) | (refine bl_call ?_ (by assumption) (by first | (simp; done) | (simp; omega) | omega)) | (with_reducible refine bl_drewN ?_) | (with_reducible refine Below.drew ?_) | (with_reducible refine bl_grow ?_ (by first | (simp; done) | (simp; omega) | omega)))⟩
set_option maxRecDepth 100000 in
set_option maxHeartbeats 4000000 in
theorem split_ok (b o m d : Nat) (C : Nat → Int) (n : Nat) (w : World) (h0 : 1 ≤ m) (h12 : m ≤ 12) (hr : RowI w b o m C) (hok : ∀ i, i < m → resB (C i) = true) (n1 : 1 ≤ n) (n2 : n ≤ 12) :
    Calls Try.prog 8 #[.slice (some ⟨b, o, none⟩) m d, .int .i64 (n : Int)] w fun ex w' => ∃ u, ex = .returned (.tuple #[u, .nilIface]) ∧ w'.ownsRow w.heap.size 36 2 u n (cellsP (fun i : Nat => (i : Int) + 1) (fun i => vI (vlq (xq C) (zq ((i : Int) + 1)) m)) n) ∧ Below w.heap.size w w' := by
  have HC : Hid (Calls Try.prog 27 #[.slice (some ⟨b, o, none⟩) m d, .func (.func 25) #[] #[]] w fun e w' => e = .returned (.bool false) ∧ Below w.heap.size w w') := idxI_no b o m d C w h12 hr hok
  have hr' : RowI w b o m (fun i => vI (xq C i)) := ⟨hr.1, fun i hi => by
    have e : vI (xq C i) = C i := by
      have := res_bd (hok i hi)
      show vI (zq (C i)) = C i
      rw [vI_zq]; omega
    show _ = some (Value.int .i64 (vI (xq C i)))
    rw [e]; exact hr.2 i hi⟩
  have HV : Hid (∀ W k, Below w.heap.size w W → k < n → Calls Try.prog 28 #[.slice (some ⟨b, o, none⟩) m d, .int .i64 ((k : Int) + 1)] W fun e w' => e = .returned (.int .i64 (vI (vlq (xq C) (zq ((k : Int) + 1)) m))) ∧ Below W.heap.size W w') :=
    fun W k hW hk => value_at b o m d (xq C) ((k : Int) + 1) h12 (by omega) (by omega) W (hr'.below hr'.1 hW)
  have hb := hr.1
  have h' : ¬ (m : Int) > 12 := by omega
  have h2 : ((m : Int) == 0) = false := by rw [beq_eq_false_iff_ne]; omega
  have z1 : ¬ (n : Int) < 1 := by omega
  have z2 : ¬ (n : Int) > 12 := by omega
  clear hr hr' hok
  obtain ⟨i0, hi, hv0, hv1, hv2⟩ := info_parts hinfoS
  go_enter Try.func8, Try.ntmps8
  go_wp2_with (first | (go_at_call 27; refine (HC.out).mono ?_; rintro e w1 ⟨rfl, hbw1⟩; have hqw1 : Below w.heap.size w w1 := (by repeat (first | (with_reducible exact Below.refl _ _) | (with_reducible assumption) | (with_reducible refine Below.setCell ?_ (by first | (simp; done) | (simp; omega) | omega) _) | (with_reducible refine Below.alloc ?_ (by first | (simp; done) | (simp; omega) | omega) _) | (refine bl_call ?_ (by assumption) (by first | (simp; done) | (simp; omega) | omega)) | (with_reducible refine bl_drewN ?_) | (with_reducible refine Below.drew ?_) | (with_reducible refine bl_grow ?_ (by first | (simp; done) | (simp; omega) | omega)))); have hzw1 := hqw1.size; clear hbw1) | (at_make; refine wpList_make_own _ rfl _ _ 24 rfl w.heap.size 36 i0 (.agg #[.int .i64 0, .int .i64 0]) 2 Try.underlying24 hi hv0 hv1 _ _ _ n rfl rfl rfl ?b2 ?b3 ?b4 ?_))
  case b2 => rw [hv2]; omega
  case b3 => unfold maxLen; omega
  case b4 => omega
  intro w2 hown0 hgrow
  have hq2 : Below w.heap.size w w2 := (by assumption : Below w.heap.size w _).grown hgrow (by omega) (fun k hk => by cases hk)
  clear hgrow
  go_wp2_with fail
  go_loopw [7, 8] (fun tv ti wl => ∃ i : Nat, i ≤ n ∧ ti = .int .i64 ((i : Int) + 1) ∧ wl.ownsRow w.heap.size 36 2 tv i (cellsP (fun i : Nat => (i : Int) + 1) (fun i => vI (vlq (xq C) (zq ((i : Int) + 1)) m)) i) ∧ Below w.heap.size w wl) (fun _ ti _ => n + 1 - (intOf ti).toNat)
  case atStart => exact ⟨0, by omega, rfl, hown0, by repeat (first | (with_reducible exact Below.refl _ _) | (with_reducible assumption) | (with_reducible refine Below.setCell ?_ (by first | (simp; done) | (simp; omega) | omega) _) | (with_reducible refine Below.alloc ?_ (by first | (simp; done) | (simp; omega) | omega) _) | (refine bl_call ?_ (by assumption) (by first | (simp; done) | (simp; omega) | omega)) | (with_reducible refine bl_drewN ?_) | (with_reducible refine Below.drew ?_) | (with_reducible refine bl_grow ?_ (by first | (simp; done) | (simp; omega) | omega)))⟩
  case round =>
    clear hown0
    obtain ⟨i, hin, rfl, hown, hqV⟩ := hrel
    rename World => wV
    have hzV := hqV.size
    by_cases hlt : i < n
    · have hlt' : (i : Int) + 1 ≤ n := by omega
      have HVi : Hid (Calls Try.prog 28 #[.slice (some ⟨b, o, none⟩) m d, .int .i64 ((i : Int) + 1)] wV fun e w' => e = .returned (.int .i64 (vI (vlq (xq C) (zq ((i : Int) + 1)) m))) ∧ Below wV.heap.size wV w') := HV.out wV i hqV hlt
      go_wp2_with (first | (go_at_call 28; refine HVi.out.mono ?_; rintro e w5 ⟨rfl, hb5⟩; have hq5 : Below w.heap.size w w5 := (by repeat (first | (with_reducible exact Below.refl _ _) | (with_reducible assumption) | (with_reducible refine Below.setCell ?_ (by first | (simp; done) | (simp; omega) | omega) _) | (with_reducible refine Below.alloc ?_ (by first | (simp; done) | (simp; omega) | omega) _) | (refine bl_call ?_ (by assumption) (by first | (simp; done) | (simp; omega) | omega)) | (with_reducible refine bl_drewN ?_) | (with_reducible refine Below.drew ?_) | (with_reducible refine bl_grow ?_ (by first | (simp; done) | (simp; omega) | omega)))); have hz5 := hq5.size; have hown5 := own_stay hown hb5) | (at_builtin; refine wpList_append_own_at _ rfl _ _ 24 rfl w.heap.size 36 i0 (.agg #[.int .i64 0, .int .i64 0]) 2 16 Try.underlying24 hi hv0 hv1 hv2 rfl (by decide) _ _ _ rfl (own_stay hown5 (by repeat (first | (with_reducible exact Below.refl _ _) | (with_reducible assumption) | (with_reducible refine Below.setCell ?_ (by first | (simp; done) | (simp; omega) | omega) _) | (with_reducible refine Below.alloc ?_ (by first | (simp; done) | (simp; omega) | omega) _) | (refine bl_call ?_ (by assumption) (by first | (simp; done) | (simp; omega) | omega)) | (with_reducible refine bl_drewN ?_) | (with_reducible refine Below.drew ?_) | (with_reducible refine bl_grow ?_ (by first | (simp; done) | (simp; omega) | omega))))) ⟨_, 0, none⟩ 1 1 [.int .i64 ((i : Int) + 1), .int .i64 (vI (vlq (xq C) (zq ((i : Int) + 1)) m))] rfl rfl ?c1 ?c2 ?c3 ?c4 ?c5 ?_))
      case c1 => exact two_at _ _ _ (by simp)
      case c2 => intro u hu; simp at hu; rcases hu with rfl | rfl <;> rfl
      case c3 => unfold maxLen; omega
      case c4 => omega
      case c5 => simp; omega
      · intro v' w13 hown' hgrow _ hat
        have hq13 : Below w.heap.size w w13 := grown_under (B := w.heap.size) (by repeat (first | (with_reducible exact Below.refl _ _) | (with_reducible assumption) | (with_reducible refine Below.setCell ?_ (by first | (simp; done) | (simp; omega) | omega) _) | (with_reducible refine Below.alloc ?_ (by first | (simp; done) | (simp; omega) | omega) _) | (refine bl_call ?_ (by assumption) (by first | (simp; done) | (simp; omega) | omega)) | (with_reducible refine bl_drewN ?_) | (with_reducible refine Below.drew ?_) | (with_reducible refine bl_grow ?_ (by first | (simp; done) | (simp; omega) | omega)))) (own_stay (by assumption) (by repeat (first | (with_reducible exact Below.refl _ _) | (with_reducible assumption) | (with_reducible refine Below.setCell ?_ (by first | (simp; done) | (simp; omega) | omega) _) | (with_reducible refine Below.alloc ?_ (by first | (simp; done) | (simp; omega) | omega) _) | (refine bl_call ?_ (by assumption) (by first | (simp; done) | (simp; omega) | omega)) | (with_reducible refine bl_drewN ?_) | (with_reducible refine Below.drew ?_) | (with_reducible refine bl_grow ?_ (by first | (simp; done) | (simp; omega) | omega))))) hgrow (by simp; omega) (Nat.le_refl _)
        rw [← cellsP_succ (fun i : Nat => (i : Int) + 1) (fun i => vI (vlq (xq C) (zq ((i : Int) + 1)) m))] at hown'
        clear hgrow hat hown
        go_wp2_with fail
        go_roundw
        case rel => exact ⟨i + 1, by omega, by simp, hown', hq13⟩
        case measure => simp [intOf]; omega
    · have hlt' : ¬ (i : Int) + 1 ≤ n := by omega
      obtain rfl : i = n := by omega
      go_wp2_with fail
      go_ret2
      exact ⟨_, rfl, hown, by repeat (first | (with_reducible exact Below.refl _ _) | (with_reducible assumption) | (with_reducible refine Below.setCell ?_ (by first | (simp; done) | (simp; omega) | omega) _) | (with_reducible refine Below.alloc ?_ (by first | (simp; done) | (simp; omega) | omega) _) | (refine bl_call ?_ (by assumption) (by first | (simp; done) | (simp; omega) | omega)) | (with_reducible refine bl_drewN ?_) | (with_reducible refine Below.drew ?_) | (with_reducible refine bl_grow ?_ (by first | (simp; done) | (simp; omega) | omega)))⟩
theorem split_is : SplitIs :=
  ⟨fun sc m d z w h hm => split_many sc m d z w h hm,
   fun sc m d C z w h hr hC hz hbad => by
     by_cases m0 : m = 0
     · subst m0; exact split_nil sc d z w
     · obtain ⟨b, o, rfl, r⟩ := hr.resolve_left m0
       by_cases hno : ∃ j, j < m ∧ resB (C j) = false
       · exact split_bad _ m d z true w (by omega) h (idxI_yes b o m d C w (by omega) r hno) (Or.inl rfl)
       · have hok : ∀ i, i < m → resB (C i) = true := fun i hi => by
           cases hq : resB (C i) with
           | true => rfl
           | false => exact absurd ⟨i, hi, hq⟩ hno
         exact split_bad _ m d z false w (by omega) h (idxI_no b o m d C w (by omega) r hok) (by
           rcases hbad with k | k | k | k
           · exact absurd k m0
           · exact Or.inr (Or.inl k)
           · exact Or.inr (Or.inr k)
           · exact absurd k hno),
   fun b o m d C n w h0 h12 hr hok n1 n2 => split_ok b o m d C n w h0 h12 hr hok n1 n2⟩
end Go.Proofs.Ytmijjjdedadklag
/- Quorum -/
namespace Go.Proofs.Ytmijjjdedadklag
open Go.RowKit Go.Sort
set_option linter.unusedVariables false
set_option linter.unusedSimpArgs false
theorem qb_lt {W w1 : World} (hb : Below W.heap.size W w1) : ∀ b, b < W.heap.size → b < w1.heap.size := fun b h => Nat.lt_of_lt_of_le h hb.size
theorem qb_ne {W w1 : World} (hb : Below W.heap.size W w1) : ∀ b, b < W.heap.size → (b = w1.heap.size) = False := fun b h => eq_false (Nat.ne_of_lt (qb_lt hb b h))
theorem qb_ne2 {W w1 : World} (hb : Below W.heap.size W w1) : ∀ b, b < W.heap.size → (w1.heap.size = b) = False := fun b h => eq_false (Nat.ne_of_gt (qb_lt hb b h))
theorem em_res {y : Int} (h : resB y = true) : em y = y.toNat := by
  have := of_decide_eq_true (p := 0 ≤ y ∧ y < 1013) h
  unfold em; omega
theorem em_vI (q : QF) : em (vI q) = q.val := by
  have := q.isLt
  unfold em vI; omega
theorem csh_no (x y : Int) (w : World) (h : (secB x && resB y) = false) : Calls Try.prog 29 #[.agg #[.int .i64 x, .int .i64 y]] w fun e w' => e = .returned (errOf 1) ∧ Below w.heap.size w w' := by
  by_cases h1 : x < 1
  · go_enter Try.func29, Try.ntmps29
    go_wp2_with fail
    go_ret
    exact ⟨rfl, by repeat (first | (with_reducible exact Below.refl _ _) | (with_reducible assumption) | (with_reducible refine Below.setCell ?_ (by first | (simp; done) | (simp; omega) | omega) _) | (with_reducible refine Below.alloc ?_ (by first | (simp; done) | (simp; omega) | omega) _) | (refine bl_call ?_ (by assumption) (by first | (simp; done) | (simp; omega) | omega)) | (with_reducible refine bl_drewN ?_) | (with_reducible refine Below.drew ?_) | (with_reducible refine bl_grow ?_ (by first | (simp; done) | (simp; omega) | omega)))⟩
  by_cases h2 : x ≥ 1013
  · go_enter Try.func29, Try.ntmps29
    go_wp2_with fail
    go_ret
    exact ⟨rfl, by repeat (first | (with_reducible exact Below.refl _ _) | (with_reducible assumption) | (with_reducible refine Below.setCell ?_ (by first | (simp; done) | (simp; omega) | omega) _) | (with_reducible refine Below.alloc ?_ (by first | (simp; done) | (simp; omega) | omega) _) | (refine bl_call ?_ (by assumption) (by first | (simp; done) | (simp; omega) | omega)) | (with_reducible refine bl_drewN ?_) | (with_reducible refine Below.drew ?_) | (with_reducible refine bl_grow ?_ (by first | (simp; done) | (simp; omega) | omega)))⟩
  by_cases h3 : y < 0
  · go_enter Try.func29, Try.ntmps29
    go_wp2_with fail
    go_ret
    exact ⟨rfl, by repeat (first | (with_reducible exact Below.refl _ _) | (with_reducible assumption) | (with_reducible refine Below.setCell ?_ (by first | (simp; done) | (simp; omega) | omega) _) | (with_reducible refine Below.alloc ?_ (by first | (simp; done) | (simp; omega) | omega) _) | (refine bl_call ?_ (by assumption) (by first | (simp; done) | (simp; omega) | omega)) | (with_reducible refine bl_drewN ?_) | (with_reducible refine Below.drew ?_) | (with_reducible refine bl_grow ?_ (by first | (simp; done) | (simp; omega) | omega)))⟩
  by_cases h4 : y ≥ 1013
  · go_enter Try.func29, Try.ntmps29
    go_wp2_with fail
    go_ret
    exact ⟨rfl, by repeat (first | (with_reducible exact Below.refl _ _) | (with_reducible assumption) | (with_reducible refine Below.setCell ?_ (by first | (simp; done) | (simp; omega) | omega) _) | (with_reducible refine Below.alloc ?_ (by first | (simp; done) | (simp; omega) | omega) _) | (refine bl_call ?_ (by assumption) (by first | (simp; done) | (simp; omega) | omega)) | (with_reducible refine bl_drewN ?_) | (with_reducible refine Below.drew ?_) | (with_reducible refine bl_grow ?_ (by first | (simp; done) | (simp; omega) | omega)))⟩
  · exfalso
    rw [show secB x = true from decide_eq_true ⟨by omega, by omega⟩, show resB y = true from decide_eq_true ⟨by omega, by omega⟩] at h
    cases h
theorem csh_yes (x y : Int) (w : World) (h : (secB x && resB y) = true) : Calls Try.prog 29 #[.agg #[.int .i64 x, .int .i64 y]] w fun e w' => e = .returned (.nilIface) ∧ Below w.heap.size w w' := by
  rw [Bool.and_eq_true] at h
  have a := sec_bd h.1
  have b := res_bd h.2
  have h1 : ¬ x < 1 := by omega
  have h2 : ¬ x ≥ 1013 := by omega
  have h3 : ¬ y < 0 := by omega
  have h4 : ¬ y ≥ 1013 := by omega
  clear h a b
  go_enter Try.func29, Try.ntmps29
  go_wp2_with fail
  go_ret
  exact ⟨rfl, by repeat (first | (with_reducible exact Below.refl _ _) | (with_reducible assumption) | (with_reducible refine Below.setCell ?_ (by first | (simp; done) | (simp; omega) | omega) _) | (with_reducible refine Below.alloc ?_ (by first | (simp; done) | (simp; omega) | omega) _) | (refine bl_call ?_ (by assumption) (by first | (simp; done) | (simp; omega) | omega)) | (with_reducible refine bl_drewN ?_) | (with_reducible refine Below.drew ?_) | (with_reducible refine bl_grow ?_ (by first | (simp; done) | (simp; omega) | omega)))⟩
set_option maxRecDepth 100000 in
set_option maxHeartbeats 2000000 in
theorem part_no (x y : Int) (t : ByteArray) (w : World) (h : (secB x && resB y) = false) : Calls Try.prog 9 #[.agg #[.int .i64 x, .int .i64 y], .string t] w fun e w' => e = .returned (.tuple #[.agg #[.int .i64 0, .int .i64 0, .bool false], errOf 1]) ∧ Below w.heap.size w w' := by
  have H : Hid (∀ w, Calls Try.prog 29 #[.agg #[.int .i64 x, .int .i64 y]] w fun e w' => e = .returned (errOf 1) ∧ Below w.heap.size w w') := fun w => csh_no x y w h
  clear h
  have m1 : True := trivial
  go_enter Try.func9, Try.ntmps9
  go_wp2_with (go_at_call 29; clear m1; refine (H.out _).mono ?_; rintro e w1 ⟨rfl, hbw1⟩; have ksw1 : At w1 (w.heap.size) [.int .i64 x, .int .i64 y] := (by repeat (first | (with_reducible assumption) | ((with_reducible refine at_new' _ _ _ _ ?_); (first | rfl | (simp; done))) | (with_reducible refine At.alloc ?_ _) | (with_reducible refine At.drew ?_) | (with_reducible refine At.drewN ?_) | (with_reducible refine At.set ?_ (by omega)) | (with_reducible apply At.store4) | (with_reducible apply At.store3) | (with_reducible apply At.store2) | (with_reducible apply At.put43) | (refine At.below ?_ (by with_reducible assumption)))); have krw1 : At w1 (w.heap.size + 1) [.int .i64 0, .int .i64 0, .bool false] := (by repeat (first | (with_reducible assumption) | ((with_reducible refine at_new' _ _ _ _ ?_); (first | rfl | (simp; done))) | (with_reducible refine At.alloc ?_ _) | (with_reducible refine At.drew ?_) | (with_reducible refine At.drewN ?_) | (with_reducible refine At.set ?_ (by omega)) | (with_reducible apply At.store4) | (with_reducible apply At.store3) | (with_reducible apply At.store2) | (with_reducible apply At.put43) | (refine At.below ?_ (by with_reducible assumption)))); have hqw1 : Below w.heap.size w w1 := (by repeat (first | (with_reducible exact Below.refl _ _) | (with_reducible assumption) | (with_reducible refine Below.setCell ?_ (by first | (simp; done) | (simp; omega) | omega) _) | (with_reducible refine Below.alloc ?_ (by first | (simp; done) | (simp; omega) | omega) _) | (refine bl_call ?_ (by assumption) (by first | (simp; done) | (simp; omega) | omega)) | (with_reducible refine bl_drewN ?_) | (with_reducible refine Below.drew ?_) | (with_reducible refine bl_grow ?_ (by first | (simp; done) | (simp; omega) | omega)))); have hzw1 := hqw1.size; obtain ⟨zsw1, cs0w1, cs1w1, fs0w1, fs1w1⟩ := ksw1.two; obtain ⟨zrw1, cr0w1, cr1w1, cr2w1, fr0w1, fr1w1, fr2w1⟩ := krw1.three; clear hbw1)
  exact bodyPost_ret (v := .tuple #[.agg #[.int .i64 0, .int .i64 0, .bool false], errOf 1]) (by simp [results, Try.results9, go_sem, *]) rfl ⟨rfl, by repeat (first | (with_reducible exact Below.refl _ _) | (with_reducible assumption) | (with_reducible refine Below.setCell ?_ (by first | (simp; done) | (simp; omega) | omega) _) | (with_reducible refine Below.alloc ?_ (by first | (simp; done) | (simp; omega) | omega) _) | (refine bl_call ?_ (by assumption) (by first | (simp; done) | (simp; omega) | omega)) | (with_reducible refine bl_drewN ?_) | (with_reducible refine Below.drew ?_) | (with_reducible refine bl_grow ?_ (by first | (simp; done) | (simp; omega) | omega)))⟩
set_option maxRecDepth 100000 in
set_option maxHeartbeats 2000000 in
theorem part_full (x y : Int) (t : ByteArray) (w : World) (h : (secB x && resB y) = true) (h2 : 60 < t.size) (ht : t.size ≤ 9223372036854775807) : Calls Try.prog 9 #[.agg #[.int .i64 x, .int .i64 y], .string t] w fun e w' => e = .returned (.tuple #[.agg #[.int .i64 0, .int .i64 0, .bool false], errOf 4]) ∧ Below w.heap.size w w' := by
  have H : Hid (∀ w, Calls Try.prog 29 #[.agg #[.int .i64 x, .int .i64 y]] w fun e w' => e = .returned (.nilIface) ∧ Below w.heap.size w w') := fun w => csh_yes x y w h
  have h' : (t.size : Int) > 60 := by omega
  clear h
  have m1 : True := trivial
  go_enter Try.func9, Try.ntmps9
  go_wp2_with (go_at_call 29; clear m1; refine (H.out _).mono ?_; rintro e w1 ⟨rfl, hbw1⟩; have ksw1 : At w1 (w.heap.size) [.int .i64 x, .int .i64 y] := (by repeat (first | (with_reducible assumption) | ((with_reducible refine at_new' _ _ _ _ ?_); (first | rfl | (simp; done))) | (with_reducible refine At.alloc ?_ _) | (with_reducible refine At.drew ?_) | (with_reducible refine At.drewN ?_) | (with_reducible refine At.set ?_ (by omega)) | (with_reducible apply At.store4) | (with_reducible apply At.store3) | (with_reducible apply At.store2) | (with_reducible apply At.put43) | (refine At.below ?_ (by with_reducible assumption)))); have krw1 : At w1 (w.heap.size + 1) [.int .i64 0, .int .i64 0, .bool false] := (by repeat (first | (with_reducible assumption) | ((with_reducible refine at_new' _ _ _ _ ?_); (first | rfl | (simp; done))) | (with_reducible refine At.alloc ?_ _) | (with_reducible refine At.drew ?_) | (with_reducible refine At.drewN ?_) | (with_reducible refine At.set ?_ (by omega)) | (with_reducible apply At.store4) | (with_reducible apply At.store3) | (with_reducible apply At.store2) | (with_reducible apply At.put43) | (refine At.below ?_ (by with_reducible assumption)))); have hqw1 : Below w.heap.size w w1 := (by repeat (first | (with_reducible exact Below.refl _ _) | (with_reducible assumption) | (with_reducible refine Below.setCell ?_ (by first | (simp; done) | (simp; omega) | omega) _) | (with_reducible refine Below.alloc ?_ (by first | (simp; done) | (simp; omega) | omega) _) | (refine bl_call ?_ (by assumption) (by first | (simp; done) | (simp; omega) | omega)) | (with_reducible refine bl_drewN ?_) | (with_reducible refine Below.drew ?_) | (with_reducible refine bl_grow ?_ (by first | (simp; done) | (simp; omega) | omega)))); have hzw1 := hqw1.size; obtain ⟨zsw1, cs0w1, cs1w1, fs0w1, fs1w1⟩ := ksw1.two; obtain ⟨zrw1, cr0w1, cr1w1, cr2w1, fr0w1, fr1w1, fr2w1⟩ := krw1.three; clear hbw1)
  exact bodyPost_ret (v := .tuple #[.agg #[.int .i64 0, .int .i64 0, .bool false], errOf 4]) (by simp [results, Try.results9, go_sem, *]) rfl ⟨rfl, by repeat (first | (with_reducible exact Below.refl _ _) | (with_reducible assumption) | (with_reducible refine Below.setCell ?_ (by first | (simp; done) | (simp; omega) | omega) _) | (with_reducible refine Below.alloc ?_ (by first | (simp; done) | (simp; omega) | omega) _) | (refine bl_call ?_ (by assumption) (by first | (simp; done) | (simp; omega) | omega)) | (with_reducible refine bl_drewN ?_) | (with_reducible refine Below.drew ?_) | (with_reducible refine bl_grow ?_ (by first | (simp; done) | (simp; omega) | omega)))⟩
set_option maxRecDepth 100000 in
set_option maxHeartbeats 2000000 in
theorem part_ok (x y : Int) (m : Nat) (t : ByteArray) (w : World) (h : (secB x && resB y) = true) (hm : y = (m : Int)) (h2 : t.size ≤ 60) : Calls Try.prog 9 #[.agg #[.int .i64 x, .int .i64 y], .string t] w fun e w' => e = .returned (.tuple #[.agg #[.int .i64 ((tM (4 * (uN t * m))).1 : Int), .int .i64 ((tM (4 * (uN t * m))).2.1 : Int), .bool (tM (4 * (uN t * m))).2.2], .nilIface]) ∧ Below w.heap.size w w' := by
  have H : Hid (∀ w, Calls Try.prog 29 #[.agg #[.int .i64 x, .int .i64 y]] w fun e w' => e = .returned (.nilIface) ∧ Below w.heap.size w w') := fun w => csh_yes x y w h
  have E : Hid (tM (4 * uN t * em y) = tM (4 * (uN t * m))) := by
    unfold Hid
    rw [Bool.and_eq_true] at h
    rw [em_res h.2, hm, Int.toNat_natCast, Nat.mul_assoc]
  have h' : ¬ (t.size : Int) > 60 := by omega
  have ht : t.size ≤ 9223372036854775807 := by omega
  clear h hm
  have m1 : True := trivial
  go_enter Try.func9, Try.ntmps9
  go_wp2_with (go_at_call 29; clear m1; refine (H.out _).mono ?_; rintro e V ⟨rfl, hbV⟩; have ksV : At V (w.heap.size) [.int .i64 x, .int .i64 y] := (by repeat (first | (with_reducible assumption) | ((with_reducible refine at_new' _ _ _ _ ?_); (first | rfl | (simp; done))) | (with_reducible refine At.alloc ?_ _) | (with_reducible refine At.drew ?_) | (with_reducible refine At.drewN ?_) | (with_reducible refine At.set ?_ (by omega)) | (with_reducible apply At.store4) | (with_reducible apply At.store3) | (with_reducible apply At.store2) | (with_reducible apply At.put43) | (refine At.below ?_ (by with_reducible assumption)))); have krV : At V (w.heap.size + 1) [.int .i64 0, .int .i64 0, .bool false] := (by repeat (first | (with_reducible assumption) | ((with_reducible refine at_new' _ _ _ _ ?_); (first | rfl | (simp; done))) | (with_reducible refine At.alloc ?_ _) | (with_reducible refine At.drew ?_) | (with_reducible refine At.drewN ?_) | (with_reducible refine At.set ?_ (by omega)) | (with_reducible apply At.store4) | (with_reducible apply At.store3) | (with_reducible apply At.store2) | (with_reducible apply At.put43) | (refine At.below ?_ (by with_reducible assumption)))); have hqV : Below w.heap.size w V := (by repeat (first | (with_reducible exact Below.refl _ _) | (with_reducible assumption) | (with_reducible refine Below.setCell ?_ (by first | (simp; done) | (simp; omega) | omega) _) | (with_reducible refine Below.alloc ?_ (by first | (simp; done) | (simp; omega) | omega) _) | (refine bl_call ?_ (by assumption) (by first | (simp; done) | (simp; omega) | omega)) | (with_reducible refine bl_drewN ?_) | (with_reducible refine Below.drew ?_) | (with_reducible refine bl_grow ?_ (by first | (simp; done) | (simp; omega) | omega)))); have hzV := hqV.size; obtain ⟨zsV, cs0V, cs1V, fs0V, fs1V⟩ := ksV.two; obtain ⟨zrV, cr0V, cr1V, cr2V, fr0V, fr1V, fr2V⟩ := krV.three; clear hbV)
  refine below_gate 5 4 #[true, true, true, true, true, false, false, false, false] (by kernel_rfl) (by kernel_rfl) rfl rfl ?_
  dsimp only [List.take]
  repeat (go_big_quiet_step (first | (go_at_call 30; with_reducible exact Calls.regrown_of (spot_w _ _ ht)) | (go_at_call 19; with_reducible exact Calls.regrown_of (times_eq E.out _))))
  refine wpQuiet_nil ?_
  intro W hw1
  have hrW := regrown_below hw1
  clear hw1
  have ksW := ksV.below hrW
  have krW := krV.below hrW
  have hqW := bl_call hqV hrW (by omega)
  have hzW := hqW.size
  clear hrW ksV cs0V fs0V cs1V fs1V krV cr0V fr0V cr1V fr1V cr2V fr2V hqV
  obtain ⟨zsW, cs0W, cs1W, fs0W, fs1W⟩ := ksW.two
  obtain ⟨zrW, cr0W, cr1W, cr2W, fr0W, fr1W, fr2W⟩ := krW.three
  refine wpAny_take (i := 5) (v := ?v5) rfl (by kernel_rfl) (by kernel_rfl) (by kernel_rfl) (fun _ _ _ h => h) (Or.inl ⟨by rfl, ?y5⟩) ?z5
  case y5 => ((intro w); (go_simp); (try with_reducible rfl))
  case z5 =>
  refine wpAny_take (i := 6) (v := ?v6) rfl (by kernel_rfl) (by kernel_rfl) (by kernel_rfl) (fun _ _ _ h => h) (Or.inl ⟨by rfl, ?y6⟩) ?z6
  case y6 => ((intro w); (go_simp); (try with_reducible rfl))
  case z6 =>
  refine wpAny_ready (rs := [7]) (by kernel_rfl) (by simp) (AllReady.cons rfl (fun K hK => ?_) AllReady.nil)
  go_simp
  refine hK _ _ ?_
  clear hK K
  refine wpAny_ready (rs := [8]) (by kernel_rfl) (by simp) (AllReady.cons rfl (fun K hK => ?_) AllReady.nil)
  go_simp
  refine hK _ _ ?_
  clear hK K
  refine wpAny_done (by kernel_rfl) ?_ _
  go_wp2_with fail
  exact bodyPost_ret (v := .tuple #[.agg #[.int .i64 ((tM (4 * (uN t * m))).1 : Int), .int .i64 ((tM (4 * (uN t * m))).2.1 : Int), .bool (tM (4 * (uN t * m))).2.2], .nilIface]) (by simp [results, Try.results9, go_sem, *]) rfl ⟨rfl, by repeat (first | (with_reducible exact Below.refl _ _) | (with_reducible assumption) | (with_reducible refine Below.setCell ?_ (by first | (simp; done) | (simp; omega) | omega) _) | (with_reducible refine Below.alloc ?_ (by first | (simp; done) | (simp; omega) | omega) _) | (refine bl_call ?_ (by assumption) (by first | (simp; done) | (simp; omega) | omega)) | (with_reducible refine bl_drewN ?_) | (with_reducible refine Below.drew ?_) | (with_reducible refine bl_grow ?_ (by first | (simp; done) | (simp; omega) | omega)))⟩
theorem part_is : PartIs :=
  ⟨fun x y t w _ h => part_no x y t w h, fun x y t w h h2 ht => part_full x y t w h h2 ht,
   fun x y t w hx hy ht => part_ok x (y : Int) y t w (by rw [hx, show resB (y : Int) = true from decide_eq_true ⟨by omega, by omega⟩]; rfl) rfl ht⟩
theorem rowI_at {w W : World} {g q n : Nat} {F : Nat → Int} (h : RowI w g q n F) (k : Below w.heap.size w W) {i : Nat} (hi : i < n) : g < W.heap.size ∧ W.cell? ⟨g, q + i, none⟩ = some (.int .i64 (F i)) :=
  ⟨Nat.lt_of_lt_of_le h.1 k.size, (h.below h.1 k).2 i hi⟩
set_option maxRecDepth 100000 in
set_option maxHeartbeats 2000000 in
theorem weighed_row (b o g q p c d : Nat) (X PX PY : Nat → Int) (PF : Nat → Bool) (K : Nat → Nat) (w : World) (h12 : p ≤ 12) (hr : RowO w b o p PX PY PF) (hK : ∀ i, i < p → PX i = ((tM (K i)).1 : Int) ∧ PY i = ((tM (K i)).2.1 : Int) ∧ PF i = (tM (K i)).2.2) (hw : RowI w g q p (fun i => vI (wtq (xq X) p i))) :
    Calls Try.prog 38 #[.slice (some ⟨b, o, none⟩) p c, .slice (some ⟨g, q, none⟩) p d] w fun e w' => e = .returned (.tuple #[.agg #[.int .i64 ((tM (jwN K X p p)).1 : Int), .int .i64 ((tM (jwN K X p p)).2.1 : Int), .bool (tM (jwN K X p p)).2.2], .nilIface]) ∧ Below w.heap.size w w' := by
  have HR : Hid (RowO w b o p PX PY PF) := hr
  have HW : Hid (RowI w g q p (fun i => vI (wtq (xq X) p i))) := hw
  have HK : Hid (∀ i, i < p → PX i = ((tM (K i)).1 : Int) ∧ PY i = ((tM (K i)).2.1 : Int) ∧ PF i = (tM (K i)).2.2) := hK
  have hb := hr.1
  have hg := hw.1
  clear hr hK hw
  go_enter Try.func38, Try.ntmps38
  go_wp2_with fail
  go_loopw [14] (fun ti wl => ∃ k : Nat, k ≤ p ∧ ti = .int .i64 k ∧ At wl (w.heap.size) [.int .i64 0, .int .i64 0, .bool false] ∧ At wl (w.heap.size + 1) [.int .i64 ((tM (jwN K X p k)).1 : Int), .int .i64 ((tM (jwN K X p k)).2.1 : Int), .bool (tM (jwN K X p k)).2.2] ∧ Below w.heap.size w wl) (fun ti _ => p - (intOf ti).toNat)
  case atStart => exact ⟨0, by omega, rfl, by repeat (first | (with_reducible assumption) | ((with_reducible refine at_new' _ _ _ _ ?_); (first | rfl | (simp; done))) | (with_reducible refine At.alloc ?_ _) | (with_reducible refine At.drew ?_) | (with_reducible refine At.drewN ?_) | (with_reducible refine At.set ?_ (by omega)) | (with_reducible apply At.store4) | (with_reducible apply At.store3) | (with_reducible apply At.store2) | (with_reducible apply At.put43) | (refine At.below ?_ (by with_reducible assumption))), by show At _ _ [.int .i64 0, .int .i64 0, .bool true]; exact (by repeat (first | (with_reducible assumption) | ((with_reducible refine at_new' _ _ _ _ ?_); (first | rfl | (simp; done))) | (with_reducible refine At.alloc ?_ _) | (with_reducible refine At.drew ?_) | (with_reducible refine At.drewN ?_) | (with_reducible refine At.set ?_ (by omega)) | (with_reducible apply At.store4) | (with_reducible apply At.store3) | (with_reducible apply At.store2) | (with_reducible apply At.put43) | (refine At.below ?_ (by with_reducible assumption)))), by repeat (first | (with_reducible exact Below.refl _ _) | (with_reducible assumption) | (with_reducible refine Below.setCell ?_ (by first | (simp; done) | (simp; omega) | omega) _) | (with_reducible refine Below.alloc ?_ (by first | (simp; done) | (simp; omega) | omega) _) | (refine bl_call ?_ (by assumption) (by first | (simp; done) | (simp; omega) | omega)) | (with_reducible refine bl_drewN ?_) | (with_reducible refine Below.drew ?_) | (with_reducible refine bl_grow ?_ (by first | (simp; done) | (simp; omega) | omega)))⟩
  case round =>
    obtain ⟨k, hk, rfl, krV, kpV, hqV⟩ := hrel
    rename World => V
    have hzV := hqV.size
    obtain ⟨zrV, cr0V, cr1V, cr2V, fr0V, fr1V, fr2V⟩ := krV.three
    obtain ⟨zpV, cp0V, cp1V, cp2V, fp0V, fp1V, fp2V⟩ := kpV.three
    by_cases hlt : k < p
    · have hlt' : (k : Int) < p := by omega
      have hbV := Nat.lt_of_lt_of_le hb hzV
      have hgV := Nat.lt_of_lt_of_le hg hzV
      obtain ⟨c0, c1, c2⟩ := (HR.out.below hb hqV).2 k hlt
      obtain ⟨e0, e1, e2⟩ := HK.out k hlt
      rw [e0] at c0
      rw [e1] at c1
      rw [e2] at c2
      clear e0 e1 e2
      have E : Hid (tM (K k * em (vI (wtq (xq X) p k))) = tM (K k * (wtq (xq X) p k).val)) := by unfold Hid; rw [em_vI]
      go_wp2_with fail
      go_cut [9, 10] from 19 to 42 (fun t9 t10 wx => ∃ b9 : Nat, t9 = .pointer (some ⟨b9, 0, none⟩) ∧ t10 = .nilIface ∧ At wx (w.heap.size) [.int .i64 0, .int .i64 0, .bool false] ∧ At wx (w.heap.size + 1) [.int .i64 ((tM (jwN K X p k)).1 : Int), .int .i64 ((tM (jwN K X p k)).2.1 : Int), .bool (tM (jwN K X p k)).2.2] ∧ At wx b9 [.int .i64 ((tM (K k * (wtq (xq X) p k).val)).1 : Int), .int .i64 ((tM (K k * (wtq (xq X) p k).val)).2.1 : Int), .bool (tM (K k * (wtq (xq X) p k).val)).2.2] ∧ w.heap.size + 1 < b9 ∧ Below w.heap.size w wx)
      case first =>
        go_region_held3 (fun W => ((V.heap.size) < W.heap.size ∧ W.cell? ⟨V.heap.size, 0, none⟩ = some (.int .i64 ((tM (K k)).1 : Int)) ∧ W.cell? ⟨V.heap.size, 1, none⟩ = some (.int .i64 ((tM (K k)).2.1 : Int)) ∧ W.cell? ⟨V.heap.size, 2, none⟩ = some (.bool (tM (K k)).2.2) ∧ W.frozen? ⟨V.heap.size, 0, none⟩ = false ∧ W.frozen? ⟨V.heap.size, 1, none⟩ = false ∧ W.frozen? ⟨V.heap.size, 2, none⟩ = false) ∧ (g < W.heap.size ∧ W.cell? ⟨g, q + k, none⟩ = some (.int .i64 (vI (wtq (xq X) p k))))) (exact ⟨At.three (by repeat (first | (with_reducible assumption) | ((with_reducible refine at_new' _ _ _ _ ?_); (first | rfl | (simp; done))) | (with_reducible refine At.alloc ?_ _) | (with_reducible refine At.drew ?_) | (with_reducible refine At.drewN ?_) | (with_reducible refine At.set ?_ (by omega)) | (with_reducible apply At.store4) | (with_reducible apply At.store3) | (with_reducible apply At.store2) | (with_reducible apply At.put43) | (refine At.below ?_ (by with_reducible assumption)))), rowI_at HW.out (by repeat (first | (with_reducible exact Below.refl _ _) | (with_reducible assumption) | (with_reducible refine Below.setCell ?_ (by first | (simp; done) | (simp; omega) | omega) _) | (with_reducible refine Below.alloc ?_ (by first | (simp; done) | (simp; omega) | omega) _) | (refine bl_call ?_ (by assumption) (by first | (simp; done) | (simp; omega) | omega)) | (with_reducible refine bl_drewN ?_) | (with_reducible refine Below.drew ?_) | (with_reducible refine bl_grow ?_ (by first | (simp; done) | (simp; omega) | omega)))) hlt⟩) (first | (go_at_call 19; refine (times_eq E.out _).mono ?_; rintro e w2 ⟨rfl, hb2⟩; obtain ⟨hc2, hf2⟩ := bcell hb2; have hq2 : Below w.heap.size w w2 := (by repeat (first | (with_reducible exact Below.refl _ _) | (with_reducible assumption) | (with_reducible refine Below.setCell ?_ (by first | (simp; done) | (simp; omega) | omega) _) | (with_reducible refine Below.alloc ?_ (by first | (simp; done) | (simp; omega) | omega) _) | (refine bl_call ?_ (by assumption) (by first | (simp; done) | (simp; omega) | omega)) | (with_reducible refine bl_drewN ?_) | (with_reducible refine Below.drew ?_) | (with_reducible refine bl_grow ?_ (by first | (simp; done) | (simp; omega) | omega)))); have hz2 := hq2.size; clear hq2; have hl2 := qb_lt hb2; have hn2 := qb_ne hb2; have hm2 := qb_ne2 hb2; have hs2 := hb2.size; (try simp at hs2)))
        all_goals (go_wp2_with fail)
        all_goals go_meet
        all_goals (case rel => exact ⟨_, rfl, rfl, by repeat (first | (with_reducible assumption) | ((with_reducible refine at_new' _ _ _ _ ?_); (first | rfl | (simp; done))) | (with_reducible refine At.alloc ?_ _) | (with_reducible refine At.drew ?_) | (with_reducible refine At.drewN ?_) | (with_reducible refine At.set ?_ (by omega)) | (with_reducible apply At.store4) | (with_reducible apply At.store3) | (with_reducible apply At.store2) | (with_reducible apply At.put43) | (refine At.below ?_ (by with_reducible assumption))), by repeat (first | (with_reducible assumption) | ((with_reducible refine at_new' _ _ _ _ ?_); (first | rfl | (simp; done))) | (with_reducible refine At.alloc ?_ _) | (with_reducible refine At.drew ?_) | (with_reducible refine At.drewN ?_) | (with_reducible refine At.set ?_ (by omega)) | (with_reducible apply At.store4) | (with_reducible apply At.store3) | (with_reducible apply At.store2) | (with_reducible apply At.put43) | (refine At.below ?_ (by with_reducible assumption))), by repeat (first | (with_reducible assumption) | ((with_reducible refine at_new' _ _ _ _ ?_); (first | rfl | (simp; done))) | (with_reducible refine At.alloc ?_ _) | (with_reducible refine At.drew ?_) | (with_reducible refine At.drewN ?_) | (with_reducible refine At.set ?_ (by omega)) | (with_reducible apply At.store4) | (with_reducible apply At.store3) | (with_reducible apply At.store2) | (with_reducible apply At.put43) | (refine At.below ?_ (by with_reducible assumption))), by omega, by repeat (first | (with_reducible exact Below.refl _ _) | (with_reducible assumption) | (with_reducible refine Below.setCell ?_ (by first | (simp; done) | (simp; omega) | omega) _) | (with_reducible refine Below.alloc ?_ (by first | (simp; done) | (simp; omega) | omega) _) | (refine bl_call ?_ (by assumption) (by first | (simp; done) | (simp; omega) | omega)) | (with_reducible refine bl_drewN ?_) | (with_reducible refine Below.drew ?_) | (with_reducible refine bl_grow ?_ (by first | (simp; done) | (simp; omega) | omega)))⟩)
      case rest =>
        clear c0 c1 c2 krV cr0V fr0V cr1V fr1V cr2V fr2V kpV cp0V fp0V cp1V fp1V cp2V fp2V hqV
        obtain ⟨b9, rfl, rfl, krwc, kpwc, kxwc, hb9, hqwc⟩ := hcut
        have hzwc := hqwc.size
        obtain ⟨zrwc, cr0wc, cr1wc, cr2wc, fr0wc, fr1wc, fr2wc⟩ := krwc.three
        obtain ⟨zpwc, cp0wc, cp1wc, cp2wc, fp0wc, fp1wc, fp2wc⟩ := kpwc.three
        obtain ⟨zxwc, cx0wc, cx1wc, cx2wc, fx0wc, fx1wc, fx2wc⟩ := kxwc.three
        have m1 : True := trivial
        go_wp2_with (go_at_call 23; clear m1; refine (cadd_tM _ _ _).mono ?_; rintro e w3 ⟨rfl, hbw3⟩; have krw3 : At w3 (w.heap.size) [.int .i64 0, .int .i64 0, .bool false] := (by repeat (first | (with_reducible assumption) | ((with_reducible refine at_new' _ _ _ _ ?_); (first | rfl | (simp; done))) | (with_reducible refine At.alloc ?_ _) | (with_reducible refine At.drew ?_) | (with_reducible refine At.drewN ?_) | (with_reducible refine At.set ?_ (by omega)) | (with_reducible apply At.store4) | (with_reducible apply At.store3) | (with_reducible apply At.store2) | (with_reducible apply At.put43) | (refine At.below ?_ (by with_reducible assumption)))); have kpw3 : At w3 (w.heap.size + 1) [.int .i64 ((tM (jwN K X p k)).1 : Int), .int .i64 ((tM (jwN K X p k)).2.1 : Int), .bool (tM (jwN K X p k)).2.2] := (by repeat (first | (with_reducible assumption) | ((with_reducible refine at_new' _ _ _ _ ?_); (first | rfl | (simp; done))) | (with_reducible refine At.alloc ?_ _) | (with_reducible refine At.drew ?_) | (with_reducible refine At.drewN ?_) | (with_reducible refine At.set ?_ (by omega)) | (with_reducible apply At.store4) | (with_reducible apply At.store3) | (with_reducible apply At.store2) | (with_reducible apply At.put43) | (refine At.below ?_ (by with_reducible assumption)))); have hqw3 : Below w.heap.size w w3 := (by repeat (first | (with_reducible exact Below.refl _ _) | (with_reducible assumption) | (with_reducible refine Below.setCell ?_ (by first | (simp; done) | (simp; omega) | omega) _) | (with_reducible refine Below.alloc ?_ (by first | (simp; done) | (simp; omega) | omega) _) | (refine bl_call ?_ (by assumption) (by first | (simp; done) | (simp; omega) | omega)) | (with_reducible refine bl_drewN ?_) | (with_reducible refine Below.drew ?_) | (with_reducible refine bl_grow ?_ (by first | (simp; done) | (simp; omega) | omega)))); have hzw3 := hqw3.size; obtain ⟨zrw3, cr0w3, cr1w3, cr2w3, fr0w3, fr1w3, fr2w3⟩ := krw3.three; obtain ⟨zpw3, cp0w3, cp1w3, cp2w3, fp0w3, fp1w3, fp2w3⟩ := kpw3.three; clear krwc cr0wc fr0wc cr1wc fr1wc cr2wc fr2wc kpwc cp0wc fp0wc cp1wc fp1wc cp2wc fp2wc hqwc; clear hbw3)
        go_roundw
        case rel => exact ⟨k + 1, by omega, by simp, by repeat (first | (with_reducible assumption) | ((with_reducible refine at_new' _ _ _ _ ?_); (first | rfl | (simp; done))) | (with_reducible refine At.alloc ?_ _) | (with_reducible refine At.drew ?_) | (with_reducible refine At.drewN ?_) | (with_reducible refine At.set ?_ (by omega)) | (with_reducible apply At.store4) | (with_reducible apply At.store3) | (with_reducible apply At.store2) | (with_reducible apply At.put43) | (refine At.below ?_ (by with_reducible assumption))), (show At _ _ [.int .i64 ((tM (jwN K X p k + K k * (wtq (xq X) p k).val)).1 : Int), .int .i64 ((tM (jwN K X p k + K k * (wtq (xq X) p k).val)).2.1 : Int), .bool (tM (jwN K X p k + K k * (wtq (xq X) p k).val)).2.2] from by repeat (first | (with_reducible assumption) | ((with_reducible refine at_new' _ _ _ _ ?_); (first | rfl | (simp; done))) | (with_reducible refine At.alloc ?_ _) | (with_reducible refine At.drew ?_) | (with_reducible refine At.drewN ?_) | (with_reducible refine At.set ?_ (by omega)) | (with_reducible apply At.store4) | (with_reducible apply At.store3) | (with_reducible apply At.store2) | (with_reducible apply At.put43) | (refine At.below ?_ (by with_reducible assumption)))), by repeat (first | (with_reducible exact Below.refl _ _) | (with_reducible assumption) | (with_reducible refine Below.setCell ?_ (by first | (simp; done) | (simp; omega) | omega) _) | (with_reducible refine Below.alloc ?_ (by first | (simp; done) | (simp; omega) | omega) _) | (refine bl_call ?_ (by assumption) (by first | (simp; done) | (simp; omega) | omega)) | (with_reducible refine bl_drewN ?_) | (with_reducible refine Below.drew ?_) | (with_reducible refine bl_grow ?_ (by first | (simp; done) | (simp; omega) | omega)))⟩
        case measure => simp [intOf]; omega
    · have hlt' : ¬ (k : Int) < p := by omega
      obtain rfl : k = p := by omega
      go_wp2_with fail
      exact bodyPost_ret (v := .tuple #[.agg #[.int .i64 ((tM (jwN K X k k)).1 : Int), .int .i64 ((tM (jwN K X k k)).2.1 : Int), .bool (tM (jwN K X k k)).2.2], .nilIface]) (by simp [results, Try.results38, go_sem, *]) rfl ⟨rfl, by repeat (first | (with_reducible exact Below.refl _ _) | (with_reducible assumption) | (with_reducible refine Below.setCell ?_ (by first | (simp; done) | (simp; omega) | omega) _) | (with_reducible refine Below.alloc ?_ (by first | (simp; done) | (simp; omega) | omega) _) | (refine bl_call ?_ (by assumption) (by first | (simp; done) | (simp; omega) | omega)) | (with_reducible refine bl_drewN ?_) | (with_reducible refine Below.drew ?_) | (with_reducible refine bl_grow ?_ (by first | (simp; done) | (simp; omega) | omega)))⟩
set_option maxRecDepth 100000 in
set_option maxHeartbeats 2000000 in
theorem qjoin_odd (sx sb : Option Addr) (p d q c : Nat) (w : World) (hp : p ≤ 9223372036854775807) (hq : q ≤ 9223372036854775807) (h : p ≠ q) : Calls Try.prog 12 #[.slice sx p d, .slice sb q c] w fun e w' => e = .returned (.tuple #[.agg #[.int .i64 0, .int .i64 0, .bool false], errOf 3]) ∧ Below w.heap.size w w' := by
  have h' : ((q : Int) != (p : Int)) = true := by rw [bne_iff_ne]; omega
  go_enter Try.func12, Try.ntmps12
  go_wp2_with fail
  exact bodyPost_ret (v := .tuple #[.agg #[.int .i64 0, .int .i64 0, .bool false], errOf 3]) (by simp [results, Try.results12, go_sem, *]) rfl ⟨rfl, by repeat (first | (with_reducible exact Below.refl _ _) | (with_reducible assumption) | (with_reducible refine Below.setCell ?_ (by first | (simp; done) | (simp; omega) | omega) _) | (with_reducible refine Below.alloc ?_ (by first | (simp; done) | (simp; omega) | omega) _) | (refine bl_call ?_ (by assumption) (by first | (simp; done) | (simp; omega) | omega)) | (with_reducible refine bl_drewN ?_) | (with_reducible refine Below.drew ?_) | (with_reducible refine bl_grow ?_ (by first | (simp; done) | (simp; omega) | omega)))⟩
set_option maxRecDepth 100000 in
set_option maxHeartbeats 2000000 in
theorem qjoin_err (sx sb : Option Addr) (p d c : Nat) (e0 : Int) (w : World) (hp : p ≤ 9223372036854775807) (h : ∀ W, Below w.heap.size w W → Calls Try.prog 36 #[.slice sx p d] W fun e w' => e = .returned (.tuple #[.slice none 0 0, errOf e0]) ∧ Below W.heap.size W w') : Calls Try.prog 12 #[.slice sx p d, .slice sb p c] w fun e w' => e = .returned (.tuple #[.agg #[.int .i64 0, .int .i64 0, .bool false], errOf e0]) ∧ Below w.heap.size w w' := by
  have H : Hid (∀ W, Below w.heap.size w W → Calls Try.prog 36 #[.slice sx p d] W fun e w' => e = .returned (.tuple #[.slice none 0 0, errOf e0]) ∧ Below W.heap.size W w') := h
  have h' : ((p : Int) != (p : Int)) = false := by simp
  clear h
  have m1 : True := trivial
  go_enter Try.func12, Try.ntmps12
  go_wp2_with (go_at_call 36; clear m1; refine (H.out _ (by repeat (first | (with_reducible exact Below.refl _ _) | (with_reducible assumption) | (with_reducible refine Below.setCell ?_ (by first | (simp; done) | (simp; omega) | omega) _) | (with_reducible refine Below.alloc ?_ (by first | (simp; done) | (simp; omega) | omega) _) | (refine bl_call ?_ (by assumption) (by first | (simp; done) | (simp; omega) | omega)) | (with_reducible refine bl_drewN ?_) | (with_reducible refine Below.drew ?_) | (with_reducible refine bl_grow ?_ (by first | (simp; done) | (simp; omega) | omega))))).mono ?_; rintro e w1 ⟨rfl, hbw1⟩; have krw1 : At w1 (w.heap.size) [.int .i64 0, .int .i64 0, .bool false] := (by repeat (first | (with_reducible assumption) | ((with_reducible refine at_new' _ _ _ _ ?_); (first | rfl | (simp; done))) | (with_reducible refine At.alloc ?_ _) | (with_reducible refine At.drew ?_) | (with_reducible refine At.drewN ?_) | (with_reducible refine At.set ?_ (by omega)) | (with_reducible apply At.store4) | (with_reducible apply At.store3) | (with_reducible apply At.store2) | (with_reducible apply At.put43) | (refine At.below ?_ (by with_reducible assumption)))); have hqw1 : Below w.heap.size w w1 := (by repeat (first | (with_reducible exact Below.refl _ _) | (with_reducible assumption) | (with_reducible refine Below.setCell ?_ (by first | (simp; done) | (simp; omega) | omega) _) | (with_reducible refine Below.alloc ?_ (by first | (simp; done) | (simp; omega) | omega) _) | (refine bl_call ?_ (by assumption) (by first | (simp; done) | (simp; omega) | omega)) | (with_reducible refine bl_drewN ?_) | (with_reducible refine Below.drew ?_) | (with_reducible refine bl_grow ?_ (by first | (simp; done) | (simp; omega) | omega)))); have hzw1 := hqw1.size; obtain ⟨zrw1, cr0w1, cr1w1, cr2w1, fr0w1, fr1w1, fr2w1⟩ := krw1.three; clear hbw1)
  exact bodyPost_ret (v := .tuple #[.agg #[.int .i64 0, .int .i64 0, .bool false], errOf e0]) (by simp [results, Try.results12, go_sem, *]) rfl ⟨rfl, by repeat (first | (with_reducible exact Below.refl _ _) | (with_reducible assumption) | (with_reducible refine Below.setCell ?_ (by first | (simp; done) | (simp; omega) | omega) _) | (with_reducible refine Below.alloc ?_ (by first | (simp; done) | (simp; omega) | omega) _) | (refine bl_call ?_ (by assumption) (by first | (simp; done) | (simp; omega) | omega)) | (with_reducible refine bl_drewN ?_) | (with_reducible refine Below.drew ?_) | (with_reducible refine bl_grow ?_ (by first | (simp; done) | (simp; omega) | omega)))⟩
set_option maxRecDepth 100000 in
set_option maxHeartbeats 2000000 in
theorem qjoin_bad (b o b' o' p d c : Nat) (X : Nat → Int) (e0 : Int) (w : World) (hp : p ≤ 12) (h : ∀ W, Below w.heap.size w W → Calls Try.prog 36 #[.slice (some ⟨b, o, none⟩) p d] W fun e w' => ∃ u, e = .returned (.tuple #[u, .nilIface]) ∧ w'.ownsRow W.heap.size 3 1 u p (cellsI (fun i => vI (wtq (xq X) p i)) p) ∧ Below W.heap.size W w') (hc : ∀ W, Below w.heap.size w W → Calls Try.prog 37 #[.slice (some ⟨b', o', none⟩) p c] W fun e w' => e = .returned (errOf e0) ∧ Below W.heap.size W w') : Calls Try.prog 12 #[.slice (some ⟨b, o, none⟩) p d, .slice (some ⟨b', o', none⟩) p c] w fun e w' => e = .returned (.tuple #[.agg #[.int .i64 0, .int .i64 0, .bool false], errOf e0]) ∧ Below w.heap.size w w' := by
  have H : Hid (∀ W, Below w.heap.size w W → Calls Try.prog 36 #[.slice (some ⟨b, o, none⟩) p d] W fun e w' => ∃ u, e = .returned (.tuple #[u, .nilIface]) ∧ w'.ownsRow W.heap.size 3 1 u p (cellsI (fun i => vI (wtq (xq X) p i)) p) ∧ Below W.heap.size W w') := h
  have HC : Hid (∀ W, Below w.heap.size w W → Calls Try.prog 37 #[.slice (some ⟨b', o', none⟩) p c] W fun e w' => e = .returned (errOf e0) ∧ Below W.heap.size W w') := hc
  have h' : ((p : Int) != (p : Int)) = false := by simp
  clear h hc
  go_enter Try.func12, Try.ntmps12
  go_wp2_with (go_at_call 36; refine (H.out _ (by repeat (first | (with_reducible exact Below.refl _ _) | (with_reducible assumption) | (with_reducible refine Below.setCell ?_ (by first | (simp; done) | (simp; omega) | omega) _) | (with_reducible refine Below.alloc ?_ (by first | (simp; done) | (simp; omega) | omega) _) | (refine bl_call ?_ (by assumption) (by first | (simp; done) | (simp; omega) | omega)) | (with_reducible refine bl_drewN ?_) | (with_reducible refine Below.drew ?_) | (with_reducible refine bl_grow ?_ (by first | (simp; done) | (simp; omega) | omega))))).mono ?_; rintro e w1 ⟨u1, rfl, ho1, hb1⟩; have kr1 : At w1 (w.heap.size) [.int .i64 0, .int .i64 0, .bool false] := (by repeat (first | (with_reducible assumption) | ((with_reducible refine at_new' _ _ _ _ ?_); (first | rfl | (simp; done))) | (with_reducible refine At.alloc ?_ _) | (with_reducible refine At.drew ?_) | (with_reducible refine At.drewN ?_) | (with_reducible refine At.set ?_ (by omega)) | (with_reducible apply At.store4) | (with_reducible apply At.store3) | (with_reducible apply At.store2) | (with_reducible apply At.put43) | (refine At.below ?_ (by with_reducible assumption)))); have hq1 : Below w.heap.size w w1 := (by repeat (first | (with_reducible exact Below.refl _ _) | (with_reducible assumption) | (with_reducible refine Below.setCell ?_ (by first | (simp; done) | (simp; omega) | omega) _) | (with_reducible refine Below.alloc ?_ (by first | (simp; done) | (simp; omega) | omega) _) | (refine bl_call ?_ (by assumption) (by first | (simp; done) | (simp; omega) | omega)) | (with_reducible refine bl_drewN ?_) | (with_reducible refine Below.drew ?_) | (with_reducible refine bl_grow ?_ (by first | (simp; done) | (simp; omega) | omega)))); have hz1 := hq1.size; obtain ⟨zr1, cr01, cr11, cr21, fr01, fr11, fr21⟩ := kr1.three; clear hb1)
  go_wp2_with (go_at_call 37; refine (HC.out _ hq1).mono ?_; rintro e w2 ⟨rfl, hb2⟩; have kr2 : At w2 (w.heap.size) [.int .i64 0, .int .i64 0, .bool false] := (by repeat (first | (with_reducible assumption) | ((with_reducible refine at_new' _ _ _ _ ?_); (first | rfl | (simp; done))) | (with_reducible refine At.alloc ?_ _) | (with_reducible refine At.drew ?_) | (with_reducible refine At.drewN ?_) | (with_reducible refine At.set ?_ (by omega)) | (with_reducible apply At.store4) | (with_reducible apply At.store3) | (with_reducible apply At.store2) | (with_reducible apply At.put43) | (refine At.below ?_ (by with_reducible assumption)))); have hq2 : Below w.heap.size w w2 := (by repeat (first | (with_reducible exact Below.refl _ _) | (with_reducible assumption) | (with_reducible refine Below.setCell ?_ (by first | (simp; done) | (simp; omega) | omega) _) | (with_reducible refine Below.alloc ?_ (by first | (simp; done) | (simp; omega) | omega) _) | (refine bl_call ?_ (by assumption) (by first | (simp; done) | (simp; omega) | omega)) | (with_reducible refine bl_drewN ?_) | (with_reducible refine Below.drew ?_) | (with_reducible refine bl_grow ?_ (by first | (simp; done) | (simp; omega) | omega)))); have hz2 := hq2.size; have ho2 := own_stay ho1 hb2; obtain ⟨zr2, cr02, cr12, cr22, fr02, fr12, fr22⟩ := kr2.three; clear hb2 ho1 kr1 cr01 fr01 cr11 fr11 cr21 fr21 hq1)
  exact bodyPost_ret (v := .tuple #[.agg #[.int .i64 0, .int .i64 0, .bool false], errOf e0]) (by simp [results, Try.results12, go_sem, *]) rfl ⟨rfl, by repeat (first | (with_reducible exact Below.refl _ _) | (with_reducible assumption) | (with_reducible refine Below.setCell ?_ (by first | (simp; done) | (simp; omega) | omega) _) | (with_reducible refine Below.alloc ?_ (by first | (simp; done) | (simp; omega) | omega) _) | (refine bl_call ?_ (by assumption) (by first | (simp; done) | (simp; omega) | omega)) | (with_reducible refine bl_drewN ?_) | (with_reducible refine Below.drew ?_) | (with_reducible refine bl_grow ?_ (by first | (simp; done) | (simp; omega) | omega)))⟩
set_option maxRecDepth 100000 in
set_option maxHeartbeats 2000000 in
theorem qjoin_ok (b o b' o' p d c : Nat) (X PX PY : Nat → Int) (PF : Nat → Bool) (K : Nat → Nat) (w : World) (h0 : 0 < p) (hp : p ≤ 12) (h : ∀ W, Below w.heap.size w W → Calls Try.prog 36 #[.slice (some ⟨b, o, none⟩) p d] W fun e w' => ∃ u, e = .returned (.tuple #[u, .nilIface]) ∧ w'.ownsRow W.heap.size 3 1 u p (cellsI (fun i => vI (wtq (xq X) p i)) p) ∧ Below W.heap.size W w') (hc : ∀ W, Below w.heap.size w W → Calls Try.prog 37 #[.slice (some ⟨b', o', none⟩) p c] W fun e w' => e = .returned (.nilIface) ∧ Below W.heap.size W w') (hr : RowO w b' o' p PX PY PF) (hK : ∀ i, i < p → PX i = ((tM (K i)).1 : Int) ∧ PY i = ((tM (K i)).2.1 : Int) ∧ PF i = (tM (K i)).2.2) : Calls Try.prog 12 #[.slice (some ⟨b, o, none⟩) p d, .slice (some ⟨b', o', none⟩) p c] w fun e w' => e = .returned (.tuple #[.agg #[.int .i64 ((tM (jwN K X p p)).1 : Int), .int .i64 ((tM (jwN K X p p)).2.1 : Int), .bool (tM (jwN K X p p)).2.2], .nilIface]) ∧ Below w.heap.size w w' := by
  have H : Hid (∀ W, Below w.heap.size w W → Calls Try.prog 36 #[.slice (some ⟨b, o, none⟩) p d] W fun e w' => ∃ u, e = .returned (.tuple #[u, .nilIface]) ∧ w'.ownsRow W.heap.size 3 1 u p (cellsI (fun i => vI (wtq (xq X) p i)) p) ∧ Below W.heap.size W w') := h
  have HC : Hid (∀ W, Below w.heap.size w W → Calls Try.prog 37 #[.slice (some ⟨b', o', none⟩) p c] W fun e w' => e = .returned (.nilIface) ∧ Below W.heap.size W w') := hc
  have HWE : Hid (∀ W u B, Below w.heap.size w W → W.ownsRow B 3 1 u p (cellsI (fun i => vI (wtq (xq X) p i)) p) → Calls Try.prog 38 #[.slice (some ⟨b', o', none⟩) p c, u] W fun e w' => e = .returned (.tuple #[.agg #[.int .i64 ((tM (jwN K X p p)).1 : Int), .int .i64 ((tM (jwN K X p p)).2.1 : Int), .bool (tM (jwN K X p p)).2.2], .nilIface]) ∧ Below W.heap.size W w') := fun W u B hW hu => by
    obtain ⟨sa, cc, rfl, k⟩ := own_ints hu
    obtain ⟨g, rfl, _, _, r⟩ := k.resolve_left (by omega)
    exact weighed_row b' o' g 0 p c cc X PX PY PF K W hp (hr.below hr.1 hW) hK r
  have h' : ((p : Int) != (p : Int)) = false := by simp
  clear h hc hr hK
  go_enter Try.func12, Try.ntmps12
  go_wp2_with (go_at_call 36; refine (H.out _ (by repeat (first | (with_reducible exact Below.refl _ _) | (with_reducible assumption) | (with_reducible refine Below.setCell ?_ (by first | (simp; done) | (simp; omega) | omega) _) | (with_reducible refine Below.alloc ?_ (by first | (simp; done) | (simp; omega) | omega) _) | (refine bl_call ?_ (by assumption) (by first | (simp; done) | (simp; omega) | omega)) | (with_reducible refine bl_drewN ?_) | (with_reducible refine Below.drew ?_) | (with_reducible refine bl_grow ?_ (by first | (simp; done) | (simp; omega) | omega))))).mono ?_; rintro e w1 ⟨u1, rfl, ho1, hb1⟩; have kr1 : At w1 (w.heap.size) [.int .i64 0, .int .i64 0, .bool false] := (by repeat (first | (with_reducible assumption) | ((with_reducible refine at_new' _ _ _ _ ?_); (first | rfl | (simp; done))) | (with_reducible refine At.alloc ?_ _) | (with_reducible refine At.drew ?_) | (with_reducible refine At.drewN ?_) | (with_reducible refine At.set ?_ (by omega)) | (with_reducible apply At.store4) | (with_reducible apply At.store3) | (with_reducible apply At.store2) | (with_reducible apply At.put43) | (refine At.below ?_ (by with_reducible assumption)))); have hq1 : Below w.heap.size w w1 := (by repeat (first | (with_reducible exact Below.refl _ _) | (with_reducible assumption) | (with_reducible refine Below.setCell ?_ (by first | (simp; done) | (simp; omega) | omega) _) | (with_reducible refine Below.alloc ?_ (by first | (simp; done) | (simp; omega) | omega) _) | (refine bl_call ?_ (by assumption) (by first | (simp; done) | (simp; omega) | omega)) | (with_reducible refine bl_drewN ?_) | (with_reducible refine Below.drew ?_) | (with_reducible refine bl_grow ?_ (by first | (simp; done) | (simp; omega) | omega)))); have hz1 := hq1.size; obtain ⟨zr1, cr01, cr11, cr21, fr01, fr11, fr21⟩ := kr1.three; clear hb1)
  go_wp2_with (go_at_call 37; refine (HC.out _ hq1).mono ?_; rintro e w2 ⟨rfl, hb2⟩; have kr2 : At w2 (w.heap.size) [.int .i64 0, .int .i64 0, .bool false] := (by repeat (first | (with_reducible assumption) | ((with_reducible refine at_new' _ _ _ _ ?_); (first | rfl | (simp; done))) | (with_reducible refine At.alloc ?_ _) | (with_reducible refine At.drew ?_) | (with_reducible refine At.drewN ?_) | (with_reducible refine At.set ?_ (by omega)) | (with_reducible apply At.store4) | (with_reducible apply At.store3) | (with_reducible apply At.store2) | (with_reducible apply At.put43) | (refine At.below ?_ (by with_reducible assumption)))); have hq2 : Below w.heap.size w w2 := (by repeat (first | (with_reducible exact Below.refl _ _) | (with_reducible assumption) | (with_reducible refine Below.setCell ?_ (by first | (simp; done) | (simp; omega) | omega) _) | (with_reducible refine Below.alloc ?_ (by first | (simp; done) | (simp; omega) | omega) _) | (refine bl_call ?_ (by assumption) (by first | (simp; done) | (simp; omega) | omega)) | (with_reducible refine bl_drewN ?_) | (with_reducible refine Below.drew ?_) | (with_reducible refine bl_grow ?_ (by first | (simp; done) | (simp; omega) | omega)))); have hz2 := hq2.size; have ho2 := own_stay ho1 hb2; obtain ⟨zr2, cr02, cr12, cr22, fr02, fr12, fr22⟩ := kr2.three; clear hb2 ho1 kr1 cr01 fr01 cr11 fr11 cr21 fr21 hq1)
  go_wp2_with ((go_at_call 38; refine (HWE.out _ _ _ hq2 ho2).mono ?_; rintro e w3 ⟨rfl, hb3⟩; have kr3 : At w3 (w.heap.size) [.int .i64 0, .int .i64 0, .bool false] := (by repeat (first | (with_reducible assumption) | ((with_reducible refine at_new' _ _ _ _ ?_); (first | rfl | (simp; done))) | (with_reducible refine At.alloc ?_ _) | (with_reducible refine At.drew ?_) | (with_reducible refine At.drewN ?_) | (with_reducible refine At.set ?_ (by omega)) | (with_reducible apply At.store4) | (with_reducible apply At.store3) | (with_reducible apply At.store2) | (with_reducible apply At.put43) | (refine At.below ?_ (by with_reducible assumption)))); have hq3 : Below w.heap.size w w3 := (by repeat (first | (with_reducible exact Below.refl _ _) | (with_reducible assumption) | (with_reducible refine Below.setCell ?_ (by first | (simp; done) | (simp; omega) | omega) _) | (with_reducible refine Below.alloc ?_ (by first | (simp; done) | (simp; omega) | omega) _) | (refine bl_call ?_ (by assumption) (by first | (simp; done) | (simp; omega) | omega)) | (with_reducible refine bl_drewN ?_) | (with_reducible refine Below.drew ?_) | (with_reducible refine bl_grow ?_ (by first | (simp; done) | (simp; omega) | omega)))); have hz3 := hq3.size; obtain ⟨zr3, cr03, cr13, cr23, fr03, fr13, fr23⟩ := kr3.three; clear hb3))
  exact bodyPost_ret (v := .tuple #[.agg #[.int .i64 ((tM (jwN K X p p)).1 : Int), .int .i64 ((tM (jwN K X p p)).2.1 : Int), .bool (tM (jwN K X p p)).2.2], .nilIface]) (by simp [results, Try.results12, go_sem, *]) rfl ⟨rfl, by repeat (first | (with_reducible exact Below.refl _ _) | (with_reducible assumption) | (with_reducible refine Below.setCell ?_ (by first | (simp; done) | (simp; omega) | omega) _) | (with_reducible refine Below.alloc ?_ (by first | (simp; done) | (simp; omega) | omega) _) | (refine bl_call ?_ (by assumption) (by first | (simp; done) | (simp; omega) | omega)) | (with_reducible refine bl_drewN ?_) | (with_reducible refine Below.drew ?_) | (with_reducible refine bl_grow ?_ (by first | (simp; done) | (simp; omega) | omega)))⟩
theorem join_is : JoinIs :=
  ⟨fun sx sb p d q c w hp hq h => qjoin_odd sx sb p d q c w hp hq h,
   fun sx sb p d c w h hp => qjoin_err sx sb p d c 4 w hp (fun W _ => weights_is.1 sx p d W h hp),
   fun sx sb d c w => qjoin_err sx sb 0 d c 5 w (by omega) (fun W _ => weights_is.2.1 sx d W),
   fun b o b' o' p d c X PX PY PF w h0 h12 hd hc hr hx hr' hne => qjoin_err _ _ p d c _ w (by omega) (fun W hW => weights_is.2.2.1 b o p d X W h0 h12 hd (hr.below hr.1 hW) hx hne),
   fun b o b' o' p d c X PX PY PF w K j h0 h12 hd hc hr hx hr' hpl hj hK hne => qjoin_bad b o b' o' p d c X _ w h12 (fun W hW => weights_is.2.2.2 b o p d X W h0 h12 hd (hr.below hr.1 hW) hpl)
     (fun W hW => checkAll_row b' o' p c j PX PY PF W (by omega) (hr'.below hr'.1 hW) (by omega) (fun i hi => by obtain ⟨a1, a2, a3⟩ := hK i hi; rw [a1, a2, a3]; exact ck_tM _) _ (Or.inr ⟨hj, hne, rfl⟩)),
   fun b o b' o' p d c X PX PY PF w K h0 h12 hd hc hr hx hr' hpl hK => qjoin_ok b o b' o' p d c X PX PY PF K w h0 h12 (fun W hW => weights_is.2.2.2 b o p d X W h0 h12 hd (hr.below hr.1 hW) hpl)
     (fun W hW => checkAll_row b' o' p c p PX PY PF W (by omega) (hr'.below hr'.1 hW) (Nat.le_refl _) (fun i hi => by obtain ⟨a1, a2, a3⟩ := hK i hi; rw [a1, a2, a3]; exact ck_tM _) _ (Or.inl ⟨rfl, rfl⟩)) hr' hK⟩
end Go.Proofs.Ytmijjjdedadklag
/- TopSharedWalk -/
namespace Go.Proofs.Ytmijjjdedadklag
open Go.RowKit Go.Sort
set_option linter.unusedVariables false
theorem walkTopShared (w : World) (sc : Option Addr) (m dc : Nat) (z : Int) (sp : Option Addr) (q dp : Nat) (t : ByteArray) (hm : m ≤ maxLen) (uC : m = 0 ∨ ∃ (b o : Nat) (X : Nat → Int), sc = some ⟨b, o, none⟩ ∧ RowI w b o m X ∧ ∀ i, i < m → (Lit.int .i64 (X i)).wf = true) (hz : (Lit.int .i64 z).wf = true) (hq : q ≤ maxLen) (uP : q = 0 ∨ ∃ (b o : Nat) (X : Nat → Int), sp = some ⟨b, o, none⟩ ∧ RowI w b o q X ∧ ∀ i, i < q → (Lit.int .i64 (X i)).wf = true) (ht : t.size ≤ maxLen) :
    Calls Try.prog 3 #[.slice sc m dc, .int .i64 z, .slice sp q dp, .string t] w fun e w' => e = .returned (.bool true) ∧ Below w.heap.size w w' :=
  topShared_by split_is part_is join_is w sc m dc z sp q dp t hm uC hz hq uP ht
end Go.Proofs.Ytmijjjdedadklag
/- Open -/
namespace Go.Proofs.Ytmijjjdedadklag
open Go.ChangeShapes Go.WideShapes Go.ChangeAt Go.RowKit Go.Joins Go.Deep Go.WideElems
set_option linter.unusedVariables false
set_option linter.unusedSimpArgs false

section
variable {H : Type} {enc : TypeId × Value → H} {P : Program} {w : World} {held : Bool}

theorem weights_in {e : TypeId} {d : DataW H} {x : Nat} : ∀ {l : List (DataW H)}, d ∈ l → x ∈ d.weights P e → x ∈ DataW.weightsAll P e l
  | [], h, _ => by cases h
  | c :: r, h, hx => by
    show x ∈ c.weights P e ++ DataW.weightsAll P e r
    rcases List.mem_cons.1 h with rfl | h
    · exact List.mem_append_left _ hx
    · exact List.mem_append_right _ (weights_in h hx)
/-- How long a slice is, by the form's own reach. -/
theorem len_slice {t e : TypeId} {sa : Option Addr} {n c : Nat} {d : DataW H} {p : List MemPlace} (ht : P.underlying t = some (.slice e))
    (h : DataW.Trod enc P w 0 (fun _ => true) held t (.slice sa n c) d p) (hw : ∀ x ∈ d.weights P t, x ≤ reachBytes) : n * P.bytesOf e ≤ reachBytes := by
  obtain ⟨fuel, hf⟩ := h
  rcases open_slice ht hf with ⟨hc, _⟩ | ⟨a, len, cap, m, k, D, Pl, hc, _, hl, hm, hmm, hx, hall⟩
  · simp [Value.cells] at hc
    obtain ⟨rfl, rfl, rfl⟩ := hc
    rw [Nat.zero_mul]; exact Nat.zero_le _
  · simp [Value.cells] at hc
    obtain ⟨rfl, rfl, rfl⟩ := hc
    simp only [if_true] at hmm
    subst hmm
    have hd : d = .slice ((List.range n).map D) ((List.range (m - n)).map fun j => D (n + j)) := congrArg Prod.fst hx
    have hmem : (n + (m - n)) * P.bytesOf e ∈ d.weights P t := by
      rw [hd]
      unfold DataW.weights
      rw [ht]
      simp
    have h1 := hw _ hmem
    have h2 : n * P.bytesOf e ≤ (n + (m - n)) * P.bytesOf e := Nat.mul_le_mul_right _ (by omega)
    exact Nat.le_trans h2 h1
/-- A slice has room for what it holds. -/
theorem room_slice {t e : TypeId} {sa : Option Addr} {n c : Nat} {d : DataW H} {p : List MemPlace} (ht : P.underlying t = some (.slice e))
    (h : DataW.Trod enc P w 0 (fun _ => true) held t (.slice sa n c) d p) : n ≤ c := by
  obtain ⟨fuel, hf⟩ := h
  rcases open_slice ht hf with ⟨hc, _⟩ | ⟨a, len, cap, m, k, D, Pl, hc, _, hl, hm, hmm, hx, hall⟩
  · simp [Value.cells] at hc
    obtain ⟨rfl, rfl, rfl⟩ := hc
    exact Nat.le_refl _
  · simp [Value.cells] at hc
    obtain ⟨rfl, rfl, rfl⟩ := hc
    exact hl
/-- A slice of texts: how long each one is, too. -/
theorem open_texts {r : Reach} {b0 : Nat} {t e : TypeId} {v : Value} {d : DataW H} {p : List MemPlace} (ht : P.underlying t = some (.slice e)) (he : P.underlying e = some .string) (ce : P.cellsOf e = 1)
    (hv : Value.okWide P w r b0 t v) (h : DataW.Trod enc P w 0 (fun _ => true) held t v d p) (hw : ∀ x ∈ d.weights P t, x ≤ reachBytes) :
    ∃ (sa : Option Addr) (n c : Nat), v = .slice sa n c ∧ n ≤ maxLen ∧ (n = 0 ∨ ∃ (b o : Nat) (T : Nat → ByteArray), sa = some ⟨b, o, none⟩ ∧ RowZ w b o n T ∧ ∀ i, i < n → (T i).size ≤ reachBytes) := by
  obtain ⟨sa, n, c, rfl⟩ := okWide_slice ht hv
  obtain ⟨fuel, hf⟩ := h
  rcases open_slice ht hf with ⟨hc, _⟩ | ⟨a, len, cap, m, k, D, Pl, hc, _, hl, hm, hmm, hx, hall⟩
  · simp [Value.cells] at hc
    obtain ⟨rfl, rfl, rfl⟩ := hc
    exact ⟨none, 0, 0, rfl, by decide, Or.inl rfl⟩
  · simp [Value.cells] at hc
    obtain ⟨rfl, rfl, rfl⟩ := hc
    simp only [if_true] at hmm
    subst hmm
    refine ⟨some a, n, m, rfl, by omega, ?_⟩
    rcases Nat.eq_zero_or_pos n with h0 | hn
    · exact Or.inl h0
    right
    have each : ∀ i, i < n → ∃ q : ByteArray, w.cell? (a.add i) = some (.string q) ∧ q.size ≤ reachBytes := by
      intro i hi
      obtain ⟨cs, h1, h2⟩ := hall i (by omega)
      rw [ce] at h1
      obtain ⟨_, hlen, hcell⟩ := World.cells?_some h1
      obtain ⟨s, rfl, hs, _⟩ := DataW.trod_string he h2
      have e0 := hcell 0 (by omega)
      refine ⟨s, by simpa [Addr.add, Nat.mul_one] using e0, ?_⟩
      have hd : d = .slice ((List.range n).map D) ((List.range (m - n)).map fun j => D (n + j)) := congrArg Prod.fst hx
      have hD : D i = .lit (.string s.data.toList) := congrArg Prod.fst hs
      have hmem : s.data.toList.length ∈ d.weights P t := by
        rw [hd]
        unfold DataW.weights
        rw [ht]
        refine List.mem_cons_of_mem _ (List.mem_append_left _ (weights_in (d := D i) (List.mem_map.2 ⟨i, List.mem_range.2 hi, rfl⟩) ?_))
        rw [hD]
        unfold DataW.weights
        simp
      have := hw _ hmem
      rw [Array.length_toList] at this
      exact this
    obtain ⟨q, hq⟩ := choose_lt (α := ByteArray) each
    obtain ⟨b, o, spot⟩ := a
    have hspot : spot = none := by simpa [Addr.add] using World.cell?_spot (hq 0 hn).1
    subst hspot
    refine ⟨b, o, q, rfl, ⟨?_, fun i hi => ?_⟩, fun i hi => (hq i hi).2⟩
    · have h1 := (hq 0 hn).1
      rw [Addr.add_lit] at h1; exact World.block_lt_of_cell? _ _ h1
    · have h1 := (hq i hi).1
      rwa [Addr.add_lit] at h1
/-- A slice of ints. -/
theorem open_nums {r : Reach} {b0 : Nat} {t e : TypeId} {v : Value} {d : DataW H} {p : List MemPlace} (ht : P.underlying t = some (.slice e)) (he : P.underlying e = some (.int .i64)) (ce : P.cellsOf e = 1)
    (hv : Value.okWide P w r b0 t v) (h : DataW.Trod enc P w 0 (fun _ => true) held t v d p) :
    ∃ (sa : Option Addr) (n c : Nat), v = .slice sa n c ∧ n ≤ maxLen ∧ (n = 0 ∨ ∃ (b o : Nat) (X : Nat → Int), sa = some ⟨b, o, none⟩ ∧ RowI w b o n X ∧ ∀ i, i < n → (Lit.int .i64 (X i)).wf = true) := by
  obtain ⟨sa, n, c, rfl⟩ := okWide_slice ht hv
  obtain ⟨fuel, hf⟩ := h
  rcases open_slice ht hf with ⟨hc, _⟩ | ⟨a, len, cap, m, k, D, Pl, hc, _, hl, hm, hmm, hx, hall⟩
  · simp [Value.cells] at hc
    obtain ⟨rfl, rfl, rfl⟩ := hc
    exact ⟨none, 0, 0, rfl, by decide, Or.inl rfl⟩
  · simp [Value.cells] at hc
    obtain ⟨rfl, rfl, rfl⟩ := hc
    simp only [if_true] at hmm
    subst hmm
    refine ⟨some a, n, m, rfl, by omega, ?_⟩
    rcases Nat.eq_zero_or_pos n with h0 | hn
    · exact Or.inl h0
    right
    have each : ∀ i, i < n → ∃ q : Int, w.cell? (a.add i) = some (.int .i64 q) ∧ (Lit.int .i64 q).wf = true := by
      intro i hi
      obtain ⟨cs, h1, h2⟩ := hall i (by omega)
      rw [ce] at h1
      obtain ⟨_, hlen, hcell⟩ := World.cells?_some h1
      obtain ⟨s, rfl, hs, ws⟩ := DataW.trod_int he h2
      have e0 := hcell 0 (by omega)
      exact ⟨s, by simpa [Addr.add, Nat.mul_one] using e0, ws⟩
    obtain ⟨q, hq⟩ := choose_lt (α := Int) each
    obtain ⟨b, o, spot⟩ := a
    have hspot : spot = none := by simpa [Addr.add] using World.cell?_spot (hq 0 hn).1
    subst hspot
    refine ⟨b, o, q, rfl, ⟨?_, fun i hi => ?_⟩, fun i hi => (hq i hi).2⟩
    · have h1 := (hq 0 hn).1
      rw [Addr.add_lit] at h1; exact World.block_lt_of_cell? _ _ h1
    · have h1 := (hq i hi).1
      rwa [Addr.add_lit] at h1
theorem cells_two {W : World} {base : Nat} {a : Addr} {cs : List Value} (h : W.cells? base a 2 = some cs) : ∃ v0 v1, cs = [v0, v1] ∧ W.cell? a = some v0 ∧ W.cell? (a.add 1) = some v1 := by
  obtain ⟨_, hlen, hcell⟩ := World.cells?_some h
  match cs, hlen with
  | [v0, v1], _ =>
    have e0 := hcell 0 (by omega)
    have e1 := hcell 1 (by omega)
    exact ⟨v0, v1, rfl, by simpa [Addr.add] using e0, by simpa using e1⟩
/-- A slice of structs of two ints. -/
theorem open_twos {r : Reach} {b0 : Nat} {t e : TypeId} {f0 f1 : Field} {v : Value} {d : DataW H} {p : List MemPlace} (ht : P.underlying t = some (.slice e)) (he : P.underlying e = some (.struct #[f0, f1])) (ce : P.cellsOf e = 2)
    (o0 : f0.offset = 0) (o1 : f1.offset = 1) (c0 : P.cellsOf f0.type = 1) (c1 : P.cellsOf f1.type = 1) (u0 : P.underlying f0.type = some (.int .i64)) (u1 : P.underlying f1.type = some (.int .i64))
    (hv : Value.okWide P w r b0 t v) (h : DataW.Trod enc P w 0 (fun _ => true) held t v d p) :
    ∃ (sa : Option Addr) (n c : Nat), v = .slice sa n c ∧ n ≤ maxLen ∧ (n = 0 ∨ ∃ (b o : Nat) (X Y : Nat → Int), sa = some ⟨b, o, none⟩ ∧ RowP w b o n X Y ∧ ∀ i, i < n → (Lit.int .i64 (X i)).wf = true ∧ (Lit.int .i64 (Y i)).wf = true) := by
  obtain ⟨sa, n, c, rfl⟩ := okWide_slice ht hv
  obtain ⟨fuel, hf⟩ := h
  rcases open_slice ht hf with ⟨hc, _⟩ | ⟨a, len, cap, m, k, D, Pl, hc, _, hl, hm, hmm, hx, hall⟩
  · simp [Value.cells] at hc
    obtain ⟨rfl, rfl, rfl⟩ := hc
    exact ⟨none, 0, 0, rfl, by decide, Or.inl rfl⟩
  · simp [Value.cells] at hc
    obtain ⟨rfl, rfl, rfl⟩ := hc
    simp only [if_true] at hmm
    subst hmm
    refine ⟨some a, n, m, rfl, by omega, ?_⟩
    rcases Nat.eq_zero_or_pos n with h0 | hn
    · exact Or.inl h0
    right
    have each : ∀ i, i < n → ∃ q : Int × Int, w.cell? (a.add (i * 2)) = some (.int .i64 q.1) ∧ w.cell? (a.add (i * 2 + 1)) = some (.int .i64 q.2) ∧ (Lit.int .i64 q.1).wf = true ∧ (Lit.int .i64 q.2).wf = true := by
      intro i hi
      obtain ⟨cs, h1, h2⟩ := hall i (by omega)
      rw [ce] at h1
      obtain ⟨v0, v1, rfl, g0, g1⟩ := cells_two h1
      rw [add_add] at g1
      obtain ⟨xs, k', hk, _, _, hxl, hfd⟩ := DataW.trod_struct he h2
      match xs, hxl with
      | [y0, y1], _ =>
        have q0 := hfd 0 f0 rfl
        have q1 := hfd 1 f1 rfl
        simp [o0, o1, c0, c1] at q0 q1
        obtain ⟨x, e0, _, wx⟩ := DataW.trod_int u0 q0
        obtain ⟨y, e1, _, wy⟩ := DataW.trod_int u1 q1
        simp at e0 e1
        subst e0 e1
        exact ⟨(x, y), g0, g1, wx, wy⟩
    obtain ⟨q, hq⟩ := choose_lt (α := Int × Int) each
    obtain ⟨b, o, spot⟩ := a
    have hspot : spot = none := by simpa [Addr.add] using World.cell?_spot (hq 0 hn).1
    subst hspot
    refine ⟨b, o, fun i => (q i).1, fun i => (q i).2, rfl, ⟨?_, fun i hi => ?_⟩, fun i hi => (hq i hi).2.2⟩
    · have h1 := (hq 0 hn).1
      rw [Addr.add_lit] at h1; exact World.block_lt_of_cell? _ _ h1
    · obtain ⟨h1, h2, _⟩ := hq i hi
      simp only [Addr.add_lit] at h1 h2
      exact ⟨h1, by rw [Nat.add_assoc]; exact h2⟩
end
end Go.Proofs.Ytmijjjdedadklag
