/- stonelaw2.ShareTells answers true, by what its callees answer. -/
import Derived.Test.YtmnhnldnnmpkcafDoorRefShare
import Derived.Test.YtmnhnldnnmpkcafDoorSameRows
import Derived.Test.YtmnhnldnnmpkcafDoorRefSec
import Derived.Test.YtmnhnldnnmpkcafDoorTold
import Derived.Deep.CutRange
import Derived.Deep.CutBlock
namespace Go.Proofs.YtmnhnldnnmpkcafDoor
open Go.RowKit Go.Sort
set_option linter.unusedVariables false
set_option linter.unusedSimpArgs false
theorem hinfo : (Tryd.prog.info? 27).map (fun i => (i.zero, i.size, i.bytes)) = some (some (.agg #[.int .i64 0, .int .i64 0]), 2, 16) := by kernel_rfl
theorem two_new (w : World) (x y : Value) (t : TypeId) : ∀ j u, [x, y][j]? = some u → (w.alloc (.cells #[x, y] t)).cell? ((⟨w.heap.size, 0, none⟩ : Addr).add j) = some u := by
  intro j u hj
  rw [addr_add]
  match j, hj with
  | 0, hj => simp at hj; subst hj; simp
  | 1, hj => simp at hj; subst hj; simp
theorem int_new (w : World) (x : Value) (t : TypeId) : ∀ j u, [x][j]? = some u → (w.alloc (.cells #[x] t)).cell? ((⟨w.heap.size, 0, none⟩ : Addr).add j) = some u := by
  intro j u hj
  rw [addr_add]
  match j, hj with
  | 0, hj => simp at hj; subst hj; simp
/-- Two rows of shares that hold the same, or none of both, are told the same. -/
theorem shares_same {W0 : World} {B1 B2 n : Nat} {e : Int} {u v : Value} {X Y : Nat → Int} (h1 : (e == 0) = true → W0.ownsRow B1 27 2 u n (cellsP X Y n)) (h2 : (e == 0) = false → u = .slice none 0 0) (h3 : (e == 0) = true → W0.ownsRow B2 27 2 v n (cellsP X Y n)) (h4 : (e == 0) = false → v = .slice none 0 0) (hn : (e == 0) = true → n ≤ 1000000) :
    ∀ W, Below W0.heap.size W0 W → Calls Tryd.prog 8 #[u, v] W fun ex w' => ex = .returned (.bool true) ∧ Below W.heap.size W w' := by
  intro W hW
  cases he : e == 0 with
  | false => rw [h2 he, h4 he]; exact sshares_nil none none 0 0 W
  | true =>
    obtain ⟨sa, c, rfl, r1⟩ := own_pairs (h1 he)
    obtain ⟨sb, d, rfl, r2⟩ := own_pairs (h3 he)
    rcases r1 with rfl | ⟨g, rfl, _, _, r1⟩
    · exact sshares_nil sa sb c d W
    · rcases r2 with rfl | ⟨g2, rfl, _, _, r2⟩
      · exact sshares_nil _ sb c d W
      · exact sshares_row g 0 g2 0 n c d X Y W (hn he) (r1.below r1.1 hW) (r2.below r2.1 hW)
theorem ints_same {W0 : World} {B1 B2 n : Nat} {e : Int} {u v : Value} {X : Nat → Int} (h1 : (e == 0) = true → W0.ownsRow B1 3 1 u n (cellsI X n)) (h2 : (e == 0) = false → u = .slice none 0 0) (h3 : (e == 0) = true → W0.ownsRow B2 3 1 v n (cellsI X n)) (h4 : (e == 0) = false → v = .slice none 0 0) (hn : (e == 0) = true → n ≤ 1000000) :
    ∀ W, Below W0.heap.size W0 W → Calls Tryd.prog 12 #[u, v] W fun ex w' => ex = .returned (.bool true) ∧ Below W.heap.size W w' := by
  intro W hW
  cases he : e == 0 with
  | false => rw [h2 he, h4 he]; exact sints_nil none none 0 0 W
  | true =>
    obtain ⟨sa, c, rfl, r1⟩ := own_ints (h1 he)
    obtain ⟨sb, d, rfl, r2⟩ := own_ints (h3 he)
    rcases r1 with rfl | ⟨g, rfl, _, _, r1⟩
    · exact sints_nil sa sb c d W
    · rcases r2 with rfl | ⟨g2, rfl, _, _, r2⟩
      · exact sints_nil _ sb c d W
      · exact sints_row g 0 g2 0 n c d X W (hn he) (r1.below r1.1 hW) (r2.below r2.1 hW)
set_option maxRecDepth 100000 in
set_option maxHeartbeats 16000000 in
theorem stells (z e0 e1 e2 e3 e4 sm : Int) (v1 v2 v4 : Value) (sc sx sl : Option Addr) (m dc p dx q dl n j0 j1 : Nat) (C PX PY WX LX LY WL SM : Nat → Int) (w : World) (hd : Door w) (hm9 : m ≤ 9223372036854775807) (hp9 : p ≤ 9223372036854775807) (hq9 : q ≤ 8796093022000)
    (T1 : (toldI v1 == e1) = true) (T2 : (toldI v2 == e2) = true) (T4 : (toldI v4 == e4) = true)
    (hH0 : (12 < m ∧ e0 = 4) ∨ (¬ 12 < m ∧ (m = 0 ∨ z < 1 ∨ 12 < z) ∧ e0 = 1) ∨ (¬ 12 < m ∧ ¬ m = 0 ∧ ¬ z < 1 ∧ ¬ 12 < z ∧ e0 = 0))
    (hHR1 : (e0 == 0) = true → (m = 0 ∨ ∃ b o : Nat, sc = some ⟨b, o, none⟩ ∧ RowI w b o m C) ∧ m ≤ 12 ∧ j0 ≤ m ∧ (∀ i, i < j0 → (∀ w, Calls Tryd.prog 4 #[.int .i64 (C i)] w fun ex w' => ex = .returned (.bool true) ∧ Below w.heap.size w w')) ∧ ((j0 = m ∧ e1 = 0) ∨ (j0 < m ∧ (∀ w, Calls Tryd.prog 4 #[.int .i64 (C j0)] w fun ex w' => ex = .returned (.bool false) ∧ Below w.heap.size w w') ∧ e1 = 1)))
    (hHR0 : (e0 == 0) = false → e1 = e0)
    (hHV1 : (e1 == 0) = true → z = (n : Int) ∧ 1 ≤ n ∧ n ≤ 12 ∧ (∀ i, i < n → PX i = (i : Int) + 1) ∧ ∀ i, i < n → (∀ W, Below w.heap.size w W → Calls Tryd.prog 5 #[.slice sc m dc, .int .i64 ((i : Int) + 1)] W fun ex w' => ex = .returned (.int .i64 (PY i)) ∧ Below W.heap.size W w'))
    (hHSP : ∀ W, Below w.heap.size w W → Calls Tryd.prog 6 #[.slice sc m dc, .int .i64 z] W fun ex w' => ∃ u, ex = .returned (.tuple #[u, v1]) ∧ ((e1 == 0) = true → w'.ownsRow W.heap.size 27 2 u n (cellsP PX PY n)) ∧ ((e1 == 0) = false → u = .slice none 0 0) ∧ Below W.heap.size W w')
    (hI1 : IsErr v1)
    (hHPX : ∀ W, Below w.heap.size w W → Calls Tryd.prog 9 #[.slice sx p dx] W fun ex w' => ex = .returned (.int .i64 e2) ∧ Below W.heap.size W w')
    (hHWX : (e2 == 0) = true → p ≤ 12 ∧ ∀ W, Below w.heap.size w W → Calls Tryd.prog 10 #[.slice sx p dx] W fun e w' => GivesI W p WX e w')
    (hHSW : ∀ W, Below w.heap.size w W → Calls Tryd.prog 11 #[.slice sx p dx] W fun ex w' => ∃ u, ex = .returned (.tuple #[u, v2]) ∧ ((e2 == 0) = true → w'.ownsRow W.heap.size 3 1 u p (cellsI WX p)) ∧ ((e2 == 0) = false → u = .slice none 0 0) ∧ Below W.heap.size W w')
    (hI2 : IsErr v2)
    (hHLR : (q = 0 ∨ ∃ b o : Nat, sl = some ⟨b, o, none⟩ ∧ RowP w b o q LX LY))
    (hHPL : ∀ W v, Below w.heap.size w W → W.ownsRow w.heap.size 3 1 v q (cellsI LX q) → Calls Tryd.prog 9 #[v] W fun ex w' => ex = .returned (.int .i64 e3) ∧ Below W.heap.size W w')
    (hHR4 : (e3 == 0) = true → q ≤ 12 ∧ j1 ≤ q ∧ (∀ i, i < j1 → (∀ w, Calls Tryd.prog 4 #[.int .i64 (LY i)] w fun ex w' => ex = .returned (.bool true) ∧ Below w.heap.size w w')) ∧ ((j1 = q ∧ e4 = 0) ∨ (j1 < q ∧ (∀ w, Calls Tryd.prog 4 #[.int .i64 (LY j1)] w fun ex w' => ex = .returned (.bool false) ∧ Below w.heap.size w w') ∧ e4 = 1)))
    (hHR40 : (e3 == 0) = false → e4 = e3)
    (hHW4 : (e4 == 0) = true → q ≤ 12 ∧ (∀ W v, Below w.heap.size w W → W.ownsRow w.heap.size 3 1 v q (cellsI LX q) → Calls Tryd.prog 10 #[v] W fun e w' => GivesI W q WL e w') ∧ SM 0 = 0 ∧ SM q = sm ∧ ∀ i, i < q → (SM i + WL i * LY i) % 1013 = SM (i + 1) ∧ 0 ≤ SM i ∧ SM i < 1013 ∧ 0 ≤ WL i * LY i ∧ WL i * LY i ≤ 1100000)
    (hHW40 : (e4 == 0) = false → sm = 0)
    (hHCO : ∀ W, Below w.heap.size w W → Calls Tryd.prog 13 #[.slice sl q dl] W fun ex w' => ex = .returned (.tuple #[.int .i64 sm, v4]) ∧ Below W.heap.size W w')
    (hI4 : IsErr v4)
    : Calls Tryd.prog 3 #[.slice sc m dc, .int .i64 z, .slice sx p dx, .slice sl q dl] w fun e w' => e = .returned (.bool true) ∧ Below w.heap.size w w' := by
  have HD : Hid (Door w) := hd
  have H0 : Hid ((12 < m ∧ e0 = 4) ∨ (¬ 12 < m ∧ (m = 0 ∨ z < 1 ∨ 12 < z) ∧ e0 = 1) ∨ (¬ 12 < m ∧ ¬ m = 0 ∧ ¬ z < 1 ∧ ¬ 12 < z ∧ e0 = 0)) := hH0
  have HR1 : Hid ((e0 == 0) = true → (m = 0 ∨ ∃ b o : Nat, sc = some ⟨b, o, none⟩ ∧ RowI w b o m C) ∧ m ≤ 12 ∧ j0 ≤ m ∧ (∀ i, i < j0 → (∀ w, Calls Tryd.prog 4 #[.int .i64 (C i)] w fun ex w' => ex = .returned (.bool true) ∧ Below w.heap.size w w')) ∧ ((j0 = m ∧ e1 = 0) ∨ (j0 < m ∧ (∀ w, Calls Tryd.prog 4 #[.int .i64 (C j0)] w fun ex w' => ex = .returned (.bool false) ∧ Below w.heap.size w w') ∧ e1 = 1))) := hHR1
  have HR0 : Hid ((e0 == 0) = false → e1 = e0) := hHR0
  have HV1 : Hid ((e1 == 0) = true → z = (n : Int) ∧ 1 ≤ n ∧ n ≤ 12 ∧ (∀ i, i < n → PX i = (i : Int) + 1) ∧ ∀ i, i < n → (∀ W, Below w.heap.size w W → Calls Tryd.prog 5 #[.slice sc m dc, .int .i64 ((i : Int) + 1)] W fun ex w' => ex = .returned (.int .i64 (PY i)) ∧ Below W.heap.size W w')) := hHV1
  have HSP : Hid (∀ W, Below w.heap.size w W → Calls Tryd.prog 6 #[.slice sc m dc, .int .i64 z] W fun ex w' => ∃ u, ex = .returned (.tuple #[u, v1]) ∧ ((e1 == 0) = true → w'.ownsRow W.heap.size 27 2 u n (cellsP PX PY n)) ∧ ((e1 == 0) = false → u = .slice none 0 0) ∧ Below W.heap.size W w') := hHSP
  have I1 : Hid (IsErr v1) := hI1
  have HPX : Hid (∀ W, Below w.heap.size w W → Calls Tryd.prog 9 #[.slice sx p dx] W fun ex w' => ex = .returned (.int .i64 e2) ∧ Below W.heap.size W w') := hHPX
  have HWX : Hid ((e2 == 0) = true → p ≤ 12 ∧ ∀ W, Below w.heap.size w W → Calls Tryd.prog 10 #[.slice sx p dx] W fun e w' => GivesI W p WX e w') := hHWX
  have HSW : Hid (∀ W, Below w.heap.size w W → Calls Tryd.prog 11 #[.slice sx p dx] W fun ex w' => ∃ u, ex = .returned (.tuple #[u, v2]) ∧ ((e2 == 0) = true → w'.ownsRow W.heap.size 3 1 u p (cellsI WX p)) ∧ ((e2 == 0) = false → u = .slice none 0 0) ∧ Below W.heap.size W w') := hHSW
  have I2 : Hid (IsErr v2) := hI2
  have HLR : Hid ((q = 0 ∨ ∃ b o : Nat, sl = some ⟨b, o, none⟩ ∧ RowP w b o q LX LY)) := hHLR
  have HPL : Hid (∀ W v, Below w.heap.size w W → W.ownsRow w.heap.size 3 1 v q (cellsI LX q) → Calls Tryd.prog 9 #[v] W fun ex w' => ex = .returned (.int .i64 e3) ∧ Below W.heap.size W w') := hHPL
  have HR4 : Hid ((e3 == 0) = true → q ≤ 12 ∧ j1 ≤ q ∧ (∀ i, i < j1 → (∀ w, Calls Tryd.prog 4 #[.int .i64 (LY i)] w fun ex w' => ex = .returned (.bool true) ∧ Below w.heap.size w w')) ∧ ((j1 = q ∧ e4 = 0) ∨ (j1 < q ∧ (∀ w, Calls Tryd.prog 4 #[.int .i64 (LY j1)] w fun ex w' => ex = .returned (.bool false) ∧ Below w.heap.size w w') ∧ e4 = 1))) := hHR4
  have HR40 : Hid ((e3 == 0) = false → e4 = e3) := hHR40
  have HW4 : Hid ((e4 == 0) = true → q ≤ 12 ∧ (∀ W v, Below w.heap.size w W → W.ownsRow w.heap.size 3 1 v q (cellsI LX q) → Calls Tryd.prog 10 #[v] W fun e w' => GivesI W q WL e w') ∧ SM 0 = 0 ∧ SM q = sm ∧ ∀ i, i < q → (SM i + WL i * LY i) % 1013 = SM (i + 1) ∧ 0 ≤ SM i ∧ SM i < 1013 ∧ 0 ≤ WL i * LY i ∧ WL i * LY i ≤ 1100000) := hHW4
  have HW40 : Hid ((e4 == 0) = false → sm = 0) := hHW40
  have HCO : Hid (∀ W, Below w.heap.size w W → Calls Tryd.prog 13 #[.slice sl q dl] W fun ex w' => ex = .returned (.tuple #[.int .i64 sm, v4]) ∧ Below W.heap.size W w') := hHCO
  have I4 : Hid (IsErr v4) := hI4
  clear hd hH0 hHR1 hHR0 hHV1 hHSP hI1 hHPX hHWX hHSW hI2 hHLR hHPL hHR4 hHR40 hHW4 hHW40 hHCO hI4
  obtain ⟨i0, hi, hv0, hv1, hv2⟩ := info_parts iinfo
  obtain ⟨g0, hg, hu0, hu1, hu2⟩ := info_parts hinfo
  have m1 : True := trivial; have m2 : True := trivial; have m3 : True := trivial; have m4 : True := trivial; have m5 : True := trivial; have m6 : True := trivial; have m7 : True := trivial; have m8 : True := trivial; have m9 : True := trivial; have m10 : True := trivial; have m11 : True := trivial; have m12 : True := trivial
  go_enter Tryd.func3, Tryd.ntmps3
  go_upto_if 31 with fail
  go_cut [9] from 29 to 42 (fun t9 wx => t9 = .int .i64 e0 ∧ Below w.heap.size w wx)
  case first => as_aux_lemma =>
    rcases H0.out with ⟨h1, h2⟩ | ⟨h1, h3, h2⟩ | ⟨h1, h3, h4, h5, h2⟩
    · have h1' : (m : Int) > 12 := by omega
      subst h2
      go_wp2_with fail
      go_meet
      case rel => exact ⟨rfl, by repeat (first | (with_reducible exact Below.refl _ _) | (with_reducible assumption) | (with_reducible refine Below.setCell ?_ (by first | (simp; done) | (simp; omega) | omega) _) | (with_reducible refine Below.alloc ?_ (by first | (simp; done) | (simp; omega) | omega) _) | (refine bl_call ?_ (by assumption) (by first | (simp; done) | (simp; omega) | omega)) | (with_reducible refine bl_drewN ?_) | (with_reducible refine Below.drew ?_) | (with_reducible refine bl_grow ?_ (by first | (simp; done) | (simp; omega) | omega)))⟩
    · have h1' : ¬ (m : Int) > 12 := by omega
      subst h2
      by_cases g1 : m = 0
      · have g1' : ((m : Int) == 0) = true := by rw [g1]; rfl
        clear h3 g1
        go_wp2_with fail
        go_meet
        case rel => exact ⟨rfl, by repeat (first | (with_reducible exact Below.refl _ _) | (with_reducible assumption) | (with_reducible refine Below.setCell ?_ (by first | (simp; done) | (simp; omega) | omega) _) | (with_reducible refine Below.alloc ?_ (by first | (simp; done) | (simp; omega) | omega) _) | (refine bl_call ?_ (by assumption) (by first | (simp; done) | (simp; omega) | omega)) | (with_reducible refine bl_drewN ?_) | (with_reducible refine Below.drew ?_) | (with_reducible refine bl_grow ?_ (by first | (simp; done) | (simp; omega) | omega)))⟩
      · have g1' : ((m : Int) == 0) = false := by rw [beq_eq_false_iff_ne]; omega
        by_cases g2 : z < 1
        · clear h3
          go_wp2_with fail
          go_meet
          case rel => exact ⟨rfl, by repeat (first | (with_reducible exact Below.refl _ _) | (with_reducible assumption) | (with_reducible refine Below.setCell ?_ (by first | (simp; done) | (simp; omega) | omega) _) | (with_reducible refine Below.alloc ?_ (by first | (simp; done) | (simp; omega) | omega) _) | (refine bl_call ?_ (by assumption) (by first | (simp; done) | (simp; omega) | omega)) | (with_reducible refine bl_drewN ?_) | (with_reducible refine Below.drew ?_) | (with_reducible refine bl_grow ?_ (by first | (simp; done) | (simp; omega) | omega)))⟩
        · have g3 : z > 12 := by omega
          clear h3
          go_wp2_with fail
          go_meet
          case rel => exact ⟨rfl, by repeat (first | (with_reducible exact Below.refl _ _) | (with_reducible assumption) | (with_reducible refine Below.setCell ?_ (by first | (simp; done) | (simp; omega) | omega) _) | (with_reducible refine Below.alloc ?_ (by first | (simp; done) | (simp; omega) | omega) _) | (refine bl_call ?_ (by assumption) (by first | (simp; done) | (simp; omega) | omega)) | (with_reducible refine bl_drewN ?_) | (with_reducible refine Below.drew ?_) | (with_reducible refine bl_grow ?_ (by first | (simp; done) | (simp; omega) | omega)))⟩
    · have h1' : ¬ (m : Int) > 12 := by omega
      have g1' : ((m : Int) == 0) = false := by rw [beq_eq_false_iff_ne]; omega
      have h5' : ¬ z > 12 := by omega
      subst h2
      go_wp2_with fail
      go_meet
      case rel => exact ⟨rfl, by repeat (first | (with_reducible exact Below.refl _ _) | (with_reducible assumption) | (with_reducible refine Below.setCell ?_ (by first | (simp; done) | (simp; omega) | omega) _) | (with_reducible refine Below.alloc ?_ (by first | (simp; done) | (simp; omega) | omega) _) | (refine bl_call ?_ (by assumption) (by first | (simp; done) | (simp; omega) | omega)) | (with_reducible refine bl_drewN ?_) | (with_reducible refine Below.drew ?_) | (with_reducible refine bl_grow ?_ (by first | (simp; done) | (simp; omega) | omega)))⟩
  case rest =>
  obtain ⟨rfl, hqwc⟩ := hcut
  have hzwc := hqwc.size
  go_upto_block 0 with fail
  go_cut [9] from 29 to 59 (fun t9 wx => t9 = .int .i64 e1 ∧ Below w.heap.size w wx)
  case first => as_aux_lemma =>
    cases he : e0 == 0 with
    | false =>
      have hx : Hid (e1 = e0) := HR0.out he
      go_wp2_with fail
      go_loopw [9, 10] (fun te ti wl => te = .int .i64 e0 ∧ ti = .int .i64 0 ∧ Below w.heap.size w wl) (fun _ _ _ => 0)
      case atStart => exact ⟨rfl, rfl, by repeat (first | (with_reducible exact Below.refl _ _) | (with_reducible assumption) | (with_reducible refine Below.setCell ?_ (by first | (simp; done) | (simp; omega) | omega) _) | (with_reducible refine Below.alloc ?_ (by first | (simp; done) | (simp; omega) | omega) _) | (refine bl_call ?_ (by assumption) (by first | (simp; done) | (simp; omega) | omega)) | (with_reducible refine bl_drewN ?_) | (with_reducible refine Below.drew ?_) | (with_reducible refine bl_grow ?_ (by first | (simp; done) | (simp; omega) | omega)))⟩
      case round =>
        obtain ⟨rfl, rfl, hqV⟩ := hrel
        have hzV := hqV.size
        by_cases hlt : 0 < m
        · have hlt' : (0 : Int) < (m : Int) := by omega
          go_wp2_with fail
          go_meet
          case rel => exact ⟨by rw [hx.out], by repeat (first | (with_reducible exact Below.refl _ _) | (with_reducible assumption) | (with_reducible refine Below.setCell ?_ (by first | (simp; done) | (simp; omega) | omega) _) | (with_reducible refine Below.alloc ?_ (by first | (simp; done) | (simp; omega) | omega) _) | (refine bl_call ?_ (by assumption) (by first | (simp; done) | (simp; omega) | omega)) | (with_reducible refine bl_drewN ?_) | (with_reducible refine Below.drew ?_) | (with_reducible refine bl_grow ?_ (by first | (simp; done) | (simp; omega) | omega)))⟩
        · have hlt' : ¬ (0 : Int) < (m : Int) := by omega
          go_wp2_with fail
          go_meet
          case rel => exact ⟨by rw [hx.out], by repeat (first | (with_reducible exact Below.refl _ _) | (with_reducible assumption) | (with_reducible refine Below.setCell ?_ (by first | (simp; done) | (simp; omega) | omega) _) | (with_reducible refine Below.alloc ?_ (by first | (simp; done) | (simp; omega) | omega) _) | (refine bl_call ?_ (by assumption) (by first | (simp; done) | (simp; omega) | omega)) | (with_reducible refine bl_drewN ?_) | (with_reducible refine Below.drew ?_) | (with_reducible refine bl_grow ?_ (by first | (simp; done) | (simp; omega) | omega)))⟩
    | true =>
      obtain ⟨hr, hm12, hj, hok, hend⟩ := HR1.out he
      have HRC : Hid ((m = 0 ∨ ∃ b o : Nat, sc = some ⟨b, o, none⟩ ∧ RowI w b o m C)) := hr
      have HOK : Hid (∀ i, i < j0 → (∀ w, Calls Tryd.prog 4 #[.int .i64 (C i)] w fun ex w' => ex = .returned (.bool true) ∧ Below w.heap.size w w')) := hok
      have HEN : Hid ((j0 = m ∧ e1 = 0) ∨ (j0 < m ∧ (∀ w, Calls Tryd.prog 4 #[.int .i64 (C j0)] w fun ex w' => ex = .returned (.bool false) ∧ Below w.heap.size w w') ∧ e1 = 1)) := hend
      have hec : e0 = 0 := by simpa using he
      clear hr hok hend
      subst hec
      go_wp2_with fail
      go_loopw [9, 10] (fun te ti wl => ∃ k : Nat, ti = .int .i64 k ∧ ((k ≤ j0 ∧ te = .int .i64 0) ∨ (k = j0 + 1 ∧ j0 < m ∧ te = .int .i64 1)) ∧ Below w.heap.size w wl) (fun _ ti _ => m + 1 - (intOf ti).toNat)
      case atStart => exact ⟨0, rfl, Or.inl ⟨by omega, rfl⟩, by repeat (first | (with_reducible exact Below.refl _ _) | (with_reducible assumption) | (with_reducible refine Below.setCell ?_ (by first | (simp; done) | (simp; omega) | omega) _) | (with_reducible refine Below.alloc ?_ (by first | (simp; done) | (simp; omega) | omega) _) | (refine bl_call ?_ (by assumption) (by first | (simp; done) | (simp; omega) | omega)) | (with_reducible refine bl_drewN ?_) | (with_reducible refine Below.drew ?_) | (with_reducible refine bl_grow ?_ (by first | (simp; done) | (simp; omega) | omega)))⟩
      case round =>
        obtain ⟨k, rfl, hst, hqV⟩ := hrel
        have hzV := hqV.size
        rcases hst with ⟨hk, rfl⟩ | ⟨rfl, hk, rfl⟩
        · by_cases hlt : k < m
          · have hlt' : (k : Int) < (m : Int) := by omega
            obtain ⟨b, o, rfl, hz⟩ := HRC.out.resolve_left (by omega)
            have hbV := Nat.lt_of_lt_of_le hz.1 hzV
            have c0 := (hqV.cell (p := ⟨b, o + k, none⟩) hz.1).trans (hz.2 k hlt)
            clear hz
            by_cases hkj : k < j0
            · have HK : Hid (∀ w, Calls Tryd.prog 4 #[.int .i64 (C k)] w fun ex w' => ex = .returned (.bool true) ∧ Below w.heap.size w w') := HOK.out k hkj
              go_wp2_with (go_at_call 4; refine (HK.out _).mono ?_; rintro e w3 ⟨rfl, hb3⟩; have hq3 : Below w.heap.size w w3 := (by repeat (first | (with_reducible exact Below.refl _ _) | (with_reducible assumption) | (with_reducible refine Below.setCell ?_ (by first | (simp; done) | (simp; omega) | omega) _) | (with_reducible refine Below.alloc ?_ (by first | (simp; done) | (simp; omega) | omega) _) | (refine bl_call ?_ (by assumption) (by first | (simp; done) | (simp; omega) | omega)) | (with_reducible refine bl_drewN ?_) | (with_reducible refine Below.drew ?_) | (with_reducible refine bl_grow ?_ (by first | (simp; done) | (simp; omega) | omega)))); have hz3 := hq3.size; clear hb3)
              go_roundw
              case rel => exact ⟨k + 1, by simp, Or.inl ⟨by omega, rfl⟩, by repeat (first | (with_reducible exact Below.refl _ _) | (with_reducible assumption) | (with_reducible refine Below.setCell ?_ (by first | (simp; done) | (simp; omega) | omega) _) | (with_reducible refine Below.alloc ?_ (by first | (simp; done) | (simp; omega) | omega) _) | (refine bl_call ?_ (by assumption) (by first | (simp; done) | (simp; omega) | omega)) | (with_reducible refine bl_drewN ?_) | (with_reducible refine Below.drew ?_) | (with_reducible refine bl_grow ?_ (by first | (simp; done) | (simp; omega) | omega)))⟩
              case measure => simp [intOf]; omega
            · have HKJ : Hid (k = j0) := by unfold Hid; omega
              have HK : Hid (∀ w, Calls Tryd.prog 4 #[.int .i64 (C k)] w fun ex w' => ex = .returned (.bool false) ∧ Below w.heap.size w w') := by
                unfold Hid
                rw [HKJ.out]
                rcases HEN.out with h | h
                · exfalso; have := HKJ.out; omega
                · exact h.2.1
              go_wp2_with (go_at_call 4; refine (HK.out _).mono ?_; rintro e w3 ⟨rfl, hb3⟩; have hq3 : Below w.heap.size w w3 := (by repeat (first | (with_reducible exact Below.refl _ _) | (with_reducible assumption) | (with_reducible refine Below.setCell ?_ (by first | (simp; done) | (simp; omega) | omega) _) | (with_reducible refine Below.alloc ?_ (by first | (simp; done) | (simp; omega) | omega) _) | (refine bl_call ?_ (by assumption) (by first | (simp; done) | (simp; omega) | omega)) | (with_reducible refine bl_drewN ?_) | (with_reducible refine Below.drew ?_) | (with_reducible refine bl_grow ?_ (by first | (simp; done) | (simp; omega) | omega)))); have hz3 := hq3.size; clear hb3)
              go_roundw
              case rel => exact ⟨k + 1, by simp, Or.inr ⟨by have := HKJ.out; omega, by have := HKJ.out; omega, rfl⟩, by repeat (first | (with_reducible exact Below.refl _ _) | (with_reducible assumption) | (with_reducible refine Below.setCell ?_ (by first | (simp; done) | (simp; omega) | omega) _) | (with_reducible refine Below.alloc ?_ (by first | (simp; done) | (simp; omega) | omega) _) | (refine bl_call ?_ (by assumption) (by first | (simp; done) | (simp; omega) | omega)) | (with_reducible refine bl_drewN ?_) | (with_reducible refine Below.drew ?_) | (with_reducible refine bl_grow ?_ (by first | (simp; done) | (simp; omega) | omega)))⟩
              case measure => simp [intOf]; omega
          · have hlt' : ¬ (k : Int) < (m : Int) := by omega
            have hed : Hid (e1 = 0) := by
              unfold Hid
              rcases HEN.out with h | h
              · exact h.2
              · omega
            go_wp2_with fail
            go_meet
            case rel => exact ⟨by rw [hed.out], by repeat (first | (with_reducible exact Below.refl _ _) | (with_reducible assumption) | (with_reducible refine Below.setCell ?_ (by first | (simp; done) | (simp; omega) | omega) _) | (with_reducible refine Below.alloc ?_ (by first | (simp; done) | (simp; omega) | omega) _) | (refine bl_call ?_ (by assumption) (by first | (simp; done) | (simp; omega) | omega)) | (with_reducible refine bl_drewN ?_) | (with_reducible refine Below.drew ?_) | (with_reducible refine bl_grow ?_ (by first | (simp; done) | (simp; omega) | omega)))⟩
        · have hed : Hid (e1 = 1) := by
            unfold Hid
            rcases HEN.out with h | h
            · omega
            · exact h.2.2
          by_cases hlt : j0 + 1 < m
          · have hlt' : ((j0 + 1 : Nat) : Int) < (m : Int) := by omega
            go_wp2_with fail
            go_meet
            case rel => exact ⟨by rw [hed.out], by repeat (first | (with_reducible exact Below.refl _ _) | (with_reducible assumption) | (with_reducible refine Below.setCell ?_ (by first | (simp; done) | (simp; omega) | omega) _) | (with_reducible refine Below.alloc ?_ (by first | (simp; done) | (simp; omega) | omega) _) | (refine bl_call ?_ (by assumption) (by first | (simp; done) | (simp; omega) | omega)) | (with_reducible refine bl_drewN ?_) | (with_reducible refine Below.drew ?_) | (with_reducible refine bl_grow ?_ (by first | (simp; done) | (simp; omega) | omega)))⟩
          · have hlt' : ¬ ((j0 + 1 : Nat) : Int) < (m : Int) := by omega
            go_wp2_with fail
            go_meet
            case rel => exact ⟨by rw [hed.out], by repeat (first | (with_reducible exact Below.refl _ _) | (with_reducible assumption) | (with_reducible refine Below.setCell ?_ (by first | (simp; done) | (simp; omega) | omega) _) | (with_reducible refine Below.alloc ?_ (by first | (simp; done) | (simp; omega) | omega) _) | (refine bl_call ?_ (by assumption) (by first | (simp; done) | (simp; omega) | omega)) | (with_reducible refine bl_drewN ?_) | (with_reducible refine Below.drew ?_) | (with_reducible refine bl_grow ?_ (by first | (simp; done) | (simp; omega) | omega)))⟩
  case rest =>
  clear hqwc
  obtain ⟨rfl, hqwc⟩ := hcut
  have hzwc := hqwc.size
  go_upto_block 2 with fail
  go_cut [12] from 29 to 77 (fun t12 wx => ((e1 == 0) = true → wx.ownsRow w.heap.size 27 2 t12 n (cellsP PX PY n)) ∧ ((e1 == 0) = false → t12 = .slice none 0 0) ∧ Below w.heap.size w wx)
  case first => as_aux_lemma =>
    cases he : e1 == 0 with
    | false =>
      have HNE : Hid (∀ (Q : Prop), (e1 == 0) = true → Q) := fun Q h => by rw [he] at h; cases h
      go_wp2_with fail
      go_loopw [12, 13] (fun tv ti wl => tv = .slice none 0 0 ∧ ti = .int .i64 1 ∧ Below w.heap.size w wl) (fun _ _ _ => 0)
      case atStart => exact ⟨rfl, rfl, by repeat (first | (with_reducible exact Below.refl _ _) | (with_reducible assumption) | (with_reducible refine Below.setCell ?_ (by first | (simp; done) | (simp; omega) | omega) _) | (with_reducible refine Below.alloc ?_ (by first | (simp; done) | (simp; omega) | omega) _) | (refine bl_call ?_ (by assumption) (by first | (simp; done) | (simp; omega) | omega)) | (with_reducible refine bl_drewN ?_) | (with_reducible refine Below.drew ?_) | (with_reducible refine bl_grow ?_ (by first | (simp; done) | (simp; omega) | omega)))⟩
      case round =>
        obtain ⟨rfl, rfl, hqV⟩ := hrel
        have hzV := hqV.size
        by_cases hlt : 1 ≤ z
        · go_wp2_with fail
          go_meet
          case rel => exact ⟨fun h => HNE.out _ h, fun _ => rfl, by repeat (first | (with_reducible exact Below.refl _ _) | (with_reducible assumption) | (with_reducible refine Below.setCell ?_ (by first | (simp; done) | (simp; omega) | omega) _) | (with_reducible refine Below.alloc ?_ (by first | (simp; done) | (simp; omega) | omega) _) | (refine bl_call ?_ (by assumption) (by first | (simp; done) | (simp; omega) | omega)) | (with_reducible refine bl_drewN ?_) | (with_reducible refine Below.drew ?_) | (with_reducible refine bl_grow ?_ (by first | (simp; done) | (simp; omega) | omega)))⟩
        · go_wp2_with fail
          go_meet
          case rel => exact ⟨fun h => HNE.out _ h, fun _ => rfl, by repeat (first | (with_reducible exact Below.refl _ _) | (with_reducible assumption) | (with_reducible refine Below.setCell ?_ (by first | (simp; done) | (simp; omega) | omega) _) | (with_reducible refine Below.alloc ?_ (by first | (simp; done) | (simp; omega) | omega) _) | (refine bl_call ?_ (by assumption) (by first | (simp; done) | (simp; omega) | omega)) | (with_reducible refine bl_drewN ?_) | (with_reducible refine Below.drew ?_) | (with_reducible refine bl_grow ?_ (by first | (simp; done) | (simp; omega) | omega)))⟩
    | true =>
      obtain ⟨hz, hn1, hn12, hpx, hval⟩ := HV1.out he
      have HPX1 : Hid (∀ i, i < n → PX i = (i : Int) + 1) := hpx
      have HVL : Hid (∀ i, i < n → (∀ W, Below w.heap.size w W → Calls Tryd.prog 5 #[.slice sc m dc, .int .i64 ((i : Int) + 1)] W fun ex w' => ex = .returned (.int .i64 (PY i)) ∧ Below W.heap.size W w')) := hval
      have HNE : Hid (∀ (Q : Prop), (e1 == 0) = false → Q) := fun Q h => by rw [he] at h; cases h
      have hec : e1 = 0 := by simpa using he
      clear hpx hval
      subst hec hz
      go_wp2_with fail
      go_loopw [12, 13] (fun tv ti wl => ∃ k : Nat, k ≤ n ∧ ti = .int .i64 ((k : Int) + 1) ∧ wl.ownsRow w.heap.size 27 2 tv k (cellsP PX PY k) ∧ Below w.heap.size w wl) (fun _ ti _ => n + 1 - (intOf ti).toNat)
      case atStart => exact ⟨0, by omega, rfl, World.ownsRow_nil _ _ _ _, by repeat (first | (with_reducible exact Below.refl _ _) | (with_reducible assumption) | (with_reducible refine Below.setCell ?_ (by first | (simp; done) | (simp; omega) | omega) _) | (with_reducible refine Below.alloc ?_ (by first | (simp; done) | (simp; omega) | omega) _) | (refine bl_call ?_ (by assumption) (by first | (simp; done) | (simp; omega) | omega)) | (with_reducible refine bl_drewN ?_) | (with_reducible refine Below.drew ?_) | (with_reducible refine bl_grow ?_ (by first | (simp; done) | (simp; omega) | omega)))⟩
      case round =>
        obtain ⟨k, hk, rfl, hown, hqV⟩ := hrel
        have hzV := hqV.size
        by_cases hlt : k < n
        · have hlt' : (k : Int) + 1 ≤ (n : Int) := by omega
          have HVK : Hid (∀ W, Below w.heap.size w W → Calls Tryd.prog 5 #[.slice sc m dc, .int .i64 ((k : Int) + 1)] W fun ex w' => ex = .returned (.int .i64 (PY k)) ∧ Below W.heap.size W w') := HVL.out k hlt
          go_wp2_with (first | (go_at_call 5; refine (HVK.out _ (by repeat (first | (with_reducible exact Below.refl _ _) | (with_reducible assumption) | (with_reducible refine Below.setCell ?_ (by first | (simp; done) | (simp; omega) | omega) _) | (with_reducible refine Below.alloc ?_ (by first | (simp; done) | (simp; omega) | omega) _) | (refine bl_call ?_ (by assumption) (by first | (simp; done) | (simp; omega) | omega)) | (with_reducible refine bl_drewN ?_) | (with_reducible refine Below.drew ?_) | (with_reducible refine bl_grow ?_ (by first | (simp; done) | (simp; omega) | omega))))).mono ?_; rintro e w3 ⟨rfl, hb3⟩; have hq3 : Below w.heap.size w w3 := (by repeat (first | (with_reducible exact Below.refl _ _) | (with_reducible assumption) | (with_reducible refine Below.setCell ?_ (by first | (simp; done) | (simp; omega) | omega) _) | (with_reducible refine Below.alloc ?_ (by first | (simp; done) | (simp; omega) | omega) _) | (refine bl_call ?_ (by assumption) (by first | (simp; done) | (simp; omega) | omega)) | (with_reducible refine bl_drewN ?_) | (with_reducible refine Below.drew ?_) | (with_reducible refine bl_grow ?_ (by first | (simp; done) | (simp; omega) | omega)))); have hz3 := hq3.size; have ho3 := own_stay hown hb3; have hs3 := hb3.size; clear hb3) | (at_builtin; refine wpList_append_own_at _ rfl _ _ 23 rfl w.heap.size 27 g0 (.agg #[.int .i64 0, .int .i64 0]) 2 16 Tryd.underlying23 hg hu0 hu1 hu2 rfl (by decide) _ _ _ rfl (ho3.alloc _) ⟨w3.heap.size, 0, none⟩ 1 1 [.int .i64 ((k : Int) + 1), .int .i64 (PY k)] rfl rfl ?c1 ?c2 ?c3 ?c4 ?c5 ?_))
          case c1 => exact two_new _ _ _ _
          case c2 => intro u hu; simp at hu; rcases hu with rfl | rfl <;> rfl
          case c3 => unfold maxLen; omega
          case c4 => omega
          case c5 => simp; omega
          · intro v' w4 hown' hgrow _ hat
            have hq4 : Below w.heap.size w w4 := grown_under (B := w.heap.size) (by repeat (first | (with_reducible exact Below.refl _ _) | (with_reducible assumption) | (with_reducible refine Below.setCell ?_ (by first | (simp; done) | (simp; omega) | omega) _) | (with_reducible refine Below.alloc ?_ (by first | (simp; done) | (simp; omega) | omega) _) | (refine bl_call ?_ (by assumption) (by first | (simp; done) | (simp; omega) | omega)) | (with_reducible refine bl_drewN ?_) | (with_reducible refine Below.drew ?_) | (with_reducible refine bl_grow ?_ (by first | (simp; done) | (simp; omega) | omega)))) (ho3.alloc _) hgrow (by simp; omega) (Nat.le_refl _)
            have hz4 := hq4.size
            rw [← HPX1.out k hlt, ← cellsP_succ] at hown'
            clear hgrow hat ho3 hq3
            go_wp2_with fail
            go_roundw
            case rel => exact ⟨k + 1, by omega, by simp, hown', hq4⟩
            case measure => simp [intOf]; omega
        · have hlt' : ¬ (k : Int) + 1 ≤ (n : Int) := by omega
          have HKN : Hid (k = n) := by unfold Hid; omega
          go_wp2_with fail
          go_meet
          case rel => exact ⟨fun _ => HKN.out ▸ hown, fun h => HNE.out _ h, by repeat (first | (with_reducible exact Below.refl _ _) | (with_reducible assumption) | (with_reducible refine Below.setCell ?_ (by first | (simp; done) | (simp; omega) | omega) _) | (with_reducible refine Below.alloc ?_ (by first | (simp; done) | (simp; omega) | omega) _) | (refine bl_call ?_ (by assumption) (by first | (simp; done) | (simp; omega) | omega)) | (with_reducible refine bl_drewN ?_) | (with_reducible refine Below.drew ?_) | (with_reducible refine bl_grow ?_ (by first | (simp; done) | (simp; omega) | omega)))⟩
  case rest =>
  clear hqwc
  obtain ⟨hw1, hw2, hqwc⟩ := hcut
  have hzwc := hqwc.size
  have HWA : Hid (((e1 == 0) = true → wc.ownsRow w.heap.size 27 2 u12 n (cellsP PX PY n)) ∧ ((e1 == 0) = false → u12 = .slice none 0 0)) := ⟨hw1, hw2⟩
  clear hw1 hw2
  go_upto_if 95 with (first | (go_at_call 6; clear m1; refine (HSP.out _ (by repeat (first | (with_reducible exact Below.refl _ _) | (with_reducible assumption) | (with_reducible refine Below.setCell ?_ (by first | (simp; done) | (simp; omega) | omega) _) | (with_reducible refine Below.alloc ?_ (by first | (simp; done) | (simp; omega) | omega) _) | (refine bl_call ?_ (by assumption) (by first | (simp; done) | (simp; omega) | omega)) | (with_reducible refine bl_drewN ?_) | (with_reducible refine Below.drew ?_) | (with_reducible refine bl_grow ?_ (by first | (simp; done) | (simp; omega) | omega))))).mono ?_; rintro e w5 ⟨u5, rfl, hs1, hs2, hb5⟩; have hq5 : Below w.heap.size w w5 := (by repeat (first | (with_reducible exact Below.refl _ _) | (with_reducible assumption) | (with_reducible refine Below.setCell ?_ (by first | (simp; done) | (simp; omega) | omega) _) | (with_reducible refine Below.alloc ?_ (by first | (simp; done) | (simp; omega) | omega) _) | (refine bl_call ?_ (by assumption) (by first | (simp; done) | (simp; omega) | omega)) | (with_reducible refine bl_drewN ?_) | (with_reducible refine Below.drew ?_) | (with_reducible refine bl_grow ?_ (by first | (simp; done) | (simp; omega) | omega)))); have hz5 := hq5.size; have HSH : Hid (∀ W, Below w5.heap.size w5 W → Calls Tryd.prog 8 #[u5, u12] W fun ex w' => ex = .returned (.bool true) ∧ Below W.heap.size W w') := shares_same (fun h => hs1 h) hs2 (fun h => own_stay (HWA.out.1 h) hb5) HWA.out.2 (fun h => by have := HV1.out h; omega); clear hs1 hs2 hb5) | (go_at_call 7; clear m2; refine (same_below _ _ _ (I1.out) (HD.out.under (by repeat (first | (with_reducible exact Below.refl _ _) | (with_reducible assumption) | (with_reducible refine Below.setCell ?_ (by first | (simp; done) | (simp; omega) | omega) _) | (with_reducible refine Below.alloc ?_ (by first | (simp; done) | (simp; omega) | omega) _) | (refine bl_call ?_ (by assumption) (by first | (simp; done) | (simp; omega) | omega)) | (with_reducible refine bl_drewN ?_) | (with_reducible refine Below.drew ?_) | (with_reducible refine bl_grow ?_ (by first | (simp; done) | (simp; omega) | omega)))))).mono ?_; rintro e w6 ⟨rfl, hb6⟩; have hq6 : Below w.heap.size w w6 := (by repeat (first | (with_reducible exact Below.refl _ _) | (with_reducible assumption) | (with_reducible refine Below.setCell ?_ (by first | (simp; done) | (simp; omega) | omega) _) | (with_reducible refine Below.alloc ?_ (by first | (simp; done) | (simp; omega) | omega) _) | (refine bl_call ?_ (by assumption) (by first | (simp; done) | (simp; omega) | omega)) | (with_reducible refine bl_drewN ?_) | (with_reducible refine Below.drew ?_) | (with_reducible refine bl_grow ?_ (by first | (simp; done) | (simp; omega) | omega)))); have hz6 := hq6.size; have hc6 := hb6; clear hb6) | (go_at_call 8; clear m3; refine (HSH.out _ hc6).mono ?_; rintro e w7 ⟨rfl, hb7⟩; have hq7 : Below w.heap.size w w7 := (by repeat (first | (with_reducible exact Below.refl _ _) | (with_reducible assumption) | (with_reducible refine Below.setCell ?_ (by first | (simp; done) | (simp; omega) | omega) _) | (with_reducible refine Below.alloc ?_ (by first | (simp; done) | (simp; omega) | omega) _) | (refine bl_call ?_ (by assumption) (by first | (simp; done) | (simp; omega) | omega)) | (with_reducible refine bl_drewN ?_) | (with_reducible refine Below.drew ?_) | (with_reducible refine bl_grow ?_ (by first | (simp; done) | (simp; omega) | omega)))); have hz7 := hq7.size; clear hb7) | (go_at_call 9; clear m4; refine (HPX.out _ (by repeat (first | (with_reducible exact Below.refl _ _) | (with_reducible assumption) | (with_reducible refine Below.setCell ?_ (by first | (simp; done) | (simp; omega) | omega) _) | (with_reducible refine Below.alloc ?_ (by first | (simp; done) | (simp; omega) | omega) _) | (refine bl_call ?_ (by assumption) (by first | (simp; done) | (simp; omega) | omega)) | (with_reducible refine bl_drewN ?_) | (with_reducible refine Below.drew ?_) | (with_reducible refine bl_grow ?_ (by first | (simp; done) | (simp; omega) | omega))))).mono ?_; rintro e w8 ⟨rfl, hb8⟩; have hq8 : Below w.heap.size w w8 := (by repeat (first | (with_reducible exact Below.refl _ _) | (with_reducible assumption) | (with_reducible refine Below.setCell ?_ (by first | (simp; done) | (simp; omega) | omega) _) | (with_reducible refine Below.alloc ?_ (by first | (simp; done) | (simp; omega) | omega) _) | (refine bl_call ?_ (by assumption) (by first | (simp; done) | (simp; omega) | omega)) | (with_reducible refine bl_drewN ?_) | (with_reducible refine Below.drew ?_) | (with_reducible refine bl_grow ?_ (by first | (simp; done) | (simp; omega) | omega)))); have hz8 := hq8.size; clear hb8))
  go_cut [18] from 29 to 97 (fun t18 wx => ((e2 == 0) = true → wx.ownsRow w.heap.size 3 1 t18 p (cellsI WX p)) ∧ ((e2 == 0) = false → t18 = .slice none 0 0) ∧ Below w.heap.size w wx)
  case first => as_aux_lemma =>
    cases he : e2 == 0 with
    | false =>
      have HNE : Hid (∀ (Q : Prop), (e2 == 0) = true → Q) := fun Q h => by rw [he] at h; cases h
      go_wp2_with fail
      go_meet
      case rel => exact ⟨fun h => HNE.out _ h, fun _ => rfl, by repeat (first | (with_reducible exact Below.refl _ _) | (with_reducible assumption) | (with_reducible refine Below.setCell ?_ (by first | (simp; done) | (simp; omega) | omega) _) | (with_reducible refine Below.alloc ?_ (by first | (simp; done) | (simp; omega) | omega) _) | (refine bl_call ?_ (by assumption) (by first | (simp; done) | (simp; omega) | omega)) | (with_reducible refine bl_drewN ?_) | (with_reducible refine Below.drew ?_) | (with_reducible refine bl_grow ?_ (by first | (simp; done) | (simp; omega) | omega)))⟩
    | true =>
      have HNE : Hid (∀ (Q : Prop), (e2 == 0) = false → Q) := fun Q h => by rw [he] at h; cases h
      have HWX_ : Hid (∀ W, Below w.heap.size w W → Calls Tryd.prog 10 #[.slice sx p dx] W fun e w' => GivesI W p WX e w') := (HWX.out he).2
      go_wp2_with (go_at_call 10; clear m5; refine (HWX_.out _ (by repeat (first | (with_reducible exact Below.refl _ _) | (with_reducible assumption) | (with_reducible refine Below.setCell ?_ (by first | (simp; done) | (simp; omega) | omega) _) | (with_reducible refine Below.alloc ?_ (by first | (simp; done) | (simp; omega) | omega) _) | (refine bl_call ?_ (by assumption) (by first | (simp; done) | (simp; omega) | omega)) | (with_reducible refine bl_drewN ?_) | (with_reducible refine Below.drew ?_) | (with_reducible refine bl_grow ?_ (by first | (simp; done) | (simp; omega) | omega))))).mono ?_; rintro e w9 ⟨v9, rfl, ho9, hb9⟩; have hq9_ : Below w.heap.size w w9 := (by repeat (first | (with_reducible exact Below.refl _ _) | (with_reducible assumption) | (with_reducible refine Below.setCell ?_ (by first | (simp; done) | (simp; omega) | omega) _) | (with_reducible refine Below.alloc ?_ (by first | (simp; done) | (simp; omega) | omega) _) | (refine bl_call ?_ (by assumption) (by first | (simp; done) | (simp; omega) | omega)) | (with_reducible refine bl_drewN ?_) | (with_reducible refine Below.drew ?_) | (with_reducible refine bl_grow ?_ (by first | (simp; done) | (simp; omega) | omega)))); have ho9' := own_base (B := w.heap.size) ho9 (by omega); clear ho9 hb9)
      go_meet
      case rel => exact ⟨fun _ => ho9', fun h => HNE.out _ h, hq9_⟩
  case rest =>
  clear hqwc hc6
  obtain ⟨hw1, hw2, hqwc⟩ := hcut
  have hzwc := hqwc.size
  have HWB : Hid (((e2 == 0) = true → wc.ownsRow w.heap.size 3 1 u18 p (cellsI WX p)) ∧ ((e2 == 0) = false → u18 = .slice none 0 0)) := ⟨hw1, hw2⟩
  clear hw1 hw2
  go_upto_block 4 with (first | (go_at_call 11; clear m6; refine (HSW.out _ (by repeat (first | (with_reducible exact Below.refl _ _) | (with_reducible assumption) | (with_reducible refine Below.setCell ?_ (by first | (simp; done) | (simp; omega) | omega) _) | (with_reducible refine Below.alloc ?_ (by first | (simp; done) | (simp; omega) | omega) _) | (refine bl_call ?_ (by assumption) (by first | (simp; done) | (simp; omega) | omega)) | (with_reducible refine bl_drewN ?_) | (with_reducible refine Below.drew ?_) | (with_reducible refine bl_grow ?_ (by first | (simp; done) | (simp; omega) | omega))))).mono ?_; rintro e w10 ⟨u10_, rfl, hs1, hs2, hb10⟩; have hq10 : Below w.heap.size w w10 := (by repeat (first | (with_reducible exact Below.refl _ _) | (with_reducible assumption) | (with_reducible refine Below.setCell ?_ (by first | (simp; done) | (simp; omega) | omega) _) | (with_reducible refine Below.alloc ?_ (by first | (simp; done) | (simp; omega) | omega) _) | (refine bl_call ?_ (by assumption) (by first | (simp; done) | (simp; omega) | omega)) | (with_reducible refine bl_drewN ?_) | (with_reducible refine Below.drew ?_) | (with_reducible refine bl_grow ?_ (by first | (simp; done) | (simp; omega) | omega)))); have hz10 := hq10.size; have HIN : Hid (∀ W, Below w10.heap.size w10 W → Calls Tryd.prog 12 #[u10_, u18] W fun ex w' => ex = .returned (.bool true) ∧ Below W.heap.size W w') := ints_same (fun h => hs1 h) hs2 (fun h => own_stay (HWB.out.1 h) hb10) HWB.out.2 (fun h => by have := (HWX.out h).1; omega); clear hs1 hs2 hb10) | (go_at_call 7; clear m7; refine (same_below _ _ _ (I2.out) (HD.out.under (by repeat (first | (with_reducible exact Below.refl _ _) | (with_reducible assumption) | (with_reducible refine Below.setCell ?_ (by first | (simp; done) | (simp; omega) | omega) _) | (with_reducible refine Below.alloc ?_ (by first | (simp; done) | (simp; omega) | omega) _) | (refine bl_call ?_ (by assumption) (by first | (simp; done) | (simp; omega) | omega)) | (with_reducible refine bl_drewN ?_) | (with_reducible refine Below.drew ?_) | (with_reducible refine bl_grow ?_ (by first | (simp; done) | (simp; omega) | omega)))))).mono ?_; rintro e w11 ⟨rfl, hb11⟩; have hq11 : Below w.heap.size w w11 := (by repeat (first | (with_reducible exact Below.refl _ _) | (with_reducible assumption) | (with_reducible refine Below.setCell ?_ (by first | (simp; done) | (simp; omega) | omega) _) | (with_reducible refine Below.alloc ?_ (by first | (simp; done) | (simp; omega) | omega) _) | (refine bl_call ?_ (by assumption) (by first | (simp; done) | (simp; omega) | omega)) | (with_reducible refine bl_drewN ?_) | (with_reducible refine Below.drew ?_) | (with_reducible refine bl_grow ?_ (by first | (simp; done) | (simp; omega) | omega)))); have hz11 := hq11.size; have hc11 := hb11; clear hb11) | (go_at_call 12; clear m8; refine (HIN.out _ hc11).mono ?_; rintro e w12 ⟨rfl, hb12⟩; have hq12 : Below w.heap.size w w12 := (by repeat (first | (with_reducible exact Below.refl _ _) | (with_reducible assumption) | (with_reducible refine Below.setCell ?_ (by first | (simp; done) | (simp; omega) | omega) _) | (with_reducible refine Below.alloc ?_ (by first | (simp; done) | (simp; omega) | omega) _) | (refine bl_call ?_ (by assumption) (by first | (simp; done) | (simp; omega) | omega)) | (with_reducible refine bl_drewN ?_) | (with_reducible refine Below.drew ?_) | (with_reducible refine bl_grow ?_ (by first | (simp; done) | (simp; omega) | omega)))); have hz12 := hq12.size; clear hb12))
  go_cut [21] from 29 to 124 (fun t21 wx => wx.ownsRow w.heap.size 3 1 t21 q (cellsI LX q) ∧ Below w.heap.size w wx)
  case first => as_aux_lemma =>
    go_wp2_with fail
    go_loopw [21, 22] (fun tv ti wl => ∃ k : Nat, k ≤ q ∧ ti = .int .i64 k ∧ wl.ownsRow w.heap.size 3 1 tv k (cellsI LX k) ∧ Below w.heap.size w wl) (fun _ ti _ => q - (intOf ti).toNat)
    case atStart => exact ⟨0, by omega, rfl, World.ownsRow_nil _ _ _ _, by repeat (first | (with_reducible exact Below.refl _ _) | (with_reducible assumption) | (with_reducible refine Below.setCell ?_ (by first | (simp; done) | (simp; omega) | omega) _) | (with_reducible refine Below.alloc ?_ (by first | (simp; done) | (simp; omega) | omega) _) | (refine bl_call ?_ (by assumption) (by first | (simp; done) | (simp; omega) | omega)) | (with_reducible refine bl_drewN ?_) | (with_reducible refine Below.drew ?_) | (with_reducible refine bl_grow ?_ (by first | (simp; done) | (simp; omega) | omega)))⟩
    case round =>
      obtain ⟨k, hk, rfl, hown, hqV⟩ := hrel
      have hzV := hqV.size
      by_cases hlt : k < q
      · have hlt' : (k : Int) < (q : Int) := by omega
        obtain ⟨b, o, rfl, hz⟩ := HLR.out.resolve_left (by omega)
        have hbV := Nat.lt_of_lt_of_le hz.1 hzV
        have c0 := (hqV.cell (p := ⟨b, o + k * 2, none⟩) hz.1).trans (hz.2 k hlt).1
        clear hz
        go_wp2_with (at_builtin; refine wpList_append_own_at _ rfl _ _ 22 rfl w.heap.size 3 i0 (.int .i64 0) 1 8 Tryd.underlying22 hi hv0 hv1 hv2 rfl (by decide) _ _ _ rfl (hown.alloc _) ⟨wr.heap.size, 0, none⟩ 1 1 [.int .i64 (LX k)] rfl rfl ?c1 ?c2 ?c3 ?c4 ?c5 ?_)
        case c1 => exact int_new _ _ _
        case c2 => intro u hu; simp at hu; subst hu; rfl
        case c3 => unfold maxLen; omega
        case c4 => omega
        case c5 => simp; omega
        · intro v' w4 hown' hgrow _ hat
          have hq4 : Below w.heap.size w w4 := grown_under (B := w.heap.size) (by repeat (first | (with_reducible exact Below.refl _ _) | (with_reducible assumption) | (with_reducible refine Below.setCell ?_ (by first | (simp; done) | (simp; omega) | omega) _) | (with_reducible refine Below.alloc ?_ (by first | (simp; done) | (simp; omega) | omega) _) | (refine bl_call ?_ (by assumption) (by first | (simp; done) | (simp; omega) | omega)) | (with_reducible refine bl_drewN ?_) | (with_reducible refine Below.drew ?_) | (with_reducible refine bl_grow ?_ (by first | (simp; done) | (simp; omega) | omega)))) (hown.alloc _) hgrow (by simp; omega) (Nat.le_refl _)
          have hz4 := hq4.size
          rw [← cellsI_succ] at hown'
          clear hgrow hat hown
          go_wp2_with fail
          go_roundw
          case rel => exact ⟨k + 1, by omega, by simp, hown', hq4⟩
          case measure => simp [intOf]; omega
      · have hlt' : ¬ (k : Int) < (q : Int) := by omega
        have HKN : Hid (k = q) := by unfold Hid; omega
        go_wp2_with fail
        go_meet
        case rel => exact ⟨HKN.out ▸ hown, by repeat (first | (with_reducible exact Below.refl _ _) | (with_reducible assumption) | (with_reducible refine Below.setCell ?_ (by first | (simp; done) | (simp; omega) | omega) _) | (with_reducible refine Below.alloc ?_ (by first | (simp; done) | (simp; omega) | omega) _) | (refine bl_call ?_ (by assumption) (by first | (simp; done) | (simp; omega) | omega)) | (with_reducible refine bl_drewN ?_) | (with_reducible refine Below.drew ?_) | (with_reducible refine bl_grow ?_ (by first | (simp; done) | (simp; omega) | omega)))⟩
  case rest =>
  clear hqwc
  obtain ⟨hps, hqwc⟩ := hcut
  have hzwc := hqwc.size
  go_upto_block 6 with (go_at_call 9; clear m9; refine (HPL.out _ _ (by repeat (first | (with_reducible exact Below.refl _ _) | (with_reducible assumption) | (with_reducible refine Below.setCell ?_ (by first | (simp; done) | (simp; omega) | omega) _) | (with_reducible refine Below.alloc ?_ (by first | (simp; done) | (simp; omega) | omega) _) | (refine bl_call ?_ (by assumption) (by first | (simp; done) | (simp; omega) | omega)) | (with_reducible refine bl_drewN ?_) | (with_reducible refine Below.drew ?_) | (with_reducible refine bl_grow ?_ (by first | (simp; done) | (simp; omega) | omega)))) hps).mono ?_; rintro e w13 ⟨rfl, hb13⟩; have hq13 : Below w.heap.size w w13 := (by repeat (first | (with_reducible exact Below.refl _ _) | (with_reducible assumption) | (with_reducible refine Below.setCell ?_ (by first | (simp; done) | (simp; omega) | omega) _) | (with_reducible refine Below.alloc ?_ (by first | (simp; done) | (simp; omega) | omega) _) | (refine bl_call ?_ (by assumption) (by first | (simp; done) | (simp; omega) | omega)) | (with_reducible refine bl_drewN ?_) | (with_reducible refine Below.drew ?_) | (with_reducible refine bl_grow ?_ (by first | (simp; done) | (simp; omega) | omega)))); have hz13 := hq13.size; have hps13 := own_stay hps hb13; clear hb13)
  have HPS : Hid (w13.ownsRow w.heap.size 3 1 u21 q (cellsI LX q)) := hps13
  clear hps13
  go_cut [9] from 29 to 144 (fun t9 wx => t9 = .int .i64 e4 ∧ Below w13.heap.size w13 wx ∧ Below w.heap.size w wx)
  case first => as_aux_lemma =>
    cases he : e3 == 0 with
    | false =>
      have hx : Hid (e4 = e3) := HR40.out he
      go_wp2_with fail
      go_loopw [9, 23] (fun te ti wl => te = .int .i64 e3 ∧ ti = .int .i64 0 ∧ Below w13.heap.size w13 wl ∧ Below w.heap.size w wl) (fun _ _ _ => 0)
      case atStart => exact ⟨rfl, rfl, Below.refl _ _, by repeat (first | (with_reducible exact Below.refl _ _) | (with_reducible assumption) | (with_reducible refine Below.setCell ?_ (by first | (simp; done) | (simp; omega) | omega) _) | (with_reducible refine Below.alloc ?_ (by first | (simp; done) | (simp; omega) | omega) _) | (refine bl_call ?_ (by assumption) (by first | (simp; done) | (simp; omega) | omega)) | (with_reducible refine bl_drewN ?_) | (with_reducible refine Below.drew ?_) | (with_reducible refine bl_grow ?_ (by first | (simp; done) | (simp; omega) | omega)))⟩
      case round =>
        obtain ⟨rfl, rfl, hqU, hqV⟩ := hrel
        have hzV := hqV.size
        by_cases hlt : 0 < q
        · have hlt' : (0 : Int) < (q : Int) := by omega
          go_wp2_with fail
          go_meet
          case rel => exact ⟨by rw [hx.out], hqU, by repeat (first | (with_reducible exact Below.refl _ _) | (with_reducible assumption) | (with_reducible refine Below.setCell ?_ (by first | (simp; done) | (simp; omega) | omega) _) | (with_reducible refine Below.alloc ?_ (by first | (simp; done) | (simp; omega) | omega) _) | (refine bl_call ?_ (by assumption) (by first | (simp; done) | (simp; omega) | omega)) | (with_reducible refine bl_drewN ?_) | (with_reducible refine Below.drew ?_) | (with_reducible refine bl_grow ?_ (by first | (simp; done) | (simp; omega) | omega)))⟩
        · have hlt' : ¬ (0 : Int) < (q : Int) := by omega
          go_wp2_with fail
          go_meet
          case rel => exact ⟨by rw [hx.out], hqU, by repeat (first | (with_reducible exact Below.refl _ _) | (with_reducible assumption) | (with_reducible refine Below.setCell ?_ (by first | (simp; done) | (simp; omega) | omega) _) | (with_reducible refine Below.alloc ?_ (by first | (simp; done) | (simp; omega) | omega) _) | (refine bl_call ?_ (by assumption) (by first | (simp; done) | (simp; omega) | omega)) | (with_reducible refine bl_drewN ?_) | (with_reducible refine Below.drew ?_) | (with_reducible refine bl_grow ?_ (by first | (simp; done) | (simp; omega) | omega)))⟩
    | true =>
      obtain ⟨hq12, hj, hok, hend⟩ := HR4.out he
      have HOK : Hid (∀ i, i < j1 → (∀ w, Calls Tryd.prog 4 #[.int .i64 (LY i)] w fun ex w' => ex = .returned (.bool true) ∧ Below w.heap.size w w')) := hok
      have HEN : Hid ((j1 = q ∧ e4 = 0) ∨ (j1 < q ∧ (∀ w, Calls Tryd.prog 4 #[.int .i64 (LY j1)] w fun ex w' => ex = .returned (.bool false) ∧ Below w.heap.size w w') ∧ e4 = 1)) := hend
      have hec : e3 = 0 := by simpa using he
      clear hok hend
      subst hec
      go_wp2_with fail
      go_loopw [9, 23] (fun te ti wl => ∃ k : Nat, ti = .int .i64 k ∧ ((k ≤ j1 ∧ te = .int .i64 0) ∨ (k = j1 + 1 ∧ j1 < q ∧ te = .int .i64 1)) ∧ Below w13.heap.size w13 wl ∧ Below w.heap.size w wl) (fun _ ti _ => q + 1 - (intOf ti).toNat)
      case atStart => exact ⟨0, rfl, Or.inl ⟨by omega, rfl⟩, Below.refl _ _, by repeat (first | (with_reducible exact Below.refl _ _) | (with_reducible assumption) | (with_reducible refine Below.setCell ?_ (by first | (simp; done) | (simp; omega) | omega) _) | (with_reducible refine Below.alloc ?_ (by first | (simp; done) | (simp; omega) | omega) _) | (refine bl_call ?_ (by assumption) (by first | (simp; done) | (simp; omega) | omega)) | (with_reducible refine bl_drewN ?_) | (with_reducible refine Below.drew ?_) | (with_reducible refine bl_grow ?_ (by first | (simp; done) | (simp; omega) | omega)))⟩
      case round =>
        obtain ⟨k, rfl, hst, hqU, hqV⟩ := hrel
        have hzV := hqV.size
        rcases hst with ⟨hk, rfl⟩ | ⟨rfl, hk, rfl⟩
        · by_cases hlt : k < q
          · have hlt' : (k : Int) < (q : Int) := by omega
            obtain ⟨b, o, rfl, hz⟩ := HLR.out.resolve_left (by omega)
            have hbV := Nat.lt_of_lt_of_le hz.1 hzV
            have c0 := (hqV.cell (p := ⟨b, o + k * 2 + 1, none⟩) hz.1).trans (hz.2 k hlt).2
            clear hz
            by_cases hkj : k < j1
            · have HK : Hid (∀ w, Calls Tryd.prog 4 #[.int .i64 (LY k)] w fun ex w' => ex = .returned (.bool true) ∧ Below w.heap.size w w') := HOK.out k hkj
              go_wp2_with (go_at_call 4; refine (HK.out _).mono ?_; rintro e w3 ⟨rfl, hb3⟩; have hq3 : Below w.heap.size w w3 := (by repeat (first | (with_reducible exact Below.refl _ _) | (with_reducible assumption) | (with_reducible refine Below.setCell ?_ (by first | (simp; done) | (simp; omega) | omega) _) | (with_reducible refine Below.alloc ?_ (by first | (simp; done) | (simp; omega) | omega) _) | (refine bl_call ?_ (by assumption) (by first | (simp; done) | (simp; omega) | omega)) | (with_reducible refine bl_drewN ?_) | (with_reducible refine Below.drew ?_) | (with_reducible refine bl_grow ?_ (by first | (simp; done) | (simp; omega) | omega)))); have hz3 := hq3.size; have hqU2 := bl_call hqU hb3 (by have := hqU.size; omega); have hzU2 := hqU2.size; clear hb3)
              go_roundw
              case rel => exact ⟨k + 1, by simp, Or.inl ⟨by omega, rfl⟩, hqU2, by repeat (first | (with_reducible exact Below.refl _ _) | (with_reducible assumption) | (with_reducible refine Below.setCell ?_ (by first | (simp; done) | (simp; omega) | omega) _) | (with_reducible refine Below.alloc ?_ (by first | (simp; done) | (simp; omega) | omega) _) | (refine bl_call ?_ (by assumption) (by first | (simp; done) | (simp; omega) | omega)) | (with_reducible refine bl_drewN ?_) | (with_reducible refine Below.drew ?_) | (with_reducible refine bl_grow ?_ (by first | (simp; done) | (simp; omega) | omega)))⟩
              case measure => simp [intOf]; omega
            · have HKJ : Hid (k = j1) := by unfold Hid; omega
              have HK : Hid (∀ w, Calls Tryd.prog 4 #[.int .i64 (LY k)] w fun ex w' => ex = .returned (.bool false) ∧ Below w.heap.size w w') := by
                unfold Hid
                rw [HKJ.out]
                rcases HEN.out with h | h
                · exfalso; have := HKJ.out; omega
                · exact h.2.1
              go_wp2_with (go_at_call 4; refine (HK.out _).mono ?_; rintro e w3 ⟨rfl, hb3⟩; have hq3 : Below w.heap.size w w3 := (by repeat (first | (with_reducible exact Below.refl _ _) | (with_reducible assumption) | (with_reducible refine Below.setCell ?_ (by first | (simp; done) | (simp; omega) | omega) _) | (with_reducible refine Below.alloc ?_ (by first | (simp; done) | (simp; omega) | omega) _) | (refine bl_call ?_ (by assumption) (by first | (simp; done) | (simp; omega) | omega)) | (with_reducible refine bl_drewN ?_) | (with_reducible refine Below.drew ?_) | (with_reducible refine bl_grow ?_ (by first | (simp; done) | (simp; omega) | omega)))); have hz3 := hq3.size; have hqU2 := bl_call hqU hb3 (by have := hqU.size; omega); have hzU2 := hqU2.size; clear hb3)
              go_roundw
              case rel => exact ⟨k + 1, by simp, Or.inr ⟨by have := HKJ.out; omega, by have := HKJ.out; omega, rfl⟩, hqU2, by repeat (first | (with_reducible exact Below.refl _ _) | (with_reducible assumption) | (with_reducible refine Below.setCell ?_ (by first | (simp; done) | (simp; omega) | omega) _) | (with_reducible refine Below.alloc ?_ (by first | (simp; done) | (simp; omega) | omega) _) | (refine bl_call ?_ (by assumption) (by first | (simp; done) | (simp; omega) | omega)) | (with_reducible refine bl_drewN ?_) | (with_reducible refine Below.drew ?_) | (with_reducible refine bl_grow ?_ (by first | (simp; done) | (simp; omega) | omega)))⟩
              case measure => simp [intOf]; omega
          · have hlt' : ¬ (k : Int) < (q : Int) := by omega
            have hed : Hid (e4 = 0) := by
              unfold Hid
              rcases HEN.out with h | h
              · exact h.2
              · omega
            go_wp2_with fail
            go_meet
            case rel => exact ⟨by rw [hed.out], hqU, by repeat (first | (with_reducible exact Below.refl _ _) | (with_reducible assumption) | (with_reducible refine Below.setCell ?_ (by first | (simp; done) | (simp; omega) | omega) _) | (with_reducible refine Below.alloc ?_ (by first | (simp; done) | (simp; omega) | omega) _) | (refine bl_call ?_ (by assumption) (by first | (simp; done) | (simp; omega) | omega)) | (with_reducible refine bl_drewN ?_) | (with_reducible refine Below.drew ?_) | (with_reducible refine bl_grow ?_ (by first | (simp; done) | (simp; omega) | omega)))⟩
        · have hed : Hid (e4 = 1) := by
            unfold Hid
            rcases HEN.out with h | h
            · omega
            · exact h.2.2
          by_cases hlt : j1 + 1 < q
          · have hlt' : ((j1 + 1 : Nat) : Int) < (q : Int) := by omega
            go_wp2_with fail
            go_meet
            case rel => exact ⟨by rw [hed.out], hqU, by repeat (first | (with_reducible exact Below.refl _ _) | (with_reducible assumption) | (with_reducible refine Below.setCell ?_ (by first | (simp; done) | (simp; omega) | omega) _) | (with_reducible refine Below.alloc ?_ (by first | (simp; done) | (simp; omega) | omega) _) | (refine bl_call ?_ (by assumption) (by first | (simp; done) | (simp; omega) | omega)) | (with_reducible refine bl_drewN ?_) | (with_reducible refine Below.drew ?_) | (with_reducible refine bl_grow ?_ (by first | (simp; done) | (simp; omega) | omega)))⟩
          · have hlt' : ¬ ((j1 + 1 : Nat) : Int) < (q : Int) := by omega
            go_wp2_with fail
            go_meet
            case rel => exact ⟨by rw [hed.out], hqU, by repeat (first | (with_reducible exact Below.refl _ _) | (with_reducible assumption) | (with_reducible refine Below.setCell ?_ (by first | (simp; done) | (simp; omega) | omega) _) | (with_reducible refine Below.alloc ?_ (by first | (simp; done) | (simp; omega) | omega) _) | (refine bl_call ?_ (by assumption) (by first | (simp; done) | (simp; omega) | omega)) | (with_reducible refine bl_drewN ?_) | (with_reducible refine Below.drew ?_) | (with_reducible refine bl_grow ?_ (by first | (simp; done) | (simp; omega) | omega)))⟩
  case rest =>
  clear hqwc
  obtain ⟨rfl, hqU, hqwc⟩ := hcut
  have hzwc := hqwc.size
  have HPS2 : Hid (wc.ownsRow w.heap.size 3 1 u21 q (cellsI LX q)) := own_stay HPS.out hqU
  clear HPS hqU
  go_upto_if 146 with fail
  go_cut [25] from 29 to 167 (fun t25 wx => t25 = .int .i64 sm ∧ Below w.heap.size w wx)
  case first => as_aux_lemma =>
    cases he : e4 == 0 with
    | false =>
      have hx : Hid (sm = 0) := HW40.out he
      go_wp2_with fail
      go_meet
      case rel => exact ⟨by rw [hx.out], by repeat (first | (with_reducible exact Below.refl _ _) | (with_reducible assumption) | (with_reducible refine Below.setCell ?_ (by first | (simp; done) | (simp; omega) | omega) _) | (with_reducible refine Below.alloc ?_ (by first | (simp; done) | (simp; omega) | omega) _) | (refine bl_call ?_ (by assumption) (by first | (simp; done) | (simp; omega) | omega)) | (with_reducible refine bl_drewN ?_) | (with_reducible refine Below.drew ?_) | (with_reducible refine bl_grow ?_ (by first | (simp; done) | (simp; omega) | omega)))⟩
    | true =>
      obtain ⟨hq12, hwl, hs0, hsq, hst⟩ := HW4.out he
      have HWL : Hid (∀ W v, Below w.heap.size w W → W.ownsRow w.heap.size 3 1 v q (cellsI LX q) → Calls Tryd.prog 10 #[v] W fun e w' => GivesI W q WL e w') := hwl
      have HS0 : Hid (SM 0 = 0) := hs0
      have HSQ : Hid (SM q = sm) := hsq
      have HST : Hid (∀ i, i < q → (SM i + WL i * LY i) % 1013 = SM (i + 1) ∧ 0 ≤ SM i ∧ SM i < 1013 ∧ 0 ≤ WL i * LY i ∧ WL i * LY i ≤ 1100000) := hst
      clear hwl hs0 hsq hst
      go_upto_block 8 with (go_at_call 10; clear m10; refine (HWL.out _ _ (by repeat (first | (with_reducible exact Below.refl _ _) | (with_reducible assumption) | (with_reducible refine Below.setCell ?_ (by first | (simp; done) | (simp; omega) | omega) _) | (with_reducible refine Below.alloc ?_ (by first | (simp; done) | (simp; omega) | omega) _) | (refine bl_call ?_ (by assumption) (by first | (simp; done) | (simp; omega) | omega)) | (with_reducible refine bl_drewN ?_) | (with_reducible refine Below.drew ?_) | (with_reducible refine bl_grow ?_ (by first | (simp; done) | (simp; omega) | omega)))) HPS2.out).mono ?_; rintro e w14 ⟨v14, rfl, ho14, hb14⟩; have hq14 : Below w.heap.size w w14 := (by repeat (first | (with_reducible exact Below.refl _ _) | (with_reducible assumption) | (with_reducible refine Below.setCell ?_ (by first | (simp; done) | (simp; omega) | omega) _) | (with_reducible refine Below.alloc ?_ (by first | (simp; done) | (simp; omega) | omega) _) | (refine bl_call ?_ (by assumption) (by first | (simp; done) | (simp; omega) | omega)) | (with_reducible refine bl_drewN ?_) | (with_reducible refine Below.drew ?_) | (with_reducible refine bl_grow ?_ (by first | (simp; done) | (simp; omega) | omega)))); have hz14 := hq14.size; clear hb14)
      obtain ⟨s4, c4, e4_, h4⟩ := own_ints ho14
      subst e4_
      have HRW : Hid (q = 0 ∨ ∃ g, s4 = some ⟨g, 0, none⟩ ∧ RowI w14 g 0 q WL) := h4.imp_right fun ⟨g, a, _, _, r⟩ => ⟨g, a, r⟩
      clear h4 ho14
      go_wp2_with fail
      go_loopw [25, 26] (fun ts ti wl => ∃ k : Nat, k ≤ q ∧ ti = .int .i64 k ∧ ts = .int .i64 (SM k) ∧ Below w14.heap.size w14 wl ∧ Below w.heap.size w wl) (fun _ ti _ => q - (intOf ti).toNat)
      case atStart => exact ⟨0, by omega, rfl, by rw [HS0.out], Below.refl _ _, by repeat (first | (with_reducible exact Below.refl _ _) | (with_reducible assumption) | (with_reducible refine Below.setCell ?_ (by first | (simp; done) | (simp; omega) | omega) _) | (with_reducible refine Below.alloc ?_ (by first | (simp; done) | (simp; omega) | omega) _) | (refine bl_call ?_ (by assumption) (by first | (simp; done) | (simp; omega) | omega)) | (with_reducible refine bl_drewN ?_) | (with_reducible refine Below.drew ?_) | (with_reducible refine bl_grow ?_ (by first | (simp; done) | (simp; omega) | omega)))⟩
      case round =>
        obtain ⟨k, hk, rfl, rfl, hqU, hqV⟩ := hrel
        have hzV := hqV.size
        have hzU := hqU.size
        by_cases hlt : k < q
        · have hlt' : (k : Int) < (q : Int) := by omega
          obtain ⟨b, o, rfl, hz⟩ := HLR.out.resolve_left (by omega)
          obtain ⟨g, rfl, hr⟩ := HRW.out.resolve_left (by omega)
          have hbV := Nat.lt_of_lt_of_le hz.1 hzV
          have hgV := Nat.lt_of_lt_of_le hr.1 hzU
          have c0 := (hqV.cell (p := ⟨b, o + k * 2 + 1, none⟩) hz.1).trans (hz.2 k hlt).2
          have c1 := (hqU.cell (p := ⟨g, 0 + k, none⟩) hr.1).trans (hr.2 k hlt)
          rw [Nat.zero_add] at c1
          obtain ⟨s1, s2, s3, s4_, s5⟩ := HST.out k hlt
          have HS1 : Hid ((SM k + WL k * LY k) % 1013 = SM (k + 1)) := s1
          clear hz hr s1
          go_wp2_with fail
          go_quiet (fail)
          go_wp2_with fail
          go_roundw
          case rel => exact ⟨k + 1, by omega, by simp, by rw [HS1.out], (by repeat (first | (with_reducible exact Below.refl _ _) | (with_reducible assumption) | (with_reducible refine Below.setCell ?_ (by first | (simp; done) | (simp; omega) | omega) _) | (with_reducible refine Below.alloc ?_ (by first | (simp; done) | (simp; omega) | omega) _) | (refine bl_call ?_ (by assumption) (by first | (simp; done) | (simp; omega) | omega)) | (with_reducible refine bl_drewN ?_) | (with_reducible refine Below.drew ?_) | (with_reducible refine bl_grow ?_ (by first | (simp; done) | (simp; omega) | omega)))), by repeat (first | (with_reducible exact Below.refl _ _) | (with_reducible assumption) | (with_reducible refine Below.setCell ?_ (by first | (simp; done) | (simp; omega) | omega) _) | (with_reducible refine Below.alloc ?_ (by first | (simp; done) | (simp; omega) | omega) _) | (refine bl_call ?_ (by assumption) (by first | (simp; done) | (simp; omega) | omega)) | (with_reducible refine bl_drewN ?_) | (with_reducible refine Below.drew ?_) | (with_reducible refine bl_grow ?_ (by first | (simp; done) | (simp; omega) | omega)))⟩
          case measure => simp [intOf]; omega
        · have hlt' : ¬ (k : Int) < (q : Int) := by omega
          have HKN : Hid (k = q) := by unfold Hid; omega
          go_wp2_with fail
          go_meet
          case rel => exact ⟨by rw [HKN.out, HSQ.out], by repeat (first | (with_reducible exact Below.refl _ _) | (with_reducible assumption) | (with_reducible refine Below.setCell ?_ (by first | (simp; done) | (simp; omega) | omega) _) | (with_reducible refine Below.alloc ?_ (by first | (simp; done) | (simp; omega) | omega) _) | (refine bl_call ?_ (by assumption) (by first | (simp; done) | (simp; omega) | omega)) | (with_reducible refine bl_drewN ?_) | (with_reducible refine Below.drew ?_) | (with_reducible refine bl_grow ?_ (by first | (simp; done) | (simp; omega) | omega)))⟩
  case rest =>
  clear hqwc
  obtain ⟨rfl, hqwc⟩ := hcut
  have hzwc := hqwc.size
  go_wp2_with (first | (go_at_call 13; clear m11; refine (HCO.out _ (by repeat (first | (with_reducible exact Below.refl _ _) | (with_reducible assumption) | (with_reducible refine Below.setCell ?_ (by first | (simp; done) | (simp; omega) | omega) _) | (with_reducible refine Below.alloc ?_ (by first | (simp; done) | (simp; omega) | omega) _) | (refine bl_call ?_ (by assumption) (by first | (simp; done) | (simp; omega) | omega)) | (with_reducible refine bl_drewN ?_) | (with_reducible refine Below.drew ?_) | (with_reducible refine bl_grow ?_ (by first | (simp; done) | (simp; omega) | omega))))).mono ?_; rintro e w15 ⟨rfl, hb15⟩; have hq15 : Below w.heap.size w w15 := (by repeat (first | (with_reducible exact Below.refl _ _) | (with_reducible assumption) | (with_reducible refine Below.setCell ?_ (by first | (simp; done) | (simp; omega) | omega) _) | (with_reducible refine Below.alloc ?_ (by first | (simp; done) | (simp; omega) | omega) _) | (refine bl_call ?_ (by assumption) (by first | (simp; done) | (simp; omega) | omega)) | (with_reducible refine bl_drewN ?_) | (with_reducible refine Below.drew ?_) | (with_reducible refine bl_grow ?_ (by first | (simp; done) | (simp; omega) | omega)))); have hz15 := hq15.size; clear hb15) | (go_at_call 7; clear m12; refine (same_below _ _ _ (I4.out) (HD.out.under (by repeat (first | (with_reducible exact Below.refl _ _) | (with_reducible assumption) | (with_reducible refine Below.setCell ?_ (by first | (simp; done) | (simp; omega) | omega) _) | (with_reducible refine Below.alloc ?_ (by first | (simp; done) | (simp; omega) | omega) _) | (refine bl_call ?_ (by assumption) (by first | (simp; done) | (simp; omega) | omega)) | (with_reducible refine bl_drewN ?_) | (with_reducible refine Below.drew ?_) | (with_reducible refine bl_grow ?_ (by first | (simp; done) | (simp; omega) | omega)))))).mono ?_; rintro e w16 ⟨rfl, hb16⟩; have hq16 : Below w.heap.size w w16 := (by repeat (first | (with_reducible exact Below.refl _ _) | (with_reducible assumption) | (with_reducible refine Below.setCell ?_ (by first | (simp; done) | (simp; omega) | omega) _) | (with_reducible refine Below.alloc ?_ (by first | (simp; done) | (simp; omega) | omega) _) | (refine bl_call ?_ (by assumption) (by first | (simp; done) | (simp; omega) | omega)) | (with_reducible refine bl_drewN ?_) | (with_reducible refine Below.drew ?_) | (with_reducible refine bl_grow ?_ (by first | (simp; done) | (simp; omega) | omega)))); have hz16 := hq16.size; have hc16 := hb16; clear hb16))
  go_ret
  exact ⟨rfl, by repeat (first | (with_reducible exact Below.refl _ _) | (with_reducible assumption) | (with_reducible refine Below.setCell ?_ (by first | (simp; done) | (simp; omega) | omega) _) | (with_reducible refine Below.alloc ?_ (by first | (simp; done) | (simp; omega) | omega) _) | (refine bl_call ?_ (by assumption) (by first | (simp; done) | (simp; omega) | omega)) | (with_reducible refine bl_drewN ?_) | (with_reducible refine Below.drew ?_) | (with_reducible refine bl_grow ?_ (by first | (simp; done) | (simp; omega) | omega)))⟩
end Go.Proofs.YtmnhnldnnmpkcafDoor
