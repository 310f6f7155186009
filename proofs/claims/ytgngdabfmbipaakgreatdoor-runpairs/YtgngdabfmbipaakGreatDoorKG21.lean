/- What share.valueAt answers: a polynomial's value, from the last coefficient to the first (a range over slices.Backward). -/
import Derived.Test.YtgngdabfmbipaakGreatDoorKG19
import Derived.Test.YtgngdabfmbipaakGreatDoorKG2
import Derived.RangeFuncBox
import Derived.RangeFuncLeaves
import Derived.Shelf.Abstract
import Derived.WalkKit
import Derived.OwnWalkIn
import Derived.TacticsInMore
import Derived.LoopNIn
import Derived.LoopIn
namespace Go.Proofs.YtgngdabfmbipaakGreatDoor
open Go.RowKit Go.Shelf
set_option linter.unusedVariables false
set_option linter.unusedSimpArgs false
attribute [local go_sem] Oper.semAt_some
/-- From the last coefficient to the first: what has been reckoned behind so many. -/
def hoL (x : QF) : List (Nat × QF) → QF := List.foldl (fun s p => s * x + p.2) 0
theorem hoL_snoc (x : QF) (l : List (Nat × QF)) (p : Nat × QF) : hoL x (l ++ [p]) = hoL x l * x + p.2 := by unfold hoL; rw [List.foldl_append]; rfl
/-- What comes of so many, from the last on. -/
def upB (K : Nat → QF) (m k : Nat) : List (Nat × QF) := (List.range k).map fun j => (m - 1 - j, K (m - 1 - j))
theorem upB_succ (K : Nat → QF) (m k : Nat) : upB K m (k + 1) = upB K m k ++ [(m - 1 - k, K (m - 1 - k))] := by simp [upB, List.range_succ]
theorem upB_length (K : Nat → QF) (m k : Nat) : (upB K m k).length = k := by simp [upB]
theorem ho_part (K : Nat → QF) (x : QF) (m : Nat) : ∀ k j, k + j = m → vlq K x m = vlq K x j + pwq x j * hoL x (upB K m k)
  | 0, j, h => by
    obtain rfl : j = m := by omega
    show _ = vlq K x j + pwq x j * 0
    grind
  | k + 1, j, h => by
    rw [ho_part K x m k (j + 1) (by omega), upB_succ, hoL_snoc, show m - 1 - k = j by omega]
    show vlq K x j + K j * pwq x j + pwq x j * x * hoL x (upB K m k) = _
    grind
theorem ho_all (K : Nat → QF) (x : QF) (m : Nat) : hoL x (upB K m m) = vlq K x m := by
  have := ho_part K x m m 0 (by omega)
  rw [this]
  show _ = 0 + 1 * _
  grind
theorem cell_other {W : World} {a b : Addr} {u v : Value} (h : W.cell? b = some v) (hne : a ≠ b) : (W.setCell a u).cell? b = some v := by
  rw [World.cell?_setCell_other _ _ _ _ hne]; exact h
/-- What a round keeps: what lay below, and the box of what is gone over. -/
def KpB (n₀ Bs : Nat) (W W' : World) : Prop := Below n₀ W W' ∧ ∀ v, W.cell? ⟨Bs, 0, none⟩ = some v → W'.cell? ⟨Bs, 0, none⟩ = some v
theorem KpB.t {n₀ Bs : Nat} {A B C : World} (h : KpB n₀ Bs A B) (k : KpB n₀ Bs B C) : KpB n₀ Bs A C := ⟨h.1.trans k.1, fun v hv => k.2 v (h.2 v hv)⟩
theorem KpB.b {n₀ Bs : Nat} {w : World} (hn : n₀ ≤ w.heap.size) (W : World) (l : Nat) (o o' : Obj) (hl : w.heap.size ≤ l) (h : W.heap[l]? = some o) (h1 : o.isCells = false) (h2 : o.isWalk = false) : KpB n₀ Bs W (W.putObj l o') :=
  ⟨belowK_b hn W l o o' hl h h1 h2, fun v hv => cell_kept hv (grownBy_putObj' W l o') (fun r e => by cases e; exact ⟨_, h, h1⟩)⟩
set_option maxRecDepth 100000 in
set_option maxHeartbeats 2000000 in
theorem back1_in (F : Fence) (n : Nat) (hf : F.fn 140) (hro : F.round = none) (hn : 1 ≤ n) (l Bs n₀ b o m d : Nat) (K : Nat → QF) (hm : m ≤ 12) (hb : b < n₀) (J Jx : List (Nat × QF) → World → Prop)
    (hY : ∀ pre x W, J pre W → pre.length < m → YieldAt F (n - 1) Tryz.prog l #[.int .i64 (x.1 : Int), .int .i64 (vI x.2)] W fun e W' =>
      (e = .returned (.bool true) ∧ J (pre ++ [x]) W' ∧ KpB n₀ Bs W W') ∨ (e = .returned (.bool false) ∧ Jx (pre ++ [x]) W'))
    (W : World) (hBs : W.cell? ⟨Bs, 0, none⟩ = some (.slice (some ⟨b, o, none⟩) m d)) (hc : ∀ j, j < m → W.cell? ⟨b, o + j, none⟩ = some (.int .i64 (vI (K j)))) (h0 : J [] W) :
    CallsIn F n Tryz.prog 140 #[.func (.yield l) #[] #[], .pointer (some ⟨Bs, 0, none⟩)] W fun e W' => (∃ v, e = .returned v) ∧
      ((∃ ys, ys = upB K m m ∧ J ys W') ∨ (∃ pre, (∃ k, k ≤ m ∧ pre = upB K m k) ∧ Jx pre W')) := by
  refine callsIn_of_wp Tryz.func140 rfl hf ?_ hro
  simp only [Tryz.ntmps140, List.size_toArray, List.length_cons, List.length_nil, Nat.reduceAdd, Nat.reduceSub, Array.replicate_succ, Array.replicate_zero, List.push_toArray, List.append_toArray, List.nil_append, List.cons_append]
  gi_wp2
  gi_loopw [3] (fun i wr => ∃ j k : Nat, k + j = m ∧ i = .int .i64 ((j : Int) - 1) ∧ J (upB K m k) wr ∧ wr.cell? ⟨Bs, 0, none⟩ = some (.slice (some ⟨b, o, none⟩) m d) ∧ Below n₀ W wr)
    (fun i _ => (intOf i + 1).toNat)
  case atStart => exact ⟨m, 0, by omega, rfl, h0, hBs, Below.refl _ _⟩
  case round =>
    obtain ⟨j, k, hk, rfl, hJs, hBx, hnx⟩ := hrel
    cases j with
    | zero =>
      obtain rfl : k = m := by omega
      have e : ((0 : Nat) : Int) - 1 = -1 := rfl
      rw [e]
      gi_wp2
      go_end0
      exact ⟨⟨_, rfl⟩, .inl ⟨_, rfl, hJs⟩⟩
    | succ j =>
      have e : ((j + 1 : Nat) : Int) - 1 = (j : Int) := by omega
      rw [e]
      have hj : j < m := by omega
      have hj0 : (j : Int) ≥ 0 := by omega
      have hcx : wr.cell? ⟨b, o + j, none⟩ = some (.int .i64 (vI (K j))) := (hnx.cell (p := ⟨b, o + j, none⟩) hb).trans (hc j hj)
      have HU : upB K m (k + 1) = upB K m k ++ [(j, K j)] := by rw [upB_succ, show m - 1 - k = j by omega]
      obtain ⟨fn, tmps, assign, body, hy, hR⟩ := hY _ (j, K j) wr hJs (by rw [upB_length]; omega)
      dsimp only at hy
      gi_wp2
      refine hR.mono ?_
      rintro e W3 (⟨rfl, hJ3, hk3⟩ | ⟨rfl, hJx3⟩)
      · have hBx3 := hk3.2 _ hBx
        gi_wp2
        go_roundw
        case rel => exact ⟨j, k + 1, by omega, rfl, by rw [HU]; exact hJ3, hBx3, hnx.trans hk3.1⟩
        case measure => simp [intOf]
      · gi_wp2
        refine bodyPost_ret (results_none rfl _ _ _) rfl ?_
        exact ⟨⟨_, rfl⟩, .inr ⟨_, ⟨k + 1, by omega, HU.symm⟩, hJx3⟩⟩
set_option maxHeartbeats 1000000 in
theorem back_in (F : Fence) (n : Nat) (hf : F.fn 121) (hro : F.round = none) (a : Option Addr) (len cap : Nat) (w : World) :
    CallsIn F n Tryz.prog 121 #[.slice a len cap] w fun e w' => e = .returned (.func (.func 140) #[] #[.pointer (some ⟨w.heap.size, 0, none⟩)]) ∧ w' = w.alloc (.cells #[.slice a len cap] 58) := by
  refine callsIn_of_wp Tryz.func121 rfl hf ?_ hro
  simp only [Tryz.ntmps121, List.size_toArray, List.length_cons, List.length_nil, Nat.reduceAdd, Nat.reduceSub, Array.replicate_succ, Array.replicate_zero, List.push_toArray, List.append_toArray, List.nil_append, List.cons_append]
  gi_wp2
  go_ret
  exact ⟨rfl, rfl⟩
theorem back_stops (F : Fence) (n : Nat) (hf : F.fn 140) (hro : F.round = none) (hn : 1 ≤ n) (Bs n₀ b o m d : Nat) (K : Nat → QF) (hm : m ≤ 12) (hb : b < n₀) (w : World) (hBs : Bs < w.heap.size) (hn₀ : n₀ ≤ w.heap.size)
    (hc : w.cell? ⟨Bs, 0, none⟩ = some (.slice (some ⟨b, o, none⟩) m d)) (hI : ∀ j, j < m → w.cell? ⟨b, o + j, none⟩ = some (.int .i64 (vI (K j)))) :
    SeqStopsK F n Tryz.prog 140 #[.pointer (some ⟨Bs, 0, none⟩)] (fun x : Nat × QF => #[Value.int .i64 (x.1 : Int), Value.int .i64 (vI x.2)]) (KpB n₀ Bs) (fun ys => ys = upB K m m)
      (fun pre => ∃ k, k ≤ m ∧ pre = upB K m k) m w := fun l J Jx W hW _ _ hY h0 =>
  back1_in F n hf hro hn l Bs n₀ b o m d K hm hb J Jx hY W ((hW.cell (p := ⟨Bs, 0, none⟩) hBs).trans hc) (fun j hj => (hW.cell (p := ⟨b, o + j, none⟩) (Nat.lt_of_lt_of_le hb hn₀)).trans (hI j hj)) h0
set_option maxRecDepth 100000 in
set_option maxHeartbeats 2000000 in
theorem value_in (F : Fence) (n : Nat) (h3 : F.fn 84) (h5 : F.fn 121) (h7 : F.fn 140) (hro : F.round = none) (hn : 3 ≤ n) (b o m d : Nat) (K : Nat → QF) (x : Int) (hm : m ≤ 12) (x0 : 0 ≤ x) (x1 : x < 1013) (w : World) (hr : RowI w b o m (fun i => vI (K i))) :
    CallsIn F n Tryz.prog 84 #[.slice (some ⟨b, o, none⟩) m d, .int .i64 x] w fun e W' => e = .returned (.int .i64 (vI (vlq K (zq x) m))) ∧ Below w.heap.size w W' := by
  have h1 : 1 ≤ n := by omega
  have HR : Hid (RowI w b o m (fun i => vI (K i))) := hr
  clear hr
  refine callsIn_of_wp_marks Tryz.func84 rfl h3 ?_ hro
  simp only [Tryz.ntmps84, List.size_toArray, List.length_cons, List.length_nil, Nat.reduceAdd, Nat.reduceSub, Array.replicate_succ, Array.replicate_zero, List.push_toArray, List.append_toArray, List.nil_append, List.cons_append]
  gi_wp2_with (gi_at_call 121; refine (back_in F (n - 1) h5 hro _ _ _ _).mono ?_; rintro e w' ⟨rfl, rfl⟩)
  have bX := Boxed.new w 3 (.int .i64 x)
  have bS := Boxed.new (w.alloc (.cells #[.int .i64 x] 3)) 3 (.int .i64 0)
  have bN := Boxed.new ((w.alloc (.cells #[.int .i64 x] 3)).alloc (.cells #[.int .i64 0] 3)) 58 (.slice (some ⟨b, o, none⟩) m d)
  rw [World.size_alloc] at bS
  rw [World.size_alloc, World.size_alloc] at bN
  have hB0 : Below w.heap.size w (((w.alloc (.cells #[.int .i64 x] 3)).alloc (.cells #[.int .i64 0] 3)).alloc (.cells #[.slice (some ⟨b, o, none⟩) m d] 58)) := (((Below.refl _ w).alloc (Nat.le_refl _) _).alloc (by simp) _).alloc (by simp; omega) _
  refine wpIn_rangeFunc_ownG hro h1 (gf := 140) (lb := #[.pointer (some ⟨w.heap.size + 1 + 1, 0, none⟩)]) rfl h7 (enters_of Tryz.func140 (by kernel_rfl) rfl)
    (back_stops F (n - 1) h7 hro (by omega) (w.heap.size + 1 + 1) w.heap.size b o m d K hm HR.out.1 _ (by simp) (by simp; omega) bN.cell (fun j hj => (hB0.cell (p := ⟨b, o + j, none⟩) HR.out.1).trans (HR.out.2 j hj))) KpB.t (KpB.b (by simp; omega)) (Below.refl _ _) (fun _ => rfl)
    (fun pre W => (W.cell? ⟨w.heap.size + 1, 0, none⟩ = some (.int .i64 (vI (hoL (zq x) pre))) ∧ W.frozen? ⟨w.heap.size + 1, 0, none⟩ = false ∧ W.cell? ⟨w.heap.size, 0, none⟩ = some (.int .i64 x)) ∧ Below w.heap.size w W)
    (fun _ _ _ => False)
    (OwnFrom.and (Own.from (fun s A B row hs hg hr => ⟨cell_kept hs.1 hg hr, (frozen_kept hs.1 hg hr).trans hs.2.1, cell_kept hs.2.2 hg hr⟩) _) (ownFrom_below (Nat.le_refl _) (by simp; omega)))
    (fun _ _ _ _ _ hs _ _ => hs)
    ⟨⟨(bS.alloc _).cell, (bS.alloc _).frozen, ((bX.alloc _).alloc _).cell⟩, hB0⟩
    (fun y => { tmps := #[.slice (some ⟨b, o, none⟩) m d, .int .i64 x, undef, .pointer (some ⟨w.heap.size, 0, none⟩), .int .i64 0, .pointer (some ⟨w.heap.size + 1, 0, none⟩), undef, .int .i64 (vI y.2), .slice (some ⟨b, o, none⟩) m d, .func (.func 140) #[] #[.pointer (some ⟨w.heap.size + 1 + 1, 0, none⟩)], .int .i64 (y.1 : Int), .int .i64 (vI y.2), undef, undef, undef, undef, undef, undef, undef], defers := [] }) ?assign ?body ?done ?stop
  case assign =>
    intro l x W K hK
    gi_wp2
    exact hK
  case body =>
    rintro l pre y W ⟨⟨hc, hf, hx⟩, hB⟩ _
    obtain ⟨s, hs⟩ : ∃ s, hoL (zq x) pre = s := ⟨_, rfl⟩
    have E : Hid ((vI s * x + vI y.2) % 1013 = vI (hoL (zq x) (pre ++ [y]))) := by
      unfold Hid
      rw [hoL_snoc, hs, ← vI_zq, zq_add, zq_mul, zq_vI, zq_vI]
    rw [hs] at hc
    clear hs
    obtain ⟨p0, p1⟩ := vI_bd s x0 x1
    have y0 := vI_lo y.2
    have y1 := vI_hi y.2
    gi_wp2
    exact ⟨(KeepsOthers.setCell _ _ _).from _, ⟨(Below.refl w.heap.size W).setCell (p := ⟨w.heap.size + 1, 0, none⟩) (Nat.le_succ _) _, fun v hv => cell_other hv (by intro e; injection e with e; omega)⟩, ⟨by rw [← E.out]; exact World.cell?_setCell_same' _ _ _ (by rw [hc]; rfl), by rw [World.frozen?_setCell]; exact hf, cell_other hx (by intro e; injection e with e; omega)⟩, hB.setCell (p := ⟨w.heap.size + 1, 0, none⟩) (Nat.le_succ _) _⟩
  case done =>
    rintro D ys W hD rfl ⟨⟨hc, _, _⟩, hB⟩ hK
    rw [ho_all] at hc
    gi_wp2
    refine ⟨by simp, .inl ⟨_, _, rfl, run_takeDeferred hK, ?_⟩⟩
    exact ⟨_, results_tmp rfl _ _ _, rfl, hB.trans (belowK_b (w := w) (Nat.le_refl _) W D _ _ (by simp at hD; omega) hK rfl rfl)⟩
  case stop =>
    rintro D c pre W _ _ h _
    exact h.elim
theorem value_at (b o m d : Nat) (K : Nat → QF) (x : Int) (hm : m ≤ 12) (x0 : 0 ≤ x) (x1 : x < 1013) (w : World) (hr : RowI w b o m (fun i => vI (K i))) :
    Calls Tryz.prog 84 #[.slice (some ⟨b, o, none⟩) m d, .int .i64 x] w fun e w' => e = .returned (.int .i64 (vI (vlq K (zq x) m))) ∧ Below w.heap.size w w' :=
  (callsIn_wide (n := 3)).1 (value_in Fence.wide 3 trivial trivial trivial rfl (Nat.le_refl _) b o m d K x hm x0 x1 w hr)
end Go.Proofs.YtgngdabfmbipaakGreatDoor

/- What package share answers: Split, Weights, Combine. -/
namespace Go.Proofs.YtgngdabfmbipaakGreatDoor
open Go.RowKit Go.Sort
set_option linter.unusedVariables false
set_option linter.unusedSimpArgs false
theorem hinfoS : (Tryz.prog.info? 112).map (fun i => (i.zero, i.size, i.bytes)) = some (some (.agg #[.int .i64 0, .int .i64 0]), 2, 16) := by kernel_rfl
set_option maxRecDepth 100000 in
set_option maxHeartbeats 4000000 in
theorem split_many (sc : Option Addr) (m d : Nat) (z : Int) (w : World) (h : 12 < m) (hm : m ≤ 9223372036854775807) : Calls Tryz.prog 43 #[.slice sc m d, .int .i64 z] w fun e w' => e = .returned (.tuple #[.slice none 0 0, errOf 4]) ∧ Below w.heap.size w w' := by
  have h' : (m : Int) > 12 := by omega
  go_enter Tryz.func43, Tryz.ntmps43
  go_wp2_with fail
  exact bodyPost_ret (v := .tuple #[.slice none 0 0, errOf 4]) (by simp [results, Tryz.results43, go_sem, *]) rfl ⟨rfl, below_by⟩
set_option maxRecDepth 100000 in
set_option maxHeartbeats 4000000 in
theorem split_nil (sc : Option Addr) (d : Nat) (z : Int) (w : World) : Calls Tryz.prog 43 #[.slice sc 0 d, .int .i64 z] w fun e w' => e = .returned (.tuple #[.slice none 0 0, errOf 1]) ∧ Below w.heap.size w w' := by
  go_enter Tryz.func43, Tryz.ntmps43
  go_wp2_with fail
  exact bodyPost_ret (v := .tuple #[.slice none 0 0, errOf 1]) (by simp [results, Tryz.results43, go_sem, *]) rfl ⟨rfl, below_by⟩
set_option maxRecDepth 100000 in
set_option maxHeartbeats 4000000 in
theorem split_bad (sc : Option Addr) (m d : Nat) (z : Int) (t : Bool) (w : World) (h0 : 0 < m) (h : ¬ 12 < m) (hc : Calls Tryz.prog 83 #[.slice sc m d, .func (.func 81) #[] #[]] w fun e w' => e = .returned (.bool t) ∧ Below w.heap.size w w') (ht : t = true ∨ z < 1 ∨ 12 < z) : Calls Tryz.prog 43 #[.slice sc m d, .int .i64 z] w fun e w' => e = .returned (.tuple #[.slice none 0 0, errOf 1]) ∧ Below w.heap.size w w' := by
  have HC : Hid (Calls Tryz.prog 83 #[.slice sc m d, .func (.func 81) #[] #[]] w fun e w' => e = .returned (.bool t) ∧ Below w.heap.size w w') := hc
  have h' : ¬ (m : Int) > 12 := by omega
  have h2 : ((m : Int) == 0) = false := by rw [beq_eq_false_iff_ne]; omega
  clear hc
  cases t with
  | true =>
    clear ht
    go_enter Tryz.func43, Tryz.ntmps43
    go_wp2_with (go_at_call 83; refine (HC.out).mono ?_; rintro e w1 ⟨rfl, hbw1⟩; have hqw1 : Below w.heap.size w w1 := (below_by); have hzw1 := hqw1.size; clear hbw1)
    exact bodyPost_ret (v := .tuple #[.slice none 0 0, errOf 1]) (by simp [results, Tryz.results43, go_sem, *]) rfl ⟨rfl, below_by⟩
  | false =>
    by_cases z1 : z < 1
    · clear ht
      go_enter Tryz.func43, Tryz.ntmps43
      go_wp2_with (go_at_call 83; refine (HC.out).mono ?_; rintro e w1 ⟨rfl, hbw1⟩; have hqw1 : Below w.heap.size w w1 := (below_by); have hzw1 := hqw1.size; clear hbw1)
      exact bodyPost_ret (v := .tuple #[.slice none 0 0, errOf 1]) (by simp [results, Tryz.results43, go_sem, *]) rfl ⟨rfl, below_by⟩
    · have z2 : z > 12 := by
        rcases ht with ht | ht | ht
        · cases ht
        · omega
        · omega
      clear ht
      go_enter Tryz.func43, Tryz.ntmps43
      go_wp2_with (go_at_call 83; refine (HC.out).mono ?_; rintro e w1 ⟨rfl, hbw1⟩; have hqw1 : Below w.heap.size w w1 := (below_by); have hzw1 := hqw1.size; clear hbw1)
      exact bodyPost_ret (v := .tuple #[.slice none 0 0, errOf 1]) (by simp [results, Tryz.results43, go_sem, *]) rfl ⟨rfl, below_by⟩
set_option maxRecDepth 100000 in
set_option maxHeartbeats 4000000 in
theorem split_ok (b o m d : Nat) (C : Nat → Int) (n : Nat) (w : World) (h0 : 1 ≤ m) (h12 : m ≤ 12) (hr : RowI w b o m C) (hok : ∀ i, i < m → resB (C i) = true) (n1 : 1 ≤ n) (n2 : n ≤ 12) :
    Calls Tryz.prog 43 #[.slice (some ⟨b, o, none⟩) m d, .int .i64 (n : Int)] w fun ex w' => ∃ u, ex = .returned (.tuple #[u, .nilIface]) ∧ w'.ownsRow w.heap.size 112 2 u n (cellsP (fun i : Nat => (i : Int) + 1) (fun i => vI (vlq (xq C) (zq ((i : Int) + 1)) m)) n) ∧ Below w.heap.size w w' := by
  have HC : Hid (Calls Tryz.prog 83 #[.slice (some ⟨b, o, none⟩) m d, .func (.func 81) #[] #[]] w fun e w' => e = .returned (.bool false) ∧ Below w.heap.size w w') := idxI_no b o m d C w h12 hr hok
  have hr' : RowI w b o m (fun i => vI (xq C i)) := ⟨hr.1, fun i hi => by
    have e : vI (xq C i) = C i := by
      have := res_bd (hok i hi)
      show vI (zq (C i)) = C i
      rw [vI_zq]; omega
    show _ = some (Value.int .i64 (vI (xq C i)))
    rw [e]; exact hr.2 i hi⟩
  have HV : Hid (∀ W k, Below w.heap.size w W → k < n → Calls Tryz.prog 84 #[.slice (some ⟨b, o, none⟩) m d, .int .i64 ((k : Int) + 1)] W fun e w' => e = .returned (.int .i64 (vI (vlq (xq C) (zq ((k : Int) + 1)) m))) ∧ Below W.heap.size W w') :=
    fun W k hW hk => value_at b o m d (xq C) ((k : Int) + 1) h12 (by omega) (by omega) W (hr'.below hr'.1 hW)
  have hb := hr.1
  have h' : ¬ (m : Int) > 12 := by omega
  have h2 : ((m : Int) == 0) = false := by rw [beq_eq_false_iff_ne]; omega
  have z1 : ¬ (n : Int) < 1 := by omega
  have z2 : ¬ (n : Int) > 12 := by omega
  clear hr hr' hok
  obtain ⟨i0, hi, hv0, hv1, hv2⟩ := info_parts hinfoS
  go_enter Tryz.func43, Tryz.ntmps43
  go_wp2_with (first | (go_at_call 83; refine (HC.out).mono ?_; rintro e w1 ⟨rfl, hbw1⟩; have hqw1 : Below w.heap.size w w1 := (below_by); have hzw1 := hqw1.size; clear hbw1) | (at_make; refine wpList_make_own _ rfl _ _ 78 rfl w.heap.size 112 i0 (.agg #[.int .i64 0, .int .i64 0]) 2 Tryz.underlying78 hi hv0 hv1 _ _ _ n rfl rfl rfl ?b2 ?b3 ?b4 ?_))
  case b2 => rw [hv2]; omega
  case b3 => unfold maxLen; omega
  case b4 => omega
  intro w2 hown0 hgrow
  have hq2 : Below w.heap.size w w2 := (by assumption : Below w.heap.size w _).grown hgrow (by omega) (fun k hk => by cases hk)
  clear hgrow
  go_wp2_with fail
  go_loopw [7, 8] (fun tv ti wl => ∃ i : Nat, i ≤ n ∧ ti = .int .i64 ((i : Int) + 1) ∧ wl.ownsRow w.heap.size 112 2 tv i (cellsP (fun i : Nat => (i : Int) + 1) (fun i => vI (vlq (xq C) (zq ((i : Int) + 1)) m)) i) ∧ Below w.heap.size w wl) (fun _ ti _ => n + 1 - (intOf ti).toNat)
  case atStart => exact ⟨0, by omega, rfl, hown0, below_by⟩
  case round =>
    clear hown0
    obtain ⟨i, hin, rfl, hown, hqV⟩ := hrel
    rename World => wV
    have hzV := hqV.size
    by_cases hlt : i < n
    · have hlt' : (i : Int) + 1 ≤ n := by omega
      have HVi : Hid (Calls Tryz.prog 84 #[.slice (some ⟨b, o, none⟩) m d, .int .i64 ((i : Int) + 1)] wV fun e w' => e = .returned (.int .i64 (vI (vlq (xq C) (zq ((i : Int) + 1)) m))) ∧ Below wV.heap.size wV w') := HV.out wV i hqV hlt
      go_wp2_with (first | (go_at_call 84; refine HVi.out.mono ?_; rintro e w5 ⟨rfl, hb5⟩; have hq5 : Below w.heap.size w w5 := (below_by); have hz5 := hq5.size; have hown5 := own_stay hown hb5) | (at_builtin; refine wpList_append_own_at _ rfl _ _ 78 rfl w.heap.size 112 i0 (.agg #[.int .i64 0, .int .i64 0]) 2 16 Tryz.underlying78 hi hv0 hv1 hv2 rfl (by decide) _ _ _ rfl (own_stay hown5 (below_by)) ⟨_, 0, none⟩ 1 1 [.int .i64 ((i : Int) + 1), .int .i64 (vI (vlq (xq C) (zq ((i : Int) + 1)) m))] rfl rfl ?c1 ?c2 ?c3 ?c4 ?c5 ?_))
      case c1 => exact two_at _ _ _ (by simp)
      case c2 => intro u hu; simp at hu; rcases hu with rfl | rfl <;> rfl
      case c3 => unfold maxLen; omega
      case c4 => omega
      case c5 => simp; omega
      · intro v' w13 hown' hgrow _ hat
        have hq13 : Below w.heap.size w w13 := grown_under (B := w.heap.size) (below_by) (own_stay (by assumption) (below_by)) hgrow (by simp; omega) (Nat.le_refl _)
        rw [← cellsP_succ (fun i : Nat => (i : Int) + 1) (fun i => vI (vlq (xq C) (zq ((i : Int) + 1)) m))] at hown'
        clear hgrow hat hown
        go_wp2_with fail
        go_roundw
        case rel => exact ⟨i + 1, by omega, by simp, hown', hq13⟩
        case measure => simp [intOf]; omega
    · have hlt' : ¬ (i : Int) + 1 ≤ n := by omega
      obtain rfl : i = n := by omega
      go_wp2_with fail
      go_ret2
      exact ⟨_, rfl, hown, below_by⟩
theorem split_is : SplitIs :=
  ⟨fun sc m d z w h hm => split_many sc m d z w h hm,
   fun sc m d C z w h hr hC hz hbad => by
     by_cases m0 : m = 0
     · subst m0; exact split_nil sc d z w
     · obtain ⟨b, o, rfl, r⟩ := hr.resolve_left m0
       by_cases hno : ∃ j, j < m ∧ resB (C j) = false
       · exact split_bad _ m d z true w (by omega) h (idxI_yes b o m d C w (by omega) r hno) (Or.inl rfl)
       · have hok : ∀ i, i < m → resB (C i) = true := fun i hi => by
           cases hq : resB (C i) with
           | true => rfl
           | false => exact absurd ⟨i, hi, hq⟩ hno
         exact split_bad _ m d z false w (by omega) h (idxI_no b o m d C w (by omega) r hok) (by
           rcases hbad with k | k | k | k
           · exact absurd k m0
           · exact Or.inr (Or.inl k)
           · exact Or.inr (Or.inr k)
           · exact absurd k hno),
   fun b o m d C n w h0 h12 hr hok n1 n2 => split_ok b o m d C n w h0 h12 hr hok n1 n2⟩
end Go.Proofs.YtgngdabfmbipaakGreatDoor
