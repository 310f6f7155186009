/- What share.valueAt answers: a polynomial's value, from the last coefficient to the first (a range over slices.Backward). -/
import Derived.Test.YtkhpmnehjifdcafDoorShareIs
import Derived.Test.YtkhpmnehjifdcafDoorOwn
import Derived.Test.YtkhpmnehjifdcafDoorMem
import Derived.RangeFuncBox
import Derived.RangeFuncLeaves
import Derived.Shelf.Abstract
import Derived.WalkKit
import Derived.OwnWalkIn
import Derived.TacticsInMore
import Derived.LoopNIn
import Derived.LoopIn
namespace Go.Proofs.YtkhpmnehjifdcafDoor
open Go.RowKit Go.Shelf
set_option linter.unusedVariables false
set_option linter.unusedSimpArgs false
attribute [local go_sem] Oper.semAt_some
/-- From the last coefficient to the first: what has been reckoned behind so many. -/
def hoL (x : QF) : List (Nat × QF) → QF := List.foldl (fun s p => s * x + p.2) 0
theorem hoL_snoc (x : QF) (l : List (Nat × QF)) (p : Nat × QF) : hoL x (l ++ [p]) = hoL x l * x + p.2 := by unfold hoL; rw [List.foldl_append]; rfl
/-- What comes of so many, from the last on. -/
def upB (K : Nat → QF) (m k : Nat) : List (Nat × QF) := (List.range k).map fun j => (m - 1 - j, K (m - 1 - j))
theorem upB_succ (K : Nat → QF) (m k : Nat) : upB K m (k + 1) = upB K m k ++ [(m - 1 - k, K (m - 1 - k))] := by simp [upB, List.range_succ]
theorem upB_length (K : Nat → QF) (m k : Nat) : (upB K m k).length = k := by simp [upB]
theorem ho_part (K : Nat → QF) (x : QF) (m : Nat) : ∀ k j, k + j = m → vlq K x m = vlq K x j + pwq x j * hoL x (upB K m k)
  | 0, j, h => by
    obtain rfl : j = m := by omega
    show _ = vlq K x j + pwq x j * 0
    grind
  | k + 1, j, h => by
    rw [ho_part K x m k (j + 1) (by omega), upB_succ, hoL_snoc, show m - 1 - k = j by omega]
    show vlq K x j + K j * pwq x j + pwq x j * x * hoL x (upB K m k) = _
    grind
theorem ho_all (K : Nat → QF) (x : QF) (m : Nat) : hoL x (upB K m m) = vlq K x m := by
  have := ho_part K x m m 0 (by omega)
  rw [this]
  show _ = 0 + 1 * _
  grind
theorem cell_other {W : World} {a b : Addr} {u v : Value} (h : W.cell? b = some v) (hne : a ≠ b) : (W.setCell a u).cell? b = some v := by
  rw [World.cell?_setCell_other _ _ _ _ hne]; exact h
/-- What a round keeps: what lay below, and the box of what is gone over. -/
def KpB (n₀ Bs : Nat) (W W' : World) : Prop := Below n₀ W W' ∧ ∀ v, W.cell? ⟨Bs, 0, none⟩ = some v → W'.cell? ⟨Bs, 0, none⟩ = some v
theorem KpB.t {n₀ Bs : Nat} {A B C : World} (h : KpB n₀ Bs A B) (k : KpB n₀ Bs B C) : KpB n₀ Bs A C := ⟨h.1.trans k.1, fun v hv => k.2 v (h.2 v hv)⟩
theorem KpB.b {n₀ Bs : Nat} {w : World} (hn : n₀ ≤ w.heap.size) (W : World) (l : Nat) (o o' : Obj) (hl : w.heap.size ≤ l) (h : W.heap[l]? = some o) (h1 : o.isCells = false) (h2 : o.isWalk = false) : KpB n₀ Bs W (W.putObj l o') :=
  ⟨belowK_b hn W l o o' hl h h1 h2, fun v hv => cell_kept hv (grownBy_putObj' W l o') (fun r e => by cases e; exact ⟨_, h, h1⟩)⟩
set_option maxRecDepth 100000 in
set_option maxHeartbeats 2000000 in
theorem back1_in (F : Fence) (n : Nat) (hf : F.fn 64) (hro : F.round = none) (hn : 1 ≤ n) (l Bs n₀ b o m d : Nat) (K : Nat → QF) (hm : m ≤ 12) (hb : b < n₀) (J Jx : List (Nat × QF) → World → Prop)
    (hY : ∀ pre x W, J pre W → pre.length < m → YieldAt F (n - 1) Tryd.prog l #[.int .i64 (x.1 : Int), .int .i64 (vI x.2)] W fun e W' =>
      (e = .returned (.bool true) ∧ J (pre ++ [x]) W' ∧ KpB n₀ Bs W W') ∨ (e = .returned (.bool false) ∧ Jx (pre ++ [x]) W'))
    (W : World) (hBs : W.cell? ⟨Bs, 0, none⟩ = some (.slice (some ⟨b, o, none⟩) m d)) (hc : ∀ j, j < m → W.cell? ⟨b, o + j, none⟩ = some (.int .i64 (vI (K j)))) (h0 : J [] W) :
    CallsIn F n Tryd.prog 64 #[.func (.yield l) #[] #[], .pointer (some ⟨Bs, 0, none⟩)] W fun e W' => (∃ v, e = .returned v) ∧
      ((∃ ys, ys = upB K m m ∧ J ys W') ∨ (∃ pre, (∃ k, k ≤ m ∧ pre = upB K m k) ∧ Jx pre W')) := by
  refine callsIn_of_wp Tryd.func64 rfl hf ?_ hro
  simp only [Tryd.ntmps64, List.size_toArray, List.length_cons, List.length_nil, Nat.reduceAdd, Nat.reduceSub, Array.replicate_succ, Array.replicate_zero, List.push_toArray, List.append_toArray, List.nil_append, List.cons_append]
  gi_wp2
  gi_loopw [3] (fun i wr => ∃ j k : Nat, k + j = m ∧ i = .int .i64 ((j : Int) - 1) ∧ J (upB K m k) wr ∧ wr.cell? ⟨Bs, 0, none⟩ = some (.slice (some ⟨b, o, none⟩) m d) ∧ Below n₀ W wr)
    (fun i _ => (intOf i + 1).toNat)
  case atStart => exact ⟨m, 0, by omega, rfl, h0, hBs, Below.refl _ _⟩
  case round =>
    obtain ⟨j, k, hk, rfl, hJs, hBx, hnx⟩ := hrel
    cases j with
    | zero =>
      obtain rfl : k = m := by omega
      have e : ((0 : Nat) : Int) - 1 = -1 := rfl
      rw [e]
      gi_wp2
      go_end0
      exact ⟨⟨_, rfl⟩, .inl ⟨_, rfl, hJs⟩⟩
    | succ j =>
      have e : ((j + 1 : Nat) : Int) - 1 = (j : Int) := by omega
      rw [e]
      have hj : j < m := by omega
      have hj0 : (j : Int) ≥ 0 := by omega
      have hcx : wr.cell? ⟨b, o + j, none⟩ = some (.int .i64 (vI (K j))) := (hnx.cell (p := ⟨b, o + j, none⟩) hb).trans (hc j hj)
      have HU : upB K m (k + 1) = upB K m k ++ [(j, K j)] := by rw [upB_succ, show m - 1 - k = j by omega]
      obtain ⟨fn, tmps, assign, body, hy, hR⟩ := hY _ (j, K j) wr hJs (by rw [upB_length]; omega)
      dsimp only at hy
      gi_wp2
      refine hR.mono ?_
      rintro e W3 (⟨rfl, hJ3, hk3⟩ | ⟨rfl, hJx3⟩)
      · have hBx3 := hk3.2 _ hBx
        gi_wp2
        go_roundw
        case rel => exact ⟨j, k + 1, by omega, rfl, by rw [HU]; exact hJ3, hBx3, hnx.trans hk3.1⟩
        case measure => simp [intOf]
      · gi_wp2
        refine bodyPost_ret (results_none rfl _ _ _) rfl ?_
        exact ⟨⟨_, rfl⟩, .inr ⟨_, ⟨k + 1, by omega, HU.symm⟩, hJx3⟩⟩
set_option maxHeartbeats 1000000 in
theorem back_in (F : Fence) (n : Nat) (hf : F.fn 49) (hro : F.round = none) (a : Option Addr) (len cap : Nat) (w : World) :
    CallsIn F n Tryd.prog 49 #[.slice a len cap] w fun e w' => e = .returned (.func (.func 64) #[] #[.pointer (some ⟨w.heap.size, 0, none⟩)]) ∧ w' = w.alloc (.cells #[.slice a len cap] 22) := by
  refine callsIn_of_wp Tryd.func49 rfl hf ?_ hro
  simp only [Tryd.ntmps49, List.size_toArray, List.length_cons, List.length_nil, Nat.reduceAdd, Nat.reduceSub, Array.replicate_succ, Array.replicate_zero, List.push_toArray, List.append_toArray, List.nil_append, List.cons_append]
  gi_wp2
  go_ret
  exact ⟨rfl, rfl⟩
theorem back_stops (F : Fence) (n : Nat) (hf : F.fn 64) (hro : F.round = none) (hn : 1 ≤ n) (Bs n₀ b o m d : Nat) (K : Nat → QF) (hm : m ≤ 12) (hb : b < n₀) (w : World) (hBs : Bs < w.heap.size) (hn₀ : n₀ ≤ w.heap.size)
    (hc : w.cell? ⟨Bs, 0, none⟩ = some (.slice (some ⟨b, o, none⟩) m d)) (hI : ∀ j, j < m → w.cell? ⟨b, o + j, none⟩ = some (.int .i64 (vI (K j)))) :
    SeqStopsK F n Tryd.prog 64 #[.pointer (some ⟨Bs, 0, none⟩)] (fun x : Nat × QF => #[Value.int .i64 (x.1 : Int), Value.int .i64 (vI x.2)]) (KpB n₀ Bs) (fun ys => ys = upB K m m)
      (fun pre => ∃ k, k ≤ m ∧ pre = upB K m k) m w := fun l J Jx W hW _ _ hY h0 =>
  back1_in F n hf hro hn l Bs n₀ b o m d K hm hb J Jx hY W ((hW.cell (p := ⟨Bs, 0, none⟩) hBs).trans hc) (fun j hj => (hW.cell (p := ⟨b, o + j, none⟩) (Nat.lt_of_lt_of_le hb hn₀)).trans (hI j hj)) h0
set_option maxRecDepth 100000 in
set_option maxHeartbeats 2000000 in
theorem value_in (F : Fence) (n : Nat) (h3 : F.fn 28) (h5 : F.fn 49) (h7 : F.fn 64) (hro : F.round = none) (hn : 3 ≤ n) (b o m d : Nat) (K : Nat → QF) (x : Int) (hm : m ≤ 12) (x0 : 0 ≤ x) (x1 : x < 1013) (w : World) (hr : RowI w b o m (fun i => vI (K i))) :
    CallsIn F n Tryd.prog 28 #[.slice (some ⟨b, o, none⟩) m d, .int .i64 x] w fun e W' => e = .returned (.int .i64 (vI (vlq K (zq x) m))) ∧ Below w.heap.size w W' := by
  have h1 : 1 ≤ n := by omega
  have HR : Hid (RowI w b o m (fun i => vI (K i))) := hr
  clear hr
  refine callsIn_of_wp_marks Tryd.func28 rfl h3 ?_ hro
  simp only [Tryd.ntmps28, List.size_toArray, List.length_cons, List.length_nil, Nat.reduceAdd, Nat.reduceSub, Array.replicate_succ, Array.replicate_zero, List.push_toArray, List.append_toArray, List.nil_append, List.cons_append]
  gi_wp2_with (gi_at_call 49; refine (back_in F (n - 1) h5 hro _ _ _ _).mono ?_; rintro e w' ⟨rfl, rfl⟩)
  have bX := Boxed.new w 3 (.int .i64 x)
  have bS := Boxed.new (w.alloc (.cells #[.int .i64 x] 3)) 3 (.int .i64 0)
  have bN := Boxed.new ((w.alloc (.cells #[.int .i64 x] 3)).alloc (.cells #[.int .i64 0] 3)) 22 (.slice (some ⟨b, o, none⟩) m d)
  rw [World.size_alloc] at bS
  rw [World.size_alloc, World.size_alloc] at bN
  have hB0 : Below w.heap.size w (((w.alloc (.cells #[.int .i64 x] 3)).alloc (.cells #[.int .i64 0] 3)).alloc (.cells #[.slice (some ⟨b, o, none⟩) m d] 22)) := (((Below.refl _ w).alloc (Nat.le_refl _) _).alloc (by simp) _).alloc (by simp; omega) _
  refine wpIn_rangeFunc_ownG hro h1 (gf := 64) (lb := #[.pointer (some ⟨w.heap.size + 1 + 1, 0, none⟩)]) rfl h7 (enters_of Tryd.func64 (by kernel_rfl) rfl)
    (back_stops F (n - 1) h7 hro (by omega) (w.heap.size + 1 + 1) w.heap.size b o m d K hm HR.out.1 _ (by simp) (by simp; omega) bN.cell (fun j hj => (hB0.cell (p := ⟨b, o + j, none⟩) HR.out.1).trans (HR.out.2 j hj))) KpB.t (KpB.b (by simp; omega)) (Below.refl _ _) (fun _ => rfl)
    (fun pre W => (W.cell? ⟨w.heap.size + 1, 0, none⟩ = some (.int .i64 (vI (hoL (zq x) pre))) ∧ W.frozen? ⟨w.heap.size + 1, 0, none⟩ = false ∧ W.cell? ⟨w.heap.size, 0, none⟩ = some (.int .i64 x)) ∧ Below w.heap.size w W)
    (fun _ _ _ => False)
    (OwnFrom.and (Own.from (fun s A B row hs hg hr => ⟨cell_kept hs.1 hg hr, (frozen_kept hs.1 hg hr).trans hs.2.1, cell_kept hs.2.2 hg hr⟩) _) (ownFrom_below (Nat.le_refl _) (by simp; omega)))
    (fun _ _ _ _ _ hs _ _ => hs)
    ⟨⟨(bS.alloc _).cell, (bS.alloc _).frozen, ((bX.alloc _).alloc _).cell⟩, hB0⟩
    (fun y => { tmps := #[.slice (some ⟨b, o, none⟩) m d, .int .i64 x, undef, .pointer (some ⟨w.heap.size, 0, none⟩), .int .i64 0, .pointer (some ⟨w.heap.size + 1, 0, none⟩), undef, .int .i64 (vI y.2), .slice (some ⟨b, o, none⟩) m d, .func (.func 64) #[] #[.pointer (some ⟨w.heap.size + 1 + 1, 0, none⟩)], .int .i64 (y.1 : Int), .int .i64 (vI y.2), undef, undef, undef, undef, undef, undef, undef], defers := [] }) ?assign ?body ?done ?stop
  case assign =>
    intro l x W K hK
    gi_wp2
    exact hK
  case body =>
    rintro l pre y W ⟨⟨hc, hf, hx⟩, hB⟩ _
    obtain ⟨s, hs⟩ : ∃ s, hoL (zq x) pre = s := ⟨_, rfl⟩
    have E : Hid ((vI s * x + vI y.2) % 1013 = vI (hoL (zq x) (pre ++ [y]))) := by
      unfold Hid
      rw [hoL_snoc, hs, ← vI_zq, zq_add, zq_mul, zq_vI, zq_vI]
    rw [hs] at hc
    clear hs
    obtain ⟨p0, p1⟩ := vI_bd s x0 x1
    have y0 := vI_lo y.2
    have y1 := vI_hi y.2
    gi_wp2
    exact ⟨(KeepsOthers.setCell _ _ _).from _, ⟨(Below.refl w.heap.size W).setCell (p := ⟨w.heap.size + 1, 0, none⟩) (Nat.le_succ _) _, fun v hv => cell_other hv (by intro e; injection e with e; omega)⟩, ⟨by rw [← E.out]; exact World.cell?_setCell_same' _ _ _ (by rw [hc]; rfl), by rw [World.frozen?_setCell]; exact hf, cell_other hx (by intro e; injection e with e; omega)⟩, hB.setCell (p := ⟨w.heap.size + 1, 0, none⟩) (Nat.le_succ _) _⟩
  case done =>
    rintro D ys W hD rfl ⟨⟨hc, _, _⟩, hB⟩ hK
    rw [ho_all] at hc
    gi_wp2
    refine ⟨by simp, .inl ⟨_, _, rfl, run_takeDeferred hK, ?_⟩⟩
    exact ⟨_, results_tmp rfl _ _ _, rfl, hB.trans (belowK_b (w := w) (Nat.le_refl _) W D _ _ (by simp at hD; omega) hK rfl rfl)⟩
  case stop =>
    rintro D c pre W _ _ h _
    exact h.elim
theorem value_at (b o m d : Nat) (K : Nat → QF) (x : Int) (hm : m ≤ 12) (x0 : 0 ≤ x) (x1 : x < 1013) (w : World) (hr : RowI w b o m (fun i => vI (K i))) :
    Calls Tryd.prog 28 #[.slice (some ⟨b, o, none⟩) m d, .int .i64 x] w fun e w' => e = .returned (.int .i64 (vI (vlq K (zq x) m))) ∧ Below w.heap.size w w' :=
  (callsIn_wide (n := 3)).1 (value_in Fence.wide 3 trivial trivial trivial rfl (Nat.le_refl _) b o m d K x hm x0 x1 w hr)
end Go.Proofs.YtkhpmnehjifdcafDoor
