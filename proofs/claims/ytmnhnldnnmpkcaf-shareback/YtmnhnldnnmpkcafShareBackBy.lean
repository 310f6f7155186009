/- stonelaw2.ShareBack answers true, by what package share is to answer. -/
import Derived.Test.YtmnhnldnnmpkcafShareBackEq
import Derived.Deep.RegionHeld3
import Derived.Deep.AppendLies
import Derived.Deep.CutRange
import Derived.Deep.CutBlock
namespace Go.Proofs.Ytmnhnldnnmpkcaf
open Go.RowKit Go.Sort
set_option linter.unusedVariables false
set_option linter.unusedSimpArgs false
def extB (f : Nat → Bool) (j : Nat) : Nat → Bool := fun i => bif Nat.beq i j then true else f i
/-- Is it picked? -/
def pkB (J : Nat → Nat) : Nat → Nat → Bool
  | 0 => fun _ => false
  | r + 1 => extB (pkB J r) (J r)
/-- So many flags in a block of the call's own. -/
def Flags (w : World) (b : Nat) (f : Nat → Bool) : Prop := b < w.heap.size ∧ ∀ j, j < 13 → w.cell? ⟨b, j, none⟩ = some (.bool (f j)) ∧ w.frozen? ⟨b, j, none⟩ = false
theorem Flags.below {w w' : World} {b : Nat} {f : Nat → Bool} (h : Flags w b f) (k : Below w.heap.size w w') : Flags w' b f :=
  ⟨Nat.lt_of_lt_of_le h.1 k.size, fun j hj => ⟨(k.cell (p := ⟨b, j, none⟩) h.1).trans (h.2 j hj).1, (k.frozen (p := ⟨b, j, none⟩) h.1).trans (h.2 j hj).2⟩⟩
theorem Flags.grown {w w' : World} {b : Nat} {f : Nat → Bool} (h : Flags w b f) {row : Option Nat} (hg : w.grownBy w' row) (hne : row ≠ some b) : Flags w' b f := by
  have hb := hg.block b h.1 (fun e => hne e.symm)
  exact ⟨Nat.lt_of_lt_of_le h.1 hg.size, fun j hj => ⟨(World.cell?_of_block (a := ⟨b, j, none⟩) hb).trans (h.2 j hj).1, (World.frozen?_of_block (a := ⟨b, j, none⟩) hb).trans (h.2 j hj).2⟩⟩
theorem Flags.put {w : World} {b j : Nat} {f : Nat → Bool} (h : Flags w b f) (hj : j < 13) : Flags (w.setCell ⟨b, j, none⟩ (.bool true)) b (extB f j) := by
  refine ⟨by simpa [World.setCell] using h.1, fun i hi => ⟨?_, ?_⟩⟩
  · have a0 := (h.2 i hi).1
    have a1 := (h.2 j hj).1
    by_cases e : i = j
    · subst e
      unfold extB
      rw [Nat.beq_refl]
      simp [a0, go_sem]
    · have hb : Nat.beq i j = false := by
        cases hb : Nat.beq i j with
        | false => rfl
        | true => exact absurd (Nat.eq_of_beq_eq_true hb) e
      unfold extB
      rw [hb]
      simp [a0, go_sem, e]
  · rw [World.frozen?_setCell]; exact (h.2 i hi).2
theorem pkB_congr {J K : Nat → Nat} : ∀ {r : Nat}, (∀ i, i < r → J i = K i) → pkB J r = pkB K r
  | 0, _ => rfl
  | r + 1, h => by show extB (pkB J r) (J r) = extB (pkB K r) (K r); rw [pkB_congr fun i hi => h i (by omega), h r (by omega)]
theorem pkB_more (J : Nat → Nat) (r j : Nat) : pkB (extN J r j) (r + 1) = extB (pkB J r) j := by
  show extB (pkB (extN J r j) r) (extN J r j r) = _
  rw [extN_at, pkB_congr (K := J) fun i hi => extN_lt J j hi]
theorem pkB_no {J : Nat → Nat} : ∀ {r j : Nat}, pkB J r j = false → ∀ i, i < r → J i ≠ j
  | 0, _, _, i, hi => absurd hi (Nat.not_lt_zero _)
  | r + 1, j, h, i, hi => by
    have h1 : (bif Nat.beq j (J r) then true else pkB J r j) = false := h
    cases hb : Nat.beq j (J r) with
    | true => rw [hb] at h1; cases h1
    | false =>
      rw [hb] at h1
      rcases Nat.lt_succ_iff_lt_or_eq.1 hi with h2 | rfl
      · exact pkB_no h1 i h2
      · intro e; rw [e, Nat.beq_refl] at hb; cases hb
theorem picks_more {J : Nat → Nat} {r n j : Nat} (h : Picks J r n) (hj : j < n) (hb : pkB J r j = false) : Picks (extN J r j) (r + 1) n := by
  refine ⟨fun i hi => ?_, fun i k hi hk e => ?_⟩
  · rcases Nat.lt_succ_iff_lt_or_eq.1 hi with h1 | rfl
    · rw [extN_lt J j h1]; exact h.1 i h1
    · rw [extN_at]; exact hj
  · rcases Nat.lt_succ_iff_lt_or_eq.1 hi with h1 | rfl
    · rcases Nat.lt_succ_iff_lt_or_eq.1 hk with h2 | rfl
      · rw [extN_lt J j h1, extN_lt J j h2] at e; exact h.2 i k h1 h2 e
      · rw [extN_lt J j h1, extN_at] at e; exact absurd e (pkB_no hb i h1)
    · rcases Nat.lt_succ_iff_lt_or_eq.1 hk with h2 | rfl
      · rw [extN_at, extN_lt J j h2] at e; exact absurd e.symm (pkB_no hb k h2)
      · rfl
theorem cellsP_congr {X Y X' Y' : Nat → Int} : ∀ {n : Nat}, (∀ i, i < n → X i = X' i ∧ Y i = Y' i) → cellsP X Y n = cellsP X' Y' n
  | 0, _ => rfl
  | n + 1, h => by
    obtain ⟨a, b⟩ := h n (by omega)
    rw [cellsP_succ, cellsP_succ, cellsP_congr (n := n) fun i hi => h i (by omega), a, b]
theorem cellsP_ext {X Y X' Y' : Nat → Int} {n : Nat} {a b : Int} (h : ∀ i, i < n → X i = X' i ∧ Y i = Y' i) (ha : X n = a) (hb : Y n = b) : cellsP X Y (n + 1) = cellsP X' Y' n ++ [.int .i64 a, .int .i64 b] := by rw [cellsP_succ, cellsP_congr h, ha, hb]
theorem prow_ext (J : Nat → Nat) (PY : Nat → Int) (r j : Nat) : cellsP (pkX (extN J r j)) (fun i => PY (extN J r j i)) (r + 1) = cellsP (pkX J) (fun i => PY (J i)) r ++ [.int .i64 ((j : Int) + 1), .int .i64 (PY j)] :=
  cellsP_ext (fun i hi => by unfold pkX; rw [extN_lt J j hi]; exact ⟨rfl, rfl⟩) (by unfold pkX; rw [extN_at]) (by rw [extN_at])
theorem own_cellsB {W : World} {B e size n : Nat} {v : Value} {xs ys : List Value} (h : xs = ys) (k : W.ownsRow B e size v n ys) : W.ownsRow B e size v n xs := h ▸ k
theorem hinfoB : (Try.prog.info? 31).map (fun i => (i.zero, i.size, i.bytes)) = some (some (.agg #[.int .i64 0, .int .i64 0]), 2, 16) := by kernel_rfl
theorem two_newB (w : World) (x y : Value) (t : TypeId) : ∀ j u, [x, y][j]? = some u → (w.alloc (.cells #[x, y] t)).cell? ((⟨w.heap.size, 0, none⟩ : Addr).add j) = some u := by
  intro j u hj
  rw [addr_add]
  match j, hj with
  | 0, hj => simp at hj; subst hj; simp
  | 1, hj => simp at hj; subst hj; simp
theorem two_newB' {w : World} {b : Nat} (h : b = w.heap.size) (x y : Value) (t : TypeId) : ∀ j u, [x, y][j]? = some u → (w.alloc (.cells #[x, y] t)).cell? ((⟨b, 0, none⟩ : Addr).add j) = some u := by
  subst h; exact two_newB w x y t
theorem one_two {x y : Int} : ∀ u ∈ [Value.int .i64 x, Value.int .i64 y], u.oneCell' = true := by
  intro u hu; simp at hu; rcases hu with rfl | rfl <;> rfl
theorem one_newB (w : World) (x : Value) (t : TypeId) : ∀ j u, [x][j]? = some u → (w.alloc (.cells #[x] t)).cell? ((⟨w.heap.size, 0, none⟩ : Addr).add j) = some u := by
  intro j u hj
  rw [addr_add]
  match j, hj with
  | 0, hj => simp at hj; subst hj; simp
theorem one_one {x : Int} : ∀ u ∈ [Value.int .i64 x], u.oneCell' = true := by intro u hu; simp at hu; subst hu; rfl
theorem mo_ext (J : Nat → Nat) (r : Nat) : cellsI (moX J r) (r + 1) = cellsI (pkX J) r ++ [.int .i64 1000] := by
  have h : ∀ k, k ≤ r → cellsI (moX J r) k = cellsI (pkX J) k := fun k => by
    induction k with
    | zero => intro _; rfl
    | succ k ih =>
      intro hk
      rw [cellsI_succ, cellsI_succ, ih (by omega)]
      unfold moX
      rw [extN_lt _ _ (show k < r by omega)]
  rw [cellsI_succ, h r (Nat.le_refl _)]
  unfold moX
  rw [extN_at]
theorem five (hS : SplitIs) (hC : CombineIs) (w : World) : ∀ W, W = w.alloc (.cells #[.int .i64 5, .int .i64 2] 3) → Calls Try.prog 5 #[.slice (some ⟨w.heap.size, 0, none⟩) 2 2, .int .i64 2] W fun ex w' => ∃ g c : Nat, ex = .returned (.tuple #[.slice (some ⟨g, 0, none⟩) 2 c, .nilIface]) ∧ w'.cell? ⟨g, 1, none⟩ = some (.int .i64 7) ∧ g < w'.heap.size ∧ (∀ W', Below w'.heap.size w' W' → Calls Try.prog 6 #[.slice (some ⟨g, 0, none⟩) 2 c] W' fun ex w'' => ex = .returned (.tuple #[.int .i64 5, .nilIface]) ∧ Below W'.heap.size W' w'') ∧ Below W.heap.size W w' := by
  rintro W rfl
  have hr : RowI (w.alloc (.cells #[.int .i64 5, .int .i64 2] 3)) w.heap.size 0 2 (fun i => bif Nat.beq i 0 then 5 else 2) := by
    refine ⟨by simp, fun i hi => ?_⟩
    rcases i with _ | _ | i
    · simp
    · simp; rfl
    · omega
  refine (hS.2.2 w.heap.size 0 2 2 _ 2 _ (by omega) (by omega) hr (fun i hi => by rcases i with _ | _ | i; rfl; rfl; omega) (by omega) (by omega)).mono fun ex w' ⟨u, k1, k2, k3⟩ => ?_
  obtain ⟨s, c, rfl, k4⟩ := own_pairs k2
  obtain ⟨g, rfl, _, _, k5⟩ := k4.resolve_left (by omega)
  have k6 := (k5.2 0 (by omega)).2
  refine ⟨g, c, k1, ?_, k5.1, fun W' hW => ?_, k3⟩
  · have e : vI (vlq (xq fun i => bif Nat.beq i 0 then 5 else 2) (zq (((0 : Nat) : Int) + 1)) 2) = 7 := by decide +kernel
    exact k6.trans (congrArg (fun t => some (Value.int .i64 t)) e)
  · have := hC.2.2.2.2 g 0 2 c _ _ W' (by omega) (by omega) (k5.below k5.1 hW) (ones_ok (by omega)) (fun j hj => res_yes (vI_lo _) (vI_hi _))
    have e : smI (fun i : Nat => (i : Int) + 1) (fun i : Nat => vI (vlq (xq fun i => bif Nat.beq i 0 then 5 else 2) (zq ((i : Int) + 1)) 2)) 2 2 = 5 := by decide +kernel
    rwa [e] at this
set_option maxRecDepth 100000 in
set_option maxHeartbeats 8000000 in
theorem backA (sc sp : Option Addr) (m dc q dp : Nat) (z y c : Int) (w : World) (h5 : ∀ W, W = w.alloc (.cells #[.int .i64 5, .int .i64 2] 3) → Calls Try.prog 5 #[.slice (some ⟨w.heap.size, 0, none⟩) 2 2, .int .i64 2] W fun ex w' => ∃ g c : Nat, ex = .returned (.tuple #[.slice (some ⟨g, 0, none⟩) 2 c, .nilIface]) ∧ w'.cell? ⟨g, 1, none⟩ = some (.int .i64 7) ∧ g < w'.heap.size ∧ (∀ W', Below w'.heap.size w' W' → Calls Try.prog 6 #[.slice (some ⟨g, 0, none⟩) 2 c] W' fun ex w'' => ex = .returned (.tuple #[.int .i64 5, .nilIface]) ∧ Below W'.heap.size W' w'') ∧ Below W.heap.size W w') (ha : ∀ W, Below w.heap.size w W → Calls Try.prog 5 #[.slice sc m dc, .int .i64 z] W fun ex w' => ex = .returned (.tuple #[.slice none 0 0, errOf c]) ∧ Below W.heap.size W w') : Calls Try.prog 3 #[.slice sc m dc, .int .i64 z, .slice sp q dp, .int .i64 y] w fun e w' => e = .returned (.bool true) ∧ Below w.heap.size w w' := by
  have H5 : Hid (∀ W, W = w.alloc (.cells #[.int .i64 5, .int .i64 2] 3) → Calls Try.prog 5 #[.slice (some ⟨w.heap.size, 0, none⟩) 2 2, .int .i64 2] W fun ex w' => ∃ g c : Nat, ex = .returned (.tuple #[.slice (some ⟨g, 0, none⟩) 2 c, .nilIface]) ∧ w'.cell? ⟨g, 1, none⟩ = some (.int .i64 7) ∧ g < w'.heap.size ∧ (∀ W', Below w'.heap.size w' W' → Calls Try.prog 6 #[.slice (some ⟨g, 0, none⟩) 2 c] W' fun ex w'' => ex = .returned (.tuple #[.int .i64 5, .nilIface]) ∧ Below W'.heap.size W' w'') ∧ Below W.heap.size W w') := h5
  have HA : Hid (∀ W, Below w.heap.size w W → Calls Try.prog 5 #[.slice sc m dc, .int .i64 z] W fun ex w' => ex = .returned (.tuple #[.slice none 0 0, errOf c]) ∧ Below W.heap.size W w') := ha
  clear h5 ha
  have m1 : True := trivial; have m2 : True := trivial; have m3 : True := trivial; have m4 : True := trivial
  go_enter Try.func3, Try.ntmps3
  go_wp2_with (first | (go_at_call 5; clear m1; refine (H5.out _ rfl).mono ?_; rintro e w1 ⟨g1, c1, rfl, hc1, hg1, hC1, hb1⟩; have hq1 : Below w.heap.size w w1 := (by repeat (first | (with_reducible exact Below.refl _ _) | (with_reducible assumption) | (with_reducible refine Below.setCell ?_ (by first | (simp; done) | (simp; omega) | omega) _) | (with_reducible refine Below.alloc ?_ (by first | (simp; done) | (simp; omega) | omega) _) | (refine bl_call ?_ (by assumption) (by first | (simp; done) | (simp; omega) | omega)) | (with_reducible refine bl_drewN ?_) | (with_reducible refine Below.drew ?_) | (with_reducible refine bl_grow ?_ (by first | (simp; done) | (simp; omega) | omega)))); have hz1 := hq1.size; have HC1 : Hid (∀ W', Below w1.heap.size w1 W' → Calls Try.prog 6 #[.slice (some ⟨g1, 0, none⟩) 2 c1] W' fun ex w'' => ex = .returned (.tuple #[.int .i64 5, .nilIface]) ∧ Below W'.heap.size W' w'') := hC1; clear hb1 hC1) | (go_at_call 6; clear m2; refine (HC1.out _ (Below.refl _ _)).mono ?_; rintro e w2 ⟨rfl, hb2⟩; have hq2 : Below w.heap.size w w2 := bl_call hq1 hb2 (by omega); have hz2 := hq2.size; have hc2 := (hb2.cell (p := ⟨g1, 1, none⟩) hg1).trans hc1; have hg2 := Nat.lt_of_lt_of_le hg1 hb2.size; clear hb2) | (go_at_call 5; clear m3; refine (HA.out _ (by repeat (first | (with_reducible exact Below.refl _ _) | (with_reducible assumption) | (with_reducible refine Below.setCell ?_ (by first | (simp; done) | (simp; omega) | omega) _) | (with_reducible refine Below.alloc ?_ (by first | (simp; done) | (simp; omega) | omega) _) | (refine bl_call ?_ (by assumption) (by first | (simp; done) | (simp; omega) | omega)) | (with_reducible refine bl_drewN ?_) | (with_reducible refine Below.drew ?_) | (with_reducible refine bl_grow ?_ (by first | (simp; done) | (simp; omega) | omega))))).mono ?_; rintro e w3 ⟨rfl, hb3⟩; have hq3 : Below w.heap.size w w3 := (by repeat (first | (with_reducible exact Below.refl _ _) | (with_reducible assumption) | (with_reducible refine Below.setCell ?_ (by first | (simp; done) | (simp; omega) | omega) _) | (with_reducible refine Below.alloc ?_ (by first | (simp; done) | (simp; omega) | omega) _) | (refine bl_call ?_ (by assumption) (by first | (simp; done) | (simp; omega) | omega)) | (with_reducible refine bl_drewN ?_) | (with_reducible refine Below.drew ?_) | (with_reducible refine bl_grow ?_ (by first | (simp; done) | (simp; omega) | omega)))); have hz3 := hq3.size; clear hb3))
  go_ret
  exact ⟨rfl, by repeat (first | (with_reducible exact Below.refl _ _) | (with_reducible assumption) | (with_reducible refine Below.setCell ?_ (by first | (simp; done) | (simp; omega) | omega) _) | (with_reducible refine Below.alloc ?_ (by first | (simp; done) | (simp; omega) | omega) _) | (refine bl_call ?_ (by assumption) (by first | (simp; done) | (simp; omega) | omega)) | (with_reducible refine bl_drewN ?_) | (with_reducible refine Below.drew ?_) | (with_reducible refine bl_grow ?_ (by first | (simp; done) | (simp; omega) | omega)))⟩
set_option maxRecDepth 100000 in
set_option maxHeartbeats 16000000 in
theorem backL (bc oc m dc : Nat) (sp : Option Addr) (q dp n : Nat) (y : Int) (C K PY : Nat → Int) (w : World) (hn1 : 1 ≤ n) (hn : n ≤ 12) (hm1 : 1 ≤ m) (hm : m ≤ 12) (hq9 : q ≤ 9223372036854775807) (hrc : RowI w bc oc m C)
    (hrp : q = 0 ∨ ∃ b o : Nat, sp = some ⟨b, o, none⟩ ∧ RowI w b o q K) (h5 : ∀ W, W = w.alloc (.cells #[.int .i64 5, .int .i64 2] 3) → Calls Try.prog 5 #[.slice (some ⟨w.heap.size, 0, none⟩) 2 2, .int .i64 2] W fun ex w' => ∃ g c : Nat, ex = .returned (.tuple #[.slice (some ⟨g, 0, none⟩) 2 c, .nilIface]) ∧ w'.cell? ⟨g, 1, none⟩ = some (.int .i64 7) ∧ g < w'.heap.size ∧ (∀ W', Below w'.heap.size w' W' → Calls Try.prog 6 #[.slice (some ⟨g, 0, none⟩) 2 c] W' fun ex w'' => ex = .returned (.tuple #[.int .i64 5, .nilIface]) ∧ Below W'.heap.size W' w'') ∧ Below W.heap.size W w') (hl : ∀ W, Below w.heap.size w W → Calls Try.prog 5 #[.slice (some ⟨bc, oc, none⟩) m dc, .int .i64 (n : Int)] W fun ex w' => ∃ u, ex = .returned (.tuple #[u, .nilIface]) ∧ w'.ownsRow W.heap.size 31 2 u n (cellsP (fun i : Nat => (i : Int) + 1) PY n) ∧ Below W.heap.size W w') (hy : ∀ i, i < n → 0 ≤ PY i ∧ PY i < 1013) (yw : (Lit.int .i64 y).wf = true) (hca : ∀ (W : World) (v : Value) (B r : Nat) (J : Nat → Nat), Picks J r n → m ≤ r → W.ownsRow B 31 2 v r (cellsP (pkX J) (fun i => PY (J i)) r) → Calls Try.prog 6 #[v] W fun ex w' => ex = .returned (.tuple #[.int .i64 (C 0), .nilIface]) ∧ Below W.heap.size W w') (hwt : ∀ (W : World) (v : Value) (B r : Nat) (J : Nat → Nat), Picks J r n → r + 1 ≤ 12 → W.ownsRow B 3 1 v (r + 1) (cellsI (moX J r) (r + 1)) → Calls Try.prog 7 #[v] W fun ex w' => ∃ u, ex = .returned (.tuple #[u, .nilIface]) ∧ w'.ownsRow W.heap.size 3 1 u (r + 1) (cellsI (fun i => vI (wtq (xq (moX J r)) (r + 1) i)) (r + 1)) ∧ Below W.heap.size W w') (hcw : ∀ (W : World) (v : Value) (B r : Nat) (J : Nat → Nat), Picks J r n → r + 1 ≤ 12 → 0 ≤ y → y < 1013 → W.ownsRow B 31 2 v (r + 1) (cellsP (pkX J) (fun i => PY (J i)) r ++ [.int .i64 1000, .int .i64 ((((y - sbI (fun i => vI (wtq (xq (moX J r)) (r + 1) i)) (fun i => PY (J i)) r) % 1013) * vI (ivq (wtq (xq (moX J r)) (r + 1) r))) % 1013)]) → Calls Try.prog 6 #[v] W fun ex w' => ex = .returned (.tuple #[.int .i64 y, .nilIface]) ∧ Below W.heap.size W w') : Calls Try.prog 3 #[.slice (some ⟨bc, oc, none⟩) m dc, .int .i64 (n : Int), .slice sp q dp, .int .i64 y] w fun e w' => e = .returned (.bool true) ∧ Below w.heap.size w w' := by
  have H5 : Hid (∀ W, W = w.alloc (.cells #[.int .i64 5, .int .i64 2] 3) → Calls Try.prog 5 #[.slice (some ⟨w.heap.size, 0, none⟩) 2 2, .int .i64 2] W fun ex w' => ∃ g c : Nat, ex = .returned (.tuple #[.slice (some ⟨g, 0, none⟩) 2 c, .nilIface]) ∧ w'.cell? ⟨g, 1, none⟩ = some (.int .i64 7) ∧ g < w'.heap.size ∧ (∀ W', Below w'.heap.size w' W' → Calls Try.prog 6 #[.slice (some ⟨g, 0, none⟩) 2 c] W' fun ex w'' => ex = .returned (.tuple #[.int .i64 5, .nilIface]) ∧ Below W'.heap.size W' w'') ∧ Below W.heap.size W w') := h5
  have HL : Hid (∀ W, Below w.heap.size w W → Calls Try.prog 5 #[.slice (some ⟨bc, oc, none⟩) m dc, .int .i64 (n : Int)] W fun ex w' => ∃ u, ex = .returned (.tuple #[u, .nilIface]) ∧ w'.ownsRow W.heap.size 31 2 u n (cellsP (fun i : Nat => (i : Int) + 1) PY n) ∧ Below W.heap.size W w') := hl
  have HRC : Hid (RowI w bc oc m C) := hrc
  have HRP : Hid (q = 0 ∨ ∃ b o : Nat, sp = some ⟨b, o, none⟩ ∧ RowI w b o q K) := hrp
  have HCA : Hid (∀ (W : World) (v : Value) (B r : Nat) (J : Nat → Nat), Picks J r n → m ≤ r → W.ownsRow B 31 2 v r (cellsP (pkX J) (fun i => PY (J i)) r) → Calls Try.prog 6 #[v] W fun ex w' => ex = .returned (.tuple #[.int .i64 (C 0), .nilIface]) ∧ Below W.heap.size W w') := hca
  have HWT : Hid (∀ (W : World) (v : Value) (B r : Nat) (J : Nat → Nat), Picks J r n → r + 1 ≤ 12 → W.ownsRow B 3 1 v (r + 1) (cellsI (moX J r) (r + 1)) → Calls Try.prog 7 #[v] W fun ex w' => ∃ u, ex = .returned (.tuple #[u, .nilIface]) ∧ w'.ownsRow W.heap.size 3 1 u (r + 1) (cellsI (fun i => vI (wtq (xq (moX J r)) (r + 1) i)) (r + 1)) ∧ Below W.heap.size W w') := hwt
  have HCW : Hid (∀ (W : World) (v : Value) (B r : Nat) (J : Nat → Nat), Picks J r n → r + 1 ≤ 12 → 0 ≤ y → y < 1013 → W.ownsRow B 31 2 v (r + 1) (cellsP (pkX J) (fun i => PY (J i)) r ++ [.int .i64 1000, .int .i64 ((((y - sbI (fun i => vI (wtq (xq (moX J r)) (r + 1) i)) (fun i => PY (J i)) r) % 1013) * vI (ivq (wtq (xq (moX J r)) (r + 1) r))) % 1013)]) → Calls Try.prog 6 #[v] W fun ex w' => ex = .returned (.tuple #[.int .i64 y, .nilIface]) ∧ Below W.heap.size W w') := hcw
  have HPY : Hid (∀ i, i < n → 0 ≤ PY i ∧ PY i < 1013) := hy
  obtain ⟨i0, hi, hv0, hv1, hv2⟩ := info_parts iinfo
  clear h5 hl hrc hrp hca hwt hcw hy
  have n3 : ((n : Int) != (n : Int)) = false := by simp
  have n4 : ¬ (m : Int) < 1 := by omega
  obtain ⟨g0, hg, hu0, hu1, hu2⟩ := info_parts hinfoB
  have m1 : True := trivial; have m2 : True := trivial; have m3 : True := trivial; have m4 : True := trivial; have m5 : True := trivial; have m6 : True := trivial; have m7 : True := trivial; have m8 : True := trivial
  go_enter Try.func3, Try.ntmps3
  go_upto_if 77 with (first | (go_at_call 5; clear m1; refine (H5.out _ rfl).mono ?_; rintro e w1 ⟨g1, c1, rfl, hc1, hg1, hC1, hb1⟩; have hq1 : Below w.heap.size w w1 := (by repeat (first | (with_reducible exact Below.refl _ _) | (with_reducible assumption) | (with_reducible refine Below.setCell ?_ (by first | (simp; done) | (simp; omega) | omega) _) | (with_reducible refine Below.alloc ?_ (by first | (simp; done) | (simp; omega) | omega) _) | (refine bl_call ?_ (by assumption) (by first | (simp; done) | (simp; omega) | omega)) | (with_reducible refine bl_drewN ?_) | (with_reducible refine Below.drew ?_) | (with_reducible refine bl_grow ?_ (by first | (simp; done) | (simp; omega) | omega)))); have hz1 := hq1.size; have HC1 : Hid (∀ W', Below w1.heap.size w1 W' → Calls Try.prog 6 #[.slice (some ⟨g1, 0, none⟩) 2 c1] W' fun ex w'' => ex = .returned (.tuple #[.int .i64 5, .nilIface]) ∧ Below W'.heap.size W' w'') := hC1; clear hb1 hC1) | (go_at_call 6; clear m2; refine (HC1.out _ (Below.refl _ _)).mono ?_; rintro e w2 ⟨rfl, hb2⟩; have hq2 : Below w.heap.size w w2 := bl_call hq1 hb2 (by omega); have hz2 := hq2.size; have hc2 := (hb2.cell (p := ⟨g1, 1, none⟩) hg1).trans hc1; have hg2 := Nat.lt_of_lt_of_le hg1 hb2.size; clear hb2) | (go_at_call 5; clear m3; refine (HL.out _ (by repeat (first | (with_reducible exact Below.refl _ _) | (with_reducible assumption) | (with_reducible refine Below.setCell ?_ (by first | (simp; done) | (simp; omega) | omega) _) | (with_reducible refine Below.alloc ?_ (by first | (simp; done) | (simp; omega) | omega) _) | (refine bl_call ?_ (by assumption) (by first | (simp; done) | (simp; omega) | omega)) | (with_reducible refine bl_drewN ?_) | (with_reducible refine Below.drew ?_) | (with_reducible refine bl_grow ?_ (by first | (simp; done) | (simp; omega) | omega))))).mono ?_; rintro e w3 ⟨u3_, rfl, ho3, hb3⟩; have hq3 : Below w.heap.size w w3 := bl_call hq2 hb3 (by omega); have hz3 := hq3.size; obtain ⟨s3, cl, e3, hr3⟩ := own_pairs ho3; obtain ⟨gl, ex3, _, _, hgl⟩ := hr3.resolve_left (by omega); subst ex3; subst e3; have HL3 : Hid (RowP w3 gl 0 n (fun i : Nat => (i : Int) + 1) PY) := hgl; clear hr3 hgl ho3 hb3 hc2 hg2))
  go_cut [] from 29 to 77 (fun wx => wx = w3)
  case first => as_aux_lemma =>
    go_wp2_with fail
    go_meet
    case rel => rfl
  case rest =>
  have hcut' := hcut.symm
  subst hcut'
  go_upto_block 0 with fail
  
  refine wp_gen (fun V => Flags V w3.heap.size (fun _ => false) ∧ Below w3.heap.size w3 V) ⟨(by
    refine ⟨by simp, fun j hj => ⟨?_, ?_⟩⟩
    · match j, hj with
      | 0, _ | 1, _ | 2, _ | 3, _ | 4, _ | 5, _ | 6, _ | 7, _ | 8, _ | 9, _ | 10, _ | 11, _ | 12, _ => simp
    · match j, hj with
      | 0, _ | 1, _ | 2, _ | 3, _ | 4, _ | 5, _ | 6, _ | 7, _ | 8, _ | 9, _ | 10, _ | 11, _ | 12, _ => simp), by repeat (first | (with_reducible exact Below.refl _ _) | (with_reducible assumption) | (with_reducible refine Below.setCell ?_ (by first | (simp; done) | (simp; omega) | omega) _) | (with_reducible refine Below.alloc ?_ (by first | (simp; done) | (simp; omega) | omega) _) | (refine bl_call ?_ (by assumption) (by first | (simp; done) | (simp; omega) | omega)) | (with_reducible refine bl_drewN ?_) | (with_reducible refine Below.drew ?_) | (with_reducible refine bl_grow ?_ (by first | (simp; done) | (simp; omega) | omega)))⟩ ?_
  rintro V ⟨hFV, hqV⟩
  
  go_cut [15] from 29 to 127 (fun t15 wx => (∃ (r : Nat) (J : Nat → Nat), Picks J r n ∧ wx.ownsRow (w3.heap.size + 1) 31 2 t15 r (cellsP (pkX J) (fun i => PY (J i)) r)) ∧ Below w3.heap.size w3 wx)
  case first => as_aux_lemma =>
    go_wp2_with fail
    go_loopw [15, 17] (fun tv ti wl => ∃ k : Nat, k ≤ q ∧ ti = .int .i64 k ∧ ∃ (r : Nat) (J : Nat → Nat), Picks J r n ∧ wl.ownsRow (w3.heap.size + 1) 31 2 tv r (cellsP (pkX J) (fun i => PY (J i)) r) ∧ Flags wl w3.heap.size (pkB J r) ∧ Below w3.heap.size w3 wl) (fun _ ti _ => q - (intOf ti).toNat)
    case atStart => exact ⟨0, by omega, rfl, 0, fun _ => 0, ⟨fun i hi => absurd hi (Nat.not_lt_zero _), fun i j hi => absurd hi (Nat.not_lt_zero _)⟩, World.ownsRow_nil _ _ _ _, hFV, hqV⟩
    case round =>
      obtain ⟨k, hk, rfl, r, J, hP, hown, hFl, hqU⟩ := hrel
      have hzU := hqU.size
      have hr12 := hP.le
      by_cases hlt : k < q
      · have hlt' : (k : Int) < (q : Int) := by omega
        obtain ⟨bp, op, rfl, hrp⟩ := HRP.out.resolve_left (by omega)
        have hqw : Below w.heap.size w wr := bl_call hq3 hqU (by omega)
        have hbp := Nat.lt_of_lt_of_le hrp.1 hqw.size
        have cK := (hqw.cell (p := ⟨bp, op + k, none⟩) hrp.1).trans (hrp.2 k hlt)
        have hbw := hrp.1
        clear hrp
        by_cases g1 : K k ≥ 0
        · by_cases g2 : K k < (n : Int)
          · obtain ⟨j, hj⟩ : ∃ j : Nat, K k = (j : Int) := ⟨(K k).toNat, by omega⟩
            rw [hj] at cK g1 g2
            have hjn : j < n := by omega
            have j13 : (j : Int) < 13 := by omega
            obtain ⟨cF, fF⟩ := hFl.2 j (by omega)
            clear hj
            cases hb : pkB J r j with
            | true =>
              rw [hb] at cF
              go_wp2_with fail
              go_roundw
              case rel => exact ⟨k + 1, by omega, by simp, r, J, hP, hown, hFl, by repeat (first | (with_reducible exact Below.refl _ _) | (with_reducible assumption) | (with_reducible refine Below.setCell ?_ (by first | (simp; done) | (simp; omega) | omega) _) | (with_reducible refine Below.alloc ?_ (by first | (simp; done) | (simp; omega) | omega) _) | (refine bl_call ?_ (by assumption) (by first | (simp; done) | (simp; omega) | omega)) | (with_reducible refine bl_drewN ?_) | (with_reducible refine Below.drew ?_) | (with_reducible refine bl_grow ?_ (by first | (simp; done) | (simp; omega) | omega)))⟩
              case measure => simp [intOf]; omega
            | false =>
              rw [hb] at cF
              have HPM : Hid (Picks (extN J r j) (r + 1) n) := picks_more hP hjn hb
              have hoS := own_set hown (c := w3.heap.size) (o := j) (apart_above hown (by omega)) (.bool true)
              have hFS := hFl.put (j := j) (by omega)
              rw [← pkB_more] at hFS
              have hqS : Below w3.heap.size w3 (wr.setCell ⟨w3.heap.size, j, none⟩ (.bool true)) := (by repeat (first | (with_reducible exact Below.refl _ _) | (with_reducible assumption) | (with_reducible refine Below.setCell ?_ (by first | (simp; done) | (simp; omega) | omega) _) | (with_reducible refine Below.alloc ?_ (by first | (simp; done) | (simp; omega) | omega) _) | (refine bl_call ?_ (by assumption) (by first | (simp; done) | (simp; omega) | omega)) | (with_reducible refine bl_drewN ?_) | (with_reducible refine Below.drew ?_) | (with_reducible refine bl_grow ?_ (by first | (simp; done) | (simp; omega) | omega))))
              have cX := (hqU.cell (p := ⟨gl, 0 + j * 2, none⟩) HL3.out.1).trans (HL3.out.2 j hjn).1
              have cY := (hqU.cell (p := ⟨gl, 0 + j * 2 + 1, none⟩) HL3.out.1).trans (HL3.out.2 j hjn).2
              rw [Nat.zero_add] at cX cY
              have hgl : gl < wr.heap.size := Nat.lt_of_lt_of_le HL3.out.1 hzU
              have hne1 : gl ≠ w3.heap.size := Nat.ne_of_lt HL3.out.1
              have hne2 : bp ≠ w3.heap.size := by omega
              
              go_wp2_with (at_builtin; refine wpList_append_own_at _ rfl _ _ 23 rfl (w3.heap.size + 1) 31 g0 (.agg #[.int .i64 0, .int .i64 0]) 2 16 Try.underlying23 hg hu0 hu1 hu2 rfl (by decide) _ _ _ rfl (hoS.alloc _) ⟨wr.heap.size, 0, none⟩ 1 1 [.int .i64 ((j : Int) + 1), .int .i64 (PY j)] rfl rfl (two_newB' (by simp [World.setCell]) _ _ _) one_two (by unfold maxLen; omega) (by omega) (by simp [World.setCell]; omega) ?_)
              
              · intro v' w4 hown' hgrow _ hat
                have hq4 : Below w3.heap.size w3 w4 := grown_under (B := (w3.heap.size + 1)) (by repeat (first | (with_reducible exact Below.refl _ _) | (with_reducible assumption) | (with_reducible refine Below.setCell ?_ (by first | (simp; done) | (simp; omega) | omega) _) | (with_reducible refine Below.alloc ?_ (by first | (simp; done) | (simp; omega) | omega) _) | (refine bl_call ?_ (by assumption) (by first | (simp; done) | (simp; omega) | omega)) | (with_reducible refine bl_drewN ?_) | (with_reducible refine Below.drew ?_) | (with_reducible refine bl_grow ?_ (by first | (simp; done) | (simp; omega) | omega)))) (hoS.alloc _) hgrow (by simp; omega) (by omega)
                have hz4 := hq4.size
                have hF4 := (hFS.below (Below.alloc (Below.refl _ _) (Nat.le_refl _) _)).grown hgrow (apart_above hown (by omega))
                replace hown' := own_cellsB (prow_ext J PY r j) hown'
                clear hgrow hat hoS hFS hown
                go_wp2_with fail
                go_roundw
                case rel => exact ⟨k + 1, by omega, by simp, r + 1, extN J r j, HPM.out, hown', hF4, hq4⟩
                case measure => simp [intOf]; omega
          · go_wp2_with fail
            go_roundw
            case rel => exact ⟨k + 1, by omega, by simp, r, J, hP, hown, hFl, by repeat (first | (with_reducible exact Below.refl _ _) | (with_reducible assumption) | (with_reducible refine Below.setCell ?_ (by first | (simp; done) | (simp; omega) | omega) _) | (with_reducible refine Below.alloc ?_ (by first | (simp; done) | (simp; omega) | omega) _) | (refine bl_call ?_ (by assumption) (by first | (simp; done) | (simp; omega) | omega)) | (with_reducible refine bl_drewN ?_) | (with_reducible refine Below.drew ?_) | (with_reducible refine bl_grow ?_ (by first | (simp; done) | (simp; omega) | omega)))⟩
            case measure => simp [intOf]; omega
        · go_wp2_with fail
          go_roundw
          case rel => exact ⟨k + 1, by omega, by simp, r, J, hP, hown, hFl, by repeat (first | (with_reducible exact Below.refl _ _) | (with_reducible assumption) | (with_reducible refine Below.setCell ?_ (by first | (simp; done) | (simp; omega) | omega) _) | (with_reducible refine Below.alloc ?_ (by first | (simp; done) | (simp; omega) | omega) _) | (refine bl_call ?_ (by assumption) (by first | (simp; done) | (simp; omega) | omega)) | (with_reducible refine bl_drewN ?_) | (with_reducible refine Below.drew ?_) | (with_reducible refine bl_grow ?_ (by first | (simp; done) | (simp; omega) | omega)))⟩
          case measure => simp [intOf]; omega
      · have hlt' : ¬ (k : Int) < (q : Int) := by omega
        go_wp2_with fail
        go_meet
        case rel => exact ⟨⟨r, J, hP, hown⟩, by repeat (first | (with_reducible exact Below.refl _ _) | (with_reducible assumption) | (with_reducible refine Below.setCell ?_ (by first | (simp; done) | (simp; omega) | omega) _) | (with_reducible refine Below.alloc ?_ (by first | (simp; done) | (simp; omega) | omega) _) | (refine bl_call ?_ (by assumption) (by first | (simp; done) | (simp; omega) | omega)) | (with_reducible refine bl_drewN ?_) | (with_reducible refine Below.drew ?_) | (with_reducible refine bl_grow ?_ (by first | (simp; done) | (simp; omega) | omega)))⟩
  case rest =>
  clear hFV hqV
  obtain ⟨⟨r, J, hP, hown⟩, hqwc⟩ := hcut
  have hzwc := hqwc.size
  have hr12 := hP.le
  obtain ⟨ss, cS, eS, hrs⟩ := own_pairs hown
  subst eS
  have hqw : Below w.heap.size w wc := bl_call hq3 hqwc (by omega)
  have hzw := hqw.size
  have HOW : Hid (wc.ownsRow (w3.heap.size + 1) 31 2 (.slice ss r cS) r (cellsP (pkX J) (fun i => PY (J i)) r)) := hown
  have HRS : Hid (r = 0 ∨ ∃ g : Nat, ss = some ⟨g, 0, none⟩ ∧ RowP wc g 0 r (pkX J) (fun i => PY (J i))) := hrs.imp_right fun ⟨g, a, _, _, b⟩ => ⟨g, a, b⟩
  clear hown hrs
  by_cases hmr : m ≤ r
  · have a1 : (r : Int) ≥ (m : Int) := by omega
    have a2 : (0 : Int) < (m : Int) := by omega
    go_wp2_with (go_at_call 6; clear m5; refine (HCA.out _ _ _ r J hP hmr (own_stay HOW.out (by repeat (first | (with_reducible exact Below.refl _ _) | (with_reducible assumption) | (with_reducible refine Below.setCell ?_ (by first | (simp; done) | (simp; omega) | omega) _) | (with_reducible refine Below.alloc ?_ (by first | (simp; done) | (simp; omega) | omega) _) | (refine bl_call ?_ (by assumption) (by first | (simp; done) | (simp; omega) | omega)) | (with_reducible refine bl_drewN ?_) | (with_reducible refine Below.drew ?_) | (with_reducible refine bl_grow ?_ (by first | (simp; done) | (simp; omega) | omega)))))).mono ?_; rintro e w5 ⟨rfl, hb5⟩; have hq5 : Below w.heap.size w w5 := bl_call hqw hb5 (by omega); have hz5 := hq5.size; have cC : w5.cell? ⟨bc, oc, none⟩ = some (.int .i64 (C 0)) := (hq5.cell (p := ⟨bc, oc, none⟩) HRC.out.1).trans (HRC.out.2 0 (by omega)); have hbc := Nat.lt_of_lt_of_le HRC.out.1 hz5; clear hb5)
    go_ret
    exact ⟨rfl, by repeat (first | (with_reducible exact Below.refl _ _) | (with_reducible assumption) | (with_reducible refine Below.setCell ?_ (by first | (simp; done) | (simp; omega) | omega) _) | (with_reducible refine Below.alloc ?_ (by first | (simp; done) | (simp; omega) | omega) _) | (refine bl_call ?_ (by assumption) (by first | (simp; done) | (simp; omega) | omega)) | (with_reducible refine bl_drewN ?_) | (with_reducible refine Below.drew ?_) | (with_reducible refine bl_grow ?_ (by first | (simp; done) | (simp; omega) | omega)))⟩
  · have a1 : ¬ (r : Int) ≥ (m : Int) := by omega
    by_cases hm1r : r + 1 = m
    · have a2 : ((r : Int) != (m : Int) - 1) = false := by rw [bne_eq_false_iff_eq]; omega
      by_cases hy0 : y < 0
      · clear hm1r
        go_wp2_with fail
        go_ret
        exact ⟨rfl, by repeat (first | (with_reducible exact Below.refl _ _) | (with_reducible assumption) | (with_reducible refine Below.setCell ?_ (by first | (simp; done) | (simp; omega) | omega) _) | (with_reducible refine Below.alloc ?_ (by first | (simp; done) | (simp; omega) | omega) _) | (refine bl_call ?_ (by assumption) (by first | (simp; done) | (simp; omega) | omega)) | (with_reducible refine bl_drewN ?_) | (with_reducible refine Below.drew ?_) | (with_reducible refine bl_grow ?_ (by first | (simp; done) | (simp; omega) | omega)))⟩
      · by_cases hy1 : y ≥ 1013
        · clear hm1r
          go_wp2_with fail
          go_ret
          exact ⟨rfl, by repeat (first | (with_reducible exact Below.refl _ _) | (with_reducible assumption) | (with_reducible refine Below.setCell ?_ (by first | (simp; done) | (simp; omega) | omega) _) | (with_reducible refine Below.alloc ?_ (by first | (simp; done) | (simp; omega) | omega) _) | (refine bl_call ?_ (by assumption) (by first | (simp; done) | (simp; omega) | omega)) | (with_reducible refine bl_drewN ?_) | (with_reducible refine Below.drew ?_) | (with_reducible refine bl_grow ?_ (by first | (simp; done) | (simp; omega) | omega)))⟩
        · have hr11 : r + 1 ≤ 12 := by omega
          clear hm1r
          
          rename World => WC
          go_upto_block 2 with fail
          refine wp_gen (fun V => V.ownsRow WC.heap.size 3 1 (.slice (some ⟨WC.heap.size, 0, none⟩) 0 0) 0 (cellsI (pkX J) 0) ∧ Below WC.heap.size WC V) ⟨World.ownsRow_made WC #[] 0 (Nat.le_refl _) (by decide) rfl, by repeat (first | (with_reducible exact Below.refl _ _) | (with_reducible assumption) | (with_reducible refine Below.setCell ?_ (by first | (simp; done) | (simp; omega) | omega) _) | (with_reducible refine Below.alloc ?_ (by first | (simp; done) | (simp; omega) | omega) _) | (refine bl_call ?_ (by assumption) (by first | (simp; done) | (simp; omega) | omega)) | (with_reducible refine bl_drewN ?_) | (with_reducible refine Below.drew ?_) | (with_reducible refine bl_grow ?_ (by first | (simp; done) | (simp; omega) | omega)))⟩ ?_
          rintro V ⟨hoV, hqV⟩
          
          go_cut [20] from 29 to 175 (fun t20 wx => wx.ownsRow WC.heap.size 3 1 t20 r (cellsI (pkX J) r) ∧ Below WC.heap.size WC wx)
          case first => as_aux_lemma =>
            go_wp2_with fail
            go_loopw [20, 21] (fun tv ti wl => ∃ k : Nat, k ≤ r ∧ ti = .int .i64 k ∧ wl.ownsRow WC.heap.size 3 1 tv k (cellsI (pkX J) k) ∧ Below WC.heap.size WC wl) (fun _ ti _ => r - (intOf ti).toNat)
            case atStart => exact ⟨0, by omega, rfl, hoV, hqV⟩
            case round =>
              obtain ⟨k, hk, rfl, hoX, hqU⟩ := hrel
              have hzU := hqU.size
              by_cases hlt : k < r
              · have hlt' : (k : Int) < (r : Int) := by omega
                obtain ⟨gs, eg, hgs⟩ := HRS.out.resolve_left (by omega)
                subst eg
                have cX := (hqU.cell (p := ⟨gs, 0 + k * 2, none⟩) hgs.1).trans (hgs.2 k hlt).1
                rw [Nat.zero_add] at cX
                have cX' : wr.cell? ⟨gs, k * 2, none⟩ = some (.int .i64 ((J k : Int) + 1)) := cX
                have hgl := Nat.lt_of_lt_of_le hgs.1 hzU
                clear hgs cX
                go_wp2_with (at_builtin; refine wpList_append_own_at _ rfl _ _ 22 rfl WC.heap.size 3 i0 (.int .i64 0) 1 8 Try.underlying22 hi hv0 hv1 hv2 rfl (by decide) _ _ _ rfl (hoX.alloc _) ⟨wr.heap.size, 0, none⟩ 1 1 [.int .i64 ((J k : Int) + 1)] rfl rfl (one_newB _ _ _) one_one (by unfold maxLen; omega) (by omega) (by simp; omega) ?_)
                · intro v' w4 hown' hgrow _ hat
                  have hq4 : Below WC.heap.size WC w4 := grown_under (B := WC.heap.size) (by repeat (first | (with_reducible exact Below.refl _ _) | (with_reducible assumption) | (with_reducible refine Below.setCell ?_ (by first | (simp; done) | (simp; omega) | omega) _) | (with_reducible refine Below.alloc ?_ (by first | (simp; done) | (simp; omega) | omega) _) | (refine bl_call ?_ (by assumption) (by first | (simp; done) | (simp; omega) | omega)) | (with_reducible refine bl_drewN ?_) | (with_reducible refine Below.drew ?_) | (with_reducible refine bl_grow ?_ (by first | (simp; done) | (simp; omega) | omega)))) (hoX.alloc _) hgrow (by simp; omega) (Nat.le_refl _)
                  have hz4 := hq4.size
                  replace hown' : w4.ownsRow WC.heap.size 3 1 v' (k + 1) (cellsI (pkX J) (k + 1)) := own_cellsB (cellsI_succ (pkX J) k) hown'
                  clear hgrow hat hoX
                  go_wp2_with fail
                  go_roundw
                  case rel => exact ⟨k + 1, by omega, by simp, hown', hq4⟩
                  case measure => simp [intOf]; omega
              · have hlt' : ¬ (k : Int) < (r : Int) := by omega
                have HKN : Hid (k = r) := by unfold Hid; omega
                go_wp2_with fail
                go_meet
                case rel => exact ⟨HKN.out ▸ hoX, by repeat (first | (with_reducible exact Below.refl _ _) | (with_reducible assumption) | (with_reducible refine Below.setCell ?_ (by first | (simp; done) | (simp; omega) | omega) _) | (with_reducible refine Below.alloc ?_ (by first | (simp; done) | (simp; omega) | omega) _) | (refine bl_call ?_ (by assumption) (by first | (simp; done) | (simp; omega) | omega)) | (with_reducible refine bl_drewN ?_) | (with_reducible refine Below.drew ?_) | (with_reducible refine bl_grow ?_ (by first | (simp; done) | (simp; omega) | omega)))⟩
          case rest =>
          clear hoV hqV
          obtain ⟨hoX, hqX⟩ := hcut
          have hzX := hqX.size
          
          go_wp2_with (at_builtin; refine wpList_append_own_at _ rfl _ _ 22 rfl WC.heap.size 3 i0 (.int .i64 0) 1 8 Try.underlying22 hi hv0 hv1 hv2 rfl (by decide) _ _ _ rfl (hoX.alloc _) ⟨wc.heap.size, 0, none⟩ 1 1 [.int .i64 1000] rfl rfl (one_newB _ _ _) one_one (by unfold maxLen; omega) (by omega) (by simp; omega) ?_)
          intro v5 w5 hown5 hgrow5 _ hat5
          have hqM : Below WC.heap.size WC w5 := grown_under (B := WC.heap.size) (by repeat (first | (with_reducible exact Below.refl _ _) | (with_reducible assumption) | (with_reducible refine Below.setCell ?_ (by first | (simp; done) | (simp; omega) | omega) _) | (with_reducible refine Below.alloc ?_ (by first | (simp; done) | (simp; omega) | omega) _) | (refine bl_call ?_ (by assumption) (by first | (simp; done) | (simp; omega) | omega)) | (with_reducible refine bl_drewN ?_) | (with_reducible refine Below.drew ?_) | (with_reducible refine bl_grow ?_ (by first | (simp; done) | (simp; omega) | omega)))) (hoX.alloc _) hgrow5 (by simp; omega) (Nat.le_refl _)
          have hzM := hqM.size
          have hoM : w5.ownsRow WC.heap.size 3 1 v5 (r + 1) (cellsI (moX J r) (r + 1)) := own_cellsB (mo_ext J r) hown5
          obtain ⟨s5, c5, e5, _⟩ := own_slice hoM
          subst e5
          clear hown5 hgrow5 hat5 hoX hqX
          go_upto_block 4 with (go_at_call 7; clear m6; refine (HWT.out _ _ _ r J hP hr11 hoM).mono ?_; rintro e w7 ⟨u7_, rfl, ho7, hb7⟩; have hq7 : Below WC.heap.size WC w7 := bl_call hqM hb7 (by omega); have hz7 := hq7.size; obtain ⟨s7, c7, e7, hr7⟩ := own_ints ho7; obtain ⟨gw, ex7, _, _, hgw⟩ := hr7.resolve_left (by omega); subst ex7; subst e7; have HGW : Hid (RowI w7 gw 0 (r + 1) (fun i => vI (wtq (xq (moX J r)) (r + 1) i))) := hgw; clear hr7 hgw ho7 hb7)
          have HBD : Hid (∀ i, i < r → 0 ≤ (fun i => vI (wtq (xq (moX J r)) (r + 1) i)) i * (fun i => PY (J i)) i ∧ (fun i => vI (wtq (xq (moX J r)) (r + 1) i)) i * (fun i => PY (J i)) i ≤ 1100000) := fun i hi => by
            obtain ⟨y0, y1⟩ := HPY.out (J i) (hP.1 i hi)
            exact vI_bd _ y0 y1
          go_cut [24] from 29 to 210 (fun t24 wx => t24 = .int .i64 (sbI (fun i => vI (wtq (xq (moX J r)) (r + 1) i)) (fun i => PY (J i)) r) ∧ Below w7.heap.size w7 wx)
          case first => as_aux_lemma =>
            go_wp2_with fail
            go_loopw [24, 25] (fun ts ti wl => ∃ k : Nat, k ≤ r ∧ ti = .int .i64 k ∧ ts = .int .i64 (sbI (fun i => vI (wtq (xq (moX J r)) (r + 1) i)) (fun i => PY (J i)) k) ∧ Below w7.heap.size w7 wl) (fun _ ti _ => r - (intOf ti).toNat)
            case atStart => exact ⟨0, by omega, rfl, rfl, Below.refl _ _⟩
            case round =>
              obtain ⟨k, hk, rfl, rfl, hqU⟩ := hrel
              have hzU := hqU.size
              have HST : Hid (sbI (fun i => vI (wtq (xq (moX J r)) (r + 1) i)) (fun i => PY (J i)) (k + 1) = sbI (fun i => vI (wtq (xq (moX J r)) (r + 1) i)) (fun i => PY (J i)) k + (fun i => vI (wtq (xq (moX J r)) (r + 1) i)) k * (fun i => PY (J i)) k) := rfl
              obtain ⟨s0, s1⟩ := sb_bd HBD.out k hk
              obtain ⟨S, hS⟩ : ∃ S, sbI (fun i => vI (wtq (xq (moX J r)) (r + 1) i)) (fun i => PY (J i)) k = S := ⟨_, rfl⟩
              have HS : Hid (sbI (fun i => vI (wtq (xq (moX J r)) (r + 1) i)) (fun i => PY (J i)) k = S) := hS
              rw [hS] at s0 s1
              rw [hS]
              clear hS
              by_cases hlt : k < r
              · have hlt' : (k : Int) < (r : Int) := by omega
                obtain ⟨gs, eg, hgs⟩ := HRS.out.resolve_left (by omega)
                subst eg
                have hqX : Below WC.heap.size WC wr := bl_call hq7 hqU (by omega)
                have cX := (hqX.cell (p := ⟨gs, 0 + k * 2 + 1, none⟩) hgs.1).trans (hgs.2 k hlt).2
                have cG := (hqU.cell (p := ⟨gw, 0 + k, none⟩) HGW.out.1).trans (HGW.out.2 k (by omega))
                rw [Nat.zero_add] at cX cG
                obtain ⟨b, hb⟩ : ∃ b, vI (wtq (xq (moX J r)) (r + 1) k) = b := ⟨_, rfl⟩
                obtain ⟨c, hc⟩ : ∃ c, PY (J k) = c := ⟨_, rfl⟩
                have tt : 0 ≤ b * c ∧ b * c ≤ 1100000 := by rw [← hb, ← hc]; exact HBD.out k hlt
                obtain ⟨t0, t1⟩ := tt
                have cX' : wr.cell? ⟨gs, k * 2 + 1, none⟩ = some (.int .i64 c) := cX.trans (congrArg (fun t => some (Value.int .i64 t)) hc)
                have cG' : wr.cell? ⟨gw, k, none⟩ = some (.int .i64 b) := cG.trans (congrArg (fun t => some (Value.int .i64 t)) hb)
                have HST2 : Hid (sbI (fun i => vI (wtq (xq (moX J r)) (r + 1) i)) (fun i => PY (J i)) (k + 1) = S + b * c) := by unfold Hid; rw [HST.out, HS.out, ← hb, ← hc]
                have l1 := Nat.lt_of_lt_of_le hgs.1 hqX.size
                have l2 := Nat.lt_of_lt_of_le HGW.out.1 hzU
                have hlr : (k : Int) < ((r + 1 : Nat) : Int) := by omega
                clear hgs cX cG hb hc
                
                go_wp2_with fail
                go_quiet (fail)
                go_wp2_with fail
                go_roundw
                case rel => exact ⟨k + 1, by omega, by simp, by rw [HST2.out], by repeat (first | (with_reducible exact Below.refl _ _) | (with_reducible assumption) | (with_reducible refine Below.setCell ?_ (by first | (simp; done) | (simp; omega) | omega) _) | (with_reducible refine Below.alloc ?_ (by first | (simp; done) | (simp; omega) | omega) _) | (refine bl_call ?_ (by assumption) (by first | (simp; done) | (simp; omega) | omega)) | (with_reducible refine bl_drewN ?_) | (with_reducible refine Below.drew ?_) | (with_reducible refine bl_grow ?_ (by first | (simp; done) | (simp; omega) | omega)))⟩
                case measure => simp [intOf]; omega
              · have hlt' : ¬ (k : Int) < (r : Int) := by omega
                have HKN : Hid (k = r) := by unfold Hid; omega
                go_wp2_with fail
                go_meet
                case rel => exact ⟨by rw [← HS.out, HKN.out], by repeat (first | (with_reducible exact Below.refl _ _) | (with_reducible assumption) | (with_reducible refine Below.setCell ?_ (by first | (simp; done) | (simp; omega) | omega) _) | (with_reducible refine Below.alloc ?_ (by first | (simp; done) | (simp; omega) | omega) _) | (refine bl_call ?_ (by assumption) (by first | (simp; done) | (simp; omega) | omega)) | (with_reducible refine bl_drewN ?_) | (with_reducible refine Below.drew ?_) | (with_reducible refine bl_grow ?_ (by first | (simp; done) | (simp; omega) | omega)))⟩
          case rest =>
          obtain ⟨e24, hqwc⟩ := hcut
          have hqC : Below WC.heap.size WC wc := bl_call hq7 hqwc (by omega)
          have hzC := hqC.size
          obtain ⟨s0, s1⟩ := sb_bd HBD.out r (Nat.le_refl _)
          obtain ⟨S, hS⟩ : ∃ S, sbI (fun i => vI (wtq (xq (moX J r)) (r + 1) i)) (fun i => PY (J i)) r = S := ⟨_, rfl⟩
          obtain ⟨l0, l1⟩ := last_bd hP hn
          have hq0 : wtq (xq (moX J r)) (r + 1) r ≠ 0 := fun e => by rw [e, vI_zero] at l0; omega
          have HTU0 := fun w => rturn_q hq0 w
          obtain ⟨l, hl⟩ : ∃ l, vI (wtq (xq (moX J r)) (r + 1) r) = l := ⟨_, rfl⟩
          obtain ⟨t, ht⟩ : ∃ t, vI (ivq (wtq (xq (moX J r)) (r + 1) r)) = t := ⟨_, rfl⟩
          have t0 : 0 ≤ t := by rw [← ht]; exact vI_lo _
          have t1 : t < 1013 := by rw [← ht]; exact vI_hi _
          have cG := (hqwc.cell (p := ⟨gw, 0 + r, none⟩) HGW.out.1).trans (HGW.out.2 r (by omega))
          rw [Nat.zero_add] at cG
          have cG' : wc.cell? ⟨gw, r, none⟩ = some (.int .i64 l) := cG.trans (congrArg (fun t => some (Value.int .i64 t)) hl)
          have l2 := Nat.lt_of_lt_of_le HGW.out.1 hqwc.size
          have HTU : Hid (∀ w, Calls Try.prog 9 #[.int .i64 l, .int .i64 1013] w fun e w' => e = .returned (.int .i64 t) ∧ w' = w) := fun w => by
            have := HTU0 w
            rwa [hl, ht] at this
          have HCL : Hid (∀ W v', W.ownsRow (w3.heap.size + 1) 31 2 v' (r + 1) (cellsP (pkX J) (fun i => PY (J i)) r ++ [.int .i64 1000, .int .i64 (((y - S) % 1013 * t) % 1013)]) → Calls Try.prog 6 #[v'] W fun ex w' => ex = .returned (.tuple #[.int .i64 y, .nilIface]) ∧ Below W.heap.size W w') := fun W v' h => HCW.out W v' _ r J hP hr11 (by omega) (by omega) (by rw [hS, ht]; exact h)
          rw [hS] at s0 s1 e24
          rw [hl] at l0 l1
          subst e24
          clear hS hl ht HTU0 hq0 cG
          have bS : 0 ≤ S ∧ S ≤ 14000000 := by omega
          obtain ⟨bS0, bS1⟩ := bS
          have bA : 0 ≤ (y - S) % 1013 ∧ (y - S) % 1013 < 1013 := by omega
          have bM : 0 ≤ (y - S) % 1013 * t ∧ (y - S) % 1013 * t ≤ 1100000 := by
            have h4 : (y - S) % 1013 * t ≤ 1013 * 1013 := Int.mul_le_mul (by omega) (by omega) t0 (by omega)
            exact ⟨Int.mul_nonneg bA.1 t0, by omega⟩
          have HM1 : Hid (∀ w, Calls Try.prog 8 #[.int .i64 (y - S), .int .i64 1013] w fun e w' => e = .returned (.int .i64 ((y - S) % 1013)) ∧ Below w.heap.size w w') := fun w => below_of_same (rmod_any (y - S) 1013 w (by omega) (by omega))
          obtain ⟨m0, m1_⟩ := bM
          obtain ⟨q0, q1⟩ := bA
          have HM2 : Hid (∀ w, Calls Try.prog 8 #[.int .i64 ((y - S) % 1013 * t), .int .i64 1013] w fun e w' => e = .returned (.int .i64 (((y - S) % 1013 * t) % 1013)) ∧ Below w.heap.size w w') := fun w => below_of_same (rmod_any ((y - S) % 1013 * t) 1013 w (by omega) (by omega))
          have n1 : ¬ l < 1 := by omega
          have n2 : ¬ l ≥ 1013 := by omega
          
          go_wp2_with (first | (go_at_call 8; clear m7; refine (HM1.out _).mono ?_; rintro e w9 ⟨rfl, hb9⟩; have hq9_ : Below WC.heap.size WC w9 := bl_call hqC hb9 (by omega); have hz9 := hq9_.size; clear hb9) | (go_at_call 9; refine (HTU.out _).mono ?_; rintro e v10 ⟨rfl, hv10⟩; subst v10) | (go_at_call 8; clear m8; refine (HM2.out _).mono ?_; rintro e w11 ⟨rfl, hb11⟩; have hq11 : Below WC.heap.size WC w11 := bl_call hq9_ hb11 (by omega); have hz11 := hq11.size; have hoS := own_stay HOW.out hq11; clear hb11) | (at_builtin; refine wpList_append_own_at _ rfl _ _ 23 rfl (w3.heap.size + 1) 31 g0 (.agg #[.int .i64 0, .int .i64 0]) 2 16 Try.underlying23 hg hu0 hu1 hu2 rfl (by decide) _ _ _ rfl (hoS.alloc _) ⟨w11.heap.size, 0, none⟩ 1 1 [.int .i64 1000, .int .i64 (((y - S) % 1013 * t) % 1013)] rfl rfl (two_newB _ _ _ _) one_two (by unfold maxLen; omega) (by omega) (by simp; omega) ?_))
          intro v12 w12 hown12 hgrow12 _ hat12
          have hq12 : Below w3.heap.size w3 w12 := grown_under (B := (w3.heap.size + 1)) (by repeat (first | (with_reducible exact Below.refl _ _) | (with_reducible assumption) | (with_reducible refine Below.setCell ?_ (by first | (simp; done) | (simp; omega) | omega) _) | (with_reducible refine Below.alloc ?_ (by first | (simp; done) | (simp; omega) | omega) _) | (refine bl_call ?_ (by assumption) (by first | (simp; done) | (simp; omega) | omega)) | (with_reducible refine bl_drewN ?_) | (with_reducible refine Below.drew ?_) | (with_reducible refine bl_grow ?_ (by first | (simp; done) | (simp; omega) | omega)))) (hoS.alloc _) hgrow12 (by simp; omega) (by omega)
          have hz12 := hq12.size
          clear hgrow12 hat12 hoS
          go_wp2_with (go_at_call 6; refine (HCL.out _ _ hown12).mono ?_; rintro e w13 ⟨rfl, hb13⟩; have hq13 : Below w3.heap.size w3 w13 := bl_call hq12 hb13 (by omega); have hz13 := hq13.size; clear hb13)
          go_ret
          exact ⟨rfl, bl_call hq3 (by repeat (first | (with_reducible exact Below.refl _ _) | (with_reducible assumption) | (with_reducible refine Below.setCell ?_ (by first | (simp; done) | (simp; omega) | omega) _) | (with_reducible refine Below.alloc ?_ (by first | (simp; done) | (simp; omega) | omega) _) | (refine bl_call ?_ (by assumption) (by first | (simp; done) | (simp; omega) | omega)) | (with_reducible refine bl_drewN ?_) | (with_reducible refine Below.drew ?_) | (with_reducible refine bl_grow ?_ (by first | (simp; done) | (simp; omega) | omega)))) (by omega)⟩
    · have a2 : ((r : Int) != (m : Int) - 1) = true := by rw [bne_iff_ne]; omega
      go_wp2_with fail
      go_ret
      exact ⟨rfl, by repeat (first | (with_reducible exact Below.refl _ _) | (with_reducible assumption) | (with_reducible refine Below.setCell ?_ (by first | (simp; done) | (simp; omega) | omega) _) | (with_reducible refine Below.alloc ?_ (by first | (simp; done) | (simp; omega) | omega) _) | (refine bl_call ?_ (by assumption) (by first | (simp; done) | (simp; omega) | omega)) | (with_reducible refine bl_drewN ?_) | (with_reducible refine Below.drew ?_) | (with_reducible refine bl_grow ?_ (by first | (simp; done) | (simp; omega) | omega)))⟩
theorem mo_pext (J : Nat → Nat) (Y : Nat → Int) (r : Nat) (t : Int) : cellsP (moX J r) (extN Y r t) (r + 1) = cellsP (pkX J) Y r ++ [.int .i64 1000, .int .i64 t] :=
  cellsP_ext (fun i hi => by unfold moX; rw [extN_lt _ _ hi, extN_lt _ _ hi]; exact ⟨rfl, rfl⟩) (by unfold moX; rw [extN_at]) (by rw [extN_at])
theorem shareBack_by (hS : SplitIs) (hW : WeightsIs) (hC : CombineIs) (w : World) (sc : Option Addr) (m dc : Nat) (z : Int) (sp : Option Addr) (q dp : Nat) (y : Int)
    (hm : m ≤ maxLen) (uC : m = 0 ∨ ∃ (b o : Nat) (X : Nat → Int), sc = some ⟨b, o, none⟩ ∧ RowI w b o m X ∧ ∀ i, i < m → (Lit.int .i64 (X i)).wf = true) (hz : (Lit.int .i64 z).wf = true)
    (hq : q ≤ maxLen) (uP : q = 0 ∨ ∃ (b o : Nat) (X : Nat → Int), sp = some ⟨b, o, none⟩ ∧ RowI w b o q X ∧ ∀ i, i < q → (Lit.int .i64 (X i)).wf = true) (hy : (Lit.int .i64 y).wf = true) : Calls Try.prog 3 #[.slice sc m dc, .int .i64 z, .slice sp q dp, .int .i64 y] w fun e w' => e = .returned (.bool true) ∧ Below w.heap.size w w' := by
  obtain ⟨C, c1, c2⟩ : ∃ C : Nat → Int, (m = 0 ∨ ∃ b o : Nat, sc = some ⟨b, o, none⟩ ∧ RowI w b o m C) ∧ ∀ i, i < m → (Lit.int .i64 (C i)).wf = true := by
    rcases uC with h | ⟨b, o, X, e, r, k⟩
    · exact ⟨fun _ => 0, Or.inl h, fun i hi => by omega⟩
    · exact ⟨X, Or.inr ⟨b, o, e, r⟩, k⟩
  obtain ⟨K, k1⟩ : ∃ K : Nat → Int, q = 0 ∨ ∃ b o : Nat, sp = some ⟨b, o, none⟩ ∧ RowI w b o q K := by
    rcases uP with h | ⟨b, o, X, e, r, k⟩
    · exact ⟨fun _ => 0, Or.inl h⟩
    · exact ⟨X, Or.inr ⟨b, o, e, r⟩⟩
  have h5 := five hS hC w
  rcases split_case hS sc m dc C z w hm c1 c2 hz with ⟨c, ha⟩ | ⟨bc, oc, n, rfl, rc, m1, m2, okc, rfl, n1, n2, gc⟩
  · exact backA sc sp m dc q dp z y c w h5 ha
  · refine backL bc oc m dc sp q dp n y C K _ w n1 n2 m1 m2 hq rc k1 h5 gc (fun i hi => ⟨vI_lo _, vI_hi _⟩) hy ?_ ?_ ?_
    · intro W v B r J hP hmr ho
      have hr := hP.le
      obtain ⟨s, c, rfl, h2⟩ := own_pairs ho
      obtain ⟨g, rfl, _, _, row⟩ := h2.resolve_left (by omega)
      have := hC.2.2.2.2 g 0 r c _ _ W (by omega) (by omega) row (picks_ok hP n2) (fun j hj => res_yes (vI_lo _) (vI_hi _))
      have e : smI (pkX J) (fun i => vI (vlq (xq C) (zq ((J i : Int) + 1)) m)) r r = C 0 := picks_tell hP n2 m1 hmr (okc 0 (by omega))
      rwa [e] at this
    · intro W v B r J hP hr ho
      obtain ⟨s, c, rfl, h2⟩ := own_ints ho
      obtain ⟨g, rfl, _, _, row⟩ := h2.resolve_left (by omega)
      exact hW.2.2.2 g 0 (r + 1) c (moX J r) W (by omega) hr (own_room ho) row (more_ok hP n2)
    · intro W v B r J hP hr y0 y1 ho
      have ho' := own_cellsB (mo_pext J (fun i => vI (vlq (xq C) (zq ((J i : Int) + 1)) m)) r _) ho
      obtain ⟨s, c, rfl, h2⟩ := own_pairs ho'
      obtain ⟨g, rfl, _, _, row⟩ := h2.resolve_left (by omega)
      have := hC.2.2.2.2 g 0 (r + 1) c _ _ W (by omega) hr row (more_ok hP n2) (fun j hj => by
        rcases Nat.lt_succ_iff_lt_or_eq.1 hj with h | rfl
        · rw [extN_lt _ _ h]; exact res_yes (vI_lo _) (vI_hi _)
        · rw [extN_at]; exact res_yes (Int.emod_nonneg _ (by decide)) (Int.emod_lt_of_pos _ (by decide)))
      have e := will_tell hP n2 (fun i => vI (vlq (xq C) (zq ((J i : Int) + 1)) m)) y y0 y1 _ (fun i => rfl)
      rwa [e] at this
end Go.Proofs.Ytmnhnldnnmpkcaf
