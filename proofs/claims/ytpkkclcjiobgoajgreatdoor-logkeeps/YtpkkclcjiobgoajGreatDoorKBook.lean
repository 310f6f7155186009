/- What package book answers: Do. -/
import Derived.Test.YtpkkclcjiobgoajGreatDoorKBookB
namespace Go.Proofs.YtpkkclcjiobgoajGreatDoor
open Go.RowKit Go.Sort
set_option linter.unusedVariables false
set_option linter.unusedSimpArgs false
/-- What a deal that is done leaves of a book. -/
def CoinsDone (e : TypeId) (w w' : World) (p : Nat) (u : Value) (n : Nat) (K : Nat → Nat) (G : Nat → Bool) : Prop :=
  But (fc p u) w w' ∧ ∃ u', CoinsAt e w' p u' n K G ∧ ∀ i, fc p u' i → fc p u i ∨ w.heap.size ≤ i
theorem cellsC_one (K : Nat → Nat) (G : Nat → Bool) : ∀ n, ∀ u ∈ cellsC K G n, u.oneCell' = true
  | 0, u, h => by cases h
  | n + 1, u, h => by
    rw [cellsC_succ] at h
    rcases List.mem_append.1 h with h | h
    · exact cellsC_one K G n u h
    · unfold coinL at h
      simp at h
      rcases h with rfl | rfl | rfl | rfl <;> rfl
/-- Nothing is appended, in a region that draws. -/
theorem step_append_nought {P : Program} {w : World} {ops : Array Oper} {o : Oper} {a : Act} {K : Act → World → Prop} {Q : Exit → Act → World → Prop} {E : Prop} (hgd : o.guard = none) (s x : Operand) (t : TypeId)
    (ho : o.op = .call { callee := .builtin .append, args := #[s, x], argTypes := #[t, t] }) (e : TypeId) (i : TypeInfo) (ht : P.underlying t = some (.slice e)) (hi : P.info? e = some i)
    (sb so : Option Addr) (n k c : Nat) (hs : a.eval s = .slice sb n k) (hk : n ≤ k) (hx : a.eval x = .slice so 0 c) (h : K (a.put o.dst (.slice sb n k)) w) :
    if Region.wanted o (yielded ops a.tmps) = true then Oper.wp P o a w K Q else E := by
  have hw : Region.wanted o (yielded ops a.tmps) = true := by simp [Region.wanted, hgd]
  rw [if_pos hw]
  have hsrc : Src P i.size t (.slice so 0 c) 0 [] w := by
    cases so with
    | none => exact Src.ofNil w ht c
    | some ad => exact Src.ofSlice w ht ad 0 c [] (by simp) (fun j u hj => by simp at hj) (fun u hu => by simp at hu)
  have hr := run_append_nothing (P := P) w t t o.type e i ht hi sb n k hk (.slice so 0 c) hsrc
  unfold Oper.wp execOp
  simp only [ho, resolve, invoke, builtin, Sem.run_bind, Sem.run_pure, Result.andThen_ok, List.map_toArray, List.map_cons, List.map_nil, hs, hx, hr]
  exact h
theorem grown_same (w : World) (r : Option Nat) : w.grownBy w r := ⟨rfl, rfl, rfl, Nat.le_refl _, fun _ _ _ => rfl⟩
section
variable {e : TypeId} {w V w5 w7 : World} {p : Nat} {u u7 : Value} {n n7 : Nat} {K K7 : Nat → Nat} {G G7 : Nat → Bool} {H : Nat → Bool}
/-- A row that has grown behind all that, stored. -/
theorem coins_stored (hB : CoinsAt e V p u n K H) (hq : But (fc p u) w V) (h5 : Below V.drew.heap.size V.drew w5) (hg : w5.grownBy w7 u.ownBlock) (ho : w7.ownsRow 0 e 4 u7 n7 (cellsC K7 G7 n7)) (hat : u7.ownBlock = u.ownBlock ∨ u7.ownBlock = some w5.heap.size) :
    CoinsDone e w (w7.setCell ⟨p, 0, none⟩ u7) p u n7 K7 G7 := by
  have hV : Below V.heap.size V w5 := (Below.drew (Below.refl _ _)).trans h5
  have h0 := hq.size
  have h1 := hV.size
  refine ⟨((hq.call hV).grown hg fun k hk => Or.inl (Or.inr hk)).setCell (Or.inl (Or.inl rfl)) _, u7, hB.grow hV hg ho hat, fun i hi => ?_⟩
  rcases hi with rfl | hi
  · exact Or.inl (Or.inl rfl)
  · rcases hat with e | e
    · exact Or.inl (Or.inr (e.symm.trans hi))
    · rw [e] at hi
      injection hi with hi
      exact Or.inr (by omega)
end
set_option maxRecDepth 100000 in
set_option maxHeartbeats 8000000 in
theorem bdo_exc (p n m c d dz : Nat) (sz sl : Option Addr) (rx ry S q : Int) (rf : Bool) (w : World) (hx : ∀ W, Below w.heap.size w W → Calls Tryz.prog 19 #[.pointer (some ⟨p, 0, none⟩), .slice sz m dz, .slice sl c d] W fun e w' => e = .returned (.tuple #[.agg #[.int .i64 0, .int .i64 0, .bool false], errOf q]) ∧ Below W.heap.size W w') : Calls Tryz.prog 21 #[.pointer (some ⟨p, 0, none⟩), .agg #[.slice sz m dz, .slice sl c d, .int .i64 rx, .int .i64 ry, .bool rf, .int .i64 S]] w fun e w' => e = .returned (errOf q) ∧ Below w.heap.size w w' := by
  have HX : Hid (∀ W, Below w.heap.size w W → Calls Tryz.prog 19 #[.pointer (some ⟨p, 0, none⟩), .slice sz m dz, .slice sl c d] W fun e w' => e = .returned (.tuple #[.agg #[.int .i64 0, .int .i64 0, .bool false], errOf q]) ∧ Below W.heap.size W w') := hx
  clear hx
  have m1 : True := trivial
  go_enter Tryz.func21, Tryz.ntmps21
  go_wp2_with (go_at_call 19; clear m1; refine (HX.out _ (by repeat (first | (with_reducible first | exact Below.refl _ _ | assumption | refine Below.setCell ?_ (by first | simp <;> omega | omega) _ | refine Below.alloc ?_ (by first | simp <;> omega | omega) _) | refine bl_call ?_ (by assumption) (by first | simp <;> omega | omega) | (with_reducible first | refine bl_drewN ?_ | refine Below.drew ?_ | refine bl_grow ?_ (by first | simp <;> omega | omega))))).mono ?_; rintro e w1 ⟨rfl, hbw1⟩; have kdw1 : At w1 (w.heap.size) [.slice sz m dz, .slice sl c d, .int .i64 rx, .int .i64 ry, .bool rf, .int .i64 S] := (by repeat (first | (with_reducible first | assumption | (refine at_new' _ _ _ _ ?_; first | rfl | (simp; done)) | refine At.alloc ?_ _ | refine At.drew ?_ | refine At.drewN ?_ | refine At.set ?_ (by omega) | apply At.store4 | apply At.store3 | apply At.store2 | apply At.put43) | refine At.below ?_ (by with_reducible assumption))); have hqw1 : Below w.heap.size w w1 := (by repeat (first | (with_reducible first | exact Below.refl _ _ | assumption | refine Below.setCell ?_ (by first | simp <;> omega | omega) _ | refine Below.alloc ?_ (by first | simp <;> omega | omega) _) | refine bl_call ?_ (by assumption) (by first | simp <;> omega | omega) | (with_reducible first | refine bl_drewN ?_ | refine Below.drew ?_ | refine bl_grow ?_ (by first | simp <;> omega | omega)))); have hzw1 := hqw1.size; obtain ⟨zdw1, cd0w1, cd1w1, cd2w1, cd3w1, cd4w1, cd5w1, fd0w1, fd1w1, fd2w1, fd3w1, fd4w1, fd5w1⟩ := kdw1.six; clear hbw1)
  go_ret
  exact ⟨rfl, by repeat (first | (with_reducible first | exact Below.refl _ _ | assumption | refine Below.setCell ?_ (by first | simp <;> omega | omega) _ | refine Below.alloc ?_ (by first | simp <;> omega | omega) _) | refine bl_call ?_ (by assumption) (by first | simp <;> omega | omega) | (with_reducible first | refine bl_drewN ?_ | refine Below.drew ?_ | refine bl_grow ?_ (by first | simp <;> omega | omega)))⟩
set_option maxRecDepth 100000 in
set_option maxHeartbeats 8000000 in
theorem bdo_full (p n m c d dz : Nat) (sz sl : Option Addr) (u : Value) (K : Nat → Nat) (G : Nat → Bool) (x : Nat) (rx ry S : Int) (rf : Bool) (w : World) (hn : n ≤ 1000) (hc : c ≤ 12) (hf : 1000 < n + c) (h : CoinsAt 98 w p u n K G) (hx : ∀ W, Below w.heap.size w W → Calls Tryz.prog 19 #[.pointer (some ⟨p, 0, none⟩), .slice sz m dz, .slice sl c d] W fun e w' => e = .returned (.tuple #[.agg #[.int .i64 ((tM (4 * x)).1 : Int), .int .i64 ((tM (4 * x)).2.1 : Int), .bool (tM (4 * x)).2.2], .nilIface]) ∧ Below W.heap.size W w') : Calls Tryz.prog 21 #[.pointer (some ⟨p, 0, none⟩), .agg #[.slice sz m dz, .slice sl c d, .int .i64 rx, .int .i64 ry, .bool rf, .int .i64 S]] w fun e w' => e = .returned (errOf 4) ∧ Below w.heap.size w w' := by
  have hf1 : (n : Int) + (c : Int) > 1000 := by omega
  obtain ⟨su, cu, rfl, _⟩ := h.slice
  have HP : Hid (At w p [.slice su n cu]) := h.cells
  have HX : Hid (∀ W, Below w.heap.size w W → Calls Tryz.prog 19 #[.pointer (some ⟨p, 0, none⟩), .slice sz m dz, .slice sl c d] W fun e w' => e = .returned (.tuple #[.agg #[.int .i64 ((tM (4 * x)).1 : Int), .int .i64 ((tM (4 * x)).2.1 : Int), .bool (tM (4 * x)).2.2], .nilIface]) ∧ Below W.heap.size W w') := hx
  clear h hx
  have m1 : True := trivial; have m2 : True := trivial
  go_enter Tryz.func21, Tryz.ntmps21
  go_upto_region 4 with (go_at_call 19; clear m1; refine (HX.out _ (by repeat (first | (with_reducible first | exact Below.refl _ _ | assumption | refine Below.setCell ?_ (by first | simp <;> omega | omega) _ | refine Below.alloc ?_ (by first | simp <;> omega | omega) _) | refine bl_call ?_ (by assumption) (by first | simp <;> omega | omega) | (with_reducible first | refine bl_drewN ?_ | refine Below.drew ?_ | refine bl_grow ?_ (by first | simp <;> omega | omega))))).mono ?_; rintro e w1 ⟨rfl, hbw1⟩; have kdw1 : At w1 (w.heap.size) [.slice sz m dz, .slice sl c d, .int .i64 rx, .int .i64 ry, .bool rf, .int .i64 S] := (by repeat (first | (with_reducible first | assumption | (refine at_new' _ _ _ _ ?_; first | rfl | (simp; done)) | refine At.alloc ?_ _ | refine At.drew ?_ | refine At.drewN ?_ | refine At.set ?_ (by omega) | apply At.store4 | apply At.store3 | apply At.store2 | apply At.put43) | refine At.below ?_ (by with_reducible assumption))); have hqw1 : Below w.heap.size w w1 := (by repeat (first | (with_reducible first | exact Below.refl _ _ | assumption | refine Below.setCell ?_ (by first | simp <;> omega | omega) _ | refine Below.alloc ?_ (by first | simp <;> omega | omega) _) | refine bl_call ?_ (by assumption) (by first | simp <;> omega | omega) | (with_reducible first | refine bl_drewN ?_ | refine Below.drew ?_ | refine bl_grow ?_ (by first | simp <;> omega | omega)))); have hzw1 := hqw1.size; obtain ⟨zdw1, cd0w1, cd1w1, cd2w1, cd3w1, cd4w1, cd5w1, fd0w1, fd1w1, fd2w1, fd3w1, fd4w1, fd5w1⟩ := kdw1.six; clear hbw1)
  refine wp_gen (fun V => At V (w.heap.size) [.slice sz m dz, .slice sl c d, .int .i64 rx, .int .i64 ry, .bool rf, .int .i64 S] ∧ At V (w1.heap.size) [.int .i64 ((tM (4 * x)).1 : Int), .int .i64 ((tM (4 * x)).2.1 : Int), .bool (tM (4 * x)).2.2] ∧ Below w.heap.size w V) ⟨by repeat (first | (with_reducible first | assumption | (refine at_new' _ _ _ _ ?_; first | rfl | (simp; done)) | refine At.alloc ?_ _ | refine At.drew ?_ | refine At.drewN ?_ | refine At.set ?_ (by omega) | apply At.store4 | apply At.store3 | apply At.store2 | apply At.put43) | refine At.below ?_ (by with_reducible assumption)), by repeat (first | (with_reducible first | assumption | (refine at_new' _ _ _ _ ?_; first | rfl | (simp; done)) | refine At.alloc ?_ _ | refine At.drew ?_ | refine At.drewN ?_ | refine At.set ?_ (by omega) | apply At.store4 | apply At.store3 | apply At.store2 | apply At.put43) | refine At.below ?_ (by with_reducible assumption)), by repeat (first | (with_reducible first | exact Below.refl _ _ | assumption | refine Below.setCell ?_ (by first | simp <;> omega | omega) _ | refine Below.alloc ?_ (by first | simp <;> omega | omega) _) | refine bl_call ?_ (by assumption) (by first | simp <;> omega | omega) | (with_reducible first | refine bl_drewN ?_ | refine Below.drew ?_ | refine bl_grow ?_ (by first | simp <;> omega | omega)))⟩ ?_
  rintro V ⟨kdV, kxV, hqV⟩
  have hzV := hqV.size
  clear kdw1 cd0w1 fd0w1 cd1w1 fd1w1 cd2w1 fd2w1 cd3w1 fd3w1 cd4w1 fd4w1 cd5w1 fd5w1 hqw1
  obtain ⟨zdV, cd0V, cd1V, cd2V, cd3V, cd4V, cd5V, fd0V, fd1V, fd2V, fd3V, fd4V, fd5V⟩ := kdV.six
  obtain ⟨zxV, cx0V, cx1V, cx2V, fx0V, fx1V, fx2V⟩ := kxV.three
  have kpV := HP.out.below hqV
  obtain ⟨zpV, cp0V, fp0V⟩ := kpV.one
  refine wp_region_quiet_below (by kernel_rfl) (by kernel_rfl) ?_
  repeat (go_big_quiet_step (first | fail))
  refine wpQuiet_nil ?_
  intro U hw1
  have hrU := regrown_below hw1
  clear hw1
  have kdU := kdV.below hrU
  have kxU := kxV.below hrU
  have kpU := kpV.below hrU
  have hqU := bl_call hqV hrU (by omega)
  have hzU := hqU.size
  clear hrU kdV cd0V fd0V cd1V fd1V cd2V fd2V cd3V fd3V cd4V fd4V cd5V fd5V kxV cx0V fx0V cx1V fx1V cx2V fx2V kpV cp0V fp0V hqV
  obtain ⟨zdU, cd0U, cd1U, cd2U, cd3U, cd4U, cd5U, fd0U, fd1U, fd2U, fd3U, fd4U, fd5U⟩ := kdU.six
  obtain ⟨zxU, cx0U, cx1U, cx2U, fx0U, fx1U, fx2U⟩ := kxU.three
  obtain ⟨zpU, cp0U, fp0U⟩ := kpU.one
  go_wp2_with fail
  go_ret
  exact ⟨rfl, by repeat (first | (with_reducible first | exact Below.refl _ _ | assumption | refine Below.setCell ?_ (by first | simp <;> omega | omega) _ | refine Below.alloc ?_ (by first | simp <;> omega | omega) _) | refine bl_call ?_ (by assumption) (by first | simp <;> omega | omega) | (with_reducible first | refine bl_drewN ?_ | refine Below.drew ?_ | refine bl_grow ?_ (by first | simp <;> omega | omega)))⟩
set_option maxRecDepth 100000 in
set_option maxHeartbeats 8000000 in
theorem bdo_seal (p n m c d dz : Nat) (sz sl : Option Addr) (u : Value) (K : Nat → Nat) (G : Nat → Bool) (x : Nat) (rx ry S q : Int) (rf : Bool) (w : World) (hn : n ≤ 1000) (hc : c ≤ 12) (hf : n + c ≤ 1000) (h : CoinsAt 98 w p u n K G) (hx : ∀ W, Below w.heap.size w W → Calls Tryz.prog 19 #[.pointer (some ⟨p, 0, none⟩), .slice sz m dz, .slice sl c d] W fun e w' => e = .returned (.tuple #[.agg #[.int .i64 ((tM (4 * x)).1 : Int), .int .i64 ((tM (4 * x)).2.1 : Int), .bool (tM (4 * x)).2.2], .nilIface]) ∧ Below W.heap.size W w') (hs : ∀ w, Calls Tryz.prog 60 #[.agg #[.int .i64 rx, .int .i64 ry, .bool rf, .int .i64 S], .agg #[.int .i64 ((tM (4 * x)).1 : Int), .int .i64 ((tM (4 * x)).2.1 : Int), .bool (tM (4 * x)).2.2]] w fun e w' => e = .returned (errOf q) ∧ Below w.heap.size w w') : Calls Tryz.prog 21 #[.pointer (some ⟨p, 0, none⟩), .agg #[.slice sz m dz, .slice sl c d, .int .i64 rx, .int .i64 ry, .bool rf, .int .i64 S]] w fun e w' => e = .returned (errOf q) ∧ Below w.heap.size w w' := by
  have hf1 : ¬ (n : Int) + (c : Int) > 1000 := by omega
  have HS : Hid (∀ w, Calls Tryz.prog 60 #[.agg #[.int .i64 rx, .int .i64 ry, .bool rf, .int .i64 S], .agg #[.int .i64 ((tM (4 * x)).1 : Int), .int .i64 ((tM (4 * x)).2.1 : Int), .bool (tM (4 * x)).2.2]] w fun e w' => e = .returned (errOf q) ∧ Below w.heap.size w w') := hs
  clear hs
  obtain ⟨su, cu, rfl, _⟩ := h.slice
  have HP : Hid (At w p [.slice su n cu]) := h.cells
  have HX : Hid (∀ W, Below w.heap.size w W → Calls Tryz.prog 19 #[.pointer (some ⟨p, 0, none⟩), .slice sz m dz, .slice sl c d] W fun e w' => e = .returned (.tuple #[.agg #[.int .i64 ((tM (4 * x)).1 : Int), .int .i64 ((tM (4 * x)).2.1 : Int), .bool (tM (4 * x)).2.2], .nilIface]) ∧ Below W.heap.size W w') := hx
  clear h hx
  have m1 : True := trivial; have m2 : True := trivial
  go_enter Tryz.func21, Tryz.ntmps21
  go_upto_region 4 with (go_at_call 19; clear m1; refine (HX.out _ (by repeat (first | (with_reducible first | exact Below.refl _ _ | assumption | refine Below.setCell ?_ (by first | simp <;> omega | omega) _ | refine Below.alloc ?_ (by first | simp <;> omega | omega) _) | refine bl_call ?_ (by assumption) (by first | simp <;> omega | omega) | (with_reducible first | refine bl_drewN ?_ | refine Below.drew ?_ | refine bl_grow ?_ (by first | simp <;> omega | omega))))).mono ?_; rintro e w1 ⟨rfl, hbw1⟩; have kdw1 : At w1 (w.heap.size) [.slice sz m dz, .slice sl c d, .int .i64 rx, .int .i64 ry, .bool rf, .int .i64 S] := (by repeat (first | (with_reducible first | assumption | (refine at_new' _ _ _ _ ?_; first | rfl | (simp; done)) | refine At.alloc ?_ _ | refine At.drew ?_ | refine At.drewN ?_ | refine At.set ?_ (by omega) | apply At.store4 | apply At.store3 | apply At.store2 | apply At.put43) | refine At.below ?_ (by with_reducible assumption))); have hqw1 : Below w.heap.size w w1 := (by repeat (first | (with_reducible first | exact Below.refl _ _ | assumption | refine Below.setCell ?_ (by first | simp <;> omega | omega) _ | refine Below.alloc ?_ (by first | simp <;> omega | omega) _) | refine bl_call ?_ (by assumption) (by first | simp <;> omega | omega) | (with_reducible first | refine bl_drewN ?_ | refine Below.drew ?_ | refine bl_grow ?_ (by first | simp <;> omega | omega)))); have hzw1 := hqw1.size; obtain ⟨zdw1, cd0w1, cd1w1, cd2w1, cd3w1, cd4w1, cd5w1, fd0w1, fd1w1, fd2w1, fd3w1, fd4w1, fd5w1⟩ := kdw1.six; clear hbw1)
  refine wp_gen (fun V => At V (w.heap.size) [.slice sz m dz, .slice sl c d, .int .i64 rx, .int .i64 ry, .bool rf, .int .i64 S] ∧ At V (w1.heap.size) [.int .i64 ((tM (4 * x)).1 : Int), .int .i64 ((tM (4 * x)).2.1 : Int), .bool (tM (4 * x)).2.2] ∧ Below w.heap.size w V) ⟨by repeat (first | (with_reducible first | assumption | (refine at_new' _ _ _ _ ?_; first | rfl | (simp; done)) | refine At.alloc ?_ _ | refine At.drew ?_ | refine At.drewN ?_ | refine At.set ?_ (by omega) | apply At.store4 | apply At.store3 | apply At.store2 | apply At.put43) | refine At.below ?_ (by with_reducible assumption)), by repeat (first | (with_reducible first | assumption | (refine at_new' _ _ _ _ ?_; first | rfl | (simp; done)) | refine At.alloc ?_ _ | refine At.drew ?_ | refine At.drewN ?_ | refine At.set ?_ (by omega) | apply At.store4 | apply At.store3 | apply At.store2 | apply At.put43) | refine At.below ?_ (by with_reducible assumption)), by repeat (first | (with_reducible first | exact Below.refl _ _ | assumption | refine Below.setCell ?_ (by first | simp <;> omega | omega) _ | refine Below.alloc ?_ (by first | simp <;> omega | omega) _) | refine bl_call ?_ (by assumption) (by first | simp <;> omega | omega) | (with_reducible first | refine bl_drewN ?_ | refine Below.drew ?_ | refine bl_grow ?_ (by first | simp <;> omega | omega)))⟩ ?_
  rintro V ⟨kdV, kxV, hqV⟩
  have hzV := hqV.size
  clear kdw1 cd0w1 fd0w1 cd1w1 fd1w1 cd2w1 fd2w1 cd3w1 fd3w1 cd4w1 fd4w1 cd5w1 fd5w1 hqw1
  obtain ⟨zdV, cd0V, cd1V, cd2V, cd3V, cd4V, cd5V, fd0V, fd1V, fd2V, fd3V, fd4V, fd5V⟩ := kdV.six
  obtain ⟨zxV, cx0V, cx1V, cx2V, fx0V, fx1V, fx2V⟩ := kxV.three
  have kpV := HP.out.below hqV
  obtain ⟨zpV, cp0V, fp0V⟩ := kpV.one
  refine wp_region_quiet_below (by kernel_rfl) (by kernel_rfl) ?_
  repeat (go_big_quiet_step (first | fail))
  refine wpQuiet_nil ?_
  intro U hw1
  have hrU := regrown_below hw1
  clear hw1
  have kdU := kdV.below hrU
  have kxU := kxV.below hrU
  have kpU := kpV.below hrU
  have hqU := bl_call hqV hrU (by omega)
  have hzU := hqU.size
  clear hrU kdV cd0V fd0V cd1V fd1V cd2V fd2V cd3V fd3V cd4V fd4V cd5V fd5V kxV cx0V fx0V cx1V fx1V cx2V fx2V kpV cp0V fp0V hqV
  obtain ⟨zdU, cd0U, cd1U, cd2U, cd3U, cd4U, cd5U, fd0U, fd1U, fd2U, fd3U, fd4U, fd5U⟩ := kdU.six
  obtain ⟨zxU, cx0U, cx1U, cx2U, fx0U, fx1U, fx2U⟩ := kxU.three
  obtain ⟨zpU, cp0U, fp0U⟩ := kpU.one
  go_wp2_with (go_at_call 60; clear m2; refine (HS.out _).mono ?_; rintro e w2 ⟨rfl, hbw2⟩; have kdw2 : At w2 (w.heap.size) [.slice sz m dz, .slice sl c d, .int .i64 rx, .int .i64 ry, .bool rf, .int .i64 S] := (by repeat (first | (with_reducible first | assumption | (refine at_new' _ _ _ _ ?_; first | rfl | (simp; done)) | refine At.alloc ?_ _ | refine At.drew ?_ | refine At.drewN ?_ | refine At.set ?_ (by omega) | apply At.store4 | apply At.store3 | apply At.store2 | apply At.put43) | refine At.below ?_ (by with_reducible assumption))); have kxw2 : At w2 (w1.heap.size) [.int .i64 ((tM (4 * x)).1 : Int), .int .i64 ((tM (4 * x)).2.1 : Int), .bool (tM (4 * x)).2.2] := (by repeat (first | (with_reducible first | assumption | (refine at_new' _ _ _ _ ?_; first | rfl | (simp; done)) | refine At.alloc ?_ _ | refine At.drew ?_ | refine At.drewN ?_ | refine At.set ?_ (by omega) | apply At.store4 | apply At.store3 | apply At.store2 | apply At.put43) | refine At.below ?_ (by with_reducible assumption))); have kpw2 : At w2 (p) [.slice su n cu] := (by repeat (first | (with_reducible first | assumption | (refine at_new' _ _ _ _ ?_; first | rfl | (simp; done)) | refine At.alloc ?_ _ | refine At.drew ?_ | refine At.drewN ?_ | refine At.set ?_ (by omega) | apply At.store4 | apply At.store3 | apply At.store2 | apply At.put43) | refine At.below ?_ (by with_reducible assumption))); have hqw2 : Below w.heap.size w w2 := (by repeat (first | (with_reducible first | exact Below.refl _ _ | assumption | refine Below.setCell ?_ (by first | simp <;> omega | omega) _ | refine Below.alloc ?_ (by first | simp <;> omega | omega) _) | refine bl_call ?_ (by assumption) (by first | simp <;> omega | omega) | (with_reducible first | refine bl_drewN ?_ | refine Below.drew ?_ | refine bl_grow ?_ (by first | simp <;> omega | omega)))); have hzw2 := hqw2.size; obtain ⟨zdw2, cd0w2, cd1w2, cd2w2, cd3w2, cd4w2, cd5w2, fd0w2, fd1w2, fd2w2, fd3w2, fd4w2, fd5w2⟩ := kdw2.six; obtain ⟨zxw2, cx0w2, cx1w2, cx2w2, fx0w2, fx1w2, fx2w2⟩ := kxw2.three; obtain ⟨zpw2, cp0w2, fp0w2⟩ := kpw2.one; clear kdU cd0U fd0U cd1U fd1U cd2U fd2U cd3U fd3U cd4U fd4U cd5U fd5U kxU cx0U fx0U cx1U fx1U cx2U fx2U kpU cp0U fp0U hqU; clear hbw2)
  go_ret
  exact ⟨rfl, by repeat (first | (with_reducible first | exact Below.refl _ _ | assumption | refine Below.setCell ?_ (by first | simp <;> omega | omega) _ | refine Below.alloc ?_ (by first | simp <;> omega | omega) _) | refine bl_call ?_ (by assumption) (by first | simp <;> omega | omega) | (with_reducible first | refine bl_drewN ?_ | refine Below.drew ?_ | refine bl_grow ?_ (by first | simp <;> omega | omega)))⟩
set_option maxRecDepth 100000 in
set_option maxHeartbeats 8000000 in
theorem bdo_ok (p n m c d dz : Nat) (sz sl : Option Addr) (u : Value) (K : Nat → Nat) (G : Nat → Bool) (x a s : Nat) (J : Nat → Nat) (Z : Nat → Int) (X Y : Nat → Int) (F : Nat → Bool) (w : World) (hn : n ≤ 1000) (hc : c ≤ 12) (hf : n + c ≤ 1000) (hm : m ≤ 1000) (h : CoinsAt 98 w p u n K G) (hx : ∀ W, Below w.heap.size w W → Calls Tryz.prog 19 #[.pointer (some ⟨p, 0, none⟩), .slice sz m dz, .slice sl c d] W fun e w' => e = .returned (.tuple #[.agg #[.int .i64 ((tM (4 * x)).1 : Int), .int .i64 ((tM (4 * x)).2.1 : Int), .bool (tM (4 * x)).2.2], .nilIface]) ∧ Below W.heap.size W w') (hs : ∀ w, Calls Tryz.prog 60 #[.agg #[.int .i64 ((tM a).1 : Int), .int .i64 ((tM a).2.1 : Int), .bool (tM a).2.2, .int .i64 (s : Int)], .agg #[.int .i64 ((tM (4 * x)).1 : Int), .int .i64 ((tM (4 * x)).2.1 : Int), .bool (tM (4 * x)).2.2]] w fun e w' => e = .returned (.nilIface) ∧ Below w.heap.size w w') (hz : (m = 0 ∨ ∃ g o : Nat, sz = some ⟨g, o, none⟩ ∧ RowI w g o m Z ∧ ¬ fc p u g)) (hok : ∀ j, j < m → goE n G Z j = 0) (hr : (c = 0 ∨ ∃ g o : Nat, sl = some ⟨g, o, none⟩ ∧ RowO w g o c X Y F ∧ ¬ fc p u g)) (hK : isC X Y F J c) :
    Calls Tryz.prog 21 #[.pointer (some ⟨p, 0, none⟩), .agg #[.slice sz m dz, .slice sl c d, .int .i64 ((tM a).1 : Int), .int .i64 ((tM a).2.1 : Int), .bool (tM a).2.2, .int .i64 (s : Int)]] w fun e w' => e = .returned .nilIface ∧ CoinsDone 98 w w' p u (n + c) (appN K n J c) (appN (mkG G Z m) n (fun _ => false) c) := by
  have hf1 : ¬ (n : Int) + (c : Int) > 1000 := by omega
  have HBK : Hid (CoinsAt 98 w p u n K G) := h
  have HZ : Hid ((m = 0 ∨ ∃ g o : Nat, sz = some ⟨g, o, none⟩ ∧ RowI w g o m Z ∧ ¬ fc p u g)) := hz
  have HO : Hid (∀ j, j < m → goE n G Z j = 0) := hok
  have HR : Hid ((c = 0 ∨ ∃ g o : Nat, sl = some ⟨g, o, none⟩ ∧ RowO w g o c X Y F ∧ ¬ fc p u g)) := hr
  have HK : Hid (isC X Y F J c) := hK
  have HS : Hid (∀ w, Calls Tryz.prog 60 #[.agg #[.int .i64 ((tM a).1 : Int), .int .i64 ((tM a).2.1 : Int), .bool (tM a).2.2, .int .i64 (s : Int)], .agg #[.int .i64 ((tM (4 * x)).1 : Int), .int .i64 ((tM (4 * x)).2.1 : Int), .bool (tM (4 * x)).2.2]] w fun e w' => e = .returned (.nilIface) ∧ Below w.heap.size w w') := hs
  have hpw := h.cells.1
  clear hz hok hr hK hs
  obtain ⟨su, cu, rfl, _⟩ := h.slice
  have HP : Hid (At w p [.slice su n cu]) := h.cells
  have HX : Hid (∀ W, Below w.heap.size w W → Calls Tryz.prog 19 #[.pointer (some ⟨p, 0, none⟩), .slice sz m dz, .slice sl c d] W fun e w' => e = .returned (.tuple #[.agg #[.int .i64 ((tM (4 * x)).1 : Int), .int .i64 ((tM (4 * x)).2.1 : Int), .bool (tM (4 * x)).2.2], .nilIface]) ∧ Below W.heap.size W w') := hx
  clear h hx
  have m1 : True := trivial; have m2 : True := trivial
  go_enter Tryz.func21, Tryz.ntmps21
  go_upto_region 4 with (go_at_call 19; clear m1; refine (HX.out _ (by repeat (first | (with_reducible first | exact Below.refl _ _ | assumption | refine Below.setCell ?_ (by first | simp <;> omega | omega) _ | refine Below.alloc ?_ (by first | simp <;> omega | omega) _) | refine bl_call ?_ (by assumption) (by first | simp <;> omega | omega) | (with_reducible first | refine bl_drewN ?_ | refine Below.drew ?_ | refine bl_grow ?_ (by first | simp <;> omega | omega))))).mono ?_; rintro e w1 ⟨rfl, hbw1⟩; have kdw1 : At w1 (w.heap.size) [.slice sz m dz, .slice sl c d, .int .i64 ((tM a).1 : Int), .int .i64 ((tM a).2.1 : Int), .bool (tM a).2.2, .int .i64 (s : Int)] := (by repeat (first | (with_reducible first | assumption | (refine at_new' _ _ _ _ ?_; first | rfl | (simp; done)) | refine At.alloc ?_ _ | refine At.drew ?_ | refine At.drewN ?_ | refine At.set ?_ (by omega) | apply At.store4 | apply At.store3 | apply At.store2 | apply At.put43) | refine At.below ?_ (by with_reducible assumption))); have hqw1 : Below w.heap.size w w1 := (by repeat (first | (with_reducible first | exact Below.refl _ _ | assumption | refine Below.setCell ?_ (by first | simp <;> omega | omega) _ | refine Below.alloc ?_ (by first | simp <;> omega | omega) _) | refine bl_call ?_ (by assumption) (by first | simp <;> omega | omega) | (with_reducible first | refine bl_drewN ?_ | refine Below.drew ?_ | refine bl_grow ?_ (by first | simp <;> omega | omega)))); have hzw1 := hqw1.size; obtain ⟨zdw1, cd0w1, cd1w1, cd2w1, cd3w1, cd4w1, cd5w1, fd0w1, fd1w1, fd2w1, fd3w1, fd4w1, fd5w1⟩ := kdw1.six; clear hbw1)
  refine wp_gen (fun V => At V (w.heap.size) [.slice sz m dz, .slice sl c d, .int .i64 ((tM a).1 : Int), .int .i64 ((tM a).2.1 : Int), .bool (tM a).2.2, .int .i64 (s : Int)] ∧ At V (w1.heap.size) [.int .i64 ((tM (4 * x)).1 : Int), .int .i64 ((tM (4 * x)).2.1 : Int), .bool (tM (4 * x)).2.2] ∧ Below w.heap.size w V) ⟨by repeat (first | (with_reducible first | assumption | (refine at_new' _ _ _ _ ?_; first | rfl | (simp; done)) | refine At.alloc ?_ _ | refine At.drew ?_ | refine At.drewN ?_ | refine At.set ?_ (by omega) | apply At.store4 | apply At.store3 | apply At.store2 | apply At.put43) | refine At.below ?_ (by with_reducible assumption)), by repeat (first | (with_reducible first | assumption | (refine at_new' _ _ _ _ ?_; first | rfl | (simp; done)) | refine At.alloc ?_ _ | refine At.drew ?_ | refine At.drewN ?_ | refine At.set ?_ (by omega) | apply At.store4 | apply At.store3 | apply At.store2 | apply At.put43) | refine At.below ?_ (by with_reducible assumption)), by repeat (first | (with_reducible first | exact Below.refl _ _ | assumption | refine Below.setCell ?_ (by first | simp <;> omega | omega) _ | refine Below.alloc ?_ (by first | simp <;> omega | omega) _) | refine bl_call ?_ (by assumption) (by first | simp <;> omega | omega) | (with_reducible first | refine bl_drewN ?_ | refine Below.drew ?_ | refine bl_grow ?_ (by first | simp <;> omega | omega)))⟩ ?_
  rintro V ⟨kdV, kxV, hqV⟩
  have hzV := hqV.size
  clear kdw1 cd0w1 fd0w1 cd1w1 fd1w1 cd2w1 fd2w1 cd3w1 fd3w1 cd4w1 fd4w1 cd5w1 fd5w1 hqw1
  obtain ⟨zdV, cd0V, cd1V, cd2V, cd3V, cd4V, cd5V, fd0V, fd1V, fd2V, fd3V, fd4V, fd5V⟩ := kdV.six
  obtain ⟨zxV, cx0V, cx1V, cx2V, fx0V, fx1V, fx2V⟩ := kxV.three
  have kpV := HP.out.below hqV
  obtain ⟨zpV, cp0V, fp0V⟩ := kpV.one
  refine wp_region_quiet_below (by kernel_rfl) (by kernel_rfl) ?_
  repeat (go_big_quiet_step (first | fail))
  refine wpQuiet_nil ?_
  intro U hw1
  have hrU := regrown_below hw1
  clear hw1
  have kdU := kdV.below hrU
  have kxU := kxV.below hrU
  have kpU := kpV.below hrU
  have hqU := bl_call hqV hrU (by omega)
  have hzU := hqU.size
  clear hrU kdV cd0V fd0V cd1V fd1V cd2V fd2V cd3V fd3V cd4V fd4V cd5V fd5V kxV cx0V fx0V cx1V fx1V cx2V fx2V kpV cp0V fp0V hqV
  obtain ⟨zdU, cd0U, cd1U, cd2U, cd3U, cd4U, cd5U, fd0U, fd1U, fd2U, fd3U, fd4U, fd5U⟩ := kdU.six
  obtain ⟨zxU, cx0U, cx1U, cx2U, fx0U, fx1U, fx2U⟩ := kxU.three
  obtain ⟨zpU, cp0U, fp0U⟩ := kpU.one
  go_wp2_with (go_at_call 60; clear m2; refine (HS.out _).mono ?_; rintro e w2 ⟨rfl, hbw2⟩; have kdw2 : At w2 (w.heap.size) [.slice sz m dz, .slice sl c d, .int .i64 ((tM a).1 : Int), .int .i64 ((tM a).2.1 : Int), .bool (tM a).2.2, .int .i64 (s : Int)] := (by repeat (first | (with_reducible first | assumption | (refine at_new' _ _ _ _ ?_; first | rfl | (simp; done)) | refine At.alloc ?_ _ | refine At.drew ?_ | refine At.drewN ?_ | refine At.set ?_ (by omega) | apply At.store4 | apply At.store3 | apply At.store2 | apply At.put43) | refine At.below ?_ (by with_reducible assumption))); have kxw2 : At w2 (w1.heap.size) [.int .i64 ((tM (4 * x)).1 : Int), .int .i64 ((tM (4 * x)).2.1 : Int), .bool (tM (4 * x)).2.2] := (by repeat (first | (with_reducible first | assumption | (refine at_new' _ _ _ _ ?_; first | rfl | (simp; done)) | refine At.alloc ?_ _ | refine At.drew ?_ | refine At.drewN ?_ | refine At.set ?_ (by omega) | apply At.store4 | apply At.store3 | apply At.store2 | apply At.put43) | refine At.below ?_ (by with_reducible assumption))); have kpw2 : At w2 (p) [.slice su n cu] := (by repeat (first | (with_reducible first | assumption | (refine at_new' _ _ _ _ ?_; first | rfl | (simp; done)) | refine At.alloc ?_ _ | refine At.drew ?_ | refine At.drewN ?_ | refine At.set ?_ (by omega) | apply At.store4 | apply At.store3 | apply At.store2 | apply At.put43) | refine At.below ?_ (by with_reducible assumption))); have hqw2 : Below w.heap.size w w2 := (by repeat (first | (with_reducible first | exact Below.refl _ _ | assumption | refine Below.setCell ?_ (by first | simp <;> omega | omega) _ | refine Below.alloc ?_ (by first | simp <;> omega | omega) _) | refine bl_call ?_ (by assumption) (by first | simp <;> omega | omega) | (with_reducible first | refine bl_drewN ?_ | refine Below.drew ?_ | refine bl_grow ?_ (by first | simp <;> omega | omega)))); have hzw2 := hqw2.size; obtain ⟨zdw2, cd0w2, cd1w2, cd2w2, cd3w2, cd4w2, cd5w2, fd0w2, fd1w2, fd2w2, fd3w2, fd4w2, fd5w2⟩ := kdw2.six; obtain ⟨zxw2, cx0w2, cx1w2, cx2w2, fx0w2, fx1w2, fx2w2⟩ := kxw2.three; obtain ⟨zpw2, cp0w2, fp0w2⟩ := kpw2.one; clear kdU cd0U fd0U cd1U fd1U cd2U fd2U cd3U fd3U cd4U fd4U cd5U fd5U kxU cx0U fx0U cx1U fx1U cx2U fx2U kpU cp0U fp0U hqU; clear hbw2)
  go_loopw [43] (fun ti wl => ∃ k : Nat, k ≤ m ∧ ti = .int .i64 k ∧ CoinsAt 98 wl p (.slice su n cu) n K (mkG G Z k) ∧ At wl (w.heap.size) [.slice sz m dz, .slice sl c d, .int .i64 ((tM a).1 : Int), .int .i64 ((tM a).2.1 : Int), .bool (tM a).2.2, .int .i64 (s : Int)] ∧ But (fc p (.slice su n cu)) w wl) (fun ti _ => m - (intOf ti).toNat)
  case atStart => exact ⟨0, by omega, rfl, HBK.out.below hqw2, kdw2, But.of_below _ hqw2⟩
  case round =>
    clear kdw2 cd0w2 fd0w2 cd1w2 fd1w2 cd2w2 fd2w2 cd3w2 fd3w2 cd4w2 fd4w2 cd5w2 fd5w2 kxw2 cx0w2 fx0w2 cx1w2 fx1w2 cx2w2 fx2w2 kpw2 cp0w2 fp0w2 hqw2
    obtain ⟨k, hk, rfl, hBV, kdV, hqV⟩ := hrel
    rename World => V
    have hzV := hqV.size
    have kpV := hBV.cells
    obtain ⟨zdV, cd0V, cd1V, cd2V, cd3V, cd4V, cd5V, fd0V, fd1V, fd2V, fd3V, fd4V, fd5V⟩ := kdV.six
    obtain ⟨zpV, cp0V, fp0V⟩ := kpV.one
    by_cases hlt : k < m
    · have hlt' : (k : Int) < m := by omega
      obtain ⟨b1, o1, rfl, hzr, hnf⟩ := HZ.out.resolve_left (by omega)
      obtain ⟨a1, a2, a3⟩ := goE_ok (HO.out k hlt)
      obtain ⟨z, hz⟩ : ∃ z : Nat, Z k = (z : Int) := ⟨(Z k).toNat, by have := inN_yes a1; omega⟩
      have hzn : z < n := by have := inN_yes a1; omega
      have c0 := (hzr.but hqV hnf).2 k hlt
      have hb1 : b1 < V.heap.size := (hzr.but hqV hnf).1
      have HZz : Hid (Z k = (z : Int)) := hz
      rw [hz] at c0
      clear a1 a2 a3 hz hzr hnf
      have t1 : 0 ≤ (z : Int) := by omega
      have t2 : (z : Int) < n := by omega
      obtain ⟨su2, cu2, e5, hrow⟩ := hBV.slice
      obtain ⟨g2, e6, _⟩ := hrow.resolve_left (by omega)
      injection e5 with e5
      rw [← e5] at e6
      subst e6
      clear hrow e5
      have HBV : Hid (CoinsAt 98 V p (.slice (some ⟨g2, 0, none⟩) n cu) n K (mkG G Z k)) := hBV
      have zgV : g2 < V.heap.size := (hBV.coins.lt g2 rfl).2
      have czV := hBV.coins.cellAt (z * 4 + 3) (by omega)
      rw [cellsC_at K _ hzn (by omega)] at czV
      change V.cell? _ = some (.bool (!mkG G Z k z)) at czV
      generalize (!mkG G Z k z) = bz at czV
      have fzV := hBV.coins.frozenAt (z * 4 + 3)
      clear hBV
      go_wp2_with fail
      go_roundw
      case rel => exact ⟨k + 1, by omega, by simp, by
          show CoinsAt _ _ _ _ _ _ (setB (mkG G Z k) (Z k).toNat)
          rw [HZz.out, Int.toNat_natCast]
          exact HBV.out.gone hzn, At.set kdV (fun e => by have := (HBK.out.coins.lt g2 rfl).2; omega), hqV.setCell (Or.inl (Or.inr rfl)) _⟩
      case measure => simp [intOf]; omega
    · have hlt' : ¬ (k : Int) < m := by omega
      obtain rfl : k = m := by omega
      obtain ⟨i0, hi, hv0, hv1, hv2⟩ := info_parts bcinfo
      have HBV : Hid (CoinsAt 98 V p (.slice su n cu) n K (mkG G Z k)) := hBV
      have HCo : Hid (V.ownsRow 0 98 4 (.slice su n cu) n (cellsC K (mkG G Z k) n)) := hBV.coins
      have HAu : Hid ((Value.slice su n cu).ownBlock ≠ some p) := hBV.au
      have HAd : Hid ((Value.slice su n cu).ownBlock ≠ some w.heap.size) := fun e => by have := (HBK.out.coins.lt _ e).2; omega
      have HRm : Hid (n ≤ cu) := own_room hBV.coins
      have HM : Hid (∀ W, Below V.heap.size V W → Calls Tryz.prog 52 #[.slice sl c d] W fun ex w' => ∃ q, ex = .returned q ∧ w'.ownsRow W.heap.size 98 4 q c (cellsC J (fun _ => false) c) ∧ Below W.heap.size W w') := fun W hW => bminted sl c d X Y F J W hc (HR.out.imp_right fun ⟨g, o, e, r, hnf⟩ => ⟨g, o, e, (r.but hqV hnf).below (r.but hqV hnf).1 hW⟩) HK.out
      clear hBV
      rcases Nat.eq_zero_or_pos c with rfl | hc0
      · go_upto_region 14 with fail
        go_region_law (first | (refine step_append_nought (by rfl) _ _ 85 (by rfl) 98 i0 Tryz.underlying85 hi su _ n cu _ (by rfl) HRm.out (by rfl) ?_) | ((go_simp); (go_at_call 52; refine (HM.out _ (Below.drew (Below.refl _ _))).mono ?_; rintro e w5 ⟨q5, rfl, ho5, hb5⟩; obtain ⟨sa5, cc5, rfl, hg5⟩ := own_slice ho5; clear hg5; have HO5 : Hid (w5.ownsRow _ 98 4 _ 0 (cellsC J (fun _ => false) 0)) := ho5; clear ho5; have HB5 : Hid (Below V.drew.heap.size V.drew w5) := hb5; have kp5 : At w5 p [.slice su n cu] := (At.drew kpV).below hb5; have kd5 : At w5 (w.heap.size) [.slice sz k dz, .slice sl 0 d, .int .i64 ((tM a).1 : Int), .int .i64 ((tM a).2.1 : Int), .bool (tM a).2.2, .int .i64 (s : Int)] := (At.drew kdV).below hb5; obtain ⟨zp5, cp05, fp05⟩ := kp5.one; have hs5 := hb5.size; (try simp at hs5); clear hb5); (go_wp2_with fail)))
        
        all_goals (
        have hD := coins_stored HBV.out hqV HB5.out (grown_same w5 _) (own_stay (own_drew HCo.out) HB5.out) (Or.inl rfl)
        refine ethen_gen3 (fun O => CoinsDone 98 w O p (.slice su n cu) n K (mkG G Z k)) hD ?_
        intro O hO
        go_wp2_with fail
        go_ret
        exact ⟨rfl, hO⟩)
      · go_upto_region 14 with fail
        go_region_law (first | ((refine step_append_lies _ (by rfl) _ _ 85 (by rfl) 0 98 i0 (.agg #[.int .i64 0, .int .i64 0, .bool false, .bool false]) 4 32 Tryz.underlying85 hi hv0 hv1 hv2 (by rfl) (by decide) _ n _ (by rfl) (own_stay (own_drew HCo.out) HB5.out) ⟨g5, 0, none⟩ c cc5 (cellsC J (fun _ => false) c) (by rfl) (cellsC_len _ _ _) (HO5.out.cells rfl) (cellsC_one _ _ _) hc0 (by unfold maxLen; omega) (by omega) (Nat.zero_le _) w5.heap.size (by rfl) ?_); (intro g7 cap7 w7 hown7 hgrow7 hat7 hlt7); (have kp7 : At w7 p [.slice su n cu] := At.grown kp5 hgrow7 HAu.out); (have kd7 : At w7 (w.heap.size) [.slice sz k dz, .slice sl c d, .int .i64 ((tM a).1 : Int), .int .i64 ((tM a).2.1 : Int), .bool (tM a).2.2, .int .i64 (s : Int)] := At.grown kd5 hgrow7 HAd.out); (obtain ⟨zp7, cp07, fp07⟩ := kp7.one)) | ((go_simp); (go_at_call 52; refine (HM.out _ (Below.drew (Below.refl _ _))).mono ?_; rintro e w5 ⟨q5, rfl, ho5, hb5⟩; obtain ⟨sa5, cc5, rfl, hg5⟩ := own_slice ho5; obtain ⟨g5, rfl, _, _, _⟩ := hg5.resolve_left (by omega); have HO5 : Hid (w5.ownsRow _ 98 4 _ c (cellsC J (fun _ => false) c)) := ho5; clear ho5; have HB5 : Hid (Below V.drew.heap.size V.drew w5) := hb5; have kp5 : At w5 p [.slice su n cu] := (At.drew kpV).below hb5; have kd5 : At w5 (w.heap.size) [.slice sz k dz, .slice sl c d, .int .i64 ((tM a).1 : Int), .int .i64 ((tM a).2.1 : Int), .bool (tM a).2.2, .int .i64 (s : Int)] := (At.drew kdV).below hb5; obtain ⟨zp5, cp05, fp05⟩ := kp5.one; have hs5 := hb5.size; (try simp at hs5); clear hb5); (go_wp2_with fail)))
        
        all_goals (
        rw [← cellsC_app] at hown7
        have hat8 : (Value.slice (some ⟨g7, 0, none⟩) (n + c) cap7).ownBlock = (Value.slice su n cu).ownBlock ∨ (Value.slice (some ⟨g7, 0, none⟩) (n + c) cap7).ownBlock = some w5.heap.size := by
          rcases hat7 with e | e
          · exact Or.inl e.symm
          · exact Or.inr (by rw [e]; simp [Value.ownBlock])
        have hD := coins_stored HBV.out hqV HB5.out hgrow7 hown7 hat8
        refine ethen_gen3 (fun O => CoinsDone 98 w O p (.slice su n cu) (n + c) (appN K n J c) (appN (mkG G Z k) n (fun _ => false) c)) hD ?_
        intro O hO
        go_wp2_with fail
        go_ret
        exact ⟨rfl, hO⟩)
theorem bdo_is : BDoIs bookP := by
  refine ⟨fun v Q n m c d dz sz sl K G Z X Y F rx ry S q rf w hn hm hdz hcd h0 h hz hr hc he => ?_, fun v Q n m c d dz sz sl K G Z X Y F J rx ry S rf w hn hm hdz hcd h0 h hz hr hg hc hJ hf => ?_, fun v Q n m c d dz sz sl K G Z X Y F J rx ry S rf w hn hm hdz hcd h0 h hz hr hg hc hJ hf _ hS => ?_, fun v Q n m c d dz sz sl K G Z X Y F J rx ry S rf w hn hm hdz hcd h0 h hz hr hg hc hJ hf hS hR => ?_, fun v Q n m c d dz sz sl K G Z X Y F J a s w hn hm hdz hcd h0 h hz hr hg hc hJ hf hs hcl => ?_, fun v Q n m c d dz sz sl K G Z X Y F J a s w hn hm hdz hcd h0 h hz hr hzq hrq hg hc hJ hf hs hcl => ?_⟩
  · have hb := h
    obtain ⟨p, u, rfl, rfl, h⟩ := h
    exact bdo_exc p n m c d dz sz sl rx ry S _ rf w (fun W hW => bexc_is.1 _ _ n m c d dz sz sl K G Z X Y F q W hn hm hdz hcd h0 (bookP_ok.stay hb (But.of_below (fun _ => False) hW) fun _ _ e => e) (brz_up hz hW) (brow_up hr hW) hc he)
  all_goals obtain ⟨p, u, rfl, rfl, h⟩ := h
  · exact bdo_full p n m c d dz sz sl u K G _ rx ry S rf w hn hc hf h (fun W hW => bexc_yes p n m c d dz sz sl u K G Z X Y F J W hn (h.below hW) (brz_up hz hW) (brow_up hr hW) hg hc hJ)
  · exact bdo_seal p n m c d dz sz sl u K G _ rx ry S 1 rf w hn hc hf h (fun W hW => bexc_yes p n m c d dz sz sl u K G Z X Y F J W hn (h.below hW) (brz_up hz hW) (brow_up hr hW) hg hc hJ) (fun w => bcs_s _ rx ry S rf w hS)
  · exact bdo_seal p n m c d dz sz sl u K G _ rx ry S _ rf w hn hc hf h (fun W hW => bexc_yes p n m c d dz sz sl u K G Z X Y F J W hn (h.below hW) (brz_up hz hW) (brow_up hr hW) hg hc hJ) (fun w => bcs_r _ rx ry S rf w hS hR)
  · exact bdo_seal p n m c d dz sz sl u K G _ _ _ _ 8 _ w hn hc hf h (fun W hW => bexc_yes p n m c d dz sz sl u K G Z X Y F J W hn (h.below hW) (brz_up hz hW) (brow_up hr hW) hg hc hJ) (fun w => by have := bcs_same a (exN K Z m J c) s w hs; rwa [hcl] at this)
  · refine (bdo_ok p n m c d dz sz sl u K G (exN K Z m J c) a s J Z X Y F w hn hc hf (Nat.le_trans (go_many hg) hn) h (fun W hW => bexc_yes p n m c d dz sz sl u K G Z X Y F J W hn (h.below hW) (brz_up hz hW) (brow_up hr hW) hg hc hJ) (fun w => by have := bcs_same a (exN K Z m J c) s w hs; rwa [hcl] at this) ?_ hg ?_ hJ).mono ?_
    · rcases hz with h1 | ⟨b, o, e, r⟩
      · exact Or.inl h1
      · by_cases h1 : m = 0
        · exact Or.inl h1
        · exact Or.inr ⟨b, o, e, r, hzq h1 b o e⟩
    · rcases hr with h1 | ⟨b, o, e, r⟩
      · exact Or.inl h1
      · by_cases h1 : c = 0
        · exact Or.inl h1
        · exact Or.inr ⟨b, o, e, r, hrq h1 b o e⟩
    · rintro e w' ⟨rfl, h1, u', h2, h3⟩
      exact ⟨rfl, h1, fc p u', ⟨p, u', rfl, rfl, h2⟩, h3⟩
end Go.Proofs.YtpkkclcjiobgoajGreatDoor
