/- Texts joined: Gate RefGroup ShareIs GroupTellsBy Seal Group GroupTellsWalk. A region that draws its order, in two parts: the first only reads (its callees may lay memory), and all of it is waited for by its last operation, for which the second part waits: the first part is walked once, in the order of the text; behind it the second part is left to be walked. Of whatever program. What the plain reckoning of groups (stoneref2: Coefs, Joint, Group, GroupSign) answers. What package share is to answer: Split, Weights, Combine. stonelaw2.GroupTells answers true, by what package group is to answer. What package seal answers, for all numbers, spots and texts, in whatever memory; nothing that was there is turned. What package group answers: Coefs, Joint, Sign. Proved: stonelaw2.GroupTells answers true for every list of spots, every two lists of numbers and every text: the coefficients of any keys, their joint key, and the seal of any that sign together, as the document says. No condition stands behind it. -/
import Derived.Test.YtfgdjenbhdackagDoorMem
import Derived.RegionTactic
import Derived.Test.YtfgdjenbhdackagDoorGroupMath
import Derived.Test.YtfgdjenbhdackagDoorRefTimes
import Derived.Test.YtfgdjenbhdackagDoorRefBytes
import Derived.Test.YtfgdjenbhdackagDoorRefHash
import Derived.Test.YtfgdjenbhdackagDoorRefShare
import Derived.Test.YtfgdjenbhdackagDoorRefBy
import Derived.Test.YtfgdjenbhdackagDoorRefAsk
import Derived.Test.YtfgdjenbhdackagDoorOwn
import Derived.Deep.RegionHeld3
import Derived.Deep.CutRange
import Derived.Test.YtfgdjenbhdackagDoorRefSec
import Derived.Test.YtfgdjenbhdackagDoorGroupIs
import Derived.Test.YtfgdjenbhdackagDoorGroupTellsL
import Derived.Test.YtfgdjenbhdackagDoorShell
import Derived.Test.YtfgdjenbhdackagDoorSealMath
import Derived.Test.YtfgdjenbhdackagDoorTimesOrd
import Derived.Test.YtfgdjenbhdackagDoorCurveEq
import Derived.Test.YtfgdjenbhdackagDoorBytes
import Derived.Test.YtfgdjenbhdackagDoorHashLong
import Derived.Test.YtfgdjenbhdackagDoorList
import Derived.Test.YtfgdjenbhdackagDoorRowE
/- Gate -/
namespace Go.Proofs.YtfgdjenbhdackagDoor
open Go.RowKit Go.Sort
set_option linter.unusedVariables false

section
variable {P : Program} {md : Region.Mode} {C : World → Prop} {ops : Array Oper} {Q : Exit → Act → World → Prop} {l1 l2 : List Oper}

theorem wpAny_more : ∀ (f : Nat) (L : Array Bool) (a : Act) (w : World), wpAny P md ops Q f L a w → wpAny P md ops Q (f + 1) L a w
  | 0, _, _, _, h => ⟨fun _ => h.2, by rw [h.1]; intro i hi; cases hi⟩
  | f + 1, _, _, _, h => ⟨h.1, fun i hi => wpOp_mono (fun a' w' h' => wpAny_more f _ a' w' h') (h.2 i hi)⟩
theorem wpAny_more' (k : Nat) {f : Nat} {L : Array Bool} {a : Act} {w : World} (h : wpAny P md ops Q f L a w) : wpAny P md ops Q (k + f) L a w := by
  induction k with
  | zero => rwa [Nat.zero_add]
  | succ k ih => rw [Nat.succ_add]; exact wpAny_more _ _ _ _ ih

/-- Each operation from n on waits for number n - 1 or for a later one. -/
def gateB (md : Region.Mode) (n : Nat) (ops : Array Oper) : Bool :=
  (List.range ops.size).all fun j => Nat.blt j n || ((ops[j]?).map fun o => o.after.any fun e => Region.binds md e && Nat.blt n (e.on + 2)).getD true
theorem gateB_spec {n : Nat} (h : gateB md n ops = true) {j : Nat} {o : Oper} (ho : ops[j]? = some o) (hj : n ≤ j) : ∃ e ∈ o.after, Region.binds md e = true ∧ n ≤ e.on + 1 := by
  unfold gateB at h
  rw [List.all_eq_true] at h
  have hs : j < ops.size := (Array.getElem?_eq_some_iff.1 ho).1
  have h1 := h j (List.mem_range.2 hs)
  have hn : Nat.blt j n = false := by rw [← Bool.not_eq_true, Nat.blt_eq]; omega
  rw [hn, Bool.false_or, ho] at h1
  simp only [Option.map_some, Option.getD_some] at h1
  rw [Array.any_eq_true] at h1
  obtain ⟨k, hk, h2⟩ := h1
  rw [Bool.and_eq_true, Nat.blt_eq] at h2
  exact ⟨o.after[k], Array.getElem_mem hk, h2.1, by omega⟩
theorem app_lt {j : Nat} (h : j < l1.length) : (l1 ++ l2).toArray[j]? = l1.toArray[j]? := by simp [List.getElem?_append_left h]
theorem getD_app {L : Array Bool} {n j : Nat} : (L ++ Array.replicate n false).getD j false = L.getD j false := by
  simp only [Array.getD_eq_getD_getElem?, Array.getElem?_append]
  split
  · rfl
  · rename_i h
    rw [Array.getElem?_eq_none (xs := L) (by omega), Array.getElem?_replicate]
    split <;> rfl
theorem ready_app {L : Array Bool} (hL : L.size = l1.length) {n j : Nat} (hj : j < l1.length) :
    j ∈ Region.ready md (l1 ++ l2).toArray (L ++ Array.replicate n false) ↔ j ∈ Region.ready md l1.toArray L := by
  rw [mem_ready, mem_ready, getD_tf (by simp; omega), getD_tf (by omega), getD_app, app_lt hj]
  constructor
  · rintro ⟨h0, x, hx, hall⟩
    exact ⟨h0, x, hx, fun e he hbe => by rw [← hall e he hbe, getD_app]⟩
  · rintro ⟨h0, x, hx, hall⟩
    exact ⟨h0, x, hx, fun e he hbe => by rw [← hall e he hbe, getD_app]⟩
theorem all_stuck {L : Array Bool} (hL : L.size = l1.length) (hb : backB l1.toArray = true) (hr : Region.ready md l1.toArray L = []) :
    ∀ n j, j < n → j < l1.length → L.getD j false = true := by
  intro n
  induction n with
  | zero => intro j h; omega
  | succ n ih =>
    intro j h hj
    by_cases hjn : j < n
    · exact ih j hjn hj
    · obtain ⟨x, hx⟩ : ∃ x, l1.toArray[j]? = some x := ⟨l1[j], by simp [hj]⟩
      cases hv : L.getD j false with
      | true => rfl
      | false =>
        exfalso
        have : j ∈ Region.ready md l1.toArray L := mem_ready.2 ⟨by rw [getD_tf (by omega)]; exact hv, x, hx, fun e he _ => ih e.on (by have := backB_spec hb hx e he; omega) (by have := backB_spec hb hx e he; omega)⟩
        rw [hr] at this; cases this
theorem all_gate {L : Array Bool} (hl : lastB md l1.toArray = true) (hc : Closed md l1.toArray L) (hg : L.getD (l1.length - 1) false = true) :
    ∀ n j, l1.length - 1 - n ≤ j → j < l1.length → L.getD j false = true := by
  intro n
  induction n with
  | zero => intro j h1 h2; rwa [show j = l1.length - 1 by omega]
  | succ n ih =>
    intro j h1 h2
    by_cases hj : j = l1.length - 1
    · rwa [hj]
    · obtain ⟨k, x, hjk, hx, e, he, hbe, hon⟩ := lastB_spec hl (i := j) (by simp; omega)
      have hk : k < l1.length := by have := (Array.getElem?_eq_some_iff.1 hx).1; simpa using this
      have := hc k x hx (ih k (by omega) hk) e he hbe
      rwa [hon] at this
theorem all_later {L : Array Bool} (hL : L.size = l1.length) (h0 : 0 < l1.length) (hl : lastB md l1.toArray = true) (hG : gateB md l1.length (l1 ++ l2).toArray = true) (hc : Closed md l1.toArray L) {n j : Nat} (hj : l1.length ≤ j)
    (hr : j ∈ Region.ready md (l1 ++ l2).toArray (L ++ Array.replicate n false)) : ∀ i, i < l1.length → L.getD i false = true := by
  obtain ⟨_, x, hx, hall⟩ := mem_ready.1 hr
  obtain ⟨e, he, hbe, hon⟩ := gateB_spec hG hx hj
  have h1 := hall e he hbe
  rw [getD_app] at h1
  have h2 : e.on < L.size := by
    rcases Nat.lt_or_ge e.on L.size with h | h
    · exact h
    · simp [Array.getD_eq_getD_getElem?, Array.getElem?_eq_none h] at h1
  have h3 : e.on = l1.length - 1 := by omega
  rw [h3] at h1
  exact fun i hi => all_gate hl hc h1 l1.length i (by omega) hi
theorem all_is {L : Array Bool} (hL : L.size = l1.length) (h : ∀ i, i < l1.length → L.getD i false = true) : L = Array.replicate l1.length true := by
  apply Array.ext
  · simpa using hL
  · intro i h1 h2
    have := h i (by omega)
    simp only [Array.getD_eq_getD_getElem?, Array.getElem?_eq_getElem h1, Option.getD_some] at this
    rw [this]; simp

theorem wpAny_gate {Q' : Act → Prop} (h0 : 0 < l1.length) (hg : l1.all (fun o => o.guard.isNone) = true) (hb : backB l1.toArray = true) (hl : lastB md l1.toArray = true) (hG : gateB md l1.length (l1 ++ l2).toArray = true)
    (hQ : ∀ a w, C w → Q' a → wpAny P md (l1 ++ l2).toArray Q l2.length (Array.replicate l1.length true ++ Array.replicate l2.length false) a w) :
    ∀ (fuel : Nat) (L : Array Bool) (a : Act) (w : World), L.size = l1.length → Closed md l1.toArray L → C w →
      wpAnyQ P md l1.toArray C Q' fuel L a → wpAny P md (l1 ++ l2).toArray Q (fuel + l2.length) (L ++ Array.replicate l2.length false) a w := by
  intro fuel
  induction fuel with
  | zero =>
    intro L a w hL hcl hC h
    rw [all_is hL (fun i hi => all_stuck hL hb h.1 l1.length i hi hi), Nat.zero_add]
    exact hQ a w hC h.2
  | succ fuel ih =>
    intro L a w hL hcl hC h
    by_cases hall : ∀ i, i < l1.length → L.getD i false = true
    · rw [all_is hL hall]
      exact wpAny_more' _ (hQ a w hC (h.1 (ready_nil_of_all hL hall)))
    · rw [Nat.succ_add]
      refine ⟨fun hr => ?_, fun i hi => ?_⟩
      · exfalso
        refine hall fun i hi => all_stuck (md := md) hL hb ?_ l1.length i hi hi
        cases e : Region.ready md l1.toArray L with
        | nil => rfl
        | cons j r =>
          exfalso
          have hm : j ∈ Region.ready md l1.toArray L := by rw [e]; simp
          obtain ⟨_, x, hx, _⟩ := mem_ready.1 hm
          have hj : j < l1.length := by have := (Array.getElem?_eq_some_iff.1 hx).1; simpa using this
          have := (ready_app (l2 := l2) (n := l2.length) hL hj).2 hm
          rw [hr] at this; cases this
      · have hi2 : i < l1.length := by
          rcases Nat.lt_or_ge i l1.length with h' | h'
          · exact h'
          · exact absurd (all_later hL h0 hl hG hcl h' hi) hall
        have hm := (ready_app hL hi2).1 hi
        have hset : (L ++ Array.replicate l2.length false).setIfInBounds i true = L.setIfInBounds i true ++ Array.replicate l2.length false := by
          rw [Array.setIfInBounds_append_left (by omega)]
        have hcl' : Closed md l1.toArray (L.setIfInBounds i true) := by
          intro j x hx hj e he hbe
          by_cases h1 : i = e.on
          · rw [← h1]; exact getD_set_self (by omega)
          · rw [getD_set_other h1]
            by_cases h2 : i = j
            · subst h2
              obtain ⟨_, y, hy, hall'⟩ := mem_ready.1 hm
              rw [hx] at hy; obtain rfl := Option.some.inj hy
              exact hall' e he hbe
            · rw [getD_set_other h2] at hj
              exact hcl j x hx hj e he hbe
        have hw := wpOp_of_qOp (P := P) (Q' := Q) (K' := fun a' w' => wpAny P md (l1 ++ l2).toArray Q (fuel + l2.length) ((L ++ Array.replicate l2.length false).setIfInBounds i true) a' w') hC
          (fun a' w' hC' hk => by rw [hset]; exact ih _ a' w' (by simpa using hL) hcl' hC' hk) (h.2 i hm)
        unfold wpOp at hw ⊢
        rw [app_lt hi2]
        obtain ⟨x, hx⟩ : ∃ x, l1.toArray[i]? = some x := ⟨l1[i], by simp [hi2]⟩
        have hgx : x.guard = none := by
          rw [List.all_eq_true] at hg
          have := hg x (List.mem_of_getElem? (by simpa using hx))
          simpa using this
        simp only [hx, Region.wanted, hgx, if_true] at hw ⊢
        exact hw
/-- The whole check of a region, of which the first n operations only read. -/
def quietGateB (n : Nat) (ops : List Oper) : Bool :=
  Nat.blt 0 (ops.take n).length && Region.lexB .any (ops.take n).toArray && backB (ops.take n).toArray && lastB .any (ops.take n).toArray && gateB .any (ops.take n).length ops.toArray && (ops.take n).all (fun o => o.guard.isNone)

theorem region_gate (n : Nat) {id : Nat} {a : Act} {w : World} {ops : List Oper} (hm : P.follows .mixedOrders = true) (hB : quietGateB n ops = true) (hC : C { w with drawn := w.drawn + 1 })
    (h : wpQuiet P (ops.take n).toArray C (fun a' => ∀ w', C w' → wpAny P .any ops.toArray Q (ops.drop n).length (Array.replicate (ops.take n).length true ++ Array.replicate (ops.drop n).length false) a' w') (ops.take n) a) : (Code.region id ops.toArray true).wp P Q a w := by
  simp only [quietGateB, Bool.and_eq_true] at hB
  obtain ⟨⟨⟨⟨⟨h0, h1⟩, h2⟩, h3⟩, h4⟩, h5⟩ := hB
  rw [Nat.blt_eq] at h0
  have hops : ops = ops.take n ++ ops.drop n := (List.take_append_drop n ops).symm
  generalize hL1 : ops.take n = l1 at *
  generalize hL2 : ops.drop n = l2 at *
  subst hops
  simp only [Region.lexB, Bool.and_eq_true] at h1
  have hlex := wpAnyQ_lex (C := C) (md := .any) h1.1 l1 0 (Array.replicate l1.toArray.size false) a (by simp) (by simpa using h1.2) h
  refine wp_region_any hm ?_
  have := wpAny_gate (P := P) (md := .any) (C := C) (Q := Q) (Q' := fun a' => ∀ w', C w' → wpAny P .any (l1 ++ l2).toArray Q l2.length (Array.replicate l1.length true ++ Array.replicate l2.length false) a' w') h0 h5 h2 h3 h4 (fun a' w' hC' hq => hq w' hC') l1.length (Array.replicate l1.length false) a { w with drawn := w.drawn + 1 } (by simp)
    (by
      intro j x hx hj
      simp only [Array.getD_eq_getD_getElem?, Array.getElem?_replicate] at hj
      split at hj <;> simp at hj)
    hC (by simpa using hlex)
  have e1 : (l1 ++ l2).toArray.size = l1.length + l2.length := by simp
  have e2 : Array.replicate (l1.length + l2.length) false = Array.replicate l1.length false ++ Array.replicate l2.length false := by
    rw [Array.replicate_append_replicate]
  rw [e1, e2]
  exact this
/-- The same, for operations that are written out; behind the first part the memory is a letter. -/
theorem below_gate (n m : Nat) (L : Array Bool) {id : Nat} {a : Act} {w : World} {ops : List Oper} (hm : P.follows .mixedOrders = true) (hB : quietGateB n ops = true)
    (hlm : (ops.drop n).length = m) (hL : Array.replicate (ops.take n).length true ++ Array.replicate (ops.drop n).length false = L)
    (h : wpQuiet P (ops.take n).toArray (fun w' => ∃ p : Regrown, w' = grow (redrawn w p.d) p.os) (fun a' => ∀ w', (∃ p : Regrown, w' = grow (redrawn w p.d) p.os) → wpAny P .any ops.toArray Q m L a' w') (ops.take n) a) : (Code.region id ops.toArray true).wp P Q a w := by
  subst hlm hL
  exact region_gate n (C := fun w' => ∃ p : Regrown, w' = grow (redrawn w p.d) p.os) hm hB ⟨⟨w.drawn + 1, #[]⟩, by rw [grow_empty]; rfl⟩ h
end
end Go.Proofs.YtfgdjenbhdackagDoor
/- RefGroup -/
namespace Go.Proofs.YtfgdjenbhdackagDoor
open Go.RowKit Go.Sort
set_option linter.unusedVariables false
set_option linter.unusedSimpArgs false
theorem rlist_any (sl : Option Addr) (n d : Nat) (X Y : Nat → Int) (F : Nat → Bool) (K : Nat → Nat) (w : World) (hn : n ≤ 12) (hr : (n = 0 ∨ ∃ b o : Nat, sl = some ⟨b, o, none⟩ ∧ RowO w b o n X Y F)) (hK : (∀ i, i < n → X i = ((tM (K i)).1 : Int) ∧ Y i = ((tM (K i)).2.1 : Int) ∧ F i = (tM (K i)).2.2)) : Calls Tryd.prog 15 #[.slice sl n d] w fun e w' => e = .returned (.string (lsB K n)) ∧ Below w.heap.size w w' := by
  rcases hr with rfl | ⟨b, o, rfl, hr⟩
  · exact rlist_nil sl d w
  · exact rlist_row b o n d X Y F K w hn hr hK
set_option maxRecDepth 100000 in
set_option maxHeartbeats 4000000 in
theorem rcoefs (sl : Option Addr) (n d : Nat) (X Y : Nat → Int) (F : Nat → Bool) (K : Nat → Nat) (w : World) (hn : n ≤ 12) (hr : (n = 0 ∨ ∃ b o : Nat, sl = some ⟨b, o, none⟩ ∧ RowO w b o n X Y F)) (hK : (∀ i, i < n → X i = ((tM (K i)).1 : Int) ∧ Y i = ((tM (K i)).2.1 : Int) ∧ F i = (tM (K i)).2.2)) : Calls Tryd.prog 5 #[.slice sl n d] w fun e w' => GivesI w n (fun i => (cfN K n i : Int)) e w' := by
  have HL : Hid (∀ W, Below w.heap.size w W → Calls Tryd.prog 15 #[.slice sl n d] W fun e w' => e = .returned (.string (lsB K n)) ∧ Below W.heap.size W w') := fun W hW => rlist_any sl n d X Y F K W hn (hr.imp_right fun ⟨b, o, e, r⟩ => ⟨b, o, e, r.below r.1 hW⟩) hK
  have HR : Hid ((n = 0 ∨ ∃ b o : Nat, sl = some ⟨b, o, none⟩ ∧ RowO w b o n X Y F)) := hr
  have HK : Hid ((∀ i, i < n → X i = ((tM (K i)).1 : Int) ∧ Y i = ((tM (K i)).2.1 : Int) ∧ F i = (tM (K i)).2.2)) := hK
  have hs := ls_size K hn
  clear hr hK
  obtain ⟨i0, hi, hv0, hv1, hv2⟩ := info_parts iinfo
  go_enter Tryd.func5, Tryd.ntmps5
  go_wp2_with (go_at_call 15; refine (HL.out _ (by repeat (first | (with_reducible exact Below.refl _ _) | (with_reducible assumption) | (with_reducible refine Below.setCell ?_ (by first | (simp; done) | (simp; omega) | omega) _) | (with_reducible refine Below.alloc ?_ (by first | (simp; done) | (simp; omega) | omega) _) | (refine bl_call ?_ (by assumption) (by first | (simp; done) | (simp; omega) | omega)) | (with_reducible refine bl_drewN ?_) | (with_reducible refine Below.drew ?_) | (with_reducible refine bl_grow ?_ (by first | (simp; done) | (simp; omega) | omega))))).mono ?_; rintro e w1 ⟨rfl, hb1⟩; have hq1 : Below w.heap.size w w1 := (by repeat (first | (with_reducible exact Below.refl _ _) | (with_reducible assumption) | (with_reducible refine Below.setCell ?_ (by first | (simp; done) | (simp; omega) | omega) _) | (with_reducible refine Below.alloc ?_ (by first | (simp; done) | (simp; omega) | omega) _) | (refine bl_call ?_ (by assumption) (by first | (simp; done) | (simp; omega) | omega)) | (with_reducible refine bl_drewN ?_) | (with_reducible refine Below.drew ?_) | (with_reducible refine bl_grow ?_ (by first | (simp; done) | (simp; omega) | omega)))); have hz1 := hq1.size; clear hb1)
  go_loopw [4, 5] (fun tv ti wl => ∃ i : Nat, i ≤ n ∧ ti = .int .i64 i ∧ wl.ownsRow w.heap.size 3 1 tv i (cellsI (fun i => (cfN K n i : Int)) i) ∧ Below w.heap.size w wl) (fun _ ti _ => n - (intOf ti).toNat)
  case atStart => exact ⟨0, by omega, rfl, World.ownsRow_nil _ _ _ _, by repeat (first | (with_reducible exact Below.refl _ _) | (with_reducible assumption) | (with_reducible refine Below.setCell ?_ (by first | (simp; done) | (simp; omega) | omega) _) | (with_reducible refine Below.alloc ?_ (by first | (simp; done) | (simp; omega) | omega) _) | (refine bl_call ?_ (by assumption) (by first | (simp; done) | (simp; omega) | omega)) | (with_reducible refine bl_drewN ?_) | (with_reducible refine Below.drew ?_) | (with_reducible refine bl_grow ?_ (by first | (simp; done) | (simp; omega) | omega)))⟩
  case round =>
    obtain ⟨i, hin, rfl, hown, hqV⟩ := hrel
    rename World => wV
    have hzV := hqV.size
    clear hq1 hz1
    by_cases hlt : i < n
    · have hlt' : (i : Int) < n := by omega
      obtain ⟨b, o, rfl, hz⟩ : ∃ b o : Nat, sl = some ⟨b, o, none⟩ ∧ RowO w b o n X Y F := HR.out.resolve_left (by omega)
      have hbV := Nat.lt_of_lt_of_le hz.1 hzV
      obtain ⟨c0, c1, c2⟩ := (hz.below hz.1 hqV).2 i hlt
      obtain ⟨e0, e1, e2⟩ := HK.out i hlt
      rw [e0] at c0
      rw [e1] at c1
      rw [e2] at c2
      clear e0 e1 e2 hz
      have hp := pkB_size (tM (K i))
      have HN : Hid (∀ w, Calls Tryd.prog 16 #[.string (lsB K n ++ pkB (tM (K i)))] w fun e w' => e = .returned (.int .i64 (cfN K n i : Int)) ∧ Below w.heap.size w w') := fun w => by
        have := below_of_same (rnumber_any (lsB K n ++ pkB (tM (K i))) w (by have := cf_size K hn i; omega))
        rwa [cfI] at this
      go_wp2_with (first | (go_at_call 17; refine (rbytes_tM (K i) _).mono ?_; rintro e w5 ⟨rfl, hb5⟩; have hq5 : Below w.heap.size w w5 := (by repeat (first | (with_reducible exact Below.refl _ _) | (with_reducible assumption) | (with_reducible refine Below.setCell ?_ (by first | (simp; done) | (simp; omega) | omega) _) | (with_reducible refine Below.alloc ?_ (by first | (simp; done) | (simp; omega) | omega) _) | (refine bl_call ?_ (by assumption) (by first | (simp; done) | (simp; omega) | omega)) | (with_reducible refine bl_drewN ?_) | (with_reducible refine Below.drew ?_) | (with_reducible refine bl_grow ?_ (by first | (simp; done) | (simp; omega) | omega)))); have hz5 := hq5.size; have hown5 := own_stay hown hb5; clear hb5) | (go_at_call 16; refine (HN.out _).mono ?_; rintro e w6 ⟨rfl, hb6⟩; have hq6 : Below w.heap.size w w6 := (by repeat (first | (with_reducible exact Below.refl _ _) | (with_reducible assumption) | (with_reducible refine Below.setCell ?_ (by first | (simp; done) | (simp; omega) | omega) _) | (with_reducible refine Below.alloc ?_ (by first | (simp; done) | (simp; omega) | omega) _) | (refine bl_call ?_ (by assumption) (by first | (simp; done) | (simp; omega) | omega)) | (with_reducible refine bl_drewN ?_) | (with_reducible refine Below.drew ?_) | (with_reducible refine bl_grow ?_ (by first | (simp; done) | (simp; omega) | omega)))); have hz6 := hq6.size; have hown6 := own_stay hown5 hb6; clear hb6) | (at_builtin; refine wpList_append_own_at _ rfl _ _ 23 rfl w.heap.size 3 i0 (.int .i64 0) 1 8 Tryd.underlying23 hi hv0 hv1 hv2 rfl (by decide) _ _ _ rfl (hown6.alloc _) ⟨w6.heap.size, 0, none⟩ 1 1 [.int .i64 (cfN K n i : Int)] rfl rfl ?c1 ?c2 ?c3 ?c4 ?c5 ?_))
      case c1 => exact cell_one_new _ _ _
      case c2 => intro u hu; simp at hu; subst hu; rfl
      case c3 => unfold maxLen; omega
      case c4 => omega
      case c5 => simp; omega
      · intro v' w13 hown' hgrow _ hat
        have hq13 : Below w.heap.size w w13 := grown_under (B := w.heap.size) (by repeat (first | (with_reducible exact Below.refl _ _) | (with_reducible assumption) | (with_reducible refine Below.setCell ?_ (by first | (simp; done) | (simp; omega) | omega) _) | (with_reducible refine Below.alloc ?_ (by first | (simp; done) | (simp; omega) | omega) _) | (refine bl_call ?_ (by assumption) (by first | (simp; done) | (simp; omega) | omega)) | (with_reducible refine bl_drewN ?_) | (with_reducible refine Below.drew ?_) | (with_reducible refine bl_grow ?_ (by first | (simp; done) | (simp; omega) | omega)))) (hown6.alloc _) hgrow (by simp; omega) (Nat.le_refl _)
        rw [← cellsI_succ (fun i => (cfN K n i : Int))] at hown'
        clear hgrow hat hown hown5 hown6
        go_wp2_with fail
        go_roundw
        case rel => exact ⟨i + 1, by omega, by simp, hown', hq13⟩
        case measure => simp [intOf]; omega
    · have hlt' : ¬ (i : Int) < n := by omega
      obtain rfl : i = n := by omega
      go_wp2_with fail
      go_ret
      exact GivesI.mk hown (by repeat (first | (with_reducible exact Below.refl _ _) | (with_reducible assumption) | (with_reducible refine Below.setCell ?_ (by first | (simp; done) | (simp; omega) | omega) _) | (with_reducible refine Below.alloc ?_ (by first | (simp; done) | (simp; omega) | omega) _) | (refine bl_call ?_ (by assumption) (by first | (simp; done) | (simp; omega) | omega)) | (with_reducible refine bl_drewN ?_) | (with_reducible refine Below.drew ?_) | (with_reducible refine bl_grow ?_ (by first | (simp; done) | (simp; omega) | omega))))
set_option maxRecDepth 100000 in
set_option maxHeartbeats 4000000 in
theorem rjoint (sl : Option Addr) (n d : Nat) (X Y : Nat → Int) (F : Nat → Bool) (K : Nat → Nat) (w : World) (hn : n ≤ 12) (hr : (n = 0 ∨ ∃ b o : Nat, sl = some ⟨b, o, none⟩ ∧ RowO w b o n X Y F)) (hK : (∀ i, i < n → X i = ((tM (K i)).1 : Int) ∧ Y i = ((tM (K i)).2.1 : Int) ∧ F i = (tM (K i)).2.2)) : Calls Tryd.prog 6 #[.slice sl n d] w fun e w' => e = .returned (.agg #[.int .i64 ((tM (jtN K n n)).1 : Int), .int .i64 ((tM (jtN K n n)).2.1 : Int), .bool (tM (jtN K n n)).2.2]) ∧ Below w.heap.size w w' := by
  have HC : Hid (∀ W, Below w.heap.size w W → Calls Tryd.prog 5 #[.slice sl n d] W fun e w' => GivesI W n (fun i => (cfN K n i : Int)) e w') := fun W hW => rcoefs sl n d X Y F K W hn (hr.imp_right fun ⟨b, o, e, r⟩ => ⟨b, o, e, r.below r.1 hW⟩) hK
  have HR : Hid ((n = 0 ∨ ∃ b o : Nat, sl = some ⟨b, o, none⟩ ∧ RowO w b o n X Y F)) := hr
  have HK : Hid ((∀ i, i < n → X i = ((tM (K i)).1 : Int) ∧ Y i = ((tM (K i)).2.1 : Int) ∧ F i = (tM (K i)).2.2)) := hK
  clear hr hK
  go_enter Tryd.func6, Tryd.ntmps6
  go_wp2_with (go_at_call 5; refine (HC.out _ (by repeat (first | (with_reducible exact Below.refl _ _) | (with_reducible assumption) | (with_reducible refine Below.setCell ?_ (by first | (simp; done) | (simp; omega) | omega) _) | (with_reducible refine Below.alloc ?_ (by first | (simp; done) | (simp; omega) | omega) _) | (refine bl_call ?_ (by assumption) (by first | (simp; done) | (simp; omega) | omega)) | (with_reducible refine bl_drewN ?_) | (with_reducible refine Below.drew ?_) | (with_reducible refine bl_grow ?_ (by first | (simp; done) | (simp; omega) | omega))))).mono ?_; rintro e w1 ⟨v1, rfl, ho1, hb1⟩; have kr1 : At w1 (w.heap.size) [.int .i64 0, .int .i64 0, .bool false] := (by repeat (first | (with_reducible assumption) | ((with_reducible refine at_new' _ _ _ _ ?_); (first | rfl | (simp; done))) | (with_reducible refine At.alloc ?_ _) | (with_reducible refine At.drew ?_) | (with_reducible refine At.drewN ?_) | (with_reducible refine At.set ?_ (by omega)) | (with_reducible apply At.store4) | (with_reducible apply At.store3) | (with_reducible apply At.store2) | (with_reducible apply At.put43) | (refine At.below ?_ (by with_reducible assumption)))); have hq1 : Below w.heap.size w w1 := (by repeat (first | (with_reducible exact Below.refl _ _) | (with_reducible assumption) | (with_reducible refine Below.setCell ?_ (by first | (simp; done) | (simp; omega) | omega) _) | (with_reducible refine Below.alloc ?_ (by first | (simp; done) | (simp; omega) | omega) _) | (refine bl_call ?_ (by assumption) (by first | (simp; done) | (simp; omega) | omega)) | (with_reducible refine bl_drewN ?_) | (with_reducible refine Below.drew ?_) | (with_reducible refine bl_grow ?_ (by first | (simp; done) | (simp; omega) | omega)))); have hz1 := hq1.size; obtain ⟨zr1, cr01, cr11, cr21, fr01, fr11, fr21⟩ := kr1.three; clear hb1)
  obtain ⟨sc, cc, e1, hc⟩ := own_ints ho1
  subst e1
  have HCR : Hid (n = 0 ∨ ∃ g, sc = some ⟨g, 0, none⟩ ∧ RowI w1 g 0 n (fun i => (cfN K n i : Int))) := hc.imp_right fun ⟨g, a, _, _, r⟩ => ⟨g, a, r⟩
  clear hc ho1
  go_loopw [5] (fun ti wl => ∃ k : Nat, k ≤ n ∧ ti = .int .i64 k ∧ At wl (w1.heap.size) [.int .i64 ((tM (jtN K n k)).1 : Int), .int .i64 ((tM (jtN K n k)).2.1 : Int), .bool (tM (jtN K n k)).2.2] ∧ Below w1.heap.size w1 wl) (fun ti _ => n - (intOf ti).toNat)
  case atStart => exact ⟨0, by omega, rfl, by show At _ _ [.int .i64 0, .int .i64 0, .bool true]; exact (by repeat (first | (with_reducible assumption) | ((with_reducible refine at_new' _ _ _ _ ?_); (first | rfl | (simp; done))) | (with_reducible refine At.alloc ?_ _) | (with_reducible refine At.drew ?_) | (with_reducible refine At.drewN ?_) | (with_reducible refine At.set ?_ (by omega)) | (with_reducible apply At.store4) | (with_reducible apply At.store3) | (with_reducible apply At.store2) | (with_reducible apply At.put43) | (refine At.below ?_ (by with_reducible assumption)))), by repeat (first | (with_reducible exact Below.refl _ _) | (with_reducible assumption) | (with_reducible refine Below.setCell ?_ (by first | (simp; done) | (simp; omega) | omega) _) | (with_reducible refine Below.alloc ?_ (by first | (simp; done) | (simp; omega) | omega) _) | (refine bl_call ?_ (by assumption) (by first | (simp; done) | (simp; omega) | omega)) | (with_reducible refine bl_drewN ?_) | (with_reducible refine Below.drew ?_) | (with_reducible refine bl_grow ?_ (by first | (simp; done) | (simp; omega) | omega)))⟩
  case round =>
    obtain ⟨k, hk, rfl, kpV, hqV⟩ := hrel
    rename World => V
    have hzV := hqV.size
    have krV := kr1.below hqV
    clear kr1 cr01 fr01 cr11 fr11 cr21 fr21
    obtain ⟨zrV, cr0V, cr1V, cr2V, fr0V, fr1V, fr2V⟩ := krV.three
    obtain ⟨zpV, cp0V, cp1V, cp2V, fp0V, fp1V, fp2V⟩ := kpV.three
    by_cases hlt : k < n
    · have hlt' : (k : Int) < n := by omega
      obtain ⟨b, o, rfl, hz⟩ : ∃ b o : Nat, sl = some ⟨b, o, none⟩ ∧ RowO w b o n X Y F := HR.out.resolve_left (by omega)
      obtain ⟨g, rfl, hg⟩ := HCR.out.resolve_left (by omega)
      have hbV : b < V.heap.size := by have := hz.1; omega
      have hgV := Nat.lt_of_lt_of_le hg.1 hzV
      obtain ⟨c0, c1, c2⟩ := (hz.below hz.1 (show Below w.heap.size w V from bl_call hq1 hqV hz1)).2 k hlt
      have d0 := (hg.below hg.1 hqV).2 k hlt
      rw [Nat.zero_add] at d0
      obtain ⟨e0, e1, e2⟩ := HK.out k hlt
      rw [e0] at c0
      rw [e1] at c1
      rw [e2] at c2
      clear e0 e1 e2 hz hg
      have E : Hid (tM (K k * em (cfN K n k : Int)) = tM (K k * cfN K n k)) := tM_em _ _
      go_wp2_with fail
      refine below_gate 11 1 #[true, true, true, true, true, true, true, true, true, true, true, false] (by kernel_rfl) (by kernel_rfl) rfl rfl ?_
      dsimp only [List.take]
      repeat (go_big_quiet_step (first | (go_at_call 19; with_reducible exact Calls.regrown_of (rtimes_eq E.out _)) | (go_at_call 18; with_reducible exact Calls.regrown_of (radd_tM _ _ _))))
      refine wpQuiet_nil ?_
      intro W1 hw1
      have hrW1 := regrown_below hw1
      clear hw1
      have krW1 := krV.below hrW1
      have kpW1 := kpV.below hrW1
      have hqW1 := bl_call hqV hrW1 (by omega)
      have hzW1 := hqW1.size
      clear hrW1 krV cr0V fr0V cr1V fr1V cr2V fr2V kpV cp0V fp0V cp1V fp1V cp2V fp2V hqV
      obtain ⟨zrW1, cr0W1, cr1W1, cr2W1, fr0W1, fr1W1, fr2W1⟩ := krW1.three
      obtain ⟨zpW1, cp0W1, cp1W1, cp2W1, fp0W1, fp1W1, fp2W1⟩ := kpW1.three
      refine wpAny_ready (rs := [11]) (by kernel_rfl) (by simp) (AllReady.cons rfl (fun K hK => ?_) AllReady.nil)
      go_simp
      refine hK _ _ ?_
      clear hK K
      refine wpAny_done (by kernel_rfl) ?_ _
      go_wp2_with fail
      go_roundw
      case rel => exact ⟨k + 1, by omega, by simp, (show At _ _ [.int .i64 ((tM (jtN K n k + K k * cfN K n k)).1 : Int), .int .i64 ((tM (jtN K n k + K k * cfN K n k)).2.1 : Int), .bool (tM (jtN K n k + K k * cfN K n k)).2.2] from by repeat (first | (with_reducible assumption) | ((with_reducible refine at_new' _ _ _ _ ?_); (first | rfl | (simp; done))) | (with_reducible refine At.alloc ?_ _) | (with_reducible refine At.drew ?_) | (with_reducible refine At.drewN ?_) | (with_reducible refine At.set ?_ (by omega)) | (with_reducible apply At.store4) | (with_reducible apply At.store3) | (with_reducible apply At.store2) | (with_reducible apply At.put43) | (refine At.below ?_ (by with_reducible assumption)))), by repeat (first | (with_reducible exact Below.refl _ _) | (with_reducible assumption) | (with_reducible refine Below.setCell ?_ (by first | (simp; done) | (simp; omega) | omega) _) | (with_reducible refine Below.alloc ?_ (by first | (simp; done) | (simp; omega) | omega) _) | (refine bl_call ?_ (by assumption) (by first | (simp; done) | (simp; omega) | omega)) | (with_reducible refine bl_drewN ?_) | (with_reducible refine Below.drew ?_) | (with_reducible refine bl_grow ?_ (by first | (simp; done) | (simp; omega) | omega)))⟩
      case measure => simp [intOf]; omega
    · have hlt' : ¬ (k : Int) < n := by omega
      obtain rfl : k = n := by omega
      have hqw : Below w.heap.size w V := bl_call hq1 hqV hz1
      clear hqV hq1
      go_wp2_with fail
      exact bodyPost_ret (v := .agg #[.int .i64 ((tM (jtN K k k)).1 : Int), .int .i64 ((tM (jtN K k k)).2.1 : Int), .bool (tM (jtN K k k)).2.2]) (by simp [results, Tryd.results6, go_sem, *]) rfl ⟨rfl, by repeat (first | (with_reducible exact Below.refl _ _) | (with_reducible assumption) | (with_reducible refine Below.setCell ?_ (by first | (simp; done) | (simp; omega) | omega) _) | (with_reducible refine Below.alloc ?_ (by first | (simp; done) | (simp; omega) | omega) _) | (refine bl_call ?_ (by assumption) (by first | (simp; done) | (simp; omega) | omega)) | (with_reducible refine bl_drewN ?_) | (with_reducible refine Below.drew ?_) | (with_reducible refine bl_grow ?_ (by first | (simp; done) | (simp; omega) | omega)))⟩
set_option maxRecDepth 100000 in
set_option maxHeartbeats 4000000 in
theorem rgroup_many (sx sk : Option Addr) (n d m c : Nat) (t : ByteArray) (w : World) (h : 12 < n) (hn : n ≤ 9223372036854775807) : Calls Tryd.prog 11 #[.slice sx n d, .slice sk m c, .string t] w fun e w' => e = .returned (.int .i64 4) ∧ Below w.heap.size w w' := by
  have h' : (n : Int) > 12 := by omega
  go_enter Tryd.func11, Tryd.ntmps11
  go_wp2_with fail
  go_ret
  exact ⟨rfl, by repeat (first | (with_reducible exact Below.refl _ _) | (with_reducible assumption) | (with_reducible refine Below.setCell ?_ (by first | (simp; done) | (simp; omega) | omega) _) | (with_reducible refine Below.alloc ?_ (by first | (simp; done) | (simp; omega) | omega) _) | (refine bl_call ?_ (by assumption) (by first | (simp; done) | (simp; omega) | omega)) | (with_reducible refine bl_drewN ?_) | (with_reducible refine Below.drew ?_) | (with_reducible refine bl_grow ?_ (by first | (simp; done) | (simp; omega) | omega)))⟩
set_option maxRecDepth 100000 in
set_option maxHeartbeats 4000000 in
theorem rgroup_odd (sx sk : Option Addr) (n d m c : Nat) (t : ByteArray) (w : World) (h : n ≤ 12) (hn : n ≠ m) (hm : m ≤ 9223372036854775807) : Calls Tryd.prog 11 #[.slice sx n d, .slice sk m c, .string t] w fun e w' => e = .returned (.int .i64 3) ∧ Below w.heap.size w w' := by
  have h' : ¬ (n : Int) > 12 := by omega
  have h2 : ((n : Int) != (m : Int)) = true := by rw [bne_iff_ne]; omega
  go_enter Tryd.func11, Tryd.ntmps11
  go_wp2_with fail
  go_ret
  exact ⟨rfl, by repeat (first | (with_reducible exact Below.refl _ _) | (with_reducible assumption) | (with_reducible refine Below.setCell ?_ (by first | (simp; done) | (simp; omega) | omega) _) | (with_reducible refine Below.alloc ?_ (by first | (simp; done) | (simp; omega) | omega) _) | (refine bl_call ?_ (by assumption) (by first | (simp; done) | (simp; omega) | omega)) | (with_reducible refine bl_drewN ?_) | (with_reducible refine Below.drew ?_) | (with_reducible refine bl_grow ?_ (by first | (simp; done) | (simp; omega) | omega)))⟩
set_option maxRecDepth 100000 in
set_option maxHeartbeats 4000000 in
theorem rgroup_row (sx sk : Option Addr) (n d c j : Nat) (X Z : Nat → Int) (t : ByteArray) (e0 : Int) (w : World) (h : n ≤ 12) (hx : (n = 0 ∨ ∃ b o : Nat, sx = some ⟨b, o, none⟩ ∧ RowI w b o n X)) (hz : (n = 0 ∨ ∃ b o : Nat, sk = some ⟨b, o, none⟩ ∧ RowI w b o n Z)) (ht : t.size ≤ 9223372036854775807) (hj : j ≤ n) (hok : ∀ i, i < j → secB (X i) = true ∧ secB (Z i) = true)
    (he : (j < n ∧ (secB (X j) && secB (Z j)) = false ∧ e0 = 1) ∨ (j = n ∧ 60 < t.size ∧ e0 = 4) ∨ (j = n ∧ t.size ≤ 60 ∧ e0 = 0)) : Calls Tryd.prog 11 #[.slice sx n d, .slice sk n c, .string t] w fun e w' => e = .returned (.int .i64 e0) ∧ Below w.heap.size w w' := by
  have HX : Hid ((n = 0 ∨ ∃ b o : Nat, sx = some ⟨b, o, none⟩ ∧ RowI w b o n X)) := hx
  have HZ : Hid ((n = 0 ∨ ∃ b o : Nat, sk = some ⟨b, o, none⟩ ∧ RowI w b o n Z)) := hz
  have HO : Hid (∀ i, i < j → secB (X i) = true ∧ secB (Z i) = true) := hok
  have HE : Hid ((j < n ∧ (secB (X j) && secB (Z j)) = false ∧ e0 = 1) ∨ (j = n ∧ 60 < t.size ∧ e0 = 4) ∨ (j = n ∧ t.size ≤ 60 ∧ e0 = 0)) := he
  have h' : ¬ (n : Int) > 12 := by omega
  have h2 : ((n : Int) != (n : Int)) = false := by simp
  clear hx hz hok he
  go_enter Tryd.func11, Tryd.ntmps11
  go_wp2_with fail
  go_loopw [7] (fun ti wl => ∃ k : Nat, k ≤ j ∧ ti = .int .i64 k ∧ Below w.heap.size w wl) (fun ti _ => n - (intOf ti).toNat)
  case atStart => exact ⟨0, by omega, rfl, by repeat (first | (with_reducible exact Below.refl _ _) | (with_reducible assumption) | (with_reducible refine Below.setCell ?_ (by first | (simp; done) | (simp; omega) | omega) _) | (with_reducible refine Below.alloc ?_ (by first | (simp; done) | (simp; omega) | omega) _) | (refine bl_call ?_ (by assumption) (by first | (simp; done) | (simp; omega) | omega)) | (with_reducible refine bl_drewN ?_) | (with_reducible refine Below.drew ?_) | (with_reducible refine bl_grow ?_ (by first | (simp; done) | (simp; omega) | omega)))⟩
  case round =>
    obtain ⟨k, hk, rfl, hqV⟩ := hrel
    rename World => V
    have hzV := hqV.size
    by_cases hlt : k < n
    · have hlt' : (k : Int) < n := by omega
      obtain ⟨b, o, rfl, r1⟩ : ∃ b o : Nat, sx = some ⟨b, o, none⟩ ∧ RowI w b o n X := HX.out.resolve_left (by omega)
      obtain ⟨b', o', rfl, r2⟩ : ∃ b o : Nat, sk = some ⟨b, o, none⟩ ∧ RowI w b o n Z := HZ.out.resolve_left (by omega)
      have c0 := row_int r1 hqV hlt
      have hbV := Nat.lt_of_lt_of_le r1.1 hzV
      have HD : Hid (∀ W, Below w.heap.size w W → W.cell? ⟨b', o' + k, none⟩ = some (.int .i64 (Z k))) := fun W hW => row_int r2 hW hlt
      have hbW := Nat.lt_of_lt_of_le r2.1 hzV
      clear r1 r2
      have HA : Hid (∀ w, Calls Tryd.prog 25 #[.int .i64 (X k)] w fun e w' => e = .returned (.bool (secB (X k))) ∧ Below w.heap.size w w') := rsecret (X k)
      have HB : Hid (∀ w, Calls Tryd.prog 25 #[.int .i64 (Z k)] w fun e w' => e = .returned (.bool (secB (Z k))) ∧ Below w.heap.size w w') := rsecret (Z k)
      have HKJ : Hid (k < j → secB (X k) = true ∧ secB (Z k) = true) := HO.out k
      have HKE : Hid (k = j → (secB (X k) && secB (Z k)) = false ∧ e0 = 1) := by
        intro e
        rcases HE.out with g | g | g
        · rw [e]; exact g.2
        · omega
        · omega
      obtain ⟨p, hp⟩ : ∃ p, secB (X k) = p := ⟨_, rfl⟩
      obtain ⟨q, hq⟩ : ∃ q, secB (Z k) = q := ⟨_, rfl⟩
      rw [hp] at HA HKJ HKE
      rw [hq] at HB HKJ HKE
      clear hp hq
      have m1 : True := trivial
      by_cases hkj : k < j
      · obtain ⟨rfl, rfl⟩ := HKJ.out hkj
        go_wp2_with (first | (go_at_call 25; clear m1; refine (HA.out _).mono ?_; rintro e w1 ⟨rfl, hb1⟩; have hq1 : Below w.heap.size w w1 := (by repeat (first | (with_reducible exact Below.refl _ _) | (with_reducible assumption) | (with_reducible refine Below.setCell ?_ (by first | (simp; done) | (simp; omega) | omega) _) | (with_reducible refine Below.alloc ?_ (by first | (simp; done) | (simp; omega) | omega) _) | (refine bl_call ?_ (by assumption) (by first | (simp; done) | (simp; omega) | omega)) | (with_reducible refine bl_drewN ?_) | (with_reducible refine Below.drew ?_) | (with_reducible refine bl_grow ?_ (by first | (simp; done) | (simp; omega) | omega)))); have hz1 := hq1.size; have d0 := HD.out w1 hq1; clear hb1) | (go_at_call 25; refine (HB.out _).mono ?_; rintro e w2 ⟨rfl, hb2⟩; have hq2 : Below w.heap.size w w2 := (by repeat (first | (with_reducible exact Below.refl _ _) | (with_reducible assumption) | (with_reducible refine Below.setCell ?_ (by first | (simp; done) | (simp; omega) | omega) _) | (with_reducible refine Below.alloc ?_ (by first | (simp; done) | (simp; omega) | omega) _) | (refine bl_call ?_ (by assumption) (by first | (simp; done) | (simp; omega) | omega)) | (with_reducible refine bl_drewN ?_) | (with_reducible refine Below.drew ?_) | (with_reducible refine bl_grow ?_ (by first | (simp; done) | (simp; omega) | omega)))); have hz2 := hq2.size; clear hb2))
        go_roundw
        case rel => exact ⟨k + 1, by omega, by simp, by repeat (first | (with_reducible exact Below.refl _ _) | (with_reducible assumption) | (with_reducible refine Below.setCell ?_ (by first | (simp; done) | (simp; omega) | omega) _) | (with_reducible refine Below.alloc ?_ (by first | (simp; done) | (simp; omega) | omega) _) | (refine bl_call ?_ (by assumption) (by first | (simp; done) | (simp; omega) | omega)) | (with_reducible refine bl_drewN ?_) | (with_reducible refine Below.drew ?_) | (with_reducible refine bl_grow ?_ (by first | (simp; done) | (simp; omega) | omega)))⟩
        case measure => simp [intOf]; omega
      · obtain ⟨hpq, rfl⟩ := HKE.out (by omega)
        cases p <;> cases q <;> first | cases hpq | skip
        all_goals (
        go_wp2_with (first | (go_at_call 25; clear m1; refine (HA.out _).mono ?_; rintro e w1 ⟨rfl, hb1⟩; have hq1 : Below w.heap.size w w1 := (by repeat (first | (with_reducible exact Below.refl _ _) | (with_reducible assumption) | (with_reducible refine Below.setCell ?_ (by first | (simp; done) | (simp; omega) | omega) _) | (with_reducible refine Below.alloc ?_ (by first | (simp; done) | (simp; omega) | omega) _) | (refine bl_call ?_ (by assumption) (by first | (simp; done) | (simp; omega) | omega)) | (with_reducible refine bl_drewN ?_) | (with_reducible refine Below.drew ?_) | (with_reducible refine bl_grow ?_ (by first | (simp; done) | (simp; omega) | omega)))); have hz1 := hq1.size; have d0 := HD.out w1 hq1; clear hb1) | (go_at_call 25; refine (HB.out _).mono ?_; rintro e w2 ⟨rfl, hb2⟩; have hq2 : Below w.heap.size w w2 := (by repeat (first | (with_reducible exact Below.refl _ _) | (with_reducible assumption) | (with_reducible refine Below.setCell ?_ (by first | (simp; done) | (simp; omega) | omega) _) | (with_reducible refine Below.alloc ?_ (by first | (simp; done) | (simp; omega) | omega) _) | (refine bl_call ?_ (by assumption) (by first | (simp; done) | (simp; omega) | omega)) | (with_reducible refine bl_drewN ?_) | (with_reducible refine Below.drew ?_) | (with_reducible refine bl_grow ?_ (by first | (simp; done) | (simp; omega) | omega)))); have hz2 := hq2.size; clear hb2))
        go_ret
        exact ⟨rfl, by repeat (first | (with_reducible exact Below.refl _ _) | (with_reducible assumption) | (with_reducible refine Below.setCell ?_ (by first | (simp; done) | (simp; omega) | omega) _) | (with_reducible refine Below.alloc ?_ (by first | (simp; done) | (simp; omega) | omega) _) | (refine bl_call ?_ (by assumption) (by first | (simp; done) | (simp; omega) | omega)) | (with_reducible refine bl_drewN ?_) | (with_reducible refine Below.drew ?_) | (with_reducible refine bl_grow ?_ (by first | (simp; done) | (simp; omega) | omega)))⟩)
    · have hlt' : ¬ (k : Int) < n := by omega
      rcases HE.out with g | ⟨g1, g2, rfl⟩ | ⟨g1, g2, rfl⟩
      · exact absurd g.1 (by omega)
      · have g2' : (t.size : Int) > 60 := by omega
        go_wp2_with fail
        go_ret
        exact ⟨rfl, by repeat (first | (with_reducible exact Below.refl _ _) | (with_reducible assumption) | (with_reducible refine Below.setCell ?_ (by first | (simp; done) | (simp; omega) | omega) _) | (with_reducible refine Below.alloc ?_ (by first | (simp; done) | (simp; omega) | omega) _) | (refine bl_call ?_ (by assumption) (by first | (simp; done) | (simp; omega) | omega)) | (with_reducible refine bl_drewN ?_) | (with_reducible refine Below.drew ?_) | (with_reducible refine bl_grow ?_ (by first | (simp; done) | (simp; omega) | omega)))⟩
      · have g2' : ¬ (t.size : Int) > 60 := by omega
        go_wp2_with fail
        go_ret
        exact ⟨rfl, by repeat (first | (with_reducible exact Below.refl _ _) | (with_reducible assumption) | (with_reducible refine Below.setCell ?_ (by first | (simp; done) | (simp; omega) | omega) _) | (with_reducible refine Below.alloc ?_ (by first | (simp; done) | (simp; omega) | omega) _) | (refine bl_call ?_ (by assumption) (by first | (simp; done) | (simp; omega) | omega)) | (with_reducible refine bl_drewN ?_) | (with_reducible refine Below.drew ?_) | (with_reducible refine bl_grow ?_ (by first | (simp; done) | (simp; omega) | omega)))⟩
theorem gs_step (x z : Nat → Nat) (n k : Nat) (t : ByteArray) (J : Nat) (hx : x k < 1013) (hk : k < n) (hn : n ≤ 12) (hJ : J ≤ 1013 * n) :
    ∃ S : Nat, ((S : Nat) : Int) + (gaN x z n t : Int) * ((cfN (fun i => 4 * x i) n k : Int) * (x k : Int) % 1013) = ((J + gaN x z n t * smN x n (k + 1) : Nat) : Int) ∧ J + gaN x z n t * smN x n k = S ∧ S ≤ 13000000 ∧
      0 ≤ (cfN (fun i => 4 * x i) n k : Int) * (x k : Int) ∧ (cfN (fun i => 4 * x i) n k : Int) * (x k : Int) ≤ 1100000 ∧ 0 ≤ (gaN x z n t : Int) * ((cfN (fun i => 4 * x i) n k : Int) * (x k : Int) % 1013) ∧ (gaN x z n t : Int) * ((cfN (fun i => 4 * x i) n k : Int) * (x k : Int) % 1013) ≤ 1100000 := by
  have hc := cfN_lt (fun i => 4 * x i) n k
  have hg := gaN_lt x z n t
  have hs := sm_bd x n k
  obtain ⟨c, ec⟩ : ∃ c, cfN (fun i => 4 * x i) n k = c := ⟨_, rfl⟩
  obtain ⟨g, eg⟩ : ∃ g, gaN x z n t = g := ⟨_, rfl⟩
  have e1 : smN x n (k + 1) = smN x n k + c * x k % 1013 := by rw [← ec]; rfl
  obtain ⟨s, es⟩ : ∃ s, smN x n k = s := ⟨_, rfl⟩
  rw [ec] at hc
  rw [eg] at hg
  rw [es] at hs e1
  rw [ec, eg, es, e1]
  have h1 : g * s ≤ 1013 * (1013 * 12) := Nat.mul_le_mul (by omega) (by omega)
  have h2 : c * x k ≤ 1013 * 1013 := Nat.mul_le_mul (by omega) (by omega)
  have h3 : g * (c * x k % 1013) ≤ 1013 * 1013 := Nat.mul_le_mul (by omega) (by omega)
  have i2 : ((c * x k : Nat) : Int) = (c : Int) * (x k : Int) := Int.natCast_mul _ _
  have i3 : ((g * (c * x k % 1013) : Nat) : Int) = (g : Int) * ((c : Int) * (x k : Int) % 1013) := by rw [Int.natCast_mul, Int.natCast_emod, i2]; rfl
  have i4 : g * (s + c * x k % 1013) = g * s + g * (c * x k % 1013) := Nat.mul_add _ _ _
  refine ⟨J + g * s, ?_, rfl, by omega, by omega, by omega, by omega, by omega⟩
  rw [← i3, i4]
  omega
theorem ginfo : (Tryd.prog.info? 26).map (fun i => (i.zero, i.size, i.bytes)) = some (some (.agg #[.int .i64 0, .int .i64 0, .bool false]), 3, 24) := by kernel_rfl
theorem three_newG {w : World} {b : Nat} (h : w.heap.size = b) (x y z : Value) (t : TypeId) : ∀ j u, [x, y, z][j]? = some u → (w.alloc (.cells #[x, y, z] t)).cell? ((⟨b, 0, none⟩ : Addr).add j) = some u := by
  subst h
  intro j u hj
  rw [addr_add]
  match j, hj with
  | 0, hj => simp at hj; subst hj; simp
  | 1, hj => simp at hj; subst hj; simp
  | 2, hj => simp at hj; subst hj; simp
set_option maxRecDepth 100000 in
set_option maxHeartbeats 4000000 in
theorem rgsign (sx sk : Option Addr) (n d c : Nat) (x z : Nat → Nat) (t : ByteArray) (w : World) (h : n ≤ 12) (hx : (n = 0 ∨ ∃ b o : Nat, sx = some ⟨b, o, none⟩ ∧ RowI w b o n (fun i => (x i : Int)))) (hz : (n = 0 ∨ ∃ b o : Nat, sk = some ⟨b, o, none⟩ ∧ RowI w b o n (fun i => (z i : Int)))) (hxb : ∀ i, i < n → x i < 1013) (hzb : ∀ i, i < n → z i < 1013) (ht : t.size ≤ 60) :
    Calls Tryd.prog 12 #[.slice sx n d, .slice sk n c, .string t] w fun e w' => e = .returned (.agg #[.int .i64 ((tM (4 * jsN z n)).1 : Int), .int .i64 ((tM (4 * jsN z n)).2.1 : Int), .bool (tM (4 * jsN z n)).2.2, .int .i64 (gsN x z n t : Int)]) ∧ Below w.heap.size w w' := by
  have HX : Hid ((n = 0 ∨ ∃ b o : Nat, sx = some ⟨b, o, none⟩ ∧ RowI w b o n (fun i => (x i : Int)))) := hx
  have HZ : Hid ((n = 0 ∨ ∃ b o : Nat, sk = some ⟨b, o, none⟩ ∧ RowI w b o n (fun i => (z i : Int)))) := hz
  have HXB : Hid (∀ i, i < n → x i < 1013) := hxb
  have HZB : Hid (∀ i, i < n → z i < 1013) := hzb
  have hT : ∀ i, i < n → (fun i => ((tM (4 * x i)).1 : Int)) i = ((tM ((fun i => 4 * x i) i)).1 : Int) ∧ (fun i => ((tM (4 * x i)).2.1 : Int)) i = ((tM ((fun i => 4 * x i) i)).2.1 : Int) ∧ (fun i => (tM (4 * x i)).2.2) i = (tM ((fun i => 4 * x i) i)).2.2 := fun i _ => ⟨rfl, rfl, rfl⟩
  have HC : Hid (∀ W B v, W.ownsRow B 26 3 v n (cellsT (fun i => ((tM (4 * x i)).1 : Int)) (fun i => ((tM (4 * x i)).2.1 : Int)) (fun i => (tM (4 * x i)).2.2) n) → Calls Tryd.prog 5 #[v] W fun e w' => GivesI W n (fun i => (cfN (fun i => 4 * x i) n i : Int)) e w') := fun W B v hv => by
    obtain ⟨sa, cc, rfl, r⟩ := own_spots hv
    exact rcoefs sa n cc _ _ _ (fun i => 4 * x i) W h (r.imp_right fun ⟨g, e, _, _, r⟩ => ⟨g, 0, e, r⟩) hT
  have HJ : Hid (∀ W B v, W.ownsRow B 26 3 v n (cellsT (fun i => ((tM (4 * x i)).1 : Int)) (fun i => ((tM (4 * x i)).2.1 : Int)) (fun i => (tM (4 * x i)).2.2) n) → Calls Tryd.prog 6 #[v] W fun e w' => e = .returned (.agg #[.int .i64 ((tM (jtN (fun i => 4 * x i) n n)).1 : Int), .int .i64 ((tM (jtN (fun i => 4 * x i) n n)).2.1 : Int), .bool (tM (jtN (fun i => 4 * x i) n n)).2.2]) ∧ Below W.heap.size W w') := fun W B v hv => by
    obtain ⟨sa, cc, rfl, r⟩ := own_spots hv
    exact rjoint sa n cc _ _ _ (fun i => 4 * x i) W h (r.imp_right fun ⟨g, e, _, _, r⟩ => ⟨g, 0, e, r⟩) hT
  have HA : Hid (∀ w, Calls Tryd.prog 27 #[.agg #[.int .i64 ((tM (4 * jsN z n)).1 : Int), .int .i64 ((tM (4 * jsN z n)).2.1 : Int), .bool (tM (4 * jsN z n)).2.2], .agg #[.int .i64 ((tM (jtN (fun i => 4 * x i) n n)).1 : Int), .int .i64 ((tM (jtN (fun i => 4 * x i) n n)).2.1 : Int), .bool (tM (jtN (fun i => 4 * x i) n n)).2.2], .string t] w fun e w' => e = .returned (.int .i64 (gaN x z n t : Int)) ∧ Below w.heap.size w w') := fun w => rask_tM _ _ t w ht
  have ER : Hid (tM (4 * em (jsN z n : Int)) = tM (4 * jsN z n)) := tM_em _ _
  have HG : Hid (((jsN z n + gaN x z n t * smN x n n : Nat) : Int) % 1013 = (gsN x z n t : Int)) := by unfold Hid; rw [← gs_sm, Int.natCast_emod]; rfl
  have hga := gaN_lt x z n t
  clear hx hz hxb hzb hT ht
  obtain ⟨s0, hs, hu0, hu1, hu2⟩ := info_parts ginfo
  go_enter Tryd.func12, Tryd.ntmps12
  go_upto_region 1 with fail
  refine wp_gen (fun V => At V (w.heap.size) [.int .i64 0, .int .i64 0, .bool false, .int .i64 0] ∧ Below w.heap.size w V) ⟨by repeat (first | (with_reducible assumption) | ((with_reducible refine at_new' _ _ _ _ ?_); (first | rfl | (simp; done))) | (with_reducible refine At.alloc ?_ _) | (with_reducible refine At.drew ?_) | (with_reducible refine At.drewN ?_) | (with_reducible refine At.set ?_ (by omega)) | (with_reducible apply At.store4) | (with_reducible apply At.store3) | (with_reducible apply At.store2) | (with_reducible apply At.put43) | (refine At.below ?_ (by with_reducible assumption))), by repeat (first | (with_reducible exact Below.refl _ _) | (with_reducible assumption) | (with_reducible refine Below.setCell ?_ (by first | (simp; done) | (simp; omega) | omega) _) | (with_reducible refine Below.alloc ?_ (by first | (simp; done) | (simp; omega) | omega) _) | (refine bl_call ?_ (by assumption) (by first | (simp; done) | (simp; omega) | omega)) | (with_reducible refine bl_drewN ?_) | (with_reducible refine Below.drew ?_) | (with_reducible refine bl_grow ?_ (by first | (simp; done) | (simp; omega) | omega)))⟩ ?_
  rintro V ⟨kzV, hqV⟩
  have hzV := hqV.size
  obtain ⟨zzV, cz0V, cz1V, cz2V, cz3V, fz0V, fz1V, fz2V, fz3V⟩ := kzV.four
  go_wp2_with fail
  go_loopw [7, 8, 9] (fun tv ts ti wl => ∃ k : Nat, k ≤ n ∧ ti = .int .i64 k ∧ ts = .int .i64 (jsN z k : Int) ∧ wl.ownsRow V.heap.size 26 3 tv k (cellsT (fun i => ((tM (4 * x i)).1 : Int)) (fun i => ((tM (4 * x i)).2.1 : Int)) (fun i => (tM (4 * x i)).2.2) k) ∧ Below V.heap.size V wl) (fun _ _ ti _ => n - (intOf ti).toNat)
  case atStart => exact ⟨0, by omega, rfl, rfl, World.ownsRow_nil _ _ _ _, Below.refl _ _⟩
  case round =>
    obtain ⟨k, hk, rfl, rfl, hown, hqU⟩ := hrel
    rename World => U
    have hzU := hqU.size
    by_cases hlt : k < n
    · have hlt' : (k : Int) < n := by omega
      obtain ⟨b, o, rfl, r1⟩ : ∃ b o : Nat, sx = some ⟨b, o, none⟩ ∧ RowI w b o n (fun i => (x i : Int)) := HX.out.resolve_left (by omega)
      obtain ⟨b', o', rfl, r2⟩ : ∃ b o : Nat, sk = some ⟨b, o, none⟩ ∧ RowI w b o n (fun i => (z i : Int)) := HZ.out.resolve_left (by omega)
      have hqw : Below w.heap.size w U := bl_call hqV hqU hzV
      have c0 := row_int r1 hqw hlt
      have hbU := Nat.lt_of_lt_of_le r1.1 hqw.size
      have HD : Hid (∀ W, Below V.heap.size V W → W.cell? ⟨b', o' + k, none⟩ = some (.int .i64 (z k : Int)) ∧ b' < W.heap.size) := fun W hW => ⟨row_int r2 (bl_call hqV hW hzV) hlt, by have := r2.1; have := hW.size; omega⟩
      clear r1 r2 hqw
      have E : Hid (tM (4 * em (x k : Int)) = tM (4 * x k)) := tM_em _ _
      have hzb := HZB.out k hlt
      have hjb := js_bd (z := z) (n := k) (fun i hi => HZB.out i (by omega))
      obtain ⟨J, hJ⟩ : ∃ J, jsN z k = J := ⟨_, rfl⟩
      have HJS : Hid ((J : Int) + (z k : Int) = (jsN z (k + 1) : Int)) := by
        unfold Hid
        show _ = ((jsN z k + z k : Nat) : Int)
        rw [hJ]; omega
      rw [hJ] at hjb ⊢
      clear hJ
      go_wp2_with (first | (go_at_call 26; refine (rby_eq E.out _).mono ?_; rintro e w5 ⟨rfl, hb5⟩; have hq5 : Below V.heap.size V w5 := (by repeat (first | (with_reducible exact Below.refl _ _) | (with_reducible assumption) | (with_reducible refine Below.setCell ?_ (by first | (simp; done) | (simp; omega) | omega) _) | (with_reducible refine Below.alloc ?_ (by first | (simp; done) | (simp; omega) | omega) _) | (refine bl_call ?_ (by assumption) (by first | (simp; done) | (simp; omega) | omega)) | (with_reducible refine bl_drewN ?_) | (with_reducible refine Below.drew ?_) | (with_reducible refine bl_grow ?_ (by first | (simp; done) | (simp; omega) | omega)))); have hz5 := hq5.size; have hown5 := own_stay hown hb5; clear hb5) | (at_builtin; refine wpList_append_own_at _ rfl _ _ 22 rfl V.heap.size 26 s0 (.agg #[.int .i64 0, .int .i64 0, .bool false]) 3 24 Tryd.underlying22 hs hu0 hu1 hu2 rfl (by decide) _ _ _ rfl (own_stay hown5 (by repeat (first | (with_reducible exact Below.refl _ _) | (with_reducible assumption) | (with_reducible refine Below.setCell ?_ (by first | (simp; done) | (simp; omega) | omega) _) | (with_reducible refine Below.alloc ?_ (by first | (simp; done) | (simp; omega) | omega) _) | (refine bl_call ?_ (by assumption) (by first | (simp; done) | (simp; omega) | omega)) | (with_reducible refine bl_drewN ?_) | (with_reducible refine Below.drew ?_) | (with_reducible refine bl_grow ?_ (by first | (simp; done) | (simp; omega) | omega))))) ⟨_, 0, none⟩ 1 1 [.int .i64 ((tM (4 * x k)).1 : Int), .int .i64 ((tM (4 * x k)).2.1 : Int), .bool (tM (4 * x k)).2.2] rfl rfl ?c1 ?c2 ?c3 ?c4 ?c5 ?_))
      case c1 => exact three_newG (by simp) _ _ _ _
      case c2 => intro u hu; simp at hu; rcases hu with rfl | rfl | rfl <;> rfl
      case c3 => unfold maxLen; omega
      case c4 => omega
      case c5 => simp; omega
      · intro v' w13 hown' hgrow _ hat
        have hq13 : Below V.heap.size V w13 := grown_under (B := V.heap.size) (by repeat (first | (with_reducible exact Below.refl _ _) | (with_reducible assumption) | (with_reducible refine Below.setCell ?_ (by first | (simp; done) | (simp; omega) | omega) _) | (with_reducible refine Below.alloc ?_ (by first | (simp; done) | (simp; omega) | omega) _) | (refine bl_call ?_ (by assumption) (by first | (simp; done) | (simp; omega) | omega)) | (with_reducible refine bl_drewN ?_) | (with_reducible refine Below.drew ?_) | (with_reducible refine bl_grow ?_ (by first | (simp; done) | (simp; omega) | omega)))) (own_stay hown5 (by repeat (first | (with_reducible exact Below.refl _ _) | (with_reducible assumption) | (with_reducible refine Below.setCell ?_ (by first | (simp; done) | (simp; omega) | omega) _) | (with_reducible refine Below.alloc ?_ (by first | (simp; done) | (simp; omega) | omega) _) | (refine bl_call ?_ (by assumption) (by first | (simp; done) | (simp; omega) | omega)) | (with_reducible refine bl_drewN ?_) | (with_reducible refine Below.drew ?_) | (with_reducible refine bl_grow ?_ (by first | (simp; done) | (simp; omega) | omega))))) hgrow (by simp; omega) (Nat.le_refl _)
        have hz13 := hq13.size
        rw [← cellsT_succ (fun i => ((tM (4 * x i)).1 : Int)) (fun i => ((tM (4 * x i)).2.1 : Int)) (fun i => (tM (4 * x i)).2.2)] at hown'
        obtain ⟨d0, hbW⟩ := HD.out w13 hq13
        clear hgrow hat hown5 hq5
        go_wp2_with fail
        go_roundw
        case rel => exact ⟨k + 1, by omega, by simp, by rw [← HJS.out], hown', hq13⟩
        case measure => simp [intOf]; omega
    · have hlt' : ¬ (k : Int) < n := by omega
      obtain rfl : n = k := by omega
      obtain ⟨J, hJ⟩ : ∃ J, jsN z n = J := ⟨_, rfl⟩
      have hjb := js_bd (z := z) (n := n) (fun i hi => HZB.out i hi)
      have HJ0 : Hid (jsN z n = J) := hJ
      rw [hJ] at ER HA HG hjb ⊢
      have HX2 : Hid ((n = 0 ∨ ∃ b o : Nat, sx = some ⟨b, o, none⟩ ∧ RowI w b o n (fun i => (x i : Int)))) := HX.out
      have kz2 : At V (w.heap.size) [.int .i64 0, .int .i64 0, .bool false, .int .i64 0] := kzV
      clear hJ kzV cz0V fz0V cz1V fz1V cz2V fz2V cz3V fz3V
      go_upto_region 11 with (first | (go_at_call 5; refine (HC.out _ _ _ (own_stay hown (by repeat (first | (with_reducible exact Below.refl _ _) | (with_reducible assumption) | (with_reducible refine Below.setCell ?_ (by first | (simp; done) | (simp; omega) | omega) _) | (with_reducible refine Below.alloc ?_ (by first | (simp; done) | (simp; omega) | omega) _) | (refine bl_call ?_ (by assumption) (by first | (simp; done) | (simp; omega) | omega)) | (with_reducible refine bl_drewN ?_) | (with_reducible refine Below.drew ?_) | (with_reducible refine bl_grow ?_ (by first | (simp; done) | (simp; omega) | omega)))))).mono ?_; rintro e w6 ⟨v6, rfl, ho6, hb6⟩; have hqw6 : Below V.heap.size V w6 := (by repeat (first | (with_reducible exact Below.refl _ _) | (with_reducible assumption) | (with_reducible refine Below.setCell ?_ (by first | (simp; done) | (simp; omega) | omega) _) | (with_reducible refine Below.alloc ?_ (by first | (simp; done) | (simp; omega) | omega) _) | (refine bl_call ?_ (by assumption) (by first | (simp; done) | (simp; omega) | omega)) | (with_reducible refine bl_drewN ?_) | (with_reducible refine Below.drew ?_) | (with_reducible refine bl_grow ?_ (by first | (simp; done) | (simp; omega) | omega)))); have hzw6 := hqw6.size; have hk6 := own_stay hown (show Below U.heap.size U w6 from (by repeat (first | (with_reducible exact Below.refl _ _) | (with_reducible assumption) | (with_reducible refine Below.setCell ?_ (by first | (simp; done) | (simp; omega) | omega) _) | (with_reducible refine Below.alloc ?_ (by first | (simp; done) | (simp; omega) | omega) _) | (refine bl_call ?_ (by assumption) (by first | (simp; done) | (simp; omega) | omega)) | (with_reducible refine bl_drewN ?_) | (with_reducible refine Below.drew ?_) | (with_reducible refine bl_grow ?_ (by first | (simp; done) | (simp; omega) | omega))))); clear hb6) | (go_at_call 26; refine (rby_eq ER.out _).mono ?_; rintro e w7 ⟨rfl, hb7⟩; have hqw7 : Below V.heap.size V w7 := (by repeat (first | (with_reducible exact Below.refl _ _) | (with_reducible assumption) | (with_reducible refine Below.setCell ?_ (by first | (simp; done) | (simp; omega) | omega) _) | (with_reducible refine Below.alloc ?_ (by first | (simp; done) | (simp; omega) | omega) _) | (refine bl_call ?_ (by assumption) (by first | (simp; done) | (simp; omega) | omega)) | (with_reducible refine bl_drewN ?_) | (with_reducible refine Below.drew ?_) | (with_reducible refine bl_grow ?_ (by first | (simp; done) | (simp; omega) | omega)))); have hzw7 := hqw7.size; have hk7 := own_stay hk6 hb7; have ho7 := own_stay ho6 hb7; clear hb7 hk6 ho6 hqw6))
      refine wp_gen (fun W => At W (w7.heap.size) [.int .i64 ((tM (4 * J)).1 : Int), .int .i64 ((tM (4 * J)).2.1 : Int), .bool (tM (4 * J)).2.2] ∧ W.ownsRow V.heap.size 26 3 u7 n (cellsT (fun i => ((tM (4 * x i)).1 : Int)) (fun i => ((tM (4 * x i)).2.1 : Int)) (fun i => (tM (4 * x i)).2.2) n) ∧ W.ownsRow U.heap.size 3 1 v6 n (cellsI (fun i => (cfN (fun i => 4 * x i) n i : Int)) n) ∧ Below V.heap.size V W) ⟨by repeat (first | (with_reducible assumption) | ((with_reducible refine at_new' _ _ _ _ ?_); (first | rfl | (simp; done))) | (with_reducible refine At.alloc ?_ _) | (with_reducible refine At.drew ?_) | (with_reducible refine At.drewN ?_) | (with_reducible refine At.set ?_ (by omega)) | (with_reducible apply At.store4) | (with_reducible apply At.store3) | (with_reducible apply At.store2) | (with_reducible apply At.put43) | (refine At.below ?_ (by with_reducible assumption))), own_stay hk7 (by repeat (first | (with_reducible exact Below.refl _ _) | (with_reducible assumption) | (with_reducible refine Below.setCell ?_ (by first | (simp; done) | (simp; omega) | omega) _) | (with_reducible refine Below.alloc ?_ (by first | (simp; done) | (simp; omega) | omega) _) | (refine bl_call ?_ (by assumption) (by first | (simp; done) | (simp; omega) | omega)) | (with_reducible refine bl_drewN ?_) | (with_reducible refine Below.drew ?_) | (with_reducible refine bl_grow ?_ (by first | (simp; done) | (simp; omega) | omega)))), own_stay ho7 (by repeat (first | (with_reducible exact Below.refl _ _) | (with_reducible assumption) | (with_reducible refine Below.setCell ?_ (by first | (simp; done) | (simp; omega) | omega) _) | (with_reducible refine Below.alloc ?_ (by first | (simp; done) | (simp; omega) | omega) _) | (refine bl_call ?_ (by assumption) (by first | (simp; done) | (simp; omega) | omega)) | (with_reducible refine bl_drewN ?_) | (with_reducible refine Below.drew ?_) | (with_reducible refine bl_grow ?_ (by first | (simp; done) | (simp; omega) | omega)))), by repeat (first | (with_reducible exact Below.refl _ _) | (with_reducible assumption) | (with_reducible refine Below.setCell ?_ (by first | (simp; done) | (simp; omega) | omega) _) | (with_reducible refine Below.alloc ?_ (by first | (simp; done) | (simp; omega) | omega) _) | (refine bl_call ?_ (by assumption) (by first | (simp; done) | (simp; omega) | omega)) | (with_reducible refine bl_drewN ?_) | (with_reducible refine Below.drew ?_) | (with_reducible refine bl_grow ?_ (by first | (simp; done) | (simp; omega) | omega)))⟩ ?_
      rintro W1 ⟨kpW1, hkW1, hoW1, hqW1⟩
      have hzW1 := hqW1.size
      have HJW : Hid (∀ W, Below W1.heap.size W1 W → Calls Tryd.prog 6 #[u7] W fun e w' => e = .returned (.agg #[.int .i64 ((tM (jtN (fun i => 4 * x i) n n)).1 : Int), .int .i64 ((tM (jtN (fun i => 4 * x i) n n)).2.1 : Int), .bool (tM (jtN (fun i => 4 * x i) n n)).2.2]) ∧ Below W.heap.size W w') := fun W hW => HJ.out W _ _ (own_stay hkW1 hW)
      clear hk7 ho7 hkW1 hqw7 hown
      obtain ⟨zpW1, cp0W1, cp1W1, cp2W1, fp0W1, fp1W1, fp2W1⟩ := kpW1.three
      refine wp_region_quiet_below (by kernel_rfl) (by kernel_rfl) ?_
      repeat (go_big_quiet_step (first | (go_at_call 6; with_reducible exact Calls.regrown_of (HJW.out _ (below_regrown _ _ _))) | (go_at_call 27; with_reducible exact Calls.regrown_of (HA.out _))))
      refine wpQuiet_nil ?_
      intro W2 hw1
      have hrW2 := regrown_below hw1
      clear hw1
      have kpW2 := kpW1.below hrW2
      have hoW2 := own_stay hoW1 hrW2
      have hqW2 := bl_call hqW1 hrW2 (by omega)
      have hzW2 := hqW2.size
      clear hrW2 kpW1 cp0W1 fp0W1 cp1W1 fp1W1 cp2W1 fp2W1 hqW1 hoW1
      obtain ⟨sc, cc, e6, hc6⟩ := own_ints hoW2
      subst e6
      have HCR : Hid (n = 0 ∨ ∃ g, sc = some ⟨g, 0, none⟩ ∧ RowI W2 g 0 n (fun i => (cfN (fun i => 4 * x i) n i : Int))) := hc6.imp_right fun ⟨g, a, _, _, r⟩ => ⟨g, a, r⟩
      clear hc6 hoW2
      go_wp2_with fail
      go_loopw [8, 14] (fun ts ti wl => ∃ k : Nat, k ≤ n ∧ ti = .int .i64 k ∧ ts = .int .i64 ((J + gaN x z n t * smN x n k : Nat) : Int) ∧ Below W2.heap.size W2 wl) (fun _ ti _ => n - (intOf ti).toNat)
      case atStart => exact ⟨0, by omega, rfl, rfl, by repeat (first | (with_reducible exact Below.refl _ _) | (with_reducible assumption) | (with_reducible refine Below.setCell ?_ (by first | (simp; done) | (simp; omega) | omega) _) | (with_reducible refine Below.alloc ?_ (by first | (simp; done) | (simp; omega) | omega) _) | (refine bl_call ?_ (by assumption) (by first | (simp; done) | (simp; omega) | omega)) | (with_reducible refine bl_drewN ?_) | (with_reducible refine Below.drew ?_) | (with_reducible refine bl_grow ?_ (by first | (simp; done) | (simp; omega) | omega)))⟩
      case round =>
        obtain ⟨k, hk, rfl, rfl, hqY⟩ := hrel
        rename World => Y
        have hzY := hqY.size
        have hqVY : Below V.heap.size V Y := bl_call hqW2 hqY hzW2
        by_cases hlt : k < n
        · have hlt' : (k : Int) < n := by omega
          obtain ⟨b, o, rfl, r1⟩ : ∃ b o : Nat, sx = some ⟨b, o, none⟩ ∧ RowI w b o n (fun i => (x i : Int)) := HX.out.resolve_left (by omega)
          obtain ⟨g, rfl, r2⟩ := HCR.out.resolve_left (by omega)
          have hqw : Below w.heap.size w Y := bl_call hqV hqVY hzV
          have c0 := row_int r1 hqw hlt
          have c1 := row_int r2 hqY hlt
          rw [Nat.zero_add] at c1
          have hbY := Nat.lt_of_lt_of_le r1.1 hqw.size
          have hgY := Nat.lt_of_lt_of_le r2.1 hqY.size
          clear r1 r2 hqw
          obtain ⟨S, hS, M, e1, e2, e3, e4, e5⟩ := gs_step x z n k t J (HXB.out k hlt) hlt h hjb
          have HS : Hid (((S : Nat) : Int) + (gaN x z n t : Int) * ((cfN (fun i => 4 * x i) n k : Int) * (x k : Int) % 1013) = ((J + gaN x z n t * smN x n (k + 1) : Nat) : Int)) := hS
          rw [M]
          clear hS M
          go_wp2_with fail
          go_quiet (fail)
          go_wp2_with fail
          go_roundw
          case rel => exact ⟨k + 1, by omega, by simp, by rw [← HS.out], by repeat (first | (with_reducible exact Below.refl _ _) | (with_reducible assumption) | (with_reducible refine Below.setCell ?_ (by first | (simp; done) | (simp; omega) | omega) _) | (with_reducible refine Below.alloc ?_ (by first | (simp; done) | (simp; omega) | omega) _) | (refine bl_call ?_ (by assumption) (by first | (simp; done) | (simp; omega) | omega)) | (with_reducible refine bl_drewN ?_) | (with_reducible refine Below.drew ?_) | (with_reducible refine bl_grow ?_ (by first | (simp; done) | (simp; omega) | omega)))⟩
          case measure => simp [intOf]; omega
        · have hlt' : ¬ (k : Int) < n := by omega
          obtain rfl : n = k := by omega
          have kpY := kpW2.below hqY
          have kzY := kz2.below hqVY
          have hqw : Below w.heap.size w Y := bl_call hqV hqVY hzV
          obtain ⟨zpY, cp0Y, cp1Y, cp2Y, fp0Y, fp1Y, fp2Y⟩ := kpY.three
          obtain ⟨zzY, cz0Y, cz1Y, cz2Y, cz3Y, fz0Y, fz1Y, fz2Y, fz3Y⟩ := kzY.four
          have hsm := sm_bd x n n
          have hgm : gaN x z n t * smN x n n ≤ 1013 * (1013 * 12) := Nat.mul_le_mul (by omega) (by omega)
          obtain ⟨S, hS⟩ : ∃ S, J + gaN x z n t * smN x n n = S := ⟨_, rfl⟩
          have hSb : S ≤ 13000000 := by omega
          rw [hS] at HG ⊢
          clear hS hgm hsm hqY hqVY hqW2 hqV
          go_wp2_with fail
          exact bodyPost_ret (v := .agg #[.int .i64 ((tM (4 * J)).1 : Int), .int .i64 ((tM (4 * J)).2.1 : Int), .bool (tM (4 * J)).2.2, .int .i64 (gsN x z n t : Int)]) (by simp [results, Tryd.results12, go_sem, HG.out, *]) rfl ⟨by rw [HJ0.out], by repeat (first | (with_reducible exact Below.refl _ _) | (with_reducible assumption) | (with_reducible refine Below.setCell ?_ (by first | (simp; done) | (simp; omega) | omega) _) | (with_reducible refine Below.alloc ?_ (by first | (simp; done) | (simp; omega) | omega) _) | (refine bl_call ?_ (by assumption) (by first | (simp; done) | (simp; omega) | omega)) | (with_reducible refine bl_drewN ?_) | (with_reducible refine Below.drew ?_) | (with_reducible refine bl_grow ?_ (by first | (simp; done) | (simp; omega) | omega)))⟩
end Go.Proofs.YtfgdjenbhdackagDoor
/- ShareIs -/
namespace Go.Proofs.YtfgdjenbhdackagDoor
open Go.RowKit Go.Sort
set_option linter.unusedVariables false
set_option linter.unusedSimpArgs false
/-- So many weights times values, together. -/
def smI (X Y : Nat → Int) (q k : Nat) : Int := vI (sm (fun i => wtq (xq X) q i * zq (Y i)) k)
theorem first_no (s : Nat → Bool) : ∀ n, ∃ t, t ≤ n ∧ (∀ k, k < t → s k = true) ∧ (t = n ∨ (t < n ∧ s t = false))
  | 0 => ⟨0, Nat.le_refl _, fun k hk => absurd hk (Nat.not_lt_zero _), Or.inl rfl⟩
  | n + 1 => by
    obtain ⟨t, h1, h2, h3⟩ := first_no s n
    rcases h3 with rfl | ⟨h3, h4⟩
    · cases h : s t with
      | false => exact ⟨t, by omega, h2, Or.inr ⟨by omega, h⟩⟩
      | true =>
        refine ⟨t + 1, by omega, fun k hk => ?_, Or.inl rfl⟩
        rcases Nat.lt_succ_iff_lt_or_eq.1 hk with h5 | rfl
        · exact h2 k h5
        · exact h
    · exact ⟨t, by omega, h2, Or.inr ⟨by omega, h4⟩⟩
theorem res_bd {n : Int} (h : resB n = true) : 0 ≤ n ∧ n < 1013 := of_decide_eq_true h
theorem sec_bd {n : Int} (h : secB n = true) : 1 ≤ n ∧ n < 1013 := of_decide_eq_true h
theorem smI_step (X Y : Nat → Int) (q k : Nat) : (smI X Y q k + vI (wtq (xq X) q k) * Y k) % 1013 = smI X Y q (k + 1) := by
  unfold smI
  rw [vI_addm, zq_vI]; rfl
end Go.Proofs.YtfgdjenbhdackagDoor
/- GroupTellsBy -/
namespace Go.Proofs.YtfgdjenbhdackagDoor
open Go.RowKit Go.Sort
set_option linter.unusedVariables false
set_option linter.unusedSimpArgs false
theorem gtold_it (e : Int) : (toldI (errOf e) == e) = true := by rw [toldI_err]; simp
theorem gt_one (hC : CoefsIs) (hJ : JointIs) (sl : Option Addr) (n dl : Nat) (w : World) (hn : n ≤ 9223372036854775807) (kl : n ≤ dl)
    (uK : n = 0 ∨ ∃ (b o : Nat) (X Y : Nat → Int) (F : Nat → Bool), sl = some ⟨b, o, none⟩ ∧ RowO w b o n X Y F) : ∃ (jx jy e1 : Int) (jf : Bool) (v1 v2 : Value) (CX : Nat → Int), (∀ W, Below w.heap.size w W → Calls Tryd.prog 4 #[.slice sl n dl] W fun ex w' => ex = .returned (.int .i64 e1) ∧ Below W.heap.size W w') ∧ ((e1 == 0) = true → n ≤ 12 ∧ (∀ W, Below w.heap.size w W → Calls Tryd.prog 5 #[.slice sl n dl] W fun e w' => GivesI W n CX e w') ∧ (∀ W, Below w.heap.size w W → Calls Tryd.prog 6 #[.slice sl n dl] W fun ex w' => ex = .returned (.agg #[.int .i64 jx, .int .i64 jy, .bool jf]) ∧ Below W.heap.size W w')) ∧ ((e1 == 0) = false → jx = 0 ∧ jy = 0 ∧ jf = false) ∧ (∀ W, Below w.heap.size w W → Calls Tryd.prog 7 #[.slice sl n dl] W fun ex w' => ∃ u, ex = .returned (.tuple #[u, v1]) ∧ ((e1 == 0) = true → w'.ownsRow W.heap.size 3 1 u n (cellsI CX n)) ∧ ((e1 == 0) = false → u = .slice none 0 0) ∧ Below W.heap.size W w') ∧ (IsErr v1) ∧ (∀ W, Below w.heap.size w W → Calls Tryd.prog 10 #[.slice sl n dl] W fun ex w' => ex = .returned (.tuple #[.agg #[.int .i64 jx, .int .i64 jy, .bool jf], v2]) ∧ Below W.heap.size W w') ∧ (IsErr v2) ∧ (toldI v1 == e1) = true ∧ (toldI v2 == e1) = true := by
  by_cases h12 : 12 < n
  · exact ⟨0, 0, 4, false, errOf 4, errOf 4, fun _ => 0, fun W _ => rspots_many sl n dl W h12, (fun h => absurd h (by decide)), fun _ => ⟨rfl, rfl, rfl⟩, fun W k => (hC.1 sl n dl W h12 hn).mono fun ex w' ⟨h1, h2⟩ => ⟨.slice none 0 0, h1, (fun h => absurd h (by decide)), fun _ => rfl, h2⟩, isErr_err 4, fun W _ => hJ.1 sl n dl W h12 hn, isErr_err 4, gtold_it 4, gtold_it 4⟩
  obtain ⟨X, Y, F, hr⟩ : ∃ (X Y : Nat → Int) (F : Nat → Bool), (n = 0 ∨ ∃ b o : Nat, sl = some ⟨b, o, none⟩ ∧ RowO w b o n X Y F) := by
    rcases uK with h | ⟨b, o, X, Y, F, e, r⟩
    · exact ⟨fun _ => 0, fun _ => 0, fun _ => false, Or.inl h⟩
    · exact ⟨X, Y, F, Or.inr ⟨b, o, e, r⟩⟩
  have hup : ∀ W, Below w.heap.size w W → (n = 0 ∨ ∃ b o : Nat, sl = some ⟨b, o, none⟩ ∧ RowO W b o n X Y F) := fun W k => hr.imp_right fun ⟨b, o, e, r⟩ => ⟨b, o, e, r.below r.1 k⟩
  have hsp : ∀ W, Below w.heap.size w W → Calls Tryd.prog 4 #[.slice sl n dl] W fun ex w' => ex = .returned (.int .i64 (rowE X Y F n)) ∧ Below W.heap.size W w' := fun W k => by
    rcases hup W k with rfl | ⟨b, o, rfl, r⟩
    · exact rspots_nil sl dl W
    · exact rspots_row b o n dl X Y F W (by omega) r
  cases he : rowE X Y F n == 0 with
  | false =>
    exact ⟨0, 0, rowE X Y F n, false, errOf (rowE X Y F n), errOf (rowE X Y F n), fun _ => 0, hsp, (fun h => absurd (he.symm.trans h) (by decide)), fun _ => ⟨rfl, rfl, rfl⟩, fun W k => (hC.2.1 sl n dl X Y F W (by omega) kl (hup W k) he).mono fun ex w' ⟨h1, h2⟩ => ⟨.slice none 0 0, h1, (fun h => absurd (he.symm.trans h) (by decide)), fun _ => rfl, h2⟩, isErr_err _, fun W k => hJ.2.1 sl n dl X Y F W (by omega) kl (hup W k) he, isErr_err _, gtold_it _, gtold_it _⟩
  | true =>
    have h0 : rowE X Y F n = 0 := by simpa using he
    obtain ⟨K, hK⟩ := row_tM h0
    rw [h0] at hsp
    exact ⟨_, _, 0, _, .nilIface, .nilIface, (fun i => (cfN K n i : Int)), hsp, fun _ => ⟨by omega, fun W k => rcoefs sl n dl X Y F K W (by omega) (hup W k) hK, fun W k => rjoint sl n dl X Y F K W (by omega) (hup W k) hK⟩, (fun h => absurd h (by decide)),
      fun W k => (hC.2.2 sl n dl X Y F K W (by omega) kl (hup W k) hK).mono fun ex w' ⟨u, k1, k2, k3⟩ => ⟨u, k1, fun _ => k2, (fun h => absurd h (by decide)), k3⟩, isErr_nil, fun W k => hJ.2.2 sl n dl X Y F K W (by omega) kl (hup W k) hK, isErr_nil, rfl, rfl⟩
theorem rowI_nat {w : World} {b o n : Nat} {X : Nat → Int} (h : RowI w b o n X) (h0 : ∀ i, i < n → 0 ≤ X i) : RowI w b o n (fun i => (((X i).toNat : Nat) : Int)) :=
  ⟨h.1, fun i hi => by
    have e : (((X i).toNat : Nat) : Int) = X i := by have := h0 i hi; omega
    show _ = some (Value.int .i64 (((X i).toNat : Nat) : Int))
    rw [e]; exact h.2 i hi⟩
theorem gt_two (hS : GSignIs) (sx : Option Addr) (p dx : Nat) (sk : Option Addr) (q dk : Nat) (t : ByteArray) (w : World) (hp : p ≤ 9223372036854775807) (hq : q ≤ 9223372036854775807) (ht : t.size ≤ 9223372036854775807) (kx : p ≤ dx) (kk : q ≤ dk)
    (uX : p = 0 ∨ ∃ (b o : Nat) (X : Nat → Int), sx = some ⟨b, o, none⟩ ∧ RowI w b o p X ∧ ∀ i, i < p → (Lit.int .i64 (X i)).wf = true) (uZ : q = 0 ∨ ∃ (b o : Nat) (X : Nat → Int), sk = some ⟨b, o, none⟩ ∧ RowI w b o q X ∧ ∀ i, i < q → (Lit.int .i64 (X i)).wf = true) : ∃ (zx zy zs e2 : Int) (zf : Bool) (v3 : Value), (∀ W, Below w.heap.size w W → Calls Tryd.prog 11 #[.slice sx p dx, .slice sk q dk, .string t] W fun ex w' => ex = .returned (.int .i64 e2) ∧ Below W.heap.size W w') ∧ ((e2 == 0) = true → ∀ W, Below w.heap.size w W → Calls Tryd.prog 12 #[.slice sx p dx, .slice sk q dk, .string t] W fun ex w' => ex = .returned (.agg #[.int .i64 zx, .int .i64 zy, .bool zf, .int .i64 zs]) ∧ Below W.heap.size W w') ∧ ((e2 == 0) = false → zx = 0 ∧ zy = 0 ∧ zf = false ∧ zs = 0) ∧ (∀ W, Below w.heap.size w W → Calls Tryd.prog 13 #[.slice sx p dx, .slice sk q dk, .string t] W fun ex w' => ex = .returned (.tuple #[.agg #[.int .i64 zx, .int .i64 zy, .bool zf, .int .i64 zs], v3]) ∧ Below W.heap.size W w') ∧ (IsErr v3) ∧ (toldI v3 == e2) = true := by
  by_cases h12 : 12 < p
  · exact ⟨0, 0, 0, 4, false, errOf 4, fun W _ => rgroup_many sx sk p dx q dk t W h12 hp, (fun h => absurd h (by decide)), fun _ => ⟨rfl, rfl, rfl, rfl⟩, fun W _ => hS.1 sx sk p dx q dk t W h12 hp hq ht, isErr_err 4, gtold_it 4⟩
  by_cases hpq : p = q
  · subst hpq
    have rows : ∀ {s : Option Addr}, (p = 0 ∨ ∃ (b o : Nat) (X : Nat → Int), s = some ⟨b, o, none⟩ ∧ RowI w b o p X ∧ ∀ i, i < p → (Lit.int .i64 (X i)).wf = true) → ∃ X : Nat → Int, (p = 0 ∨ ∃ b o : Nat, s = some ⟨b, o, none⟩ ∧ RowI w b o p X) ∧ (∀ i, i < p → (Lit.int .i64 (X i)).wf = true) := fun {s} u => by
      rcases u with h | ⟨b, o, X, e, r, k⟩
      · exact ⟨fun _ => 0, Or.inl h, fun i hi => by omega⟩
      · exact ⟨X, Or.inr ⟨b, o, e, r⟩, k⟩
    obtain ⟨X, hx, wx⟩ := rows uX
    obtain ⟨Z, hz, wz⟩ := rows uZ
    have upR : ∀ {s : Option Addr} {X : Nat → Int} W, Below w.heap.size w W → (p = 0 ∨ ∃ b o : Nat, s = some ⟨b, o, none⟩ ∧ RowI w b o p X) → (p = 0 ∨ ∃ b o : Nat, s = some ⟨b, o, none⟩ ∧ RowI W b o p X) := fun W k h => h.imp_right fun ⟨b, o, e, r⟩ => ⟨b, o, e, r.below r.1 k⟩
    obtain ⟨j, g1, g2, g3⟩ := first_no (fun i => secB (X i) && secB (Z i)) p
    have g2' : ∀ i, i < j → secB (X i) = true ∧ secB (Z i) = true := fun i hi => by
      have h : (secB (X i) && secB (Z i)) = true := g2 i hi
      rwa [Bool.and_eq_true] at h
    rcases g3 with g3 | ⟨g3, g4⟩
    · subst g3
      by_cases h60 : 60 < t.size
      · exact ⟨0, 0, 0, 4, false, errOf 4, fun W k => rgroup_row sx sk j dx dk j X Z t 4 W (by omega) (upR W k hx) (upR W k hz) ht (Nat.le_refl _) g2' (Or.inr (Or.inl ⟨rfl, h60, rfl⟩)), (fun h => absurd h (by decide)), fun _ => ⟨rfl, rfl, rfl, rfl⟩, fun W k => hS.2.2.2.1 sx sk j dx dk X Z t W (by omega) kx kk (upR W k hx) (upR W k hz) g2 h60 ht, isErr_err 4, gtold_it 4⟩
      · have nat : ∀ {s : Option Addr} {X : Nat → Int} W, (∀ i, i < j → 0 ≤ X i) → (j = 0 ∨ ∃ b o : Nat, s = some ⟨b, o, none⟩ ∧ RowI W b o j X) → (j = 0 ∨ ∃ b o : Nat, s = some ⟨b, o, none⟩ ∧ RowI W b o j (fun i => (((X i).toNat : Nat) : Int))) := fun W h0 h => h.imp_right fun ⟨b, o, e, r⟩ => ⟨b, o, e, rowI_nat r h0⟩
        have bx : ∀ i, i < j → 1 ≤ X i ∧ X i < 1013 := fun i hi => sec_bd (g2' i hi).1
        have bz : ∀ i, i < j → 1 ≤ Z i ∧ Z i < 1013 := fun i hi => sec_bd (g2' i hi).2
        exact ⟨_, _, _, 0, _, .nilIface, fun W k => rgroup_row sx sk j dx dk j X Z t 0 W (by omega) (upR W k hx) (upR W k hz) ht (Nat.le_refl _) g2' (Or.inr (Or.inr ⟨rfl, by omega, rfl⟩)),
          fun _ W k => rgsign sx sk j dx dk (fun i => (X i).toNat) (fun i => (Z i).toNat) t W (by omega) (nat W (fun i hi => by have := bx i hi; omega) (upR W k hx)) (nat W (fun i hi => by have := bz i hi; omega) (upR W k hz)) (fun i hi => by have := bx i hi; show (X i).toNat < 1013; omega) (fun i hi => by have := bz i hi; show (Z i).toNat < 1013; omega) (by omega),
          (fun h => absurd h (by decide)), fun W k => hS.2.2.2.2 sx sk j dx dk X Z t W (by omega) kx kk (upR W k hx) (upR W k hz) g2 (by omega), isErr_nil, rfl⟩
    · exact ⟨0, 0, 0, 1, false, errOf 1, fun W k => rgroup_row sx sk p dx dk j X Z t 1 W (by omega) (upR W k hx) (upR W k hz) ht g1 g2' (Or.inl ⟨g3, g4, rfl⟩), (fun h => absurd h (by decide)), fun _ => ⟨rfl, rfl, rfl, rfl⟩, fun W k => hS.2.2.1 sx sk p dx dk X Z t W (by omega) kx kk (upR W k hx) (upR W k hz) wx wz ht ⟨j, g3, g4⟩, isErr_err 1, gtold_it 1⟩
  · exact ⟨0, 0, 0, 3, false, errOf 3, fun W _ => rgroup_odd sx sk p dx q dk t W (by omega) hpq hq, (fun h => absurd h (by decide)), fun _ => ⟨rfl, rfl, rfl, rfl⟩, fun W _ => hS.2.1 sx sk p dx q dk t W (by omega) hpq hq ht, isErr_err 3, gtold_it 3⟩
theorem groupTells_by (hC : CoefsIs) (hJ : JointIs) (hS : GSignIs) (w : World) (sl : Option Addr) (n dl : Nat) (sx : Option Addr) (p dx : Nat) (sk : Option Addr) (q dk : Nat) (t : ByteArray)
    (hn : n ≤ maxLen) (uK : n = 0 ∨ ∃ (b o : Nat) (X Y : Nat → Int) (F : Nat → Bool), sl = some ⟨b, o, none⟩ ∧ RowO w b o n X Y F) (kl : n ≤ dl)
    (hp : p ≤ maxLen) (uX : p = 0 ∨ ∃ (b o : Nat) (X : Nat → Int), sx = some ⟨b, o, none⟩ ∧ RowI w b o p X ∧ ∀ i, i < p → (Lit.int .i64 (X i)).wf = true) (kx : p ≤ dx)
    (hq : q ≤ maxLen) (uZ : q = 0 ∨ ∃ (b o : Nat) (X : Nat → Int), sk = some ⟨b, o, none⟩ ∧ RowI w b o q X ∧ ∀ i, i < q → (Lit.int .i64 (X i)).wf = true) (kk : q ≤ dk)
    (ht : t.size ≤ maxLen) (hd : Door w) :
    Calls Tryd.prog 3 #[.slice sl n dl, .slice sx p dx, .slice sk q dk, .string t] w fun e w' => e = .returned (.bool true) ∧ Below w.heap.size w w' := by
  obtain ⟨jx, jy, e1, jf, v1, v2, CX, a1, a2, a3, a4, a5, a6, a7, a8, a9⟩ := gt_one hC hJ sl n dl w hn kl uK
  obtain ⟨zx, zy, zs, e2, zf, v3, b1, b2, b3, b4, b5, b6⟩ := gt_two hS sx p dx sk q dk t w hp hq ht kx kk uX uZ
  exact gtells (hd := hd) (T1 := a8) (T2 := a9) (T3 := b6) (hHSP := a1) (hHC := a2) (hHJ0 := a3) (hHGC := a4) (hI1 := a5) (hHGJ := a6) (hI2 := a7) (hHGR := b1) (hHGS := b2) (hHGS0 := b3) (hHSG := b4) (hI3 := b5)
end Go.Proofs.YtfgdjenbhdackagDoor
/- Seal -/
namespace Go.Proofs.YtfgdjenbhdackagDoor
open Go.RowKit Go.Sort
set_option linter.unusedVariables false
set_option linter.unusedSimpArgs false
set_option maxRecDepth 100000 in
set_option maxHeartbeats 2000000 in
theorem key_no (x : Int) (w : World) (h : x < 1 ∨ 1013 ≤ x) :
    Calls Tryd.prog 66 #[.int .i64 x] w fun e w' => e = .returned (.tuple #[.agg #[.int .i64 0, .int .i64 0, .bool false], errOf 1]) ∧ Below w.heap.size w w' := by
  rcases Classical.em (x < 1) with h1 | h1
  · go_enter Tryd.func66, Tryd.ntmps66
    go_wp2_with fail
    exact bodyPost_ret (v := .tuple #[.agg #[.int .i64 0, .int .i64 0, .bool false], errOf 1]) (by simp [results, Tryd.results66, go_sem, *]) rfl ⟨rfl, by repeat (first | (with_reducible exact Below.refl _ _) | (with_reducible assumption) | (with_reducible refine Below.setCell ?_ (by first | (simp; done) | (simp; omega) | omega) _) | (with_reducible refine Below.alloc ?_ (by first | (simp; done) | (simp; omega) | omega) _) | (refine bl_call ?_ (by assumption) (by first | (simp; done) | (simp; omega) | omega)) | (with_reducible refine bl_drewN ?_) | (with_reducible refine Below.drew ?_) | (with_reducible refine bl_grow ?_ (by first | (simp; done) | (simp; omega) | omega)))⟩
  · have h2 : x ≥ 1013 := by omega
    clear h
    go_enter Tryd.func66, Tryd.ntmps66
    go_wp2_with fail
    exact bodyPost_ret (v := .tuple #[.agg #[.int .i64 0, .int .i64 0, .bool false], errOf 1]) (by simp [results, Tryd.results66, go_sem, *]) rfl ⟨rfl, by repeat (first | (with_reducible exact Below.refl _ _) | (with_reducible assumption) | (with_reducible refine Below.setCell ?_ (by first | (simp; done) | (simp; omega) | omega) _) | (with_reducible refine Below.alloc ?_ (by first | (simp; done) | (simp; omega) | omega) _) | (refine bl_call ?_ (by assumption) (by first | (simp; done) | (simp; omega) | omega)) | (with_reducible refine bl_drewN ?_) | (with_reducible refine Below.drew ?_) | (with_reducible refine bl_grow ?_ (by first | (simp; done) | (simp; omega) | omega)))⟩
set_option maxRecDepth 100000 in
set_option maxHeartbeats 2000000 in
theorem key_yes (k : Nat) (w : World) (h1 : 1 ≤ k) (h2 : k < 1013) :
    Calls Tryd.prog 66 #[.int .i64 (k : Int)] w fun e w' => e = .returned (.tuple #[.agg #[.int .i64 ((tM (4 * k)).1 : Int), .int .i64 ((tM (4 * k)).2.1 : Int), .bool (tM (4 * k)).2.2], .nilIface]) ∧ Below w.heap.size w w' := by
  have a1 : ¬ (k : Int) < 1 := by omega
  have a2 : ¬ (k : Int) ≥ 1013 := by omega
  have E : Hid (tM (4 * em (k : Int)) = tM (4 * k)) := by unfold Hid; rw [em_nat h2]
  clear h1 h2
  have m1 : True := trivial; have m2 : True := trivial
  go_enter Tryd.func66, Tryd.ntmps66
  go_wp2_with (first | (go_at_call 32; clear m1; refine (base_is _).mono ?_; rintro e w1 ⟨rfl, hbw1⟩; have krw1 : At w1 (w.heap.size) [.int .i64 0, .int .i64 0, .bool false] := (by repeat (first | (with_reducible assumption) | ((with_reducible refine at_new' _ _ _ _ ?_); (first | rfl | (simp; done))) | (with_reducible refine At.alloc ?_ _) | (with_reducible refine At.drew ?_) | (with_reducible refine At.drewN ?_) | (with_reducible refine At.set ?_ (by omega)) | (with_reducible apply At.store4) | (with_reducible apply At.store3) | (with_reducible apply At.store2) | (with_reducible apply At.put43) | (refine At.below ?_ (by with_reducible assumption)))); have hqw1 : Below w.heap.size w w1 := (by repeat (first | (with_reducible exact Below.refl _ _) | (with_reducible assumption) | (with_reducible refine Below.setCell ?_ (by first | (simp; done) | (simp; omega) | omega) _) | (with_reducible refine Below.alloc ?_ (by first | (simp; done) | (simp; omega) | omega) _) | (refine bl_call ?_ (by assumption) (by first | (simp; done) | (simp; omega) | omega)) | (with_reducible refine bl_drewN ?_) | (with_reducible refine Below.drew ?_) | (with_reducible refine bl_grow ?_ (by first | (simp; done) | (simp; omega) | omega)))); have hzw1 := hqw1.size; obtain ⟨zrw1, cr0w1, cr1w1, cr2w1, fr0w1, fr1w1, fr2w1⟩ := krw1.three; clear hbw1) | (go_at_call 31; clear m2; refine (times_eq E.out _).mono ?_; rintro e w2 ⟨rfl, hbw2⟩; have krw2 : At w2 (w.heap.size) [.int .i64 0, .int .i64 0, .bool false] := (by repeat (first | (with_reducible assumption) | ((with_reducible refine at_new' _ _ _ _ ?_); (first | rfl | (simp; done))) | (with_reducible refine At.alloc ?_ _) | (with_reducible refine At.drew ?_) | (with_reducible refine At.drewN ?_) | (with_reducible refine At.set ?_ (by omega)) | (with_reducible apply At.store4) | (with_reducible apply At.store3) | (with_reducible apply At.store2) | (with_reducible apply At.put43) | (refine At.below ?_ (by with_reducible assumption)))); have hqw2 : Below w.heap.size w w2 := (by repeat (first | (with_reducible exact Below.refl _ _) | (with_reducible assumption) | (with_reducible refine Below.setCell ?_ (by first | (simp; done) | (simp; omega) | omega) _) | (with_reducible refine Below.alloc ?_ (by first | (simp; done) | (simp; omega) | omega) _) | (refine bl_call ?_ (by assumption) (by first | (simp; done) | (simp; omega) | omega)) | (with_reducible refine bl_drewN ?_) | (with_reducible refine Below.drew ?_) | (with_reducible refine bl_grow ?_ (by first | (simp; done) | (simp; omega) | omega)))); have hzw2 := hqw2.size; obtain ⟨zrw2, cr0w2, cr1w2, cr2w2, fr0w2, fr1w2, fr2w2⟩ := krw2.three; clear krw1 cr0w1 fr0w1 cr1w1 fr1w1 cr2w1 fr2w1 hqw1; clear hbw2))
  exact bodyPost_ret (v := .tuple #[.agg #[.int .i64 ((tM (4 * k)).1 : Int), .int .i64 ((tM (4 * k)).2.1 : Int), .bool (tM (4 * k)).2.2], .nilIface]) (by simp [results, Tryd.results66, go_sem, *]) rfl ⟨rfl, by repeat (first | (with_reducible exact Below.refl _ _) | (with_reducible assumption) | (with_reducible refine Below.setCell ?_ (by first | (simp; done) | (simp; omega) | omega) _) | (with_reducible refine Below.alloc ?_ (by first | (simp; done) | (simp; omega) | omega) _) | (refine bl_call ?_ (by assumption) (by first | (simp; done) | (simp; omega) | omega)) | (with_reducible refine bl_drewN ?_) | (with_reducible refine Below.drew ?_) | (with_reducible refine bl_grow ?_ (by first | (simp; done) | (simp; omega) | omega)))⟩
set_option maxRecDepth 100000 in
set_option maxHeartbeats 2000000 in
theorem ask_full (x1 y1 x2 y2 : Int) (f1 f2 : Bool) (t : ByteArray) (w : World) (h : 60 < t.size) (ht : t.size ≤ 9223372036854775807) :
    Calls Tryd.prog 33 #[.agg #[.int .i64 x1, .int .i64 y1, .bool f1], .agg #[.int .i64 x2, .int .i64 y2, .bool f2], .string t] w fun e w' => e = .returned (.tuple #[.int .i64 0, errOf 4]) ∧ Below w.heap.size w w' := by
  have h' : (t.size : Int) > 60 := by omega
  go_enter Tryd.func33, Tryd.ntmps33
  go_wp2_with fail
  go_ret2
  exact ⟨rfl, by repeat (first | (with_reducible exact Below.refl _ _) | (with_reducible assumption) | (with_reducible refine Below.setCell ?_ (by first | (simp; done) | (simp; omega) | omega) _) | (with_reducible refine Below.alloc ?_ (by first | (simp; done) | (simp; omega) | omega) _) | (refine bl_call ?_ (by assumption) (by first | (simp; done) | (simp; omega) | omega)) | (with_reducible refine bl_drewN ?_) | (with_reducible refine Below.drew ?_) | (with_reducible refine bl_grow ?_ (by first | (simp; done) | (simp; omega) | omega)))⟩
set_option maxRecDepth 100000 in
set_option maxHeartbeats 2000000 in
theorem ask_r (x1 y1 x2 y2 : Int) (f1 f2 : Bool) (t : ByteArray) (w : World) (ht : t.size ≤ 60) (h : (ckI x1 y1 f1 == 0) = false) :
    Calls Tryd.prog 33 #[.agg #[.int .i64 x1, .int .i64 y1, .bool f1], .agg #[.int .i64 x2, .int .i64 y2, .bool f2], .string t] w fun e w' => e = .returned (.tuple #[.int .i64 0, errOf (ckI x1 y1 f1)]) ∧ Below w.heap.size w w' := by
  have h' : ¬ (t.size : Int) > 60 := by omega
  have m1 : True := trivial
  go_enter Tryd.func33, Tryd.ntmps33
  go_wp2_with (go_at_call 21; clear m1; refine (pack_no _ _ _ _ h).mono ?_; rintro e w1 ⟨rfl, hbw1⟩; have kaw1 : At w1 (w.heap.size) [.int .i64 x1, .int .i64 y1, .bool f1] := (by repeat (first | (with_reducible assumption) | ((with_reducible refine at_new' _ _ _ _ ?_); (first | rfl | (simp; done))) | (with_reducible refine At.alloc ?_ _) | (with_reducible refine At.drew ?_) | (with_reducible refine At.drewN ?_) | (with_reducible refine At.set ?_ (by omega)) | (with_reducible apply At.store4) | (with_reducible apply At.store3) | (with_reducible apply At.store2) | (with_reducible apply At.put43) | (refine At.below ?_ (by with_reducible assumption)))); have kbw1 : At w1 (w.heap.size + 1) [.int .i64 x2, .int .i64 y2, .bool f2] := (by repeat (first | (with_reducible assumption) | ((with_reducible refine at_new' _ _ _ _ ?_); (first | rfl | (simp; done))) | (with_reducible refine At.alloc ?_ _) | (with_reducible refine At.drew ?_) | (with_reducible refine At.drewN ?_) | (with_reducible refine At.set ?_ (by omega)) | (with_reducible apply At.store4) | (with_reducible apply At.store3) | (with_reducible apply At.store2) | (with_reducible apply At.put43) | (refine At.below ?_ (by with_reducible assumption)))); have hqw1 : Below w.heap.size w w1 := (by repeat (first | (with_reducible exact Below.refl _ _) | (with_reducible assumption) | (with_reducible refine Below.setCell ?_ (by first | (simp; done) | (simp; omega) | omega) _) | (with_reducible refine Below.alloc ?_ (by first | (simp; done) | (simp; omega) | omega) _) | (refine bl_call ?_ (by assumption) (by first | (simp; done) | (simp; omega) | omega)) | (with_reducible refine bl_drewN ?_) | (with_reducible refine Below.drew ?_) | (with_reducible refine bl_grow ?_ (by first | (simp; done) | (simp; omega) | omega)))); have hzw1 := hqw1.size; obtain ⟨zaw1, ca0w1, ca1w1, ca2w1, fa0w1, fa1w1, fa2w1⟩ := kaw1.three; obtain ⟨zbw1, cb0w1, cb1w1, cb2w1, fb0w1, fb1w1, fb2w1⟩ := kbw1.three; clear hbw1)
  go_ret2
  exact ⟨rfl, by repeat (first | (with_reducible exact Below.refl _ _) | (with_reducible assumption) | (with_reducible refine Below.setCell ?_ (by first | (simp; done) | (simp; omega) | omega) _) | (with_reducible refine Below.alloc ?_ (by first | (simp; done) | (simp; omega) | omega) _) | (refine bl_call ?_ (by assumption) (by first | (simp; done) | (simp; omega) | omega)) | (with_reducible refine bl_drewN ?_) | (with_reducible refine Below.drew ?_) | (with_reducible refine bl_grow ?_ (by first | (simp; done) | (simp; omega) | omega)))⟩
set_option maxRecDepth 100000 in
set_option maxHeartbeats 2000000 in
theorem ask_k (i : Nat) (x2 y2 : Int) (f2 : Bool) (t : ByteArray) (w : World) (ht : t.size ≤ 60) (h : (ckI x2 y2 f2 == 0) = false) :
    Calls Tryd.prog 33 #[.agg #[.int .i64 ((tM i).1 : Int), .int .i64 ((tM i).2.1 : Int), .bool (tM i).2.2], .agg #[.int .i64 x2, .int .i64 y2, .bool f2], .string t] w fun e w' => e = .returned (.tuple #[.int .i64 0, errOf (ckI x2 y2 f2)]) ∧ Below w.heap.size w w' := by
  have h' : ¬ (t.size : Int) > 60 := by omega
  have m1 : True := trivial; have m2 : True := trivial
  go_enter Tryd.func33, Tryd.ntmps33
  go_wp2_with (first | (go_at_call 21; clear m1; refine (pack_tM i _).mono ?_; rintro e w1 ⟨rfl, hbw1⟩; have kaw1 : At w1 (w.heap.size) [.int .i64 ((tM i).1 : Int), .int .i64 ((tM i).2.1 : Int), .bool (tM i).2.2] := (by repeat (first | (with_reducible assumption) | ((with_reducible refine at_new' _ _ _ _ ?_); (first | rfl | (simp; done))) | (with_reducible refine At.alloc ?_ _) | (with_reducible refine At.drew ?_) | (with_reducible refine At.drewN ?_) | (with_reducible refine At.set ?_ (by omega)) | (with_reducible apply At.store4) | (with_reducible apply At.store3) | (with_reducible apply At.store2) | (with_reducible apply At.put43) | (refine At.below ?_ (by with_reducible assumption)))); have kbw1 : At w1 (w.heap.size + 1) [.int .i64 x2, .int .i64 y2, .bool f2] := (by repeat (first | (with_reducible assumption) | ((with_reducible refine at_new' _ _ _ _ ?_); (first | rfl | (simp; done))) | (with_reducible refine At.alloc ?_ _) | (with_reducible refine At.drew ?_) | (with_reducible refine At.drewN ?_) | (with_reducible refine At.set ?_ (by omega)) | (with_reducible apply At.store4) | (with_reducible apply At.store3) | (with_reducible apply At.store2) | (with_reducible apply At.put43) | (refine At.below ?_ (by with_reducible assumption)))); have hqw1 : Below w.heap.size w w1 := (by repeat (first | (with_reducible exact Below.refl _ _) | (with_reducible assumption) | (with_reducible refine Below.setCell ?_ (by first | (simp; done) | (simp; omega) | omega) _) | (with_reducible refine Below.alloc ?_ (by first | (simp; done) | (simp; omega) | omega) _) | (refine bl_call ?_ (by assumption) (by first | (simp; done) | (simp; omega) | omega)) | (with_reducible refine bl_drewN ?_) | (with_reducible refine Below.drew ?_) | (with_reducible refine bl_grow ?_ (by first | (simp; done) | (simp; omega) | omega)))); have hzw1 := hqw1.size; obtain ⟨zaw1, ca0w1, ca1w1, ca2w1, fa0w1, fa1w1, fa2w1⟩ := kaw1.three; obtain ⟨zbw1, cb0w1, cb1w1, cb2w1, fb0w1, fb1w1, fb2w1⟩ := kbw1.three; clear hbw1) | (go_at_call 21; clear m2; refine (pack_no _ _ _ _ h).mono ?_; rintro e w2 ⟨rfl, hbw2⟩; have kaw2 : At w2 (w.heap.size) [.int .i64 ((tM i).1 : Int), .int .i64 ((tM i).2.1 : Int), .bool (tM i).2.2] := (by repeat (first | (with_reducible assumption) | ((with_reducible refine at_new' _ _ _ _ ?_); (first | rfl | (simp; done))) | (with_reducible refine At.alloc ?_ _) | (with_reducible refine At.drew ?_) | (with_reducible refine At.drewN ?_) | (with_reducible refine At.set ?_ (by omega)) | (with_reducible apply At.store4) | (with_reducible apply At.store3) | (with_reducible apply At.store2) | (with_reducible apply At.put43) | (refine At.below ?_ (by with_reducible assumption)))); have kbw2 : At w2 (w.heap.size + 1) [.int .i64 x2, .int .i64 y2, .bool f2] := (by repeat (first | (with_reducible assumption) | ((with_reducible refine at_new' _ _ _ _ ?_); (first | rfl | (simp; done))) | (with_reducible refine At.alloc ?_ _) | (with_reducible refine At.drew ?_) | (with_reducible refine At.drewN ?_) | (with_reducible refine At.set ?_ (by omega)) | (with_reducible apply At.store4) | (with_reducible apply At.store3) | (with_reducible apply At.store2) | (with_reducible apply At.put43) | (refine At.below ?_ (by with_reducible assumption)))); have hqw2 : Below w.heap.size w w2 := (by repeat (first | (with_reducible exact Below.refl _ _) | (with_reducible assumption) | (with_reducible refine Below.setCell ?_ (by first | (simp; done) | (simp; omega) | omega) _) | (with_reducible refine Below.alloc ?_ (by first | (simp; done) | (simp; omega) | omega) _) | (refine bl_call ?_ (by assumption) (by first | (simp; done) | (simp; omega) | omega)) | (with_reducible refine bl_drewN ?_) | (with_reducible refine Below.drew ?_) | (with_reducible refine bl_grow ?_ (by first | (simp; done) | (simp; omega) | omega)))); have hzw2 := hqw2.size; obtain ⟨zaw2, ca0w2, ca1w2, ca2w2, fa0w2, fa1w2, fa2w2⟩ := kaw2.three; obtain ⟨zbw2, cb0w2, cb1w2, cb2w2, fb0w2, fb1w2, fb2w2⟩ := kbw2.three; clear kaw1 ca0w1 fa0w1 ca1w1 fa1w1 ca2w1 fa2w1 kbw1 cb0w1 fb0w1 cb1w1 fb1w1 cb2w1 fb2w1 hqw1; clear hbw2))
  go_ret2
  exact ⟨rfl, by repeat (first | (with_reducible exact Below.refl _ _) | (with_reducible assumption) | (with_reducible refine Below.setCell ?_ (by first | (simp; done) | (simp; omega) | omega) _) | (with_reducible refine Below.alloc ?_ (by first | (simp; done) | (simp; omega) | omega) _) | (refine bl_call ?_ (by assumption) (by first | (simp; done) | (simp; omega) | omega)) | (with_reducible refine bl_drewN ?_) | (with_reducible refine Below.drew ?_) | (with_reducible refine bl_grow ?_ (by first | (simp; done) | (simp; omega) | omega)))⟩
set_option maxRecDepth 100000 in
set_option maxHeartbeats 2000000 in
theorem ask_tM (i j : Nat) (t : ByteArray) (w : World) (ht : t.size ≤ 60) :
    Calls Tryd.prog 33 #[.agg #[.int .i64 ((tM i).1 : Int), .int .i64 ((tM i).2.1 : Int), .bool (tM i).2.2], .agg #[.int .i64 ((tM j).1 : Int), .int .i64 ((tM j).2.1 : Int), .bool (tM j).2.2], .string t] w fun e w' => e = .returned (.tuple #[.int .i64 (askN i j t : Int), .nilIface]) ∧ Below w.heap.size w w' := by
  have h' : ¬ (t.size : Int) > 60 := by omega
  have hs := join_size i j ht
  have HA := askI i j t
  have HN : Hid (∀ w, Calls Tryd.prog 22 #[.string (pkB (tM i) ++ pkB (tM j) ++ t)] w fun e w' => e = .returned (.int .i64 (askN i j t : Int)) ∧ Below w.heap.size w w') := fun w => by
    have := below_of_same (number_any (pkB (tM i) ++ pkB (tM j) ++ t) w (by omega))
    rwa [HA] at this
  have p1 := pkB_size (tM i)
  have p2 := pkB_size (tM j)
  clear HA hs
  have m1 : True := trivial; have m2 : True := trivial; have m3 : True := trivial
  go_enter Tryd.func33, Tryd.ntmps33
  go_wp2_with (first | (go_at_call 21; clear m1; refine (pack_tM i _).mono ?_; rintro e w1 ⟨rfl, hbw1⟩; have kaw1 : At w1 (w.heap.size) [.int .i64 ((tM i).1 : Int), .int .i64 ((tM i).2.1 : Int), .bool (tM i).2.2] := (by repeat (first | (with_reducible assumption) | ((with_reducible refine at_new' _ _ _ _ ?_); (first | rfl | (simp; done))) | (with_reducible refine At.alloc ?_ _) | (with_reducible refine At.drew ?_) | (with_reducible refine At.drewN ?_) | (with_reducible refine At.set ?_ (by omega)) | (with_reducible apply At.store4) | (with_reducible apply At.store3) | (with_reducible apply At.store2) | (with_reducible apply At.put43) | (refine At.below ?_ (by with_reducible assumption)))); have kbw1 : At w1 (w.heap.size + 1) [.int .i64 ((tM j).1 : Int), .int .i64 ((tM j).2.1 : Int), .bool (tM j).2.2] := (by repeat (first | (with_reducible assumption) | ((with_reducible refine at_new' _ _ _ _ ?_); (first | rfl | (simp; done))) | (with_reducible refine At.alloc ?_ _) | (with_reducible refine At.drew ?_) | (with_reducible refine At.drewN ?_) | (with_reducible refine At.set ?_ (by omega)) | (with_reducible apply At.store4) | (with_reducible apply At.store3) | (with_reducible apply At.store2) | (with_reducible apply At.put43) | (refine At.below ?_ (by with_reducible assumption)))); have hqw1 : Below w.heap.size w w1 := (by repeat (first | (with_reducible exact Below.refl _ _) | (with_reducible assumption) | (with_reducible refine Below.setCell ?_ (by first | (simp; done) | (simp; omega) | omega) _) | (with_reducible refine Below.alloc ?_ (by first | (simp; done) | (simp; omega) | omega) _) | (refine bl_call ?_ (by assumption) (by first | (simp; done) | (simp; omega) | omega)) | (with_reducible refine bl_drewN ?_) | (with_reducible refine Below.drew ?_) | (with_reducible refine bl_grow ?_ (by first | (simp; done) | (simp; omega) | omega)))); have hzw1 := hqw1.size; obtain ⟨zaw1, ca0w1, ca1w1, ca2w1, fa0w1, fa1w1, fa2w1⟩ := kaw1.three; obtain ⟨zbw1, cb0w1, cb1w1, cb2w1, fb0w1, fb1w1, fb2w1⟩ := kbw1.three; clear hbw1) | (go_at_call 21; clear m2; refine (pack_tM j _).mono ?_; rintro e w2 ⟨rfl, hbw2⟩; have kaw2 : At w2 (w.heap.size) [.int .i64 ((tM i).1 : Int), .int .i64 ((tM i).2.1 : Int), .bool (tM i).2.2] := (by repeat (first | (with_reducible assumption) | ((with_reducible refine at_new' _ _ _ _ ?_); (first | rfl | (simp; done))) | (with_reducible refine At.alloc ?_ _) | (with_reducible refine At.drew ?_) | (with_reducible refine At.drewN ?_) | (with_reducible refine At.set ?_ (by omega)) | (with_reducible apply At.store4) | (with_reducible apply At.store3) | (with_reducible apply At.store2) | (with_reducible apply At.put43) | (refine At.below ?_ (by with_reducible assumption)))); have kbw2 : At w2 (w.heap.size + 1) [.int .i64 ((tM j).1 : Int), .int .i64 ((tM j).2.1 : Int), .bool (tM j).2.2] := (by repeat (first | (with_reducible assumption) | ((with_reducible refine at_new' _ _ _ _ ?_); (first | rfl | (simp; done))) | (with_reducible refine At.alloc ?_ _) | (with_reducible refine At.drew ?_) | (with_reducible refine At.drewN ?_) | (with_reducible refine At.set ?_ (by omega)) | (with_reducible apply At.store4) | (with_reducible apply At.store3) | (with_reducible apply At.store2) | (with_reducible apply At.put43) | (refine At.below ?_ (by with_reducible assumption)))); have hqw2 : Below w.heap.size w w2 := (by repeat (first | (with_reducible exact Below.refl _ _) | (with_reducible assumption) | (with_reducible refine Below.setCell ?_ (by first | (simp; done) | (simp; omega) | omega) _) | (with_reducible refine Below.alloc ?_ (by first | (simp; done) | (simp; omega) | omega) _) | (refine bl_call ?_ (by assumption) (by first | (simp; done) | (simp; omega) | omega)) | (with_reducible refine bl_drewN ?_) | (with_reducible refine Below.drew ?_) | (with_reducible refine bl_grow ?_ (by first | (simp; done) | (simp; omega) | omega)))); have hzw2 := hqw2.size; obtain ⟨zaw2, ca0w2, ca1w2, ca2w2, fa0w2, fa1w2, fa2w2⟩ := kaw2.three; obtain ⟨zbw2, cb0w2, cb1w2, cb2w2, fb0w2, fb1w2, fb2w2⟩ := kbw2.three; clear kaw1 ca0w1 fa0w1 ca1w1 fa1w1 ca2w1 fa2w1 kbw1 cb0w1 fb0w1 cb1w1 fb1w1 cb2w1 fb2w1 hqw1; clear hbw2) | (go_at_call 22; clear m3; refine (HN.out _).mono ?_; rintro e w3 ⟨rfl, hbw3⟩; have hqw3 : Below w.heap.size w w3 := (by repeat (first | (with_reducible exact Below.refl _ _) | (with_reducible assumption) | (with_reducible refine Below.setCell ?_ (by first | (simp; done) | (simp; omega) | omega) _) | (with_reducible refine Below.alloc ?_ (by first | (simp; done) | (simp; omega) | omega) _) | (refine bl_call ?_ (by assumption) (by first | (simp; done) | (simp; omega) | omega)) | (with_reducible refine bl_drewN ?_) | (with_reducible refine Below.drew ?_) | (with_reducible refine bl_grow ?_ (by first | (simp; done) | (simp; omega) | omega)))); have hzw3 := hqw3.size; clear kaw2 ca0w2 fa0w2 ca1w2 fa1w2 ca2w2 fa2w2 kbw2 cb0w2 fb0w2 cb1w2 fb1w2 cb2w2 fb2w2 hqw2; clear hbw3))
  go_ret2
  exact ⟨rfl, by repeat (first | (with_reducible exact Below.refl _ _) | (with_reducible assumption) | (with_reducible refine Below.setCell ?_ (by first | (simp; done) | (simp; omega) | omega) _) | (with_reducible refine Below.alloc ?_ (by first | (simp; done) | (simp; omega) | omega) _) | (refine bl_call ?_ (by assumption) (by first | (simp; done) | (simp; omega) | omega)) | (with_reducible refine bl_drewN ?_) | (with_reducible refine Below.drew ?_) | (with_reducible refine bl_grow ?_ (by first | (simp; done) | (simp; omega) | omega)))⟩
end Go.Proofs.YtfgdjenbhdackagDoor
/- Group -/
namespace Go.Proofs.YtfgdjenbhdackagDoor
open Go.RowKit Go.Sort
set_option linter.unusedVariables false
set_option linter.unusedSimpArgs false
theorem gb_lt {W w1 : World} (hb : Below W.heap.size W w1) : ∀ b, b < W.heap.size → b < w1.heap.size := fun b h => Nat.lt_of_lt_of_le h hb.size
theorem gb_ne {W w1 : World} (hb : Below W.heap.size W w1) : ∀ b, b < W.heap.size → (b = w1.heap.size) = False := fun b h => eq_false (Nat.ne_of_lt (gb_lt hb b h))
theorem gb_ne2 {W w1 : World} (hb : Below W.heap.size W w1) : ∀ b, b < W.heap.size → (w1.heap.size = b) = False := fun b h => eq_false (Nat.ne_of_gt (gb_lt hb b h))
theorem gsec_bd {n : Int} (h : secB n = true) : 1 ≤ n ∧ n < 1013 := of_decide_eq_true h
theorem giinfo : (Tryd.prog.info? 3).map (fun i => (i.zero, i.size, i.bytes)) = some (some (.int .i64 0), 1, 8) := by kernel_rfl
theorem gpinfo : (Tryd.prog.info? 26).map (fun i => (i.zero, i.size, i.bytes)) = some (some (.agg #[.int .i64 0, .int .i64 0, .bool false]), 3, 24) := by kernel_rfl
theorem growI_at {w W : World} {g q n : Nat} {F : Nat → Int} (h : RowI w g q n F) (k : Below w.heap.size w W) {i : Nat} (hi : i < n) : g < W.heap.size ∧ W.cell? ⟨g, q + i, none⟩ = some (.int .i64 (F i)) :=
  ⟨Nat.lt_of_lt_of_le h.1 k.size, (h.below h.1 k).2 i hi⟩
theorem gthree_new {w : World} {b : Nat} (h : w.heap.size = b) (x y z : Value) (t : TypeId) : ∀ j u, [x, y, z][j]? = some u → (w.alloc (.cells #[x, y, z] t)).cell? ((⟨b, 0, none⟩ : Addr).add j) = some u := by
  subst h
  intro j u hj
  rw [addr_add]
  match j, hj with
  | 0, hj => simp at hj; subst hj; simp
  | 1, hj => simp at hj; subst hj; simp
  | 2, hj => simp at hj; subst hj; simp
theorem growT_zero {X Y : Nat → Int} {F : Nat → Bool} {K : Nat → Nat} : ∀ {n : Nat}, (∀ i, i < n → X i = ((tM (K i)).1 : Int) ∧ Y i = ((tM (K i)).2.1 : Int) ∧ F i = (tM (K i)).2.2) → rowE X Y F n = 0
  | 0, _ => rfl
  | n + 1, h => by
    obtain ⟨a, b, c⟩ := h n (by omega)
    unfold rowE
    rw [growT_zero (n := n) (fun i hi => h i (by omega)), a, b, c]
    exact ck_tM _
theorem gfirst (s : Nat → Bool) : ∀ n, ∃ t, t ≤ n ∧ (∀ k, k < t → s k = true) ∧ (t = n ∨ (t < n ∧ s t = false))
  | 0 => ⟨0, Nat.le_refl _, fun k h => absurd h (Nat.not_lt_zero _), Or.inl rfl⟩
  | n + 1 => by
    obtain ⟨t, h1, h2, h3⟩ := gfirst s n
    rcases h3 with rfl | ⟨h3, h4⟩
    · cases hs : s t with
      | true => exact ⟨t + 1, Nat.le_refl _, fun k hk => by
          rcases Nat.lt_succ_iff_lt_or_eq.1 hk with h | rfl
          · exact h2 k h
          · exact hs, Or.inl rfl⟩
      | false => exact ⟨t, by omega, h2, Or.inr ⟨by omega, hs⟩⟩
    · exact ⟨t, by omega, h2, Or.inr ⟨by omega, h4⟩⟩
theorem gissec {n : Int} {t : Bool} (ht : secB n = t) (w : World) : Calls Tryd.prog 47 #[.int .i64 n] w fun e w' => e = .returned (.bool t) ∧ w' = w := by
  subst ht
  by_cases h : n ≥ 1
  · by_cases h2 : n < 1013
    · rw [show secB n = true from decide_eq_true ⟨h, h2⟩]
      go_enter Tryd.func47, Tryd.ntmps47
      go_wp2_with fail
      go_ret
      exact ⟨rfl, rfl⟩
    · rw [show secB n = false from decide_eq_false fun k => h2 k.2]
      go_enter Tryd.func47, Tryd.ntmps47
      go_wp2_with fail
      go_ret
      exact ⟨rfl, rfl⟩
  · rw [show secB n = false from decide_eq_false fun k => h k.1]
    go_enter Tryd.func47, Tryd.ntmps47
    go_wp2_with fail
    go_ret
    exact ⟨rfl, rfl⟩
theorem glist_any (sl : Option Addr) (n d : Nat) (X Y : Nat → Int) (F : Nat → Bool) (K : Nat → Nat) (w : World) (hn : n ≤ 12) (hr : (n = 0 ∨ ∃ b o : Nat, sl = some ⟨b, o, none⟩ ∧ RowO w b o n X Y F)) (hK : (∀ i, i < n → X i = ((tM (K i)).1 : Int) ∧ Y i = ((tM (K i)).2.1 : Int) ∧ F i = (tM (K i)).2.2)) : Calls Tryd.prog 20 #[.slice sl n d] w fun e w' => e = .returned (.tuple #[.string (lsB K n), .nilIface]) ∧ Below w.heap.size w w' := by
  rcases hr with rfl | ⟨b, o, rfl, hr⟩
  · exact list_nil sl d w
  · exact list_row b o n d X Y F K w hn hr (growT_zero hK) hK
set_option maxRecDepth 100000 in
set_option maxHeartbeats 4000000 in
theorem gcoefs_err (sl : Option Addr) (n d : Nat) (c : Int) (w : World) (h : Calls Tryd.prog 20 #[.slice sl n d] w fun e w' => e = .returned (.tuple #[.string ⟨#[]⟩, errOf c]) ∧ Below w.heap.size w w') : Calls Tryd.prog 7 #[.slice sl n d] w fun e w' => e = .returned (.tuple #[.slice none 0 0, errOf c]) ∧ Below w.heap.size w w' := by
  have H : Hid (Calls Tryd.prog 20 #[.slice sl n d] w fun e w' => e = .returned (.tuple #[.string ⟨#[]⟩, errOf c]) ∧ Below w.heap.size w w') := h
  clear h
  go_enter Tryd.func7, Tryd.ntmps7
  go_wp2_with (go_at_call 20; refine H.out.mono ?_; rintro e w1 ⟨rfl, hb1⟩; have hq1 : Below w.heap.size w w1 := (by repeat (first | (with_reducible exact Below.refl _ _) | (with_reducible assumption) | (with_reducible refine Below.setCell ?_ (by first | (simp; done) | (simp; omega) | omega) _) | (with_reducible refine Below.alloc ?_ (by first | (simp; done) | (simp; omega) | omega) _) | (refine bl_call ?_ (by assumption) (by first | (simp; done) | (simp; omega) | omega)) | (with_reducible refine bl_drewN ?_) | (with_reducible refine Below.drew ?_) | (with_reducible refine bl_grow ?_ (by first | (simp; done) | (simp; omega) | omega)))); have hz1 := hq1.size; clear hb1)
  exact bodyPost_ret (v := .tuple #[.slice none 0 0, errOf c]) (by simp [results, Tryd.results7, go_sem, *]) rfl ⟨rfl, by repeat (first | (with_reducible exact Below.refl _ _) | (with_reducible assumption) | (with_reducible refine Below.setCell ?_ (by first | (simp; done) | (simp; omega) | omega) _) | (with_reducible refine Below.alloc ?_ (by first | (simp; done) | (simp; omega) | omega) _) | (refine bl_call ?_ (by assumption) (by first | (simp; done) | (simp; omega) | omega)) | (with_reducible refine bl_drewN ?_) | (with_reducible refine Below.drew ?_) | (with_reducible refine bl_grow ?_ (by first | (simp; done) | (simp; omega) | omega)))⟩
set_option maxRecDepth 100000 in
set_option maxHeartbeats 4000000 in
theorem gcoefs_ok (sl : Option Addr) (n d : Nat) (X Y : Nat → Int) (F : Nat → Bool) (K : Nat → Nat) (w : World) (hn : n ≤ 12) (hr : (n = 0 ∨ ∃ b o : Nat, sl = some ⟨b, o, none⟩ ∧ RowO w b o n X Y F)) (hK : (∀ i, i < n → X i = ((tM (K i)).1 : Int) ∧ Y i = ((tM (K i)).2.1 : Int) ∧ F i = (tM (K i)).2.2)) : Calls Tryd.prog 7 #[.slice sl n d] w fun ex w' => ∃ u, ex = .returned (.tuple #[u, .nilIface]) ∧ w'.ownsRow w.heap.size 3 1 u n (cellsI (fun i => (cfN K n i : Int)) n) ∧ Below w.heap.size w w' := by
  have HL : Hid (Calls Tryd.prog 20 #[.slice sl n d] w fun e w' => e = .returned (.tuple #[.string (lsB K n), .nilIface]) ∧ Below w.heap.size w w') := glist_any sl n d X Y F K w hn hr hK
  have HR : Hid ((n = 0 ∨ ∃ b o : Nat, sl = some ⟨b, o, none⟩ ∧ RowO w b o n X Y F)) := hr
  have HK : Hid ((∀ i, i < n → X i = ((tM (K i)).1 : Int) ∧ Y i = ((tM (K i)).2.1 : Int) ∧ F i = (tM (K i)).2.2)) := hK
  have hs := ls_size K hn
  clear hr hK
  obtain ⟨i0, hi, hv0, hv1, hv2⟩ := info_parts giinfo
  go_enter Tryd.func7, Tryd.ntmps7
  go_wp2_with (first | (go_at_call 20; refine HL.out.mono ?_; rintro e w1 ⟨rfl, hb1⟩; have hq1 : Below w.heap.size w w1 := (by repeat (first | (with_reducible exact Below.refl _ _) | (with_reducible assumption) | (with_reducible refine Below.setCell ?_ (by first | (simp; done) | (simp; omega) | omega) _) | (with_reducible refine Below.alloc ?_ (by first | (simp; done) | (simp; omega) | omega) _) | (refine bl_call ?_ (by assumption) (by first | (simp; done) | (simp; omega) | omega)) | (with_reducible refine bl_drewN ?_) | (with_reducible refine Below.drew ?_) | (with_reducible refine bl_grow ?_ (by first | (simp; done) | (simp; omega) | omega)))); have hz1 := hq1.size; clear hb1) | (at_make; refine wpList_make_own _ rfl _ _ 23 rfl w.heap.size 3 i0 (.int .i64 0) 1 Tryd.underlying23 hi hv0 hv1 _ _ _ n rfl rfl rfl ?b2 ?b3 ?b4 ?_))
  case b2 => rw [hv2]; omega
  case b3 => unfold maxLen; omega
  case b4 => omega
  intro w2 hown0 hgrow
  have hq2 : Below w.heap.size w w2 := (by assumption : Below w.heap.size w _).grown hgrow (by omega) (fun k hk => by cases hk)
  clear hgrow hq1 hz1
  go_wp2_with fail
  go_loopw [6, 24] (fun tv ti wl => ∃ i : Nat, i ≤ n ∧ ti = .int .i64 i ∧ wl.ownsRow w.heap.size 3 1 tv i (cellsI (fun i => (cfN K n i : Int)) i) ∧ Below w.heap.size w wl) (fun _ ti _ => n - (intOf ti).toNat)
  case atStart => exact ⟨0, by omega, rfl, hown0, by repeat (first | (with_reducible exact Below.refl _ _) | (with_reducible assumption) | (with_reducible refine Below.setCell ?_ (by first | (simp; done) | (simp; omega) | omega) _) | (with_reducible refine Below.alloc ?_ (by first | (simp; done) | (simp; omega) | omega) _) | (refine bl_call ?_ (by assumption) (by first | (simp; done) | (simp; omega) | omega)) | (with_reducible refine bl_drewN ?_) | (with_reducible refine Below.drew ?_) | (with_reducible refine bl_grow ?_ (by first | (simp; done) | (simp; omega) | omega)))⟩
  case round =>
    clear hown0 hq2
    obtain ⟨i, hin, rfl, hown, hqV⟩ := hrel
    rename World => wV
    have hzV := hqV.size
    by_cases hlt : i < n
    · have hlt' : (i : Int) < n := by omega
      obtain ⟨b, o, rfl, hz⟩ : ∃ b o : Nat, sl = some ⟨b, o, none⟩ ∧ RowO w b o n X Y F := HR.out.resolve_left (by omega)
      have hbV := Nat.lt_of_lt_of_le hz.1 hzV
      obtain ⟨c0, c1, c2⟩ := (hz.below hz.1 hqV).2 i hlt
      obtain ⟨e0, e1, e2⟩ := HK.out i hlt
      rw [e0] at c0
      rw [e1] at c1
      rw [e2] at c2
      clear e0 e1 e2 hz
      have hp := pkB_size (tM (K i))
      have HN : Hid (∀ w, Calls Tryd.prog 22 #[.string (lsB K n ++ pkB (tM (K i)))] w fun e w' => e = .returned (.int .i64 (cfN K n i : Int)) ∧ Below w.heap.size w w') := fun w => by
        have := below_of_same (number_any (lsB K n ++ pkB (tM (K i))) w (by have := cf_size K hn i; omega))
        rwa [cfI] at this
      go_wp2_with (first | (go_at_call 21; refine (pack_tM (K i) _).mono ?_; rintro e w5 ⟨rfl, hb5⟩; have hy5 : Below wV.heap.size wV w5 := (by repeat (first | (with_reducible exact Below.refl _ _) | (with_reducible assumption) | (with_reducible refine Below.setCell ?_ (by first | (simp; done) | (simp; omega) | omega) _) | (with_reducible refine Below.alloc ?_ (by first | (simp; done) | (simp; omega) | omega) _) | (refine bl_call ?_ (by assumption) (by first | (simp; done) | (simp; omega) | omega)) | (with_reducible refine bl_drewN ?_) | (with_reducible refine Below.drew ?_) | (with_reducible refine bl_grow ?_ (by first | (simp; done) | (simp; omega) | omega)))); have hq5 : Below w.heap.size w w5 := bl_call hqV hy5 hzV; have hz5 := hq5.size; have hown5 := own_stay hown hy5; clear hb5 hy5) | (go_at_call 22; refine (HN.out _).mono ?_; rintro e w6 ⟨rfl, hb6⟩; have hq6 : Below w.heap.size w w6 := (by repeat (first | (with_reducible exact Below.refl _ _) | (with_reducible assumption) | (with_reducible refine Below.setCell ?_ (by first | (simp; done) | (simp; omega) | omega) _) | (with_reducible refine Below.alloc ?_ (by first | (simp; done) | (simp; omega) | omega) _) | (refine bl_call ?_ (by assumption) (by first | (simp; done) | (simp; omega) | omega)) | (with_reducible refine bl_drewN ?_) | (with_reducible refine Below.drew ?_) | (with_reducible refine bl_grow ?_ (by first | (simp; done) | (simp; omega) | omega)))); have hz6 := hq6.size; have hown6 := own_stay hown5 hb6; clear hb6) | (at_builtin; refine wpList_append_own_at _ rfl _ _ 23 rfl w.heap.size 3 i0 (.int .i64 0) 1 8 Tryd.underlying23 hi hv0 hv1 hv2 rfl (by decide) _ _ _ rfl (hown6.alloc _) ⟨w6.heap.size, 0, none⟩ 1 1 [.int .i64 (cfN K n i : Int)] rfl rfl ?c1 ?c2 ?c3 ?c4 ?c5 ?_))
      case c1 => exact cell_one_new _ _ _
      case c2 => intro u hu; simp at hu; subst hu; rfl
      case c3 => unfold maxLen; omega
      case c4 => omega
      case c5 => simp; omega
      · intro v' w13 hown' hgrow _ hat
        have hq13 : Below w.heap.size w w13 := grown_under (B := w.heap.size) (by repeat (first | (with_reducible exact Below.refl _ _) | (with_reducible assumption) | (with_reducible refine Below.setCell ?_ (by first | (simp; done) | (simp; omega) | omega) _) | (with_reducible refine Below.alloc ?_ (by first | (simp; done) | (simp; omega) | omega) _) | (refine bl_call ?_ (by assumption) (by first | (simp; done) | (simp; omega) | omega)) | (with_reducible refine bl_drewN ?_) | (with_reducible refine Below.drew ?_) | (with_reducible refine bl_grow ?_ (by first | (simp; done) | (simp; omega) | omega)))) (hown6.alloc _) hgrow (by simp; omega) (Nat.le_refl _)
        rw [← cellsI_succ (fun i => (cfN K n i : Int))] at hown'
        clear hgrow hat hown hown5 hown6
        go_wp2_with fail
        go_roundw
        case rel => exact ⟨i + 1, by omega, by simp, hown', hq13⟩
        case measure => simp [intOf]; omega
    · have hlt' : ¬ (i : Int) < n := by omega
      obtain rfl : i = n := by omega
      go_wp2_with fail
      go_ret2
      exact ⟨_, rfl, hown, by repeat (first | (with_reducible exact Below.refl _ _) | (with_reducible assumption) | (with_reducible refine Below.setCell ?_ (by first | (simp; done) | (simp; omega) | omega) _) | (with_reducible refine Below.alloc ?_ (by first | (simp; done) | (simp; omega) | omega) _) | (refine bl_call ?_ (by assumption) (by first | (simp; done) | (simp; omega) | omega)) | (with_reducible refine bl_drewN ?_) | (with_reducible refine Below.drew ?_) | (with_reducible refine bl_grow ?_ (by first | (simp; done) | (simp; omega) | omega)))⟩
theorem coefs_is : CoefsIs :=
  ⟨fun sl n d w h _ => gcoefs_err sl n d 4 w (list_many sl n d w h),
   fun sl n d X Y F w h12 _ hr he => gcoefs_err sl n d _ w (by
     rcases hr with rfl | ⟨b, o, rfl, r⟩
     · cases he
     · exact list_no b o n d X Y F w h12 r he),
   fun sl n d X Y F K w h12 _ hr hK => gcoefs_ok sl n d X Y F K w h12 hr hK⟩
set_option maxRecDepth 100000 in
set_option maxHeartbeats 4000000 in
theorem gjoined_row (sl sc : Option Addr) (n d c : Nat) (X Y : Nat → Int) (F : Nat → Bool) (K : Nat → Nat) (w : World) (hn : n ≤ 12) (hr : (n = 0 ∨ ∃ b o : Nat, sl = some ⟨b, o, none⟩ ∧ RowO w b o n X Y F)) (hK : (∀ i, i < n → X i = ((tM (K i)).1 : Int) ∧ Y i = ((tM (K i)).2.1 : Int) ∧ F i = (tM (K i)).2.2)) (hw : (n = 0 ∨ ∃ b o : Nat, sc = some ⟨b, o, none⟩ ∧ RowI w b o n (fun i => (cfN K n i : Int)))) :
    Calls Tryd.prog 24 #[.slice sl n d, .slice sc n c] w fun e w' => e = .returned (.tuple #[.agg #[.int .i64 ((tM (jtN K n n)).1 : Int), .int .i64 ((tM (jtN K n n)).2.1 : Int), .bool (tM (jtN K n n)).2.2], .nilIface]) ∧ Below w.heap.size w w' := by
  have HR : Hid ((n = 0 ∨ ∃ b o : Nat, sl = some ⟨b, o, none⟩ ∧ RowO w b o n X Y F)) := hr
  have HW : Hid ((n = 0 ∨ ∃ b o : Nat, sc = some ⟨b, o, none⟩ ∧ RowI w b o n (fun i => (cfN K n i : Int)))) := hw
  have HK : Hid ((∀ i, i < n → X i = ((tM (K i)).1 : Int) ∧ Y i = ((tM (K i)).2.1 : Int) ∧ F i = (tM (K i)).2.2)) := hK
  clear hr hK hw
  go_enter Tryd.func24, Tryd.ntmps24
  go_wp2_with fail
  go_loopw [14] (fun ti wl => ∃ k : Nat, k ≤ n ∧ ti = .int .i64 k ∧ At wl (w.heap.size) [.int .i64 0, .int .i64 0, .bool false] ∧ At wl (w.heap.size + 1) [.int .i64 ((tM (jtN K n k)).1 : Int), .int .i64 ((tM (jtN K n k)).2.1 : Int), .bool (tM (jtN K n k)).2.2] ∧ Below w.heap.size w wl) (fun ti _ => n - (intOf ti).toNat)
  case atStart => exact ⟨0, by omega, rfl, by repeat (first | (with_reducible assumption) | ((with_reducible refine at_new' _ _ _ _ ?_); (first | rfl | (simp; done))) | (with_reducible refine At.alloc ?_ _) | (with_reducible refine At.drew ?_) | (with_reducible refine At.drewN ?_) | (with_reducible refine At.set ?_ (by omega)) | (with_reducible apply At.store4) | (with_reducible apply At.store3) | (with_reducible apply At.store2) | (with_reducible apply At.put43) | (refine At.below ?_ (by with_reducible assumption))), by show At _ _ [.int .i64 0, .int .i64 0, .bool true]; exact (by repeat (first | (with_reducible assumption) | ((with_reducible refine at_new' _ _ _ _ ?_); (first | rfl | (simp; done))) | (with_reducible refine At.alloc ?_ _) | (with_reducible refine At.drew ?_) | (with_reducible refine At.drewN ?_) | (with_reducible refine At.set ?_ (by omega)) | (with_reducible apply At.store4) | (with_reducible apply At.store3) | (with_reducible apply At.store2) | (with_reducible apply At.put43) | (refine At.below ?_ (by with_reducible assumption)))), by repeat (first | (with_reducible exact Below.refl _ _) | (with_reducible assumption) | (with_reducible refine Below.setCell ?_ (by first | (simp; done) | (simp; omega) | omega) _) | (with_reducible refine Below.alloc ?_ (by first | (simp; done) | (simp; omega) | omega) _) | (refine bl_call ?_ (by assumption) (by first | (simp; done) | (simp; omega) | omega)) | (with_reducible refine bl_drewN ?_) | (with_reducible refine Below.drew ?_) | (with_reducible refine bl_grow ?_ (by first | (simp; done) | (simp; omega) | omega)))⟩
  case round =>
    obtain ⟨k, hk, rfl, krV, kpV, hqV⟩ := hrel
    rename World => V
    have hzV := hqV.size
    obtain ⟨zrV, cr0V, cr1V, cr2V, fr0V, fr1V, fr2V⟩ := krV.three
    obtain ⟨zpV, cp0V, cp1V, cp2V, fp0V, fp1V, fp2V⟩ := kpV.three
    by_cases hlt : k < n
    · have hlt' : (k : Int) < n := by omega
      obtain ⟨b, o, rfl, hz⟩ : ∃ b o : Nat, sl = some ⟨b, o, none⟩ ∧ RowO w b o n X Y F := HR.out.resolve_left (by omega)
      obtain ⟨g, q, rfl, hg⟩ := HW.out.resolve_left (by omega)
      have HG : Hid (RowI w g q n (fun i => (cfN K n i : Int))) := hg
      have hbV := Nat.lt_of_lt_of_le hz.1 hzV
      have hgV := Nat.lt_of_lt_of_le hg.1 hzV
      obtain ⟨c0, c1, c2⟩ := (hz.below hz.1 hqV).2 k hlt
      obtain ⟨e0, e1, e2⟩ := HK.out k hlt
      rw [e0] at c0
      rw [e1] at c1
      rw [e2] at c2
      clear e0 e1 e2 hz hg
      have E : Hid (tM (K k * em (cfN K n k : Int)) = tM (K k * cfN K n k)) := tM_em _ _
      go_wp2_with fail
      go_cut [9, 10] from 19 to 42 (fun t9 t10 wx => ∃ b9 : Nat, t9 = .pointer (some ⟨b9, 0, none⟩) ∧ t10 = .nilIface ∧ At wx (w.heap.size) [.int .i64 0, .int .i64 0, .bool false] ∧ At wx (w.heap.size + 1) [.int .i64 ((tM (jtN K n k)).1 : Int), .int .i64 ((tM (jtN K n k)).2.1 : Int), .bool (tM (jtN K n k)).2.2] ∧ At wx b9 [.int .i64 ((tM (K k * cfN K n k)).1 : Int), .int .i64 ((tM (K k * cfN K n k)).2.1 : Int), .bool (tM (K k * cfN K n k)).2.2] ∧ w.heap.size + 1 < b9 ∧ Below w.heap.size w wx)
      case first =>
        go_region_held3 (fun W => ((V.heap.size) < W.heap.size ∧ W.cell? ⟨V.heap.size, 0, none⟩ = some (.int .i64 ((tM (K k)).1 : Int)) ∧ W.cell? ⟨V.heap.size, 1, none⟩ = some (.int .i64 ((tM (K k)).2.1 : Int)) ∧ W.cell? ⟨V.heap.size, 2, none⟩ = some (.bool (tM (K k)).2.2) ∧ W.frozen? ⟨V.heap.size, 0, none⟩ = false ∧ W.frozen? ⟨V.heap.size, 1, none⟩ = false ∧ W.frozen? ⟨V.heap.size, 2, none⟩ = false) ∧ (g < W.heap.size ∧ W.cell? ⟨g, q + k, none⟩ = some (.int .i64 (cfN K n k : Int)))) (exact ⟨At.three (by repeat (first | (with_reducible assumption) | ((with_reducible refine at_new' _ _ _ _ ?_); (first | rfl | (simp; done))) | (with_reducible refine At.alloc ?_ _) | (with_reducible refine At.drew ?_) | (with_reducible refine At.drewN ?_) | (with_reducible refine At.set ?_ (by omega)) | (with_reducible apply At.store4) | (with_reducible apply At.store3) | (with_reducible apply At.store2) | (with_reducible apply At.put43) | (refine At.below ?_ (by with_reducible assumption)))), growI_at HG.out (by repeat (first | (with_reducible exact Below.refl _ _) | (with_reducible assumption) | (with_reducible refine Below.setCell ?_ (by first | (simp; done) | (simp; omega) | omega) _) | (with_reducible refine Below.alloc ?_ (by first | (simp; done) | (simp; omega) | omega) _) | (refine bl_call ?_ (by assumption) (by first | (simp; done) | (simp; omega) | omega)) | (with_reducible refine bl_drewN ?_) | (with_reducible refine Below.drew ?_) | (with_reducible refine bl_grow ?_ (by first | (simp; done) | (simp; omega) | omega)))) hlt⟩) (first | (go_at_call 31; refine (times_eq E.out _).mono ?_; rintro e w2 ⟨rfl, hb2⟩; obtain ⟨hc2, hf2⟩ := bcell hb2; have hq2 : Below w.heap.size w w2 := (by repeat (first | (with_reducible exact Below.refl _ _) | (with_reducible assumption) | (with_reducible refine Below.setCell ?_ (by first | (simp; done) | (simp; omega) | omega) _) | (with_reducible refine Below.alloc ?_ (by first | (simp; done) | (simp; omega) | omega) _) | (refine bl_call ?_ (by assumption) (by first | (simp; done) | (simp; omega) | omega)) | (with_reducible refine bl_drewN ?_) | (with_reducible refine Below.drew ?_) | (with_reducible refine bl_grow ?_ (by first | (simp; done) | (simp; omega) | omega)))); have hz2 := hq2.size; clear hq2; have hl2 := gb_lt hb2; have hn2 := gb_ne hb2; have hm2 := gb_ne2 hb2; have hs2 := hb2.size; (try simp at hs2)))
        all_goals (go_wp2_with fail)
        all_goals go_meet
        all_goals (case rel => exact ⟨_, rfl, rfl, by repeat (first | (with_reducible assumption) | ((with_reducible refine at_new' _ _ _ _ ?_); (first | rfl | (simp; done))) | (with_reducible refine At.alloc ?_ _) | (with_reducible refine At.drew ?_) | (with_reducible refine At.drewN ?_) | (with_reducible refine At.set ?_ (by omega)) | (with_reducible apply At.store4) | (with_reducible apply At.store3) | (with_reducible apply At.store2) | (with_reducible apply At.put43) | (refine At.below ?_ (by with_reducible assumption))), by repeat (first | (with_reducible assumption) | ((with_reducible refine at_new' _ _ _ _ ?_); (first | rfl | (simp; done))) | (with_reducible refine At.alloc ?_ _) | (with_reducible refine At.drew ?_) | (with_reducible refine At.drewN ?_) | (with_reducible refine At.set ?_ (by omega)) | (with_reducible apply At.store4) | (with_reducible apply At.store3) | (with_reducible apply At.store2) | (with_reducible apply At.put43) | (refine At.below ?_ (by with_reducible assumption))), by repeat (first | (with_reducible assumption) | ((with_reducible refine at_new' _ _ _ _ ?_); (first | rfl | (simp; done))) | (with_reducible refine At.alloc ?_ _) | (with_reducible refine At.drew ?_) | (with_reducible refine At.drewN ?_) | (with_reducible refine At.set ?_ (by omega)) | (with_reducible apply At.store4) | (with_reducible apply At.store3) | (with_reducible apply At.store2) | (with_reducible apply At.put43) | (refine At.below ?_ (by with_reducible assumption))), by omega, by repeat (first | (with_reducible exact Below.refl _ _) | (with_reducible assumption) | (with_reducible refine Below.setCell ?_ (by first | (simp; done) | (simp; omega) | omega) _) | (with_reducible refine Below.alloc ?_ (by first | (simp; done) | (simp; omega) | omega) _) | (refine bl_call ?_ (by assumption) (by first | (simp; done) | (simp; omega) | omega)) | (with_reducible refine bl_drewN ?_) | (with_reducible refine Below.drew ?_) | (with_reducible refine bl_grow ?_ (by first | (simp; done) | (simp; omega) | omega)))⟩)
      case rest =>
        clear c0 c1 c2 krV cr0V fr0V cr1V fr1V cr2V fr2V kpV cp0V fp0V cp1V fp1V cp2V fp2V hqV
        obtain ⟨b9, rfl, rfl, krwc, kpwc, kxwc, hb9, hqwc⟩ := hcut
        have hzwc := hqwc.size
        obtain ⟨zrwc, cr0wc, cr1wc, cr2wc, fr0wc, fr1wc, fr2wc⟩ := krwc.three
        obtain ⟨zpwc, cp0wc, cp1wc, cp2wc, fp0wc, fp1wc, fp2wc⟩ := kpwc.three
        obtain ⟨zxwc, cx0wc, cx1wc, cx2wc, fx0wc, fx1wc, fx2wc⟩ := kxwc.three
        have m1 : True := trivial
        go_wp2_with (go_at_call 45; clear m1; refine (cadd_tM _ _ _).mono ?_; rintro e w3 ⟨rfl, hbw3⟩; have krw3 : At w3 (w.heap.size) [.int .i64 0, .int .i64 0, .bool false] := (by repeat (first | (with_reducible assumption) | ((with_reducible refine at_new' _ _ _ _ ?_); (first | rfl | (simp; done))) | (with_reducible refine At.alloc ?_ _) | (with_reducible refine At.drew ?_) | (with_reducible refine At.drewN ?_) | (with_reducible refine At.set ?_ (by omega)) | (with_reducible apply At.store4) | (with_reducible apply At.store3) | (with_reducible apply At.store2) | (with_reducible apply At.put43) | (refine At.below ?_ (by with_reducible assumption)))); have kpw3 : At w3 (w.heap.size + 1) [.int .i64 ((tM (jtN K n k)).1 : Int), .int .i64 ((tM (jtN K n k)).2.1 : Int), .bool (tM (jtN K n k)).2.2] := (by repeat (first | (with_reducible assumption) | ((with_reducible refine at_new' _ _ _ _ ?_); (first | rfl | (simp; done))) | (with_reducible refine At.alloc ?_ _) | (with_reducible refine At.drew ?_) | (with_reducible refine At.drewN ?_) | (with_reducible refine At.set ?_ (by omega)) | (with_reducible apply At.store4) | (with_reducible apply At.store3) | (with_reducible apply At.store2) | (with_reducible apply At.put43) | (refine At.below ?_ (by with_reducible assumption)))); have hqw3 : Below w.heap.size w w3 := (by repeat (first | (with_reducible exact Below.refl _ _) | (with_reducible assumption) | (with_reducible refine Below.setCell ?_ (by first | (simp; done) | (simp; omega) | omega) _) | (with_reducible refine Below.alloc ?_ (by first | (simp; done) | (simp; omega) | omega) _) | (refine bl_call ?_ (by assumption) (by first | (simp; done) | (simp; omega) | omega)) | (with_reducible refine bl_drewN ?_) | (with_reducible refine Below.drew ?_) | (with_reducible refine bl_grow ?_ (by first | (simp; done) | (simp; omega) | omega)))); have hzw3 := hqw3.size; obtain ⟨zrw3, cr0w3, cr1w3, cr2w3, fr0w3, fr1w3, fr2w3⟩ := krw3.three; obtain ⟨zpw3, cp0w3, cp1w3, cp2w3, fp0w3, fp1w3, fp2w3⟩ := kpw3.three; clear krwc cr0wc fr0wc cr1wc fr1wc cr2wc fr2wc kpwc cp0wc fp0wc cp1wc fp1wc cp2wc fp2wc hqwc; clear hbw3)
        go_roundw
        case rel => exact ⟨k + 1, by omega, by simp, by repeat (first | (with_reducible assumption) | ((with_reducible refine at_new' _ _ _ _ ?_); (first | rfl | (simp; done))) | (with_reducible refine At.alloc ?_ _) | (with_reducible refine At.drew ?_) | (with_reducible refine At.drewN ?_) | (with_reducible refine At.set ?_ (by omega)) | (with_reducible apply At.store4) | (with_reducible apply At.store3) | (with_reducible apply At.store2) | (with_reducible apply At.put43) | (refine At.below ?_ (by with_reducible assumption))), (show At _ _ [.int .i64 ((tM (jtN K n k + K k * cfN K n k)).1 : Int), .int .i64 ((tM (jtN K n k + K k * cfN K n k)).2.1 : Int), .bool (tM (jtN K n k + K k * cfN K n k)).2.2] from by repeat (first | (with_reducible assumption) | ((with_reducible refine at_new' _ _ _ _ ?_); (first | rfl | (simp; done))) | (with_reducible refine At.alloc ?_ _) | (with_reducible refine At.drew ?_) | (with_reducible refine At.drewN ?_) | (with_reducible refine At.set ?_ (by omega)) | (with_reducible apply At.store4) | (with_reducible apply At.store3) | (with_reducible apply At.store2) | (with_reducible apply At.put43) | (refine At.below ?_ (by with_reducible assumption)))), by repeat (first | (with_reducible exact Below.refl _ _) | (with_reducible assumption) | (with_reducible refine Below.setCell ?_ (by first | (simp; done) | (simp; omega) | omega) _) | (with_reducible refine Below.alloc ?_ (by first | (simp; done) | (simp; omega) | omega) _) | (refine bl_call ?_ (by assumption) (by first | (simp; done) | (simp; omega) | omega)) | (with_reducible refine bl_drewN ?_) | (with_reducible refine Below.drew ?_) | (with_reducible refine bl_grow ?_ (by first | (simp; done) | (simp; omega) | omega)))⟩
        case measure => simp [intOf]; omega
    · have hlt' : ¬ (k : Int) < n := by omega
      obtain rfl : k = n := by omega
      go_wp2_with fail
      exact bodyPost_ret (v := .tuple #[.agg #[.int .i64 ((tM (jtN K k k)).1 : Int), .int .i64 ((tM (jtN K k k)).2.1 : Int), .bool (tM (jtN K k k)).2.2], .nilIface]) (by simp [results, Tryd.results24, go_sem, *]) rfl ⟨rfl, by repeat (first | (with_reducible exact Below.refl _ _) | (with_reducible assumption) | (with_reducible refine Below.setCell ?_ (by first | (simp; done) | (simp; omega) | omega) _) | (with_reducible refine Below.alloc ?_ (by first | (simp; done) | (simp; omega) | omega) _) | (refine bl_call ?_ (by assumption) (by first | (simp; done) | (simp; omega) | omega)) | (with_reducible refine bl_drewN ?_) | (with_reducible refine Below.drew ?_) | (with_reducible refine bl_grow ?_ (by first | (simp; done) | (simp; omega) | omega)))⟩
set_option maxRecDepth 100000 in
set_option maxHeartbeats 4000000 in
theorem gjoint_err (sl : Option Addr) (n d : Nat) (c : Int) (w : World) (h : ∀ W, Below w.heap.size w W → Calls Tryd.prog 7 #[.slice sl n d] W fun e w' => e = .returned (.tuple #[.slice none 0 0, errOf c]) ∧ Below W.heap.size W w') : Calls Tryd.prog 10 #[.slice sl n d] w fun e w' => e = .returned (.tuple #[.agg #[.int .i64 0, .int .i64 0, .bool false], errOf c]) ∧ Below w.heap.size w w' := by
  have H : Hid (∀ W, Below w.heap.size w W → Calls Tryd.prog 7 #[.slice sl n d] W fun e w' => e = .returned (.tuple #[.slice none 0 0, errOf c]) ∧ Below W.heap.size W w') := h
  clear h
  have m1 : True := trivial
  go_enter Tryd.func10, Tryd.ntmps10
  go_wp2_with (go_at_call 7; clear m1; refine (H.out _ (by repeat (first | (with_reducible exact Below.refl _ _) | (with_reducible assumption) | (with_reducible refine Below.setCell ?_ (by first | (simp; done) | (simp; omega) | omega) _) | (with_reducible refine Below.alloc ?_ (by first | (simp; done) | (simp; omega) | omega) _) | (refine bl_call ?_ (by assumption) (by first | (simp; done) | (simp; omega) | omega)) | (with_reducible refine bl_drewN ?_) | (with_reducible refine Below.drew ?_) | (with_reducible refine bl_grow ?_ (by first | (simp; done) | (simp; omega) | omega))))).mono ?_; rintro e w1 ⟨rfl, hbw1⟩; have krw1 : At w1 (w.heap.size) [.int .i64 0, .int .i64 0, .bool false] := (by repeat (first | (with_reducible assumption) | ((with_reducible refine at_new' _ _ _ _ ?_); (first | rfl | (simp; done))) | (with_reducible refine At.alloc ?_ _) | (with_reducible refine At.drew ?_) | (with_reducible refine At.drewN ?_) | (with_reducible refine At.set ?_ (by omega)) | (with_reducible apply At.store4) | (with_reducible apply At.store3) | (with_reducible apply At.store2) | (with_reducible apply At.put43) | (refine At.below ?_ (by with_reducible assumption)))); have hqw1 : Below w.heap.size w w1 := (by repeat (first | (with_reducible exact Below.refl _ _) | (with_reducible assumption) | (with_reducible refine Below.setCell ?_ (by first | (simp; done) | (simp; omega) | omega) _) | (with_reducible refine Below.alloc ?_ (by first | (simp; done) | (simp; omega) | omega) _) | (refine bl_call ?_ (by assumption) (by first | (simp; done) | (simp; omega) | omega)) | (with_reducible refine bl_drewN ?_) | (with_reducible refine Below.drew ?_) | (with_reducible refine bl_grow ?_ (by first | (simp; done) | (simp; omega) | omega)))); have hzw1 := hqw1.size; obtain ⟨zrw1, cr0w1, cr1w1, cr2w1, fr0w1, fr1w1, fr2w1⟩ := krw1.three; clear hbw1)
  exact bodyPost_ret (v := .tuple #[.agg #[.int .i64 0, .int .i64 0, .bool false], errOf c]) (by simp [results, Tryd.results10, go_sem, *]) rfl ⟨rfl, by repeat (first | (with_reducible exact Below.refl _ _) | (with_reducible assumption) | (with_reducible refine Below.setCell ?_ (by first | (simp; done) | (simp; omega) | omega) _) | (with_reducible refine Below.alloc ?_ (by first | (simp; done) | (simp; omega) | omega) _) | (refine bl_call ?_ (by assumption) (by first | (simp; done) | (simp; omega) | omega)) | (with_reducible refine bl_drewN ?_) | (with_reducible refine Below.drew ?_) | (with_reducible refine bl_grow ?_ (by first | (simp; done) | (simp; omega) | omega)))⟩
set_option maxRecDepth 100000 in
set_option maxHeartbeats 4000000 in
theorem gjoint_ok (sl : Option Addr) (n d : Nat) (K : Nat → Nat) (w : World) (hc : ∀ W, Below w.heap.size w W → Calls Tryd.prog 7 #[.slice sl n d] W fun e w' => ∃ u, e = .returned (.tuple #[u, .nilIface]) ∧ w'.ownsRow W.heap.size 3 1 u n (cellsI (fun i => (cfN K n i : Int)) n) ∧ Below W.heap.size W w') (hj : ∀ W u B, Below w.heap.size w W → W.ownsRow B 3 1 u n (cellsI (fun i => (cfN K n i : Int)) n) → Calls Tryd.prog 24 #[.slice sl n d, u] W fun e w' => e = .returned (.tuple #[.agg #[.int .i64 ((tM (jtN K n n)).1 : Int), .int .i64 ((tM (jtN K n n)).2.1 : Int), .bool (tM (jtN K n n)).2.2], .nilIface]) ∧ Below W.heap.size W w') : Calls Tryd.prog 10 #[.slice sl n d] w fun e w' => e = .returned (.tuple #[.agg #[.int .i64 ((tM (jtN K n n)).1 : Int), .int .i64 ((tM (jtN K n n)).2.1 : Int), .bool (tM (jtN K n n)).2.2], .nilIface]) ∧ Below w.heap.size w w' := by
  have H : Hid (∀ W, Below w.heap.size w W → Calls Tryd.prog 7 #[.slice sl n d] W fun e w' => ∃ u, e = .returned (.tuple #[u, .nilIface]) ∧ w'.ownsRow W.heap.size 3 1 u n (cellsI (fun i => (cfN K n i : Int)) n) ∧ Below W.heap.size W w') := hc
  have HJ : Hid (∀ W u B, Below w.heap.size w W → W.ownsRow B 3 1 u n (cellsI (fun i => (cfN K n i : Int)) n) → Calls Tryd.prog 24 #[.slice sl n d, u] W fun e w' => e = .returned (.tuple #[.agg #[.int .i64 ((tM (jtN K n n)).1 : Int), .int .i64 ((tM (jtN K n n)).2.1 : Int), .bool (tM (jtN K n n)).2.2], .nilIface]) ∧ Below W.heap.size W w') := hj
  clear hc hj
  go_enter Tryd.func10, Tryd.ntmps10
  go_wp2_with (go_at_call 7; refine (H.out _ (by repeat (first | (with_reducible exact Below.refl _ _) | (with_reducible assumption) | (with_reducible refine Below.setCell ?_ (by first | (simp; done) | (simp; omega) | omega) _) | (with_reducible refine Below.alloc ?_ (by first | (simp; done) | (simp; omega) | omega) _) | (refine bl_call ?_ (by assumption) (by first | (simp; done) | (simp; omega) | omega)) | (with_reducible refine bl_drewN ?_) | (with_reducible refine Below.drew ?_) | (with_reducible refine bl_grow ?_ (by first | (simp; done) | (simp; omega) | omega))))).mono ?_; rintro e w1 ⟨u1, rfl, ho1, hb1⟩; have kr1 : At w1 (w.heap.size) [.int .i64 0, .int .i64 0, .bool false] := (by repeat (first | (with_reducible assumption) | ((with_reducible refine at_new' _ _ _ _ ?_); (first | rfl | (simp; done))) | (with_reducible refine At.alloc ?_ _) | (with_reducible refine At.drew ?_) | (with_reducible refine At.drewN ?_) | (with_reducible refine At.set ?_ (by omega)) | (with_reducible apply At.store4) | (with_reducible apply At.store3) | (with_reducible apply At.store2) | (with_reducible apply At.put43) | (refine At.below ?_ (by with_reducible assumption)))); have hq1 : Below w.heap.size w w1 := (by repeat (first | (with_reducible exact Below.refl _ _) | (with_reducible assumption) | (with_reducible refine Below.setCell ?_ (by first | (simp; done) | (simp; omega) | omega) _) | (with_reducible refine Below.alloc ?_ (by first | (simp; done) | (simp; omega) | omega) _) | (refine bl_call ?_ (by assumption) (by first | (simp; done) | (simp; omega) | omega)) | (with_reducible refine bl_drewN ?_) | (with_reducible refine Below.drew ?_) | (with_reducible refine bl_grow ?_ (by first | (simp; done) | (simp; omega) | omega)))); have hz1 := hq1.size; obtain ⟨zr1, cr01, cr11, cr21, fr01, fr11, fr21⟩ := kr1.three; clear hb1)
  go_wp2_with (go_at_call 24; refine (HJ.out _ _ _ hq1 ho1).mono ?_; rintro e w3 ⟨rfl, hb3⟩; have kr3 : At w3 (w.heap.size) [.int .i64 0, .int .i64 0, .bool false] := (by repeat (first | (with_reducible assumption) | ((with_reducible refine at_new' _ _ _ _ ?_); (first | rfl | (simp; done))) | (with_reducible refine At.alloc ?_ _) | (with_reducible refine At.drew ?_) | (with_reducible refine At.drewN ?_) | (with_reducible refine At.set ?_ (by omega)) | (with_reducible apply At.store4) | (with_reducible apply At.store3) | (with_reducible apply At.store2) | (with_reducible apply At.put43) | (refine At.below ?_ (by with_reducible assumption)))); have hq3 : Below w.heap.size w w3 := (by repeat (first | (with_reducible exact Below.refl _ _) | (with_reducible assumption) | (with_reducible refine Below.setCell ?_ (by first | (simp; done) | (simp; omega) | omega) _) | (with_reducible refine Below.alloc ?_ (by first | (simp; done) | (simp; omega) | omega) _) | (refine bl_call ?_ (by assumption) (by first | (simp; done) | (simp; omega) | omega)) | (with_reducible refine bl_drewN ?_) | (with_reducible refine Below.drew ?_) | (with_reducible refine bl_grow ?_ (by first | (simp; done) | (simp; omega) | omega)))); have hz3 := hq3.size; obtain ⟨zr3, cr03, cr13, cr23, fr03, fr13, fr23⟩ := kr3.three; clear hb3)
  exact bodyPost_ret (v := .tuple #[.agg #[.int .i64 ((tM (jtN K n n)).1 : Int), .int .i64 ((tM (jtN K n n)).2.1 : Int), .bool (tM (jtN K n n)).2.2], .nilIface]) (by simp [results, Tryd.results10, go_sem, *]) rfl ⟨rfl, by repeat (first | (with_reducible exact Below.refl _ _) | (with_reducible assumption) | (with_reducible refine Below.setCell ?_ (by first | (simp; done) | (simp; omega) | omega) _) | (with_reducible refine Below.alloc ?_ (by first | (simp; done) | (simp; omega) | omega) _) | (refine bl_call ?_ (by assumption) (by first | (simp; done) | (simp; omega) | omega)) | (with_reducible refine bl_drewN ?_) | (with_reducible refine Below.drew ?_) | (with_reducible refine bl_grow ?_ (by first | (simp; done) | (simp; omega) | omega)))⟩
theorem joint_is : JointIs :=
  ⟨fun sl n d w h hn => gjoint_err sl n d 4 w (fun W _ => coefs_is.1 sl n d W h hn),
   fun sl n d X Y F w h12 hd hr he => gjoint_err sl n d _ w (fun W hW => coefs_is.2.1 sl n d X Y F W h12 hd (hr.imp_right fun ⟨b, o, e, r⟩ => ⟨b, o, e, r.below r.1 hW⟩) he),
   fun sl n d X Y F K w h12 hd hr hK => gjoint_ok sl n d K w
     (fun W hW => coefs_is.2.2 sl n d X Y F K W h12 hd (hr.imp_right fun ⟨b, o, e, r⟩ => ⟨b, o, e, r.below r.1 hW⟩) hK)
     (fun W u B hW hu => by
       obtain ⟨sa, cc, rfl, k⟩ := own_ints hu
       exact gjoined_row sl sa n d cc X Y F K W h12 (hr.imp_right fun ⟨b, o, e, r⟩ => ⟨b, o, e, r.below r.1 hW⟩) hK (k.imp_right fun ⟨g, a, _, _, r⟩ => ⟨g, 0, a, r⟩))⟩
set_option maxRecDepth 100000 in
set_option maxHeartbeats 4000000 in
theorem gkeys_ok (sx : Option Addr) (n d : Nat) (X : Nat → Int) (w : World) (hn : n ≤ 12) (hr : (n = 0 ∨ ∃ b o : Nat, sx = some ⟨b, o, none⟩ ∧ RowI w b o n X)) (hok : ∀ i, i < n → secB (X i) = true) : Calls Tryd.prog 48 #[.slice sx n d] w fun ex w' => ∃ u, ex = .returned (.tuple #[u, .nilIface]) ∧ w'.ownsRow w.heap.size 26 3 u n (cellsT (fun i => ((tM (4 * (X i).toNat)).1 : Int)) (fun i => ((tM (4 * (X i).toNat)).2.1 : Int)) (fun i => (tM (4 * (X i).toNat)).2.2) n) ∧ Below w.heap.size w w' := by
  have HR : Hid ((n = 0 ∨ ∃ b o : Nat, sx = some ⟨b, o, none⟩ ∧ RowI w b o n X)) := hr
  have HO : Hid (∀ i, i < n → secB (X i) = true) := hok
  clear hr hok
  obtain ⟨i0, hi, hv0, hv1, hv2⟩ := info_parts gpinfo
  go_enter Tryd.func48, Tryd.ntmps48
  go_wp2_with (at_make; refine wpList_make_own _ rfl _ _ 22 rfl w.heap.size 26 i0 (.agg #[.int .i64 0, .int .i64 0, .bool false]) 3 Tryd.underlying22 hi hv0 hv1 _ _ _ n rfl rfl rfl ?b2 ?b3 ?b4 ?_)
  case b2 => rw [hv2]; omega
  case b3 => unfold maxLen; omega
  case b4 => omega
  intro w2 hown0 hgrow
  have hq2 : Below w.heap.size w w2 := (Below.refl _ _ : Below w.heap.size w _).grown hgrow (Nat.le_refl _) (fun k hk => by cases hk)
  clear hgrow
  go_wp2_with fail
  go_loopw [4, 14] (fun tv ti wl => ∃ k : Nat, k ≤ n ∧ ti = .int .i64 k ∧ wl.ownsRow w.heap.size 26 3 tv k (cellsT (fun i => ((tM (4 * (X i).toNat)).1 : Int)) (fun i => ((tM (4 * (X i).toNat)).2.1 : Int)) (fun i => (tM (4 * (X i).toNat)).2.2) k) ∧ Below w.heap.size w wl) (fun _ ti _ => n - (intOf ti).toNat)
  case atStart => exact ⟨0, by omega, rfl, hown0, by repeat (first | (with_reducible exact Below.refl _ _) | (with_reducible assumption) | (with_reducible refine Below.setCell ?_ (by first | (simp; done) | (simp; omega) | omega) _) | (with_reducible refine Below.alloc ?_ (by first | (simp; done) | (simp; omega) | omega) _) | (refine bl_call ?_ (by assumption) (by first | (simp; done) | (simp; omega) | omega)) | (with_reducible refine bl_drewN ?_) | (with_reducible refine Below.drew ?_) | (with_reducible refine bl_grow ?_ (by first | (simp; done) | (simp; omega) | omega)))⟩
  case round =>
    clear hown0 hq2
    obtain ⟨k, hk, rfl, hown, hqV⟩ := hrel
    rename World => wV
    have hzV := hqV.size
    by_cases hlt : k < n
    · have hlt' : (k : Int) < n := by omega
      obtain ⟨b, o, rfl, hz⟩ := HR.out.resolve_left (by omega)
      have hbV := Nat.lt_of_lt_of_le hz.1 hzV
      have c0 := (hz.below hz.1 hqV).2 k hlt
      have HE : Hid (∀ w, Calls Tryd.prog 66 #[.int .i64 (X k)] w fun e w' => e = .returned (.tuple #[.agg #[.int .i64 ((tM (4 * (X k).toNat)).1 : Int), .int .i64 ((tM (4 * (X k).toNat)).2.1 : Int), .bool (tM (4 * (X k).toNat)).2.2], .nilIface]) ∧ Below w.heap.size w w') := fun w => by
        obtain ⟨a1, a2⟩ := gsec_bd (HO.out k hlt)
        have := key_yes (X k).toNat w (by omega) (by omega)
        rwa [Int.toNat_of_nonneg (by omega)] at this
      clear hz
      go_wp2_with (first | (go_at_call 66; refine (HE.out _).mono ?_; rintro e w5 ⟨rfl, hb5⟩; have hq5 : Below w.heap.size w w5 := (by repeat (first | (with_reducible exact Below.refl _ _) | (with_reducible assumption) | (with_reducible refine Below.setCell ?_ (by first | (simp; done) | (simp; omega) | omega) _) | (with_reducible refine Below.alloc ?_ (by first | (simp; done) | (simp; omega) | omega) _) | (refine bl_call ?_ (by assumption) (by first | (simp; done) | (simp; omega) | omega)) | (with_reducible refine bl_drewN ?_) | (with_reducible refine Below.drew ?_) | (with_reducible refine bl_grow ?_ (by first | (simp; done) | (simp; omega) | omega)))); have hz5 := hq5.size; have hown5 := own_stay hown hb5; clear hb5) | (at_builtin; refine wpList_append_own_at _ rfl _ _ 22 rfl w.heap.size 26 i0 (.agg #[.int .i64 0, .int .i64 0, .bool false]) 3 24 Tryd.underlying22 hi hv0 hv1 hv2 rfl (by decide) _ _ _ rfl (own_stay hown5 (by repeat (first | (with_reducible exact Below.refl _ _) | (with_reducible assumption) | (with_reducible refine Below.setCell ?_ (by first | (simp; done) | (simp; omega) | omega) _) | (with_reducible refine Below.alloc ?_ (by first | (simp; done) | (simp; omega) | omega) _) | (refine bl_call ?_ (by assumption) (by first | (simp; done) | (simp; omega) | omega)) | (with_reducible refine bl_drewN ?_) | (with_reducible refine Below.drew ?_) | (with_reducible refine bl_grow ?_ (by first | (simp; done) | (simp; omega) | omega))))) ⟨_, 0, none⟩ 1 1 [.int .i64 ((tM (4 * (X k).toNat)).1 : Int), .int .i64 ((tM (4 * (X k).toNat)).2.1 : Int), .bool (tM (4 * (X k).toNat)).2.2] rfl rfl ?c1 ?c2 ?c3 ?c4 ?c5 ?_))
      case c1 => exact gthree_new (by simp) _ _ _ _
      case c2 => intro u hu; simp at hu; rcases hu with rfl | rfl | rfl <;> rfl
      case c3 => unfold maxLen; omega
      case c4 => omega
      case c5 => simp; omega
      · intro v' w13 hown' hgrow _ hat
        have hq13 : Below w.heap.size w w13 := grown_under (B := w.heap.size) (by repeat (first | (with_reducible exact Below.refl _ _) | (with_reducible assumption) | (with_reducible refine Below.setCell ?_ (by first | (simp; done) | (simp; omega) | omega) _) | (with_reducible refine Below.alloc ?_ (by first | (simp; done) | (simp; omega) | omega) _) | (refine bl_call ?_ (by assumption) (by first | (simp; done) | (simp; omega) | omega)) | (with_reducible refine bl_drewN ?_) | (with_reducible refine Below.drew ?_) | (with_reducible refine bl_grow ?_ (by first | (simp; done) | (simp; omega) | omega)))) (own_stay hown5 (by repeat (first | (with_reducible exact Below.refl _ _) | (with_reducible assumption) | (with_reducible refine Below.setCell ?_ (by first | (simp; done) | (simp; omega) | omega) _) | (with_reducible refine Below.alloc ?_ (by first | (simp; done) | (simp; omega) | omega) _) | (refine bl_call ?_ (by assumption) (by first | (simp; done) | (simp; omega) | omega)) | (with_reducible refine bl_drewN ?_) | (with_reducible refine Below.drew ?_) | (with_reducible refine bl_grow ?_ (by first | (simp; done) | (simp; omega) | omega))))) hgrow (by simp; omega) (Nat.le_refl _)
        rw [← cellsT_succ (fun i => ((tM (4 * (X i).toNat)).1 : Int)) (fun i => ((tM (4 * (X i).toNat)).2.1 : Int)) (fun i => (tM (4 * (X i).toNat)).2.2)] at hown'
        clear hgrow hat hown hown5
        go_wp2_with fail
        go_roundw
        case rel => exact ⟨k + 1, by omega, by simp, hown', hq13⟩
        case measure => simp [intOf]; omega
    · have hlt' : ¬ (k : Int) < n := by omega
      obtain rfl : k = n := by omega
      go_wp2_with fail
      go_ret2
      exact ⟨_, rfl, hown, by repeat (first | (with_reducible exact Below.refl _ _) | (with_reducible assumption) | (with_reducible refine Below.setCell ?_ (by first | (simp; done) | (simp; omega) | omega) _) | (with_reducible refine Below.alloc ?_ (by first | (simp; done) | (simp; omega) | omega) _) | (refine bl_call ?_ (by assumption) (by first | (simp; done) | (simp; omega) | omega)) | (with_reducible refine bl_drewN ?_) | (with_reducible refine Below.drew ?_) | (with_reducible refine bl_grow ?_ (by first | (simp; done) | (simp; omega) | omega)))⟩
set_option maxRecDepth 100000 in
set_option maxHeartbeats 4000000 in
theorem gsum_ok (sk : Option Addr) (n d : Nat) (Z : Nat → Int) (w : World) (hn : n ≤ 12) (hr : (n = 0 ∨ ∃ b o : Nat, sk = some ⟨b, o, none⟩ ∧ RowI w b o n Z)) (hok : ∀ i, i < n → secB (Z i) = true) : Calls Tryd.prog 30 #[.slice sk n d] w fun e w' => e = .returned (.int .i64 ((jsN (fun i => (Z i).toNat) n % 1013 : Nat) : Int)) ∧ Below w.heap.size w w' := by
  have HR : Hid ((n = 0 ∨ ∃ b o : Nat, sk = some ⟨b, o, none⟩ ∧ RowI w b o n Z)) := hr
  have HO : Hid (∀ i, i < n → secB (Z i) = true) := hok
  clear hr hok
  go_enter Tryd.func30, Tryd.ntmps30
  go_wp2_with fail
  go_loopw [3, 8] (fun ts ti wl => ∃ k : Nat, k ≤ n ∧ ti = .int .i64 k ∧ ts = .int .i64 ((jsN (fun i => (Z i).toNat) k % 1013 : Nat) : Int) ∧ Below w.heap.size w wl) (fun _ ti _ => n - (intOf ti).toNat)
  case atStart => exact ⟨0, by omega, rfl, rfl, by repeat (first | (with_reducible exact Below.refl _ _) | (with_reducible assumption) | (with_reducible refine Below.setCell ?_ (by first | (simp; done) | (simp; omega) | omega) _) | (with_reducible refine Below.alloc ?_ (by first | (simp; done) | (simp; omega) | omega) _) | (refine bl_call ?_ (by assumption) (by first | (simp; done) | (simp; omega) | omega)) | (with_reducible refine bl_drewN ?_) | (with_reducible refine Below.drew ?_) | (with_reducible refine bl_grow ?_ (by first | (simp; done) | (simp; omega) | omega)))⟩
  case round =>
    obtain ⟨k, hk, rfl, rfl, hqV⟩ := hrel
    rename World => wV
    have hzV := hqV.size
    by_cases hlt : k < n
    · have hlt' : (k : Int) < n := by omega
      obtain ⟨b, o, rfl, hz⟩ := HR.out.resolve_left (by omega)
      have hbV := Nat.lt_of_lt_of_le hz.1 hzV
      have c0 := (hz.below hz.1 hqV).2 k hlt
      obtain ⟨y0, y1⟩ := gsec_bd (HO.out k hlt)
      clear hz
      obtain ⟨s, hs⟩ : ∃ s : Int, ((jsN (fun i => (Z i).toNat) k % 1013 : Nat) : Int) = s := ⟨_, rfl⟩
      have E : Hid ((s + Z k) % 1013 = ((jsN (fun i => (Z i).toNat) (k + 1) % 1013 : Nat) : Int)) := by
        unfold Hid
        rw [← hs]
        show _ = (((jsN (fun i => (Z i).toNat) k + (Z k).toNat) % 1013 : Nat) : Int)
        omega
      have s0 : 0 ≤ s := by omega
      have s1 : s < 1013 := by omega
      rw [hs]
      clear hs
      go_wp2_with fail
      go_roundw
      case rel => exact ⟨k + 1, by omega, by simp, by rw [← E.out], by repeat (first | (with_reducible exact Below.refl _ _) | (with_reducible assumption) | (with_reducible refine Below.setCell ?_ (by first | (simp; done) | (simp; omega) | omega) _) | (with_reducible refine Below.alloc ?_ (by first | (simp; done) | (simp; omega) | omega) _) | (refine bl_call ?_ (by assumption) (by first | (simp; done) | (simp; omega) | omega)) | (with_reducible refine bl_drewN ?_) | (with_reducible refine Below.drew ?_) | (with_reducible refine bl_grow ?_ (by first | (simp; done) | (simp; omega) | omega)))⟩
      case measure => simp [intOf]; omega
    · have hlt' : ¬ (k : Int) < n := by omega
      obtain rfl : k = n := by omega
      go_wp2_with fail
      go_ret
      exact ⟨rfl, by repeat (first | (with_reducible exact Below.refl _ _) | (with_reducible assumption) | (with_reducible refine Below.setCell ?_ (by first | (simp; done) | (simp; omega) | omega) _) | (with_reducible refine Below.alloc ?_ (by first | (simp; done) | (simp; omega) | omega) _) | (refine bl_call ?_ (by assumption) (by first | (simp; done) | (simp; omega) | omega)) | (with_reducible refine bl_drewN ?_) | (with_reducible refine Below.drew ?_) | (with_reducible refine bl_grow ?_ (by first | (simp; done) | (simp; omega) | omega)))⟩
theorem gsx_step (x : Nat → Nat) (n k : Nat) : ((sxN x n k % 1013 : Nat) : Int) + (cfN (fun i => 4 * x i) n k : Int) * (x k : Int) = ((sxN x n k % 1013 + cfN (fun i => 4 * x i) n k * x k : Nat) : Int) := by
  rw [Int.natCast_add, Int.natCast_mul]
theorem gsx_mod (x : Nat → Nat) (n k : Nat) : (((sxN x n k % 1013 : Nat) : Int) + (cfN (fun i => 4 * x i) n k : Int) * (x k : Int)) % 1013 = ((sxN x n (k + 1) % 1013 : Nat) : Int) := by
  rw [gsx_step]
  show _ = (((sxN x n k + cfN (fun i => 4 * x i) n k * x k) % 1013 : Nat) : Int)
  omega
set_option maxRecDepth 100000 in
set_option maxHeartbeats 4000000 in
theorem gjointOf_ok (sx : Option Addr) (n d : Nat) (x K : Nat → Nat) (X : Nat → Int) (w : World) (hn : n ≤ 12) (hKx : K = fun i => 4 * x i) (hX : ∀ i, i < n → X i = (x i : Int) ∧ x i < 1013) (hr : (n = 0 ∨ ∃ b o : Nat, sx = some ⟨b, o, none⟩ ∧ RowI w b o n X)) (hk : ∀ W, Below w.heap.size w W → Calls Tryd.prog 48 #[.slice sx n d] W fun e w' => ∃ u, e = .returned (.tuple #[u, .nilIface]) ∧ w'.ownsRow W.heap.size 26 3 u n (cellsT (fun i => ((tM (K i)).1 : Int)) (fun i => ((tM (K i)).2.1 : Int)) (fun i => (tM (K i)).2.2) n) ∧ Below W.heap.size W w') (hc : ∀ W u B, W.ownsRow B 26 3 u n (cellsT (fun i => ((tM (K i)).1 : Int)) (fun i => ((tM (K i)).2.1 : Int)) (fun i => (tM (K i)).2.2) n) → Calls Tryd.prog 7 #[u] W fun e w' => ∃ v, e = .returned (.tuple #[v, .nilIface]) ∧ w'.ownsRow W.heap.size 3 1 v n (cellsI (fun i => (cfN K n i : Int)) n) ∧ Below W.heap.size W w') (hj : ∀ W u v B B', W.ownsRow B 26 3 u n (cellsT (fun i => ((tM (K i)).1 : Int)) (fun i => ((tM (K i)).2.1 : Int)) (fun i => (tM (K i)).2.2) n) → W.ownsRow B' 3 1 v n (cellsI (fun i => (cfN K n i : Int)) n) → Calls Tryd.prog 24 #[u, v] W fun e w' => e = .returned (.tuple #[.agg #[.int .i64 ((tM (jtN K n n)).1 : Int), .int .i64 ((tM (jtN K n n)).2.1 : Int), .bool (tM (jtN K n n)).2.2], .nilIface]) ∧ Below W.heap.size W w') : Calls Tryd.prog 29 #[.slice sx n d] w fun e w' => e = .returned (.tuple #[.agg #[.int .i64 ((tM (jtN K n n)).1 : Int), .int .i64 ((tM (jtN K n n)).2.1 : Int), .bool (tM (jtN K n n)).2.2], .int .i64 ((sxN x n n % 1013 : Nat) : Int), .nilIface]) ∧ Below w.heap.size w w' := by
  have HR : Hid ((n = 0 ∨ ∃ b o : Nat, sx = some ⟨b, o, none⟩ ∧ RowI w b o n X)) := hr
  have HX : Hid (∀ i, i < n → X i = (x i : Int) ∧ x i < 1013) := hX
  have HE : Hid (∀ k, ((((sxN x n k % 1013 : Nat) : Int)) + (cfN K n k : Int) * (x k : Int)) % 1013 = ((sxN x n (k + 1) % 1013 : Nat) : Int)) := fun k => by rw [hKx]; exact gsx_mod x n k
  have HKO : Hid (∀ W, Below w.heap.size w W → Calls Tryd.prog 48 #[.slice sx n d] W fun e w' => ∃ u, e = .returned (.tuple #[u, .nilIface]) ∧ w'.ownsRow W.heap.size 26 3 u n (cellsT (fun i => ((tM (K i)).1 : Int)) (fun i => ((tM (K i)).2.1 : Int)) (fun i => (tM (K i)).2.2) n) ∧ Below W.heap.size W w') := hk
  have HCO : Hid (∀ W u B, W.ownsRow B 26 3 u n (cellsT (fun i => ((tM (K i)).1 : Int)) (fun i => ((tM (K i)).2.1 : Int)) (fun i => (tM (K i)).2.2) n) → Calls Tryd.prog 7 #[u] W fun e w' => ∃ v, e = .returned (.tuple #[v, .nilIface]) ∧ w'.ownsRow W.heap.size 3 1 v n (cellsI (fun i => (cfN K n i : Int)) n) ∧ Below W.heap.size W w') := hc
  have HJD : Hid (∀ W u v B B', W.ownsRow B 26 3 u n (cellsT (fun i => ((tM (K i)).1 : Int)) (fun i => ((tM (K i)).2.1 : Int)) (fun i => (tM (K i)).2.2) n) → W.ownsRow B' 3 1 v n (cellsI (fun i => (cfN K n i : Int)) n) → Calls Tryd.prog 24 #[u, v] W fun e w' => e = .returned (.tuple #[.agg #[.int .i64 ((tM (jtN K n n)).1 : Int), .int .i64 ((tM (jtN K n n)).2.1 : Int), .bool (tM (jtN K n n)).2.2], .nilIface]) ∧ Below W.heap.size W w') := hj
  clear hr hX hk hc hj hKx
  go_enter Tryd.func29, Tryd.ntmps29
  go_wp2_with (first | (go_at_call 48; refine (HKO.out _ (by repeat (first | (with_reducible exact Below.refl _ _) | (with_reducible assumption) | (with_reducible refine Below.setCell ?_ (by first | (simp; done) | (simp; omega) | omega) _) | (with_reducible refine Below.alloc ?_ (by first | (simp; done) | (simp; omega) | omega) _) | (refine bl_call ?_ (by assumption) (by first | (simp; done) | (simp; omega) | omega)) | (with_reducible refine bl_drewN ?_) | (with_reducible refine Below.drew ?_) | (with_reducible refine bl_grow ?_ (by first | (simp; done) | (simp; omega) | omega))))).mono ?_; rintro e w1 ⟨u1, rfl, ho1, hb1⟩; have kr1 : At w1 (w.heap.size) [.int .i64 0, .int .i64 0, .bool false] := (by repeat (first | (with_reducible assumption) | ((with_reducible refine at_new' _ _ _ _ ?_); (first | rfl | (simp; done))) | (with_reducible refine At.alloc ?_ _) | (with_reducible refine At.drew ?_) | (with_reducible refine At.drewN ?_) | (with_reducible refine At.set ?_ (by omega)) | (with_reducible apply At.store4) | (with_reducible apply At.store3) | (with_reducible apply At.store2) | (with_reducible apply At.put43) | (refine At.below ?_ (by with_reducible assumption)))); have hq1 : Below w.heap.size w w1 := (by repeat (first | (with_reducible exact Below.refl _ _) | (with_reducible assumption) | (with_reducible refine Below.setCell ?_ (by first | (simp; done) | (simp; omega) | omega) _) | (with_reducible refine Below.alloc ?_ (by first | (simp; done) | (simp; omega) | omega) _) | (refine bl_call ?_ (by assumption) (by first | (simp; done) | (simp; omega) | omega)) | (with_reducible refine bl_drewN ?_) | (with_reducible refine Below.drew ?_) | (with_reducible refine bl_grow ?_ (by first | (simp; done) | (simp; omega) | omega)))); have hz1 := hq1.size; obtain ⟨zr1, cr01, cr11, cr21, fr01, fr11, fr21⟩ := kr1.three; clear hb1) | (go_at_call 7; refine (HCO.out _ _ _ ho1).mono ?_; rintro e w2 ⟨v2, rfl, ho2, hb2⟩; have kr2 : At w2 (w.heap.size) [.int .i64 0, .int .i64 0, .bool false] := (by repeat (first | (with_reducible assumption) | ((with_reducible refine at_new' _ _ _ _ ?_); (first | rfl | (simp; done))) | (with_reducible refine At.alloc ?_ _) | (with_reducible refine At.drew ?_) | (with_reducible refine At.drewN ?_) | (with_reducible refine At.set ?_ (by omega)) | (with_reducible apply At.store4) | (with_reducible apply At.store3) | (with_reducible apply At.store2) | (with_reducible apply At.put43) | (refine At.below ?_ (by with_reducible assumption)))); have hq2 : Below w.heap.size w w2 := (by repeat (first | (with_reducible exact Below.refl _ _) | (with_reducible assumption) | (with_reducible refine Below.setCell ?_ (by first | (simp; done) | (simp; omega) | omega) _) | (with_reducible refine Below.alloc ?_ (by first | (simp; done) | (simp; omega) | omega) _) | (refine bl_call ?_ (by assumption) (by first | (simp; done) | (simp; omega) | omega)) | (with_reducible refine bl_drewN ?_) | (with_reducible refine Below.drew ?_) | (with_reducible refine bl_grow ?_ (by first | (simp; done) | (simp; omega) | omega)))); have hz2 := hq2.size; have hu2 := own_stay ho1 hb2; clear kr1 cr01 fr01 cr11 fr11 cr21 fr21 hq1 ho1; obtain ⟨zr2, cr02, cr12, cr22, fr02, fr12, fr22⟩ := kr2.three; clear hb2))
  obtain ⟨sc, cc, e3, hc3⟩ := own_ints ho2
  subst e3
  have HRC : Hid (n = 0 ∨ ∃ g, sc = some ⟨g, 0, none⟩ ∧ RowI w2 g 0 n (fun i => (cfN K n i : Int))) := hc3.imp_right fun ⟨g, a, _, _, r⟩ => ⟨g, a, r⟩
  have HO2 : Hid (w2.ownsRow w1.heap.size 3 1 (.slice sc n cc) n (cellsI (fun i => (cfN K n i : Int)) n)) := ho2
  have HU2 : Hid (w2.ownsRow _ 26 3 u1 n (cellsT (fun i => ((tM (K i)).1 : Int)) (fun i => ((tM (K i)).2.1 : Int)) (fun i => (tM (K i)).2.2) n)) := hu2
  clear hc3 ho2 hu2
  go_loopw [8, 32] (fun ts ti wl => ∃ k : Nat, k ≤ n ∧ ti = .int .i64 k ∧ ts = .int .i64 ((sxN x n k % 1013 : Nat) : Int) ∧ Below w2.heap.size w2 wl) (fun _ ti _ => n - (intOf ti).toNat)
  case atStart => exact ⟨0, by omega, rfl, rfl, by repeat (first | (with_reducible exact Below.refl _ _) | (with_reducible assumption) | (with_reducible refine Below.setCell ?_ (by first | (simp; done) | (simp; omega) | omega) _) | (with_reducible refine Below.alloc ?_ (by first | (simp; done) | (simp; omega) | omega) _) | (refine bl_call ?_ (by assumption) (by first | (simp; done) | (simp; omega) | omega)) | (with_reducible refine bl_drewN ?_) | (with_reducible refine Below.drew ?_) | (with_reducible refine bl_grow ?_ (by first | (simp; done) | (simp; omega) | omega)))⟩
  case round =>
    obtain ⟨k, hk, rfl, rfl, hqV⟩ := hrel
    rename World => wV
    have hzV := hqV.size
    have krV := kr2.below hqV
    clear kr2 cr02 fr02 cr12 fr12 cr22 fr22
    obtain ⟨zrV, cr0V, cr1V, cr2V, fr0V, fr1V, fr2V⟩ := krV.three
    by_cases hlt : k < n
    · have hlt' : (k : Int) < n := by omega
      obtain ⟨b, o, rfl, hz⟩ := HR.out.resolve_left (by omega)
      obtain ⟨g, rfl, hg⟩ := HRC.out.resolve_left (by omega)
      have hbV : b < wV.heap.size := by have := hz.1; omega
      have hgV := Nat.lt_of_lt_of_le hg.1 hzV
      have c0 := (hz.below hz.1 (show Below w.heap.size w wV from bl_call hq2 hqV hz2)).2 k hlt
      have d0 := (hg.below hg.1 hqV).2 k hlt
      rw [Nat.zero_add] at d0
      obtain ⟨e0, y1⟩ := HX.out k hlt
      rw [e0] at c0
      have E := HE.out k
      have hcl := cfN_lt K n k
      dsimp only at d0
      obtain ⟨s, hs⟩ : ∃ s : Int, ((sxN x n k % 1013 : Nat) : Int) = s := ⟨_, rfl⟩
      obtain ⟨y, hy⟩ : ∃ y : Nat, x k = y := ⟨_, rfl⟩
      obtain ⟨f, hf⟩ : ∃ f : Nat, cfN K n k = f := ⟨_, rfl⟩
      have s0 : 0 ≤ s := by omega
      have s1 : s < 1013 := by omega
      rw [hs, hy, hf] at E
      rw [hy] at c0 y1
      rw [hf] at d0 hcl
      rw [hs]
      obtain ⟨q1, q0⟩ := sg_bd (k := 0) hcl y1 (by omega)
      clear hs hy hf e0 hz hg
      have E' : Hid ((s + (f : Int) * (y : Int)) % 1013 = ((sxN x n (k + 1) % 1013 : Nat) : Int)) := E
      clear E
      go_wp2_with fail
      go_roundw
      case rel => exact ⟨k + 1, by omega, by simp, by rw [← E'.out], by repeat (first | (with_reducible exact Below.refl _ _) | (with_reducible assumption) | (with_reducible refine Below.setCell ?_ (by first | (simp; done) | (simp; omega) | omega) _) | (with_reducible refine Below.alloc ?_ (by first | (simp; done) | (simp; omega) | omega) _) | (refine bl_call ?_ (by assumption) (by first | (simp; done) | (simp; omega) | omega)) | (with_reducible refine bl_drewN ?_) | (with_reducible refine Below.drew ?_) | (with_reducible refine bl_grow ?_ (by first | (simp; done) | (simp; omega) | omega)))⟩
      case measure => simp [intOf]; omega
    · have hlt' : ¬ (k : Int) < n := by omega
      obtain rfl : k = n := by omega
      have hqw : Below w.heap.size w wV := bl_call hq2 hqV hz2
      have HJ := HJD.out wV _ _ _ _ (own_stay HU2.out hqV) (own_stay HO2.out hqV)
      clear hqV hq2
      go_wp2_with (go_at_call 24; refine HJ.mono ?_; rintro e w3 ⟨rfl, hb3⟩; have kr3 : At w3 (w.heap.size) [.int .i64 0, .int .i64 0, .bool false] := (by repeat (first | (with_reducible assumption) | ((with_reducible refine at_new' _ _ _ _ ?_); (first | rfl | (simp; done))) | (with_reducible refine At.alloc ?_ _) | (with_reducible refine At.drew ?_) | (with_reducible refine At.drewN ?_) | (with_reducible refine At.set ?_ (by omega)) | (with_reducible apply At.store4) | (with_reducible apply At.store3) | (with_reducible apply At.store2) | (with_reducible apply At.put43) | (refine At.below ?_ (by with_reducible assumption)))); have hq3 : Below w.heap.size w w3 := (by repeat (first | (with_reducible exact Below.refl _ _) | (with_reducible assumption) | (with_reducible refine Below.setCell ?_ (by first | (simp; done) | (simp; omega) | omega) _) | (with_reducible refine Below.alloc ?_ (by first | (simp; done) | (simp; omega) | omega) _) | (refine bl_call ?_ (by assumption) (by first | (simp; done) | (simp; omega) | omega)) | (with_reducible refine bl_drewN ?_) | (with_reducible refine Below.drew ?_) | (with_reducible refine bl_grow ?_ (by first | (simp; done) | (simp; omega) | omega)))); have hz3 := hq3.size; obtain ⟨zr3, cr03, cr13, cr23, fr03, fr13, fr23⟩ := kr3.three; clear hb3)
      exact bodyPost_ret (v := .tuple #[.agg #[.int .i64 ((tM (jtN K k k)).1 : Int), .int .i64 ((tM (jtN K k k)).2.1 : Int), .bool (tM (jtN K k k)).2.2], .int .i64 ((sxN x k k % 1013 : Nat) : Int), .nilIface]) (by simp [results, Tryd.results29, go_sem, *]) rfl ⟨rfl, by repeat (first | (with_reducible exact Below.refl _ _) | (with_reducible assumption) | (with_reducible refine Below.setCell ?_ (by first | (simp; done) | (simp; omega) | omega) _) | (with_reducible refine Below.alloc ?_ (by first | (simp; done) | (simp; omega) | omega) _) | (refine bl_call ?_ (by assumption) (by first | (simp; done) | (simp; omega) | omega)) | (with_reducible refine bl_drewN ?_) | (with_reducible refine Below.drew ?_) | (with_reducible refine bl_grow ?_ (by first | (simp; done) | (simp; omega) | omega)))⟩
set_option maxRecDepth 100000 in
set_option maxHeartbeats 4000000 in
theorem gchk_many (sx sk : Option Addr) (n d m c : Nat) (t : ByteArray) (w : World) (h : 12 < n) : Calls Tryd.prog 28 #[.slice sx n d, .slice sk m c, .string t] w fun e w' => e = .returned (errOf 4) ∧ Below w.heap.size w w' := by
  have h' : (n : Int) > 12 := by omega
  go_enter Tryd.func28, Tryd.ntmps28
  go_wp2_with fail
  go_ret
  exact ⟨rfl, by repeat (first | (with_reducible exact Below.refl _ _) | (with_reducible assumption) | (with_reducible refine Below.setCell ?_ (by first | (simp; done) | (simp; omega) | omega) _) | (with_reducible refine Below.alloc ?_ (by first | (simp; done) | (simp; omega) | omega) _) | (refine bl_call ?_ (by assumption) (by first | (simp; done) | (simp; omega) | omega)) | (with_reducible refine bl_drewN ?_) | (with_reducible refine Below.drew ?_) | (with_reducible refine bl_grow ?_ (by first | (simp; done) | (simp; omega) | omega)))⟩
set_option maxRecDepth 100000 in
set_option maxHeartbeats 4000000 in
theorem gchk_odd (sx sk : Option Addr) (n d m c : Nat) (t : ByteArray) (w : World) (hn : n ≤ 12) (h : n ≠ m) : Calls Tryd.prog 28 #[.slice sx n d, .slice sk m c, .string t] w fun e w' => e = .returned (errOf 3) ∧ Below w.heap.size w w' := by
  have h' : ¬ (n : Int) > 12 := by omega
  have h2 : ((m : Int) != (n : Int)) = true := by rw [bne_iff_ne]; omega
  go_enter Tryd.func28, Tryd.ntmps28
  go_wp2_with fail
  go_ret
  exact ⟨rfl, by repeat (first | (with_reducible exact Below.refl _ _) | (with_reducible assumption) | (with_reducible refine Below.setCell ?_ (by first | (simp; done) | (simp; omega) | omega) _) | (with_reducible refine Below.alloc ?_ (by first | (simp; done) | (simp; omega) | omega) _) | (refine bl_call ?_ (by assumption) (by first | (simp; done) | (simp; omega) | omega)) | (with_reducible refine bl_drewN ?_) | (with_reducible refine Below.drew ?_) | (with_reducible refine bl_grow ?_ (by first | (simp; done) | (simp; omega) | omega)))⟩
set_option maxRecDepth 100000 in
set_option maxHeartbeats 4000000 in
theorem gchk_row (sx sk : Option Addr) (n d c j : Nat) (X Z : Nat → Int) (t : ByteArray) (w : World) (v : Value) (hn : n ≤ 12) (hx : (n = 0 ∨ ∃ b o : Nat, sx = some ⟨b, o, none⟩ ∧ RowI w b o n X)) (hz : (n = 0 ∨ ∃ b o : Nat, sk = some ⟨b, o, none⟩ ∧ RowI w b o n Z)) (hj : j ≤ n) (hok : ∀ i, i < j → (secB (X i) && secB (Z i)) = true) (ht : t.size ≤ 9223372036854775807)
    (hv : (j < n ∧ (secB (X j) && secB (Z j)) = false ∧ v = errOf 1) ∨ (j = n ∧ 60 < t.size ∧ v = errOf 4) ∨ (j = n ∧ t.size ≤ 60 ∧ v = .nilIface)) : Calls Tryd.prog 28 #[.slice sx n d, .slice sk n c, .string t] w fun e w' => e = .returned (v) ∧ Below w.heap.size w w' := by
  have HX : Hid ((n = 0 ∨ ∃ b o : Nat, sx = some ⟨b, o, none⟩ ∧ RowI w b o n X)) := hx
  have HZ : Hid ((n = 0 ∨ ∃ b o : Nat, sk = some ⟨b, o, none⟩ ∧ RowI w b o n Z)) := hz
  have HO : Hid (∀ i, i < j → (secB (X i) && secB (Z i)) = true) := hok
  have HV : Hid ((j < n ∧ (secB (X j) && secB (Z j)) = false ∧ v = errOf 1) ∨ (j = n ∧ 60 < t.size ∧ v = errOf 4) ∨ (j = n ∧ t.size ≤ 60 ∧ v = .nilIface)) := hv
  have h' : ¬ (n : Int) > 12 := by omega
  have h2 : ((n : Int) != (n : Int)) = false := by simp
  clear hx hz hok hv
  go_enter Tryd.func28, Tryd.ntmps28
  go_wp2_with fail
  go_loopw [21] (fun ti wl => ∃ k : Nat, k ≤ j ∧ ti = .int .i64 k ∧ Below w.heap.size w wl) (fun ti _ => n - (intOf ti).toNat)
  case atStart => exact ⟨0, by omega, rfl, by repeat (first | (with_reducible exact Below.refl _ _) | (with_reducible assumption) | (with_reducible refine Below.setCell ?_ (by first | (simp; done) | (simp; omega) | omega) _) | (with_reducible refine Below.alloc ?_ (by first | (simp; done) | (simp; omega) | omega) _) | (refine bl_call ?_ (by assumption) (by first | (simp; done) | (simp; omega) | omega)) | (with_reducible refine bl_drewN ?_) | (with_reducible refine Below.drew ?_) | (with_reducible refine bl_grow ?_ (by first | (simp; done) | (simp; omega) | omega)))⟩
  case round =>
    obtain ⟨k, hk, rfl, hqV⟩ := hrel
    rename World => wV
    have hzV := hqV.size
    by_cases hlt : k < n
    · have hlt' : (k : Int) < n := by omega
      obtain ⟨b, o, rfl, hz⟩ := HX.out.resolve_left (by omega)
      obtain ⟨g, q, rfl, hg⟩ := HZ.out.resolve_left (by omega)
      have hbV := Nat.lt_of_lt_of_le hz.1 hzV
      have hgV := Nat.lt_of_lt_of_le hg.1 hzV
      have c0 := (hz.below hz.1 hqV).2 k hlt
      have d0 := (hg.below hg.1 hqV).2 k hlt
      clear hz hg
      by_cases hkj : k < j
      · have hgood := HO.out k hkj
        rw [Bool.and_eq_true] at hgood
        have H1 : Hid (∀ w, Calls Tryd.prog 47 #[.int .i64 (X k)] w fun e w' => e = .returned (.bool true) ∧ w' = w) := gissec hgood.1
        have H2 : Hid (∀ w, Calls Tryd.prog 47 #[.int .i64 (Z k)] w fun e w' => e = .returned (.bool true) ∧ w' = w) := gissec hgood.2
        clear hgood
        go_wp2_with (first | (go_at_call 47; refine (H1.out _).mono ?_; rintro e v1 ⟨rfl, hv1⟩; subst v1) | (go_at_call 47; refine (H2.out _).mono ?_; rintro e v1 ⟨rfl, hv1⟩; subst v1))
        go_roundw
        case rel => exact ⟨k + 1, by omega, by simp, by repeat (first | (with_reducible exact Below.refl _ _) | (with_reducible assumption) | (with_reducible refine Below.setCell ?_ (by first | (simp; done) | (simp; omega) | omega) _) | (with_reducible refine Below.alloc ?_ (by first | (simp; done) | (simp; omega) | omega) _) | (refine bl_call ?_ (by assumption) (by first | (simp; done) | (simp; omega) | omega)) | (with_reducible refine bl_drewN ?_) | (with_reducible refine Below.drew ?_) | (with_reducible refine bl_grow ?_ (by first | (simp; done) | (simp; omega) | omega)))⟩
        case measure => simp [intOf]; omega
      · obtain rfl : k = j := by omega
        have hbad : (secB (X k) && secB (Z k)) = false ∧ v = errOf 1 := by
          rcases HV.out with h | h | h
          · exact h.2
          · exact absurd h.1 (by omega)
          · exact absurd h.1 (by omega)
        obtain ⟨hbad, rfl⟩ := hbad
        cases hxk : secB (X k) with
        | false =>
          have H1 : Hid (∀ w, Calls Tryd.prog 47 #[.int .i64 (X k)] w fun e w' => e = .returned (.bool false) ∧ w' = w) := gissec hxk
          clear hxk hbad
          go_wp2_with (go_at_call 47; refine (H1.out _).mono ?_; rintro e v1 ⟨rfl, hv1⟩; subst v1)
          go_ret
          exact ⟨rfl, by repeat (first | (with_reducible exact Below.refl _ _) | (with_reducible assumption) | (with_reducible refine Below.setCell ?_ (by first | (simp; done) | (simp; omega) | omega) _) | (with_reducible refine Below.alloc ?_ (by first | (simp; done) | (simp; omega) | omega) _) | (refine bl_call ?_ (by assumption) (by first | (simp; done) | (simp; omega) | omega)) | (with_reducible refine bl_drewN ?_) | (with_reducible refine Below.drew ?_) | (with_reducible refine bl_grow ?_ (by first | (simp; done) | (simp; omega) | omega)))⟩
        | true =>
          rw [hxk, Bool.true_and] at hbad
          have H1 : Hid (∀ w, Calls Tryd.prog 47 #[.int .i64 (X k)] w fun e w' => e = .returned (.bool true) ∧ w' = w) := gissec hxk
          have H2 : Hid (∀ w, Calls Tryd.prog 47 #[.int .i64 (Z k)] w fun e w' => e = .returned (.bool false) ∧ w' = w) := gissec hbad
          clear hxk hbad
          go_wp2_with (first | (go_at_call 47; refine (H1.out _).mono ?_; rintro e v1 ⟨rfl, hv1⟩; subst v1) | (go_at_call 47; refine (H2.out _).mono ?_; rintro e v1 ⟨rfl, hv1⟩; subst v1))
          go_ret
          exact ⟨rfl, by repeat (first | (with_reducible exact Below.refl _ _) | (with_reducible assumption) | (with_reducible refine Below.setCell ?_ (by first | (simp; done) | (simp; omega) | omega) _) | (with_reducible refine Below.alloc ?_ (by first | (simp; done) | (simp; omega) | omega) _) | (refine bl_call ?_ (by assumption) (by first | (simp; done) | (simp; omega) | omega)) | (with_reducible refine bl_drewN ?_) | (with_reducible refine Below.drew ?_) | (with_reducible refine bl_grow ?_ (by first | (simp; done) | (simp; omega) | omega)))⟩
    · have hlt' : ¬ (k : Int) < n := by omega
      rcases HV.out with h | ⟨_, h, rfl⟩ | ⟨_, h, rfl⟩
      · exact absurd h.1 (by omega)
      · have h3 : (t.size : Int) > 60 := by omega
        go_wp2_with fail
        go_ret
        exact ⟨rfl, by repeat (first | (with_reducible exact Below.refl _ _) | (with_reducible assumption) | (with_reducible refine Below.setCell ?_ (by first | (simp; done) | (simp; omega) | omega) _) | (with_reducible refine Below.alloc ?_ (by first | (simp; done) | (simp; omega) | omega) _) | (refine bl_call ?_ (by assumption) (by first | (simp; done) | (simp; omega) | omega)) | (with_reducible refine bl_drewN ?_) | (with_reducible refine Below.drew ?_) | (with_reducible refine bl_grow ?_ (by first | (simp; done) | (simp; omega) | omega)))⟩
      · have h3 : ¬ (t.size : Int) > 60 := by omega
        go_wp2_with fail
        go_ret
        exact ⟨rfl, by repeat (first | (with_reducible exact Below.refl _ _) | (with_reducible assumption) | (with_reducible refine Below.setCell ?_ (by first | (simp; done) | (simp; omega) | omega) _) | (with_reducible refine Below.alloc ?_ (by first | (simp; done) | (simp; omega) | omega) _) | (refine bl_call ?_ (by assumption) (by first | (simp; done) | (simp; omega) | omega)) | (with_reducible refine bl_drewN ?_) | (with_reducible refine Below.drew ?_) | (with_reducible refine bl_grow ?_ (by first | (simp; done) | (simp; omega) | omega)))⟩
set_option maxRecDepth 100000 in
set_option maxHeartbeats 4000000 in
theorem gsign_err (sx sk : Option Addr) (n d m c : Nat) (t : ByteArray) (e0 : Int) (w : World) (h : ∀ W, Below w.heap.size w W → Calls Tryd.prog 28 #[.slice sx n d, .slice sk m c, .string t] W fun e w' => e = .returned (errOf e0) ∧ Below W.heap.size W w') : Calls Tryd.prog 13 #[.slice sx n d, .slice sk m c, .string t] w fun e w' => e = .returned (.tuple #[.agg #[.int .i64 0, .int .i64 0, .bool false, .int .i64 0], errOf e0]) ∧ Below w.heap.size w w' := by
  have H : Hid (∀ W, Below w.heap.size w W → Calls Tryd.prog 28 #[.slice sx n d, .slice sk m c, .string t] W fun e w' => e = .returned (errOf e0) ∧ Below W.heap.size W w') := h
  clear h
  have m1 : True := trivial
  go_enter Tryd.func13, Tryd.ntmps13
  go_wp2_with (go_at_call 28; clear m1; refine (H.out _ (by repeat (first | (with_reducible exact Below.refl _ _) | (with_reducible assumption) | (with_reducible refine Below.setCell ?_ (by first | (simp; done) | (simp; omega) | omega) _) | (with_reducible refine Below.alloc ?_ (by first | (simp; done) | (simp; omega) | omega) _) | (refine bl_call ?_ (by assumption) (by first | (simp; done) | (simp; omega) | omega)) | (with_reducible refine bl_drewN ?_) | (with_reducible refine Below.drew ?_) | (with_reducible refine bl_grow ?_ (by first | (simp; done) | (simp; omega) | omega))))).mono ?_; rintro e w1 ⟨rfl, hbw1⟩; have krw1 : At w1 (w.heap.size) [.int .i64 0, .int .i64 0, .bool false, .int .i64 0] := (by repeat (first | (with_reducible assumption) | ((with_reducible refine at_new' _ _ _ _ ?_); (first | rfl | (simp; done))) | (with_reducible refine At.alloc ?_ _) | (with_reducible refine At.drew ?_) | (with_reducible refine At.drewN ?_) | (with_reducible refine At.set ?_ (by omega)) | (with_reducible apply At.store4) | (with_reducible apply At.store3) | (with_reducible apply At.store2) | (with_reducible apply At.put43) | (refine At.below ?_ (by with_reducible assumption)))); have hqw1 : Below w.heap.size w w1 := (by repeat (first | (with_reducible exact Below.refl _ _) | (with_reducible assumption) | (with_reducible refine Below.setCell ?_ (by first | (simp; done) | (simp; omega) | omega) _) | (with_reducible refine Below.alloc ?_ (by first | (simp; done) | (simp; omega) | omega) _) | (refine bl_call ?_ (by assumption) (by first | (simp; done) | (simp; omega) | omega)) | (with_reducible refine bl_drewN ?_) | (with_reducible refine Below.drew ?_) | (with_reducible refine bl_grow ?_ (by first | (simp; done) | (simp; omega) | omega)))); have hzw1 := hqw1.size; obtain ⟨zrw1, cr0w1, cr1w1, cr2w1, cr3w1, fr0w1, fr1w1, fr2w1, fr3w1⟩ := krw1.four; clear hbw1)
  exact bodyPost_ret (v := .tuple #[.agg #[.int .i64 0, .int .i64 0, .bool false, .int .i64 0], errOf e0]) (by simp [results, Tryd.results13, go_sem, *]) rfl ⟨rfl, by repeat (first | (with_reducible exact Below.refl _ _) | (with_reducible assumption) | (with_reducible refine Below.setCell ?_ (by first | (simp; done) | (simp; omega) | omega) _) | (with_reducible refine Below.alloc ?_ (by first | (simp; done) | (simp; omega) | omega) _) | (refine bl_call ?_ (by assumption) (by first | (simp; done) | (simp; omega) | omega)) | (with_reducible refine bl_drewN ?_) | (with_reducible refine Below.drew ?_) | (with_reducible refine bl_grow ?_ (by first | (simp; done) | (simp; omega) | omega)))⟩
set_option maxRecDepth 100000 in
set_option maxHeartbeats 4000000 in
theorem gsign_ok (sx sk : Option Addr) (n d c J S x k a g : Nat) (t : ByteArray) (w : World) (h : ∀ W, Below w.heap.size w W → Calls Tryd.prog 28 #[.slice sx n d, .slice sk n c, .string t] W fun e w' => e = .returned (.nilIface) ∧ Below W.heap.size W w') (hj : ∀ W, Below w.heap.size w W → Calls Tryd.prog 29 #[.slice sx n d] W fun e w' => e = .returned (.tuple #[.agg #[.int .i64 ((tM J).1 : Int), .int .i64 ((tM J).2.1 : Int), .bool (tM J).2.2], .int .i64 (x : Int), .nilIface]) ∧ Below W.heap.size W w') (hs : ∀ W, Below w.heap.size w W → Calls Tryd.prog 30 #[.slice sk n c] W fun e w' => e = .returned (.int .i64 (k : Int)) ∧ Below W.heap.size W w') (he : tM (4 * em (k : Int)) = tM (4 * S)) (ha : ∀ w, Calls Tryd.prog 33 #[.agg #[.int .i64 ((tM (4 * S)).1 : Int), .int .i64 ((tM (4 * S)).2.1 : Int), .bool (tM (4 * S)).2.2], .agg #[.int .i64 ((tM J).1 : Int), .int .i64 ((tM J).2.1 : Int), .bool (tM J).2.2], .string t] w fun e w' => e = .returned (.tuple #[.int .i64 (a : Int), .nilIface]) ∧ Below w.heap.size w w') (k1 : k < 1013) (a1 : a < 1013) (x1 : x < 1013) (hg : ((k : Int) + (a : Int) * (x : Int)) % 1013 = (g : Int)) :
    Calls Tryd.prog 13 #[.slice sx n d, .slice sk n c, .string t] w fun e w' => e = .returned (.tuple #[.agg #[.int .i64 ((tM (4 * S)).1 : Int), .int .i64 ((tM (4 * S)).2.1 : Int), .bool (tM (4 * S)).2.2, .int .i64 (g : Int)], .nilIface]) ∧ Below w.heap.size w w' := by
  have H : Hid (∀ W, Below w.heap.size w W → Calls Tryd.prog 28 #[.slice sx n d, .slice sk n c, .string t] W fun e w' => e = .returned (.nilIface) ∧ Below W.heap.size W w') := h
  have HJ : Hid (∀ W, Below w.heap.size w W → Calls Tryd.prog 29 #[.slice sx n d] W fun e w' => e = .returned (.tuple #[.agg #[.int .i64 ((tM J).1 : Int), .int .i64 ((tM J).2.1 : Int), .bool (tM J).2.2], .int .i64 (x : Int), .nilIface]) ∧ Below W.heap.size W w') := hj
  have HS : Hid (∀ W, Below w.heap.size w W → Calls Tryd.prog 30 #[.slice sk n c] W fun e w' => e = .returned (.int .i64 (k : Int)) ∧ Below W.heap.size W w') := hs
  have HA : Hid (∀ w, Calls Tryd.prog 33 #[.agg #[.int .i64 ((tM (4 * S)).1 : Int), .int .i64 ((tM (4 * S)).2.1 : Int), .bool (tM (4 * S)).2.2], .agg #[.int .i64 ((tM J).1 : Int), .int .i64 ((tM J).2.1 : Int), .bool (tM J).2.2], .string t] w fun e w' => e = .returned (.tuple #[.int .i64 (a : Int), .nilIface]) ∧ Below w.heap.size w w') := ha
  have E : Hid (tM (4 * em (k : Int)) = tM (4 * S)) := he
  obtain ⟨b1, b2⟩ := sg_bd (k := 0) a1 x1 (by omega)
  clear h hj hs ha he
  have m1 : True := trivial; have m2 : True := trivial; have m3 : True := trivial; have m4 : True := trivial; have m5 : True := trivial; have m6 : True := trivial
  go_enter Tryd.func13, Tryd.ntmps13
  go_wp2_with (first | (go_at_call 28; clear m1; refine (H.out _ (by repeat (first | (with_reducible exact Below.refl _ _) | (with_reducible assumption) | (with_reducible refine Below.setCell ?_ (by first | (simp; done) | (simp; omega) | omega) _) | (with_reducible refine Below.alloc ?_ (by first | (simp; done) | (simp; omega) | omega) _) | (refine bl_call ?_ (by assumption) (by first | (simp; done) | (simp; omega) | omega)) | (with_reducible refine bl_drewN ?_) | (with_reducible refine Below.drew ?_) | (with_reducible refine bl_grow ?_ (by first | (simp; done) | (simp; omega) | omega))))).mono ?_; rintro e w1 ⟨rfl, hbw1⟩; have krw1 : At w1 (w.heap.size) [.int .i64 0, .int .i64 0, .bool false, .int .i64 0] := (by repeat (first | (with_reducible assumption) | ((with_reducible refine at_new' _ _ _ _ ?_); (first | rfl | (simp; done))) | (with_reducible refine At.alloc ?_ _) | (with_reducible refine At.drew ?_) | (with_reducible refine At.drewN ?_) | (with_reducible refine At.set ?_ (by omega)) | (with_reducible apply At.store4) | (with_reducible apply At.store3) | (with_reducible apply At.store2) | (with_reducible apply At.put43) | (refine At.below ?_ (by with_reducible assumption)))); have hqw1 : Below w.heap.size w w1 := (by repeat (first | (with_reducible exact Below.refl _ _) | (with_reducible assumption) | (with_reducible refine Below.setCell ?_ (by first | (simp; done) | (simp; omega) | omega) _) | (with_reducible refine Below.alloc ?_ (by first | (simp; done) | (simp; omega) | omega) _) | (refine bl_call ?_ (by assumption) (by first | (simp; done) | (simp; omega) | omega)) | (with_reducible refine bl_drewN ?_) | (with_reducible refine Below.drew ?_) | (with_reducible refine bl_grow ?_ (by first | (simp; done) | (simp; omega) | omega)))); have hzw1 := hqw1.size; obtain ⟨zrw1, cr0w1, cr1w1, cr2w1, cr3w1, fr0w1, fr1w1, fr2w1, fr3w1⟩ := krw1.four; clear hbw1) | (go_at_call 29; clear m2; refine (HJ.out _ (by repeat (first | (with_reducible exact Below.refl _ _) | (with_reducible assumption) | (with_reducible refine Below.setCell ?_ (by first | (simp; done) | (simp; omega) | omega) _) | (with_reducible refine Below.alloc ?_ (by first | (simp; done) | (simp; omega) | omega) _) | (refine bl_call ?_ (by assumption) (by first | (simp; done) | (simp; omega) | omega)) | (with_reducible refine bl_drewN ?_) | (with_reducible refine Below.drew ?_) | (with_reducible refine bl_grow ?_ (by first | (simp; done) | (simp; omega) | omega))))).mono ?_; rintro e w2 ⟨rfl, hbw2⟩; have krw2 : At w2 (w.heap.size) [.int .i64 0, .int .i64 0, .bool false, .int .i64 0] := (by repeat (first | (with_reducible assumption) | ((with_reducible refine at_new' _ _ _ _ ?_); (first | rfl | (simp; done))) | (with_reducible refine At.alloc ?_ _) | (with_reducible refine At.drew ?_) | (with_reducible refine At.drewN ?_) | (with_reducible refine At.set ?_ (by omega)) | (with_reducible apply At.store4) | (with_reducible apply At.store3) | (with_reducible apply At.store2) | (with_reducible apply At.put43) | (refine At.below ?_ (by with_reducible assumption)))); have hqw2 : Below w.heap.size w w2 := (by repeat (first | (with_reducible exact Below.refl _ _) | (with_reducible assumption) | (with_reducible refine Below.setCell ?_ (by first | (simp; done) | (simp; omega) | omega) _) | (with_reducible refine Below.alloc ?_ (by first | (simp; done) | (simp; omega) | omega) _) | (refine bl_call ?_ (by assumption) (by first | (simp; done) | (simp; omega) | omega)) | (with_reducible refine bl_drewN ?_) | (with_reducible refine Below.drew ?_) | (with_reducible refine bl_grow ?_ (by first | (simp; done) | (simp; omega) | omega)))); have hzw2 := hqw2.size; obtain ⟨zrw2, cr0w2, cr1w2, cr2w2, cr3w2, fr0w2, fr1w2, fr2w2, fr3w2⟩ := krw2.four; clear krw1 cr0w1 fr0w1 cr1w1 fr1w1 cr2w1 fr2w1 cr3w1 fr3w1 hqw1; clear hbw2) | (go_at_call 30; clear m3; refine (HS.out _ (by repeat (first | (with_reducible exact Below.refl _ _) | (with_reducible assumption) | (with_reducible refine Below.setCell ?_ (by first | (simp; done) | (simp; omega) | omega) _) | (with_reducible refine Below.alloc ?_ (by first | (simp; done) | (simp; omega) | omega) _) | (refine bl_call ?_ (by assumption) (by first | (simp; done) | (simp; omega) | omega)) | (with_reducible refine bl_drewN ?_) | (with_reducible refine Below.drew ?_) | (with_reducible refine bl_grow ?_ (by first | (simp; done) | (simp; omega) | omega))))).mono ?_; rintro e w3 ⟨rfl, hbw3⟩; have krw3 : At w3 (w.heap.size) [.int .i64 0, .int .i64 0, .bool false, .int .i64 0] := (by repeat (first | (with_reducible assumption) | ((with_reducible refine at_new' _ _ _ _ ?_); (first | rfl | (simp; done))) | (with_reducible refine At.alloc ?_ _) | (with_reducible refine At.drew ?_) | (with_reducible refine At.drewN ?_) | (with_reducible refine At.set ?_ (by omega)) | (with_reducible apply At.store4) | (with_reducible apply At.store3) | (with_reducible apply At.store2) | (with_reducible apply At.put43) | (refine At.below ?_ (by with_reducible assumption)))); have kjw3 : At w3 (w2.heap.size) [.int .i64 ((tM J).1 : Int), .int .i64 ((tM J).2.1 : Int), .bool (tM J).2.2] := (by repeat (first | (with_reducible assumption) | ((with_reducible refine at_new' _ _ _ _ ?_); (first | rfl | (simp; done))) | (with_reducible refine At.alloc ?_ _) | (with_reducible refine At.drew ?_) | (with_reducible refine At.drewN ?_) | (with_reducible refine At.set ?_ (by omega)) | (with_reducible apply At.store4) | (with_reducible apply At.store3) | (with_reducible apply At.store2) | (with_reducible apply At.put43) | (refine At.below ?_ (by with_reducible assumption)))); have hqw3 : Below w.heap.size w w3 := (by repeat (first | (with_reducible exact Below.refl _ _) | (with_reducible assumption) | (with_reducible refine Below.setCell ?_ (by first | (simp; done) | (simp; omega) | omega) _) | (with_reducible refine Below.alloc ?_ (by first | (simp; done) | (simp; omega) | omega) _) | (refine bl_call ?_ (by assumption) (by first | (simp; done) | (simp; omega) | omega)) | (with_reducible refine bl_drewN ?_) | (with_reducible refine Below.drew ?_) | (with_reducible refine bl_grow ?_ (by first | (simp; done) | (simp; omega) | omega)))); have hzw3 := hqw3.size; obtain ⟨zrw3, cr0w3, cr1w3, cr2w3, cr3w3, fr0w3, fr1w3, fr2w3, fr3w3⟩ := krw3.four; obtain ⟨zjw3, cj0w3, cj1w3, cj2w3, fj0w3, fj1w3, fj2w3⟩ := kjw3.three; clear krw2 cr0w2 fr0w2 cr1w2 fr1w2 cr2w2 fr2w2 cr3w2 fr3w2 hqw2; clear hbw3) | (go_at_call 32; clear m4; refine (base_is _).mono ?_; rintro e w4 ⟨rfl, hbw4⟩; have krw4 : At w4 (w.heap.size) [.int .i64 0, .int .i64 0, .bool false, .int .i64 0] := (by repeat (first | (with_reducible assumption) | ((with_reducible refine at_new' _ _ _ _ ?_); (first | rfl | (simp; done))) | (with_reducible refine At.alloc ?_ _) | (with_reducible refine At.drew ?_) | (with_reducible refine At.drewN ?_) | (with_reducible refine At.set ?_ (by omega)) | (with_reducible apply At.store4) | (with_reducible apply At.store3) | (with_reducible apply At.store2) | (with_reducible apply At.put43) | (refine At.below ?_ (by with_reducible assumption)))); have kjw4 : At w4 (w2.heap.size) [.int .i64 ((tM J).1 : Int), .int .i64 ((tM J).2.1 : Int), .bool (tM J).2.2] := (by repeat (first | (with_reducible assumption) | ((with_reducible refine at_new' _ _ _ _ ?_); (first | rfl | (simp; done))) | (with_reducible refine At.alloc ?_ _) | (with_reducible refine At.drew ?_) | (with_reducible refine At.drewN ?_) | (with_reducible refine At.set ?_ (by omega)) | (with_reducible apply At.store4) | (with_reducible apply At.store3) | (with_reducible apply At.store2) | (with_reducible apply At.put43) | (refine At.below ?_ (by with_reducible assumption)))); have hqw4 : Below w.heap.size w w4 := (by repeat (first | (with_reducible exact Below.refl _ _) | (with_reducible assumption) | (with_reducible refine Below.setCell ?_ (by first | (simp; done) | (simp; omega) | omega) _) | (with_reducible refine Below.alloc ?_ (by first | (simp; done) | (simp; omega) | omega) _) | (refine bl_call ?_ (by assumption) (by first | (simp; done) | (simp; omega) | omega)) | (with_reducible refine bl_drewN ?_) | (with_reducible refine Below.drew ?_) | (with_reducible refine bl_grow ?_ (by first | (simp; done) | (simp; omega) | omega)))); have hzw4 := hqw4.size; obtain ⟨zrw4, cr0w4, cr1w4, cr2w4, cr3w4, fr0w4, fr1w4, fr2w4, fr3w4⟩ := krw4.four; obtain ⟨zjw4, cj0w4, cj1w4, cj2w4, fj0w4, fj1w4, fj2w4⟩ := kjw4.three; clear krw3 cr0w3 fr0w3 cr1w3 fr1w3 cr2w3 fr2w3 cr3w3 fr3w3 kjw3 cj0w3 fj0w3 cj1w3 fj1w3 cj2w3 fj2w3 hqw3; clear hbw4) | (go_at_call 31; clear m5; refine (times_eq E.out _).mono ?_; rintro e w5 ⟨rfl, hbw5⟩; have krw5 : At w5 (w.heap.size) [.int .i64 0, .int .i64 0, .bool false, .int .i64 0] := (by repeat (first | (with_reducible assumption) | ((with_reducible refine at_new' _ _ _ _ ?_); (first | rfl | (simp; done))) | (with_reducible refine At.alloc ?_ _) | (with_reducible refine At.drew ?_) | (with_reducible refine At.drewN ?_) | (with_reducible refine At.set ?_ (by omega)) | (with_reducible apply At.store4) | (with_reducible apply At.store3) | (with_reducible apply At.store2) | (with_reducible apply At.put43) | (refine At.below ?_ (by with_reducible assumption)))); have kjw5 : At w5 (w2.heap.size) [.int .i64 ((tM J).1 : Int), .int .i64 ((tM J).2.1 : Int), .bool (tM J).2.2] := (by repeat (first | (with_reducible assumption) | ((with_reducible refine at_new' _ _ _ _ ?_); (first | rfl | (simp; done))) | (with_reducible refine At.alloc ?_ _) | (with_reducible refine At.drew ?_) | (with_reducible refine At.drewN ?_) | (with_reducible refine At.set ?_ (by omega)) | (with_reducible apply At.store4) | (with_reducible apply At.store3) | (with_reducible apply At.store2) | (with_reducible apply At.put43) | (refine At.below ?_ (by with_reducible assumption)))); have hqw5 : Below w.heap.size w w5 := (by repeat (first | (with_reducible exact Below.refl _ _) | (with_reducible assumption) | (with_reducible refine Below.setCell ?_ (by first | (simp; done) | (simp; omega) | omega) _) | (with_reducible refine Below.alloc ?_ (by first | (simp; done) | (simp; omega) | omega) _) | (refine bl_call ?_ (by assumption) (by first | (simp; done) | (simp; omega) | omega)) | (with_reducible refine bl_drewN ?_) | (with_reducible refine Below.drew ?_) | (with_reducible refine bl_grow ?_ (by first | (simp; done) | (simp; omega) | omega)))); have hzw5 := hqw5.size; obtain ⟨zrw5, cr0w5, cr1w5, cr2w5, cr3w5, fr0w5, fr1w5, fr2w5, fr3w5⟩ := krw5.four; obtain ⟨zjw5, cj0w5, cj1w5, cj2w5, fj0w5, fj1w5, fj2w5⟩ := kjw5.three; clear krw4 cr0w4 fr0w4 cr1w4 fr1w4 cr2w4 fr2w4 cr3w4 fr3w4 kjw4 cj0w4 fj0w4 cj1w4 fj1w4 cj2w4 fj2w4 hqw4; clear hbw5) | (go_at_call 33; clear m6; refine (HA.out _).mono ?_; rintro e w6 ⟨rfl, hbw6⟩; have krw6 : At w6 (w.heap.size) [.int .i64 0, .int .i64 0, .bool false, .int .i64 0] := (by repeat (first | (with_reducible assumption) | ((with_reducible refine at_new' _ _ _ _ ?_); (first | rfl | (simp; done))) | (with_reducible refine At.alloc ?_ _) | (with_reducible refine At.drew ?_) | (with_reducible refine At.drewN ?_) | (with_reducible refine At.set ?_ (by omega)) | (with_reducible apply At.store4) | (with_reducible apply At.store3) | (with_reducible apply At.store2) | (with_reducible apply At.put43) | (refine At.below ?_ (by with_reducible assumption)))); have kpw6 : At w6 (w5.heap.size) [.int .i64 ((tM (4 * S)).1 : Int), .int .i64 ((tM (4 * S)).2.1 : Int), .bool (tM (4 * S)).2.2] := (by repeat (first | (with_reducible assumption) | ((with_reducible refine at_new' _ _ _ _ ?_); (first | rfl | (simp; done))) | (with_reducible refine At.alloc ?_ _) | (with_reducible refine At.drew ?_) | (with_reducible refine At.drewN ?_) | (with_reducible refine At.set ?_ (by omega)) | (with_reducible apply At.store4) | (with_reducible apply At.store3) | (with_reducible apply At.store2) | (with_reducible apply At.put43) | (refine At.below ?_ (by with_reducible assumption)))); have hqw6 : Below w.heap.size w w6 := (by repeat (first | (with_reducible exact Below.refl _ _) | (with_reducible assumption) | (with_reducible refine Below.setCell ?_ (by first | (simp; done) | (simp; omega) | omega) _) | (with_reducible refine Below.alloc ?_ (by first | (simp; done) | (simp; omega) | omega) _) | (refine bl_call ?_ (by assumption) (by first | (simp; done) | (simp; omega) | omega)) | (with_reducible refine bl_drewN ?_) | (with_reducible refine Below.drew ?_) | (with_reducible refine bl_grow ?_ (by first | (simp; done) | (simp; omega) | omega)))); have hzw6 := hqw6.size; obtain ⟨zrw6, cr0w6, cr1w6, cr2w6, cr3w6, fr0w6, fr1w6, fr2w6, fr3w6⟩ := krw6.four; obtain ⟨zpw6, cp0w6, cp1w6, cp2w6, fp0w6, fp1w6, fp2w6⟩ := kpw6.three; clear krw5 cr0w5 fr0w5 cr1w5 fr1w5 cr2w5 fr2w5 cr3w5 fr3w5 kjw5 cj0w5 fj0w5 cj1w5 fj1w5 cj2w5 fj2w5 hqw5; clear hbw6))
  exact bodyPost_ret (v := .tuple #[.agg #[.int .i64 ((tM (4 * S)).1 : Int), .int .i64 ((tM (4 * S)).2.1 : Int), .bool (tM (4 * S)).2.2, .int .i64 (g : Int)], .nilIface]) (by simp [results, Tryd.results13, go_sem, *]) rfl ⟨rfl, by repeat (first | (with_reducible exact Below.refl _ _) | (with_reducible assumption) | (with_reducible refine Below.setCell ?_ (by first | (simp; done) | (simp; omega) | omega) _) | (with_reducible refine Below.alloc ?_ (by first | (simp; done) | (simp; omega) | omega) _) | (refine bl_call ?_ (by assumption) (by first | (simp; done) | (simp; omega) | omega)) | (with_reducible refine bl_drewN ?_) | (with_reducible refine Below.drew ?_) | (with_reducible refine bl_grow ?_ (by first | (simp; done) | (simp; omega) | omega)))⟩
theorem gjs_em (S : Nat) : tM (4 * em ((S % 1013 : Nat) : Int)) = tM (4 * S) := by
  rw [em_nat (Nat.mod_lt _ (by omega))]
  exact t4_congr (by omega)
theorem ggs_mod (x z : Nat → Nat) (n : Nat) (t : ByteArray) : (((jsN z n % 1013 : Nat) : Int) + (gaN x z n t : Int) * ((sxN x n n % 1013 : Nat) : Int)) % 1013 = (gsN x z n t : Int) := by
  rw [← Int.natCast_mul, ← Int.natCast_add]
  have : (jsN z n % 1013 + gaN x z n t * (sxN x n n % 1013)) % 1013 = gsN x z n t := by
    unfold gsN
    rw [Nat.add_mod, Nat.mod_mod, Nat.mul_mod, Nat.mod_mod, ← Nat.mul_mod, ← Nat.add_mod]
  omega
theorem gsign_is : GSignIs := by
  refine ⟨fun sx sk n d m c t w h _ _ _ => gsign_err sx sk n d m c t 4 w (fun W _ => gchk_many sx sk n d m c t W h),
    fun sx sk n d m c t w h12 hne _ _ => gsign_err sx sk n d m c t 3 w (fun W _ => gchk_odd sx sk n d m c t W h12 hne),
    fun sx sk n d c X Z t w h12 _ _ hx hz _ _ ht hbad => ?_,
    fun sx sk n d c X Z t w h12 _ _ hx hz hok h60 ht => gsign_err sx sk n d n c t 4 w (fun W hW => gchk_row sx sk n d c n X Z t W _ h12 (hx.imp_right fun ⟨b, o, e, r⟩ => ⟨b, o, e, r.below r.1 hW⟩) (hz.imp_right fun ⟨b, o, e, r⟩ => ⟨b, o, e, r.below r.1 hW⟩) (Nat.le_refl _) hok ht (Or.inr (Or.inl ⟨rfl, h60, rfl⟩))),
    fun sx sk n d c X Z t w h12 _ _ hx hz hok h60 => ?_⟩
  · obtain ⟨j, h1, h2, h3⟩ := gfirst (fun i => secB (X i) && secB (Z i)) n
    rcases h3 with rfl | ⟨h3, h4⟩
    · obtain ⟨i, hi, hi2⟩ := hbad
      have := h2 i hi
      simp only [hi2] at this
      cases this
    · exact gsign_err sx sk n d n c t 1 w (fun W hW => gchk_row sx sk n d c j X Z t W _ h12 (hx.imp_right fun ⟨b, o, e, r⟩ => ⟨b, o, e, r.below r.1 hW⟩) (hz.imp_right fun ⟨b, o, e, r⟩ => ⟨b, o, e, r.below r.1 hW⟩) h1 h2 ht (Or.inl ⟨h3, h4, rfl⟩))
  · have hsx : ∀ i, i < n → secB (X i) = true := fun i hi => (Bool.and_eq_true _ _ ▸ hok i hi).1
    have hsz : ∀ i, i < n → secB (Z i) = true := fun i hi => (Bool.and_eq_true _ _ ▸ hok i hi).2
    refine gsign_ok sx sk n d c (jtN (fun i => 4 * (X i).toNat) n n) (jsN (fun i => (Z i).toNat) n) (sxN (fun i => (X i).toNat) n n % 1013) (jsN (fun i => (Z i).toNat) n % 1013) (gaN (fun i => (X i).toNat) (fun i => (Z i).toNat) n t) _ t w
      (fun W hW => gchk_row sx sk n d c n X Z t W _ h12 (hx.imp_right fun ⟨b, o, e, r⟩ => ⟨b, o, e, r.below r.1 hW⟩) (hz.imp_right fun ⟨b, o, e, r⟩ => ⟨b, o, e, r.below r.1 hW⟩) (Nat.le_refl _) hok (by omega) (Or.inr (Or.inr ⟨rfl, h60, rfl⟩)))
      (fun W hW => gjointOf_ok sx n d (fun i => (X i).toNat) (fun i => 4 * (X i).toNat) X W h12 rfl
        (fun i hi => by obtain ⟨a, b⟩ := gsec_bd (hsx i hi); exact ⟨by omega, by omega⟩)
        (hx.imp_right fun ⟨b, o, e, r⟩ => ⟨b, o, e, r.below r.1 hW⟩)
        (fun W2 hW2 => gkeys_ok sx n d X W2 h12 (hx.imp_right fun ⟨b, o, e, r⟩ => ⟨b, o, e, (r.below r.1 hW).below (Nat.lt_of_lt_of_le r.1 hW.size) hW2⟩) hsx)
        (fun W2 u B hu => by
          obtain ⟨sa, cc, rfl, k⟩ := own_spots hu
          exact gcoefs_ok sa n cc _ _ _ _ W2 h12 (k.imp_right fun ⟨g, a, _, _, r⟩ => ⟨g, 0, a, r⟩) (fun i _ => ⟨rfl, rfl, rfl⟩))
        (fun W2 u v B B' hu hv => by
          obtain ⟨sa, cc, rfl, k⟩ := own_spots hu
          obtain ⟨sb, cd, rfl, k2⟩ := own_ints hv
          exact gjoined_row sa sb n cc cd _ _ _ _ W2 h12 (k.imp_right fun ⟨g, a, _, _, r⟩ => ⟨g, 0, a, r⟩) (fun i _ => ⟨rfl, rfl, rfl⟩) (k2.imp_right fun ⟨g, a, _, _, r⟩ => ⟨g, 0, a, r⟩)))
      (fun W hW => gsum_ok sk n c Z W h12 (hz.imp_right fun ⟨b, o, e, r⟩ => ⟨b, o, e, r.below r.1 hW⟩) hsz)
      (gjs_em _) (fun W => ask_tM _ _ t W h60) (Nat.mod_lt _ (by omega)) (gaN_lt _ _ _ _) (Nat.mod_lt _ (by omega)) (ggs_mod _ _ n t)
end Go.Proofs.YtfgdjenbhdackagDoor
/- GroupTellsWalk -/
namespace Go.Proofs.YtfgdjenbhdackagDoor
open Go.RowKit Go.Sort
set_option linter.unusedVariables false
theorem walkGroupTells (w : World) (sl : Option Addr) (n dl : Nat) (sx : Option Addr) (p dx : Nat) (sk : Option Addr) (q dk : Nat) (t : ByteArray)
    (hn : n ≤ maxLen) (uK : n = 0 ∨ ∃ (b o : Nat) (X Y : Nat → Int) (F : Nat → Bool), sl = some ⟨b, o, none⟩ ∧ RowO w b o n X Y F) (kl : n ≤ dl)
    (hp : p ≤ maxLen) (uX : (p = 0 ∨ ∃ (b o : Nat) (X : Nat → Int), sx = some ⟨b, o, none⟩ ∧ RowI w b o p X ∧ ∀ i, i < p → (Lit.int .i64 (X i)).wf = true)) (_ : p * 8 ≤ reachBytes) (kx : p ≤ dx) (hq : q ≤ maxLen) (uZ : (q = 0 ∨ ∃ (b o : Nat) (X : Nat → Int), sk = some ⟨b, o, none⟩ ∧ RowI w b o q X ∧ ∀ i, i < q → (Lit.int .i64 (X i)).wf = true)) (_ : q * 8 ≤ reachBytes) (kk : q ≤ dk) (ht : t.size ≤ maxLen) (_ : t.size ≤ reachBytes) (hd : Door w) :
    Calls Tryd.prog 3 #[.slice sl n dl, .slice sx p dx, .slice sk q dk, .string t] w fun e w' => e = .returned (.bool true) ∧ Below w.heap.size w w' :=
  groupTells_by coefs_is joint_is gsign_is w sl n dl sx p dx sk q dk t hn uK kl hp uX kx hq uZ kk ht hd
end Go.Proofs.YtfgdjenbhdackagDoor
