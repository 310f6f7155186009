/- A region that draws its order, whose operations but the last only read, and whose last one waits for all others: one walk in the order of the text, then the last operation. Of whatever program. -/
import Derived.BigQuiet
import Derived.Lib.QuietBelow
import Derived.Deep.RegionWith
namespace Go.Proofs.YtgngdabfmbipaakGreatDoor
open Go.RowKit Go.Sort

section
variable {P : Program} {md : Region.Mode} {C : World → Prop}

/-- Each operation but the last is one that a later one waits for. -/
def lastB (md : Region.Mode) (ops : Array Oper) : Bool :=
  (List.range (ops.size - 1)).all fun i => (List.range ops.size).any fun j => Nat.blt i j && ((ops[j]?).map fun o => o.after.any fun e => Region.binds md e && Nat.beq e.on i).getD false
/-- Nobody waits for a later one. -/
def backB (ops : Array Oper) : Bool :=
  (List.range ops.size).all fun j => ((ops[j]?).map fun o => o.after.all fun e => Nat.blt e.on j).getD true

theorem lastB_spec {ops : Array Oper} (h : lastB md ops = true) {i : Nat} (hi : i < ops.size - 1) :
    ∃ j o, i < j ∧ ops[j]? = some o ∧ ∃ e ∈ o.after, Region.binds md e = true ∧ e.on = i := by
  unfold lastB at h
  rw [List.all_eq_true] at h
  have h1 := h i (List.mem_range.2 hi)
  rw [List.any_eq_true] at h1
  obtain ⟨j, hj, h2⟩ := h1
  rw [Bool.and_eq_true] at h2
  cases ho : ops[j]? with
  | none => rw [ho] at h2; simp at h2
  | some o =>
    rw [ho] at h2
    simp only [Option.map_some, Option.getD_some] at h2
    obtain ⟨hlt, h3⟩ := h2
    rw [Array.any_eq_true] at h3
    obtain ⟨k, hk, h4⟩ := h3
    rw [Bool.and_eq_true] at h4
    exact ⟨j, o, by rwa [Nat.blt_eq] at hlt, ho, o.after[k], Array.getElem_mem hk, h4.1, Nat.eq_of_beq_eq_true h4.2⟩
theorem backB_spec {ops : Array Oper} (h : backB ops = true) {j : Nat} {o : Oper} (ho : ops[j]? = some o) : ∀ e ∈ o.after, e.on < j := by
  unfold backB at h
  rw [List.all_eq_true] at h
  have hj : j < ops.size := (Array.getElem?_eq_some_iff.1 ho).1
  have h1 := h j (List.mem_range.2 hj)
  rw [ho] at h1
  simp only [Option.map_some, Option.getD_some] at h1
  rw [Array.all_eq_true_iff_forall_mem] at h1
  intro e he
  have := h1 e he
  rwa [Nat.blt_eq] at this

/-- What is listed has all that it waits for listed. -/
def Closed (md : Region.Mode) (ops : Array Oper) (listed : Array Bool) : Prop :=
  ∀ j o, ops[j]? = some o → listed.getD j false = true → ∀ e ∈ o.after, Region.binds md e = true → listed.getD e.on false = true

variable {l : List Oper} {o : Oper}

theorem snoc_lt {j : Nat} (h : j < l.length) : (l ++ [o]).toArray[j]? = l.toArray[j]? := by simp [List.getElem?_append_left h]
theorem snoc_last : (l ++ [o]).toArray[l.length]? = some o := by simp
theorem getD_push {A : Array Bool} {j : Nat} : (A.push false).getD j false = A.getD j false := by
  simp only [Array.getD_eq_getD_getElem?, Array.getElem?_push]
  split
  · rename_i h; subst h; simp
  · rfl
theorem getD_set_self {A : Array Bool} {i : Nat} (h : i < A.size) : (A.setIfInBounds i true).getD i false = true := by
  simp [Array.getD_eq_getD_getElem?, h]
theorem getD_set_other {A : Array Bool} {i j : Nat} (h : i ≠ j) : (A.setIfInBounds i true).getD j false = A.getD j false := by
  simp [Array.getD_eq_getD_getElem?, h]
theorem getD_tf {A : Array Bool} {j : Nat} (h : j < A.size) : A.getD j true = A.getD j false := by
  simp [Array.getD_eq_getD_getElem?, h]

/-- Which may come up now: the same, as long as the last one may not. -/
theorem ready_snoc {L : Array Bool} (hL : L.size = l.length) {j : Nat} (hj : j < l.length) :
    j ∈ Region.ready md (l ++ [o]).toArray (L.push false) ↔ j ∈ Region.ready md l.toArray L := by
  rw [mem_ready, mem_ready, getD_tf (by simp; omega), getD_tf (by omega), getD_push, snoc_lt hj]
  constructor
  · rintro ⟨h0, x, hx, hall⟩
    exact ⟨h0, x, hx, fun e he hbe => by rw [← hall e he hbe, getD_push]⟩
  · rintro ⟨h0, x, hx, hall⟩
    exact ⟨h0, x, hx, fun e he hbe => by rw [← hall e he hbe, getD_push]⟩

/-- Where nothing may come up all is listed. -/
theorem all_of_stuck {L : Array Bool} (hL : L.size = l.length) (hb : backB (l ++ [o]).toArray = true) (hr : Region.ready md l.toArray L = []) :
    ∀ n j, j < n → j < l.length → L.getD j false = true := by
  intro n
  induction n with
  | zero => intro j h; omega
  | succ n ih =>
    intro j h hj
    by_cases hjn : j < n
    · exact ih j hjn hj
    · have hx : (l ++ [o]).toArray[j]? = l.toArray[j]? := snoc_lt hj
      obtain ⟨x, hx'⟩ : ∃ x, l.toArray[j]? = some x := ⟨l[j], by simp [hj]⟩
      cases hv : L.getD j false with
      | true => rfl
      | false =>
        exfalso
        have : j ∈ Region.ready md l.toArray L := mem_ready.2 ⟨by rw [getD_tf (by omega)]; exact hv, x, hx', fun e he _ => ih e.on (by have := backB_spec hb (hx.trans hx') e he; omega) (by have := backB_spec hb (hx.trans hx') e he; omega)⟩
        rw [hr] at this; cases this

/-- Where the last one may come up all others are listed. -/
theorem all_of_last {L : Array Bool} (hL : L.size = l.length) (hl : lastB md (l ++ [o]).toArray = true) (hc : Closed md (l ++ [o]).toArray (L.push false))
    (hr : l.length ∈ Region.ready md (l ++ [o]).toArray (L.push false)) : ∀ n j, l.length - n ≤ j → j < l.length → L.getD j false = true := by
  intro n
  induction n with
  | zero => intro j h1 h2; omega
  | succ n ih =>
    intro j h1 h2
    obtain ⟨k, x, hjk, hx, e, he, hbe, hon⟩ := lastB_spec hl (i := j) (by simp; omega)
    have hk : k < l.length + 1 := by
      have := (Array.getElem?_eq_some_iff.1 hx).1
      simpa using this
    by_cases hkl : k = l.length
    · subst hkl
      obtain ⟨_, y, hy, hall⟩ := mem_ready.1 hr
      rw [hx] at hy
      obtain rfl := Option.some.inj hy
      have := hall e he hbe
      rw [getD_push, hon] at this
      exact this
    · have h3 := hc k x hx (by rw [getD_push]; exact ih k (by omega) (by omega)) e he hbe
      rw [getD_push, hon] at h3
      exact h3

theorem ready_nil_of_all {L : Array Bool} (hL : L.size = l.length) (h : ∀ j, j < l.length → L.getD j false = true) : Region.ready md l.toArray L = [] := by
  cases e : Region.ready md l.toArray L with
  | nil => rfl
  | cons j r =>
    exfalso
    have hm : j ∈ Region.ready md l.toArray L := by rw [e]; simp
    obtain ⟨h0, x, hx, _⟩ := mem_ready.1 hm
    have hj : j < l.length := by have := (Array.getElem?_eq_some_iff.1 hx).1; simpa using this
    rw [getD_tf (by omega), h j hj] at h0
    cases h0

theorem yielded_snoc (hd : o.dst = none) (t : Array Value) : yielded (l ++ [o]).toArray t = yielded l.toArray t := by
  funext j
  unfold yielded
  by_cases h : j < l.length
  · rw [snoc_lt h]
  · by_cases h2 : j = l.length
    · subst h2; rw [snoc_last]; simp [hd]
    · have e1 : (l ++ [o]).toArray[j]? = none := by simp; omega
      have e2 : l.toArray[j]? = none := by simp; omega
      rw [e1, e2]

theorem wpAny_snoc {Q : Exit → Act → World → Prop} {Q' : Act → Prop} (hd : o.dst = none) (hb : backB (l ++ [o]).toArray = true) (hl : lastB md (l ++ [o]).toArray = true)
    (hQ : ∀ a w, C w → Q' a → wpList P (l ++ [o]).toArray Q [o] a w) :
    ∀ (fuel : Nat) (L : Array Bool) (a : Act) (w : World), L.size = l.length → Closed md (l ++ [o]).toArray (L.push false) → C w →
      wpAnyQ P md l.toArray C Q' fuel L a → wpAny P md (l ++ [o]).toArray Q (fuel + 1) (L.push false) a w := by
  have hlast : ∀ (L : Array Bool), L.size = l.length → Region.ready md l.toArray L = [] → l.length ∈ Region.ready md (l ++ [o]).toArray (L.push false) := by
    intro L hL hr
    refine mem_ready.2 ⟨by rw [getD_tf (by simp; omega), getD_push]; simp [Array.getD_eq_getD_getElem?, hL], o, snoc_last, fun e he _ => ?_⟩
    rw [getD_push]
    exact all_of_stuck hL hb hr l.length _ (backB_spec hb snoc_last e he) (backB_spec hb snoc_last e he)
  have hend : ∀ (L : Array Bool) (a : Act) (w : World) (f : Nat), L.size = l.length → (∀ j, j < l.length → L.getD j false = true) → C w → Q' a →
      wpOp P (l ++ [o]).toArray Q l.length (wpAny P md (l ++ [o]).toArray Q f ((L.push false).setIfInBounds l.length true)) a w := by
    intro L a w f hL hall hC hq
    have h1 := hQ a w hC hq
    have h2 : wpOp P (l ++ [o]).toArray Q l.length (fun a w => Q .normal a w) a w := by
      unfold wpOp
      rw [snoc_last]
      exact h1
    refine wpOp_mono (fun a' w' h3 => ?_) h2
    have hr : Region.ready md (l ++ [o]).toArray ((L.push false).setIfInBounds l.length true) = [] := by
      cases e : Region.ready md (l ++ [o]).toArray ((L.push false).setIfInBounds l.length true) with
      | nil => rfl
      | cons j r =>
        exfalso
        have hm : j ∈ Region.ready md (l ++ [o]).toArray ((L.push false).setIfInBounds l.length true) := by rw [e]; simp
        obtain ⟨h0, x, hx, _⟩ := mem_ready.1 hm
        have hj : j < l.length + 1 := by have := (Array.getElem?_eq_some_iff.1 hx).1; simpa using this
        rw [getD_tf (by simp; omega)] at h0
        by_cases hjl : j = l.length
        · subst hjl; rw [getD_set_self (by simp; omega)] at h0; cases h0
        · rw [getD_set_other (fun h => hjl h.symm), getD_push, hall j (by omega)] at h0; cases h0
    cases f with
    | zero => exact ⟨hr, h3⟩
    | succ f => exact ⟨fun _ => h3, by rw [hr]; simp⟩
  intro fuel
  induction fuel with
  | zero =>
    intro L a w hL hcl hC h
    refine ⟨fun h0 => ?_, fun i hi => ?_⟩
    · have := hlast L hL h.1; rw [h0] at this; cases this
    · have hil : i < l.length + 1 := by
        obtain ⟨_, x, hx, _⟩ := mem_ready.1 hi
        have := (Array.getElem?_eq_some_iff.1 hx).1; simpa using this
      by_cases hi2 : i < l.length
      · have := (ready_snoc hL hi2).1 hi; rw [h.1] at this; cases this
      · obtain rfl : i = l.length := by omega
        exact hend L a w 0 hL (fun j hj => all_of_last hL hl hcl hi l.length j (by omega) hj) hC h.2
  | succ fuel ih =>
    intro L a w hL hcl hC h
    refine ⟨fun h0 => ?_, fun i hi => ?_⟩
    · have hr : Region.ready md l.toArray L = [] := by
        cases e : Region.ready md l.toArray L with
        | nil => rfl
        | cons j r =>
          exfalso
          have hm : j ∈ Region.ready md l.toArray L := by rw [e]; simp
          obtain ⟨_, x, hx, _⟩ := mem_ready.1 hm
          have hj : j < l.length := by have := (Array.getElem?_eq_some_iff.1 hx).1; simpa using this
          have := (ready_snoc (o := o) hL hj).2 hm
          rw [h0] at this; cases this
      have := hlast L hL hr; rw [h0] at this; cases this
    · have hil : i < l.length + 1 := by
        obtain ⟨_, x, hx, _⟩ := mem_ready.1 hi
        have := (Array.getElem?_eq_some_iff.1 hx).1; simpa using this
      by_cases hi2 : i < l.length
      · have hm := (ready_snoc hL hi2).1 hi
        have hq := h.2 i hm
        have hset : (L.push false).setIfInBounds i true = (L.setIfInBounds i true).push false := by
          apply Array.ext_getElem?
          intro j
          simp only [Array.getElem?_setIfInBounds, Array.getElem?_push, Array.size_push, Array.size_setIfInBounds]
          by_cases h1 : i = j
          · subst h1; simp [show i < L.size by omega, show i < L.size + 1 by omega, show ¬ i = L.size by omega]
          · simp [h1]
        have hcl' : Closed md (l ++ [o]).toArray ((L.setIfInBounds i true).push false) := by
          intro j x hx hj e he hbe
          rw [← hset] at hj ⊢
          by_cases h1 : i = e.on
          · rw [← h1]; exact getD_set_self (by simp; omega)
          · rw [getD_set_other h1]
            by_cases h2 : i = j
            · subst h2
              obtain ⟨_, y, hy, hall⟩ := mem_ready.1 hi
              rw [hx] at hy; obtain rfl := Option.some.inj hy
              exact hall e he hbe
            · rw [getD_set_other h2] at hj
              exact hcl j x hx hj e he hbe
        have hw := wpOp_of_qOp (P := P) (Q' := Q) (K' := fun a' w' => wpAny P md (l ++ [o]).toArray Q (fuel + 1) ((L.push false).setIfInBounds i true) a' w') hC
          (fun a' w' hC' hk => by rw [hset]; exact ih _ a' w' (by simpa using hL) hcl' hC' hk) hq
        unfold wpOp at hw ⊢
        rw [snoc_lt hi2, yielded_snoc hd]
        exact hw
      · obtain rfl : i = l.length := by omega
        have hall := fun j hj => all_of_last hL hl hcl hi l.length j (by omega) hj
        exact hend L a w (fuel + 1) hL hall hC (h.1 (ready_nil_of_all hL hall))

/-- The whole check of a region. -/
def quietLastB (ops : List Oper) : Bool :=
  Region.lexB .any ops.dropLast.toArray && backB ops.toArray && lastB .any ops.toArray && (match ops.getLast? with | some o => o.dst.isNone | none => false)

theorem region_last {id : Nat} {Q : Exit → Act → World → Prop} {a : Act} {w : World} {ops : List Oper} (hm : P.follows .mixedOrders = true) (hB : quietLastB ops = true) (hC : C { w with drawn := w.drawn + 1 })
    (h : wpQuiet P ops.dropLast.toArray C (fun a' => ∀ w', C w' → wpList P ops.toArray Q (ops.drop ops.dropLast.length) a' w') ops.dropLast a) : (Code.region id ops.toArray true).wp P Q a w := by
  simp only [quietLastB, Bool.and_eq_true] at hB
  obtain ⟨⟨⟨h1, h2⟩, h3⟩, h4⟩ := hB
  cases hl : ops.getLast? with
  | none => rw [hl] at h4; simp at h4
  | some o =>
    rw [hl] at h4
    have hd : o.dst = none := by simpa using h4
    have hops : ops = ops.dropLast ++ [o] := by
      obtain ⟨l', rfl⟩ := List.getLast?_eq_some_iff.1 hl
      simp
    generalize hL : ops.dropLast = l at *
    subst hops
    have hdrop : (l ++ [o]).drop l.length = [o] := by simp
    rw [hdrop] at h
    simp only [Region.lexB, Bool.and_eq_true] at h1
    have hlex := wpAnyQ_lex (C := C) (md := .any) h1.1 l 0 (Array.replicate l.toArray.size false) a (by simp) (by simpa using h1.2) h
    refine wp_region_any hm ?_
    have := wpAny_snoc (P := P) (md := .any) (C := C) (Q := Q) (Q' := fun a' => ∀ w', C w' → wpList P (l ++ [o]).toArray Q [o] a' w') hd h2 h3 (fun a' w' hC' hq => hq w' hC') l.length (Array.replicate l.length false) a { w with drawn := w.drawn + 1 } (by simp)
      (by
        intro j x hx hj
        rw [getD_push] at hj
        simp only [Array.getD_eq_getD_getElem?, Array.getElem?_replicate] at hj
        split at hj <;> simp at hj)
      hC (by simpa using hlex)
    have e1 : (l ++ [o]).toArray.size = l.length + 1 := by simp
    have e2 : Array.replicate (l.length + 1) false = (Array.replicate l.length false).push false := by
      rw [Array.replicate_succ]
    rw [e1, e2]
    exact this

/-- The same, for a region whose operations are written out, where the callees leave the memory as it was. -/
theorem quiet_last {id : Nat} {Q : Exit → Act → World → Prop} {a : Act} {w : World} {ops : List Oper} (hm : P.follows .mixedOrders = true) (hB : quietLastB ops = true)
    (h : wpQuiet P ops.dropLast.toArray (fun w' => ∃ n, w' = w.drewN n) (fun a' => ∀ w', (∃ n, w' = w.drewN n) → wpList P ops.toArray Q (ops.drop ops.dropLast.length) a' w') ops.dropLast a) : (Code.region id ops.toArray true).wp P Q a w :=
  region_last (C := fun w' => ∃ n, w' = w.drewN n) hm hB ⟨1, rfl⟩ h
/-- The same, where the callees lay memory, and turn nothing that was there. -/
theorem below_last {id : Nat} {Q : Exit → Act → World → Prop} {a : Act} {w : World} {ops : List Oper} (hm : P.follows .mixedOrders = true) (hB : quietLastB ops = true)
    (h : wpQuiet P ops.dropLast.toArray (fun w' => ∃ p : Regrown, w' = grow (redrawn w p.d) p.os) (fun a' => ∀ w', (∃ p : Regrown, w' = grow (redrawn w p.d) p.os) → wpList P ops.toArray Q (ops.drop ops.dropLast.length) a' w') ops.dropLast a) : (Code.region id ops.toArray true).wp P Q a w :=
  region_last (C := fun w' => ∃ p : Regrown, w' = grow (redrawn w p.d) p.os) hm hB ⟨⟨w.drawn + 1, #[]⟩, by rw [grow_empty]; rfl⟩ h
end

/-! What a walk leaves of the memory that was there. -/
theorem bl_drewN {B : Nat} {a w : World} {n : Nat} (h : Below B a w) : Below B a (w.drewN n) := ⟨h.os, h.tape, h.output, h.size, h.block⟩
theorem bl_grow {B d : Nat} {a w : World} {os : Array Obj} (h : Below B a w) (hB : B ≤ w.heap.size) : Below B a (grow (redrawn w d) os) := h.trans ((below_regrown w d os).mono hB)
theorem bl_call {B : Nat} {a w w' : World} (h : Below B a w) (k : Below w.heap.size w w') (hB : B ≤ w.heap.size) : Below B a w' := h.trans (k.mono hB)
/-- Old cells, old marks. -/
theorem bcell {W w1 : World} (hb : Below W.heap.size W w1) : (∀ b o, b < W.heap.size → w1.cell? ⟨b, o, none⟩ = W.cell? ⟨b, o, none⟩) ∧ (∀ b o, b < W.heap.size → w1.frozen? ⟨b, o, none⟩ = W.frozen? ⟨b, o, none⟩) :=
  ⟨fun b o h => hb.cell (p := ⟨b, o, none⟩) h, fun b o h => hb.frozen (p := ⟨b, o, none⟩) h⟩
/-- An old cell, in a world of the class. -/
theorem grow_cell {w : World} {d : Nat} {os : Array Obj} {b o : Nat} (h : b < w.heap.size) : (grow (redrawn w d) os).cell? ⟨b, o, none⟩ = w.cell? ⟨b, o, none⟩ := (below_regrown w d os).cell (p := ⟨b, o, none⟩) h
theorem grow_frozen {w : World} {d : Nat} {os : Array Obj} {b o : Nat} (h : b < w.heap.size) : (grow (redrawn w d) os).frozen? ⟨b, o, none⟩ = w.frozen? ⟨b, o, none⟩ := (below_regrown w d os).frozen (p := ⟨b, o, none⟩) h
attribute [go_sem] grow_cell grow_frozen
end Go.Proofs.YtgngdabfmbipaakGreatDoor

/- A block of the call's own: what lies in it, carried over calls that turn nothing that was there. Of whatever program. -/
namespace Go.Proofs.YtgngdabfmbipaakGreatDoor
open Go.RowKit Go.Sort

/-- In block b lie these cells, and they may be written. -/
def At (w : World) (b : Nat) (vs : List Value) : Prop :=
  b < w.heap.size ∧ (∀ i, i < vs.length → w.cell? ⟨b, i, none⟩ = vs[i]?) ∧ ∀ i, i < vs.length → w.frozen? ⟨b, i, none⟩ = false
theorem At.below {w w' : World} {b : Nat} {vs : List Value} (h : At w b vs) (k : Below w.heap.size w w') : At w' b vs :=
  ⟨Nat.lt_of_lt_of_le h.1 k.size, fun i hi => (k.cell (p := ⟨b, i, none⟩) h.1).trans (h.2.1 i hi), fun i hi => (k.frozen (p := ⟨b, i, none⟩) h.1).trans (h.2.2 i hi)⟩
theorem At.alloc {w : World} {b : Nat} {vs : List Value} (h : At w b vs) (o : Obj) : At (w.alloc o) b vs :=
  h.below ((Below.refl _ _).alloc (Nat.le_refl _) o)
theorem At.drewN {w : World} {b n : Nat} {vs : List Value} (h : At w b vs) : At (w.drewN n) b vs := h.below (bl_drewN (Below.refl _ _))
theorem At.grow {w : World} {b d : Nat} {os : Array Obj} {vs : List Value} (h : At w b vs) : At (grow (redrawn w d) os) b vs := h.below (below_regrown w d os)
theorem At.drew {w : World} {b : Nat} {vs : List Value} (h : At w b vs) : At w.drew b vs := h.below (Below.drew (Below.refl _ _))
theorem heap_new (w : World) (o : Obj) : (w.alloc o).heap[w.heap.size]? = some o := by
  show (w.heap.push o)[w.heap.size]? = some o
  simp
theorem at_new (w : World) (vs : List Value) (t : TypeId) : At (w.alloc (.cells vs.toArray t)) w.heap.size vs :=
  ⟨by simp, fun i _ => by unfold World.cell?; rw [heap_new]; simp, fun i _ => by unfold World.frozen?; rw [heap_new]; simp⟩
theorem at_new' (w : World) (vs : List Value) (t : TypeId) (n : Nat) (h : n = w.heap.size) : At (w.alloc (.cells vs.toArray t)) n vs := by subst h; exact at_new w vs t
theorem At.set {w : World} {b c o : Nat} {u : Value} {vs : List Value} (h : At w b vs) (hne : b ≠ c) : At (w.setCell ⟨c, o, none⟩ u) b vs := by
  have hb := Below.heap_setCell w ⟨c, o, none⟩ u b hne
  refine ⟨by simpa [World.setCell] using h.1, fun i hi => ?_, fun i hi => ?_⟩
  · rw [World.cell?_of_block (a := ⟨b, i, none⟩) hb]; exact h.2.1 i hi
  · rw [World.frozen?_of_block (a := ⟨b, i, none⟩) hb]; exact h.2.2 i hi
theorem At.store2 {w : World} {b : Nat} {u v u' v' : Value} (h : At w b [u, v]) : At ((w.setCell ⟨b, 0, none⟩ u').setCell ⟨b, 1, none⟩ v') b [u', v'] := by
  have a0 : w.cell? ⟨b, 0, none⟩ = some u := h.2.1 0 (by simp)
  have g0 : w.frozen? ⟨b, 0, none⟩ = false := h.2.2 0 (by simp)
  have a1 : w.cell? ⟨b, 1, none⟩ = some v := h.2.1 1 (by simp)
  have g1 : w.frozen? ⟨b, 1, none⟩ = false := h.2.2 1 (by simp)
  refine ⟨by simpa [World.setCell] using h.1, fun i hi => ?_, fun i hi => ?_⟩
  · rcases i with _ | _ | i
    · show _ = some u'; simp [a0, go_sem]
    · show _ = some v'; simp [a1, go_sem]
    · simp at hi; omega
  · rcases i with _ | _ | i
    · rw [World.frozen?_setCell, World.frozen?_setCell]; exact g0
    · rw [World.frozen?_setCell, World.frozen?_setCell]; exact g1
    · simp at hi; omega
theorem At.store3 {w : World} {b : Nat} {u v x u' v' x' : Value} (h : At w b [u, v, x]) : At (((w.setCell ⟨b, 0, none⟩ u').setCell ⟨b, 1, none⟩ v').setCell ⟨b, 2, none⟩ x') b [u', v', x'] := by
  have a0 : w.cell? ⟨b, 0, none⟩ = some u := h.2.1 0 (by simp)
  have g0 : w.frozen? ⟨b, 0, none⟩ = false := h.2.2 0 (by simp)
  have a1 : w.cell? ⟨b, 1, none⟩ = some v := h.2.1 1 (by simp)
  have g1 : w.frozen? ⟨b, 1, none⟩ = false := h.2.2 1 (by simp)
  have a2 : w.cell? ⟨b, 2, none⟩ = some x := h.2.1 2 (by simp)
  have g2 : w.frozen? ⟨b, 2, none⟩ = false := h.2.2 2 (by simp)
  refine ⟨by simpa [World.setCell] using h.1, fun i hi => ?_, fun i hi => ?_⟩
  · rcases i with _ | _ | _ | i
    · show _ = some u'; simp [a0, go_sem]
    · show _ = some v'; simp [a1, go_sem]
    · show _ = some x'; simp [a2, go_sem]
    · simp at hi; omega
  · rcases i with _ | _ | _ | i
    · rw [World.frozen?_setCell, World.frozen?_setCell, World.frozen?_setCell]; exact g0
    · rw [World.frozen?_setCell, World.frozen?_setCell, World.frozen?_setCell]; exact g1
    · rw [World.frozen?_setCell, World.frozen?_setCell, World.frozen?_setCell]; exact g2
    · simp at hi; omega
theorem At.store4 {w : World} {b : Nat} {u v x y u' v' x' y' : Value} (h : At w b [u, v, x, y]) : At ((((w.setCell ⟨b, 0, none⟩ u').setCell ⟨b, 1, none⟩ v').setCell ⟨b, 2, none⟩ x').setCell ⟨b, 3, none⟩ y') b [u', v', x', y'] := by
  have a0 : w.cell? ⟨b, 0, none⟩ = some u := h.2.1 0 (by simp)
  have g0 : w.frozen? ⟨b, 0, none⟩ = false := h.2.2 0 (by simp)
  have a1 : w.cell? ⟨b, 1, none⟩ = some v := h.2.1 1 (by simp)
  have g1 : w.frozen? ⟨b, 1, none⟩ = false := h.2.2 1 (by simp)
  have a2 : w.cell? ⟨b, 2, none⟩ = some x := h.2.1 2 (by simp)
  have g2 : w.frozen? ⟨b, 2, none⟩ = false := h.2.2 2 (by simp)
  have a3 : w.cell? ⟨b, 3, none⟩ = some y := h.2.1 3 (by simp)
  have g3 : w.frozen? ⟨b, 3, none⟩ = false := h.2.2 3 (by simp)
  refine ⟨by simpa [World.setCell] using h.1, fun i hi => ?_, fun i hi => ?_⟩
  · rcases i with _ | _ | _ | _ | i
    · show _ = some u'; simp [a0, go_sem]
    · show _ = some v'; simp [a1, go_sem]
    · show _ = some x'; simp [a2, go_sem]
    · show _ = some y'; simp [a3, go_sem]
    · simp at hi; omega
  · rcases i with _ | _ | _ | _ | i
    · rw [World.frozen?_setCell, World.frozen?_setCell, World.frozen?_setCell, World.frozen?_setCell]; exact g0
    · rw [World.frozen?_setCell, World.frozen?_setCell, World.frozen?_setCell, World.frozen?_setCell]; exact g1
    · rw [World.frozen?_setCell, World.frozen?_setCell, World.frozen?_setCell, World.frozen?_setCell]; exact g2
    · rw [World.frozen?_setCell, World.frozen?_setCell, World.frozen?_setCell, World.frozen?_setCell]; exact g3
    · simp at hi; omega
theorem At.put43 {w : World} {b : Nat} {u v x y y' : Value} (h : At w b [u, v, x, y]) : At (w.setCell ⟨b, 3, none⟩ y') b [u, v, x, y'] := by
  have a0 : w.cell? ⟨b, 0, none⟩ = some u := h.2.1 0 (by simp)
  have g0 : w.frozen? ⟨b, 0, none⟩ = false := h.2.2 0 (by simp)
  have a1 : w.cell? ⟨b, 1, none⟩ = some v := h.2.1 1 (by simp)
  have g1 : w.frozen? ⟨b, 1, none⟩ = false := h.2.2 1 (by simp)
  have a2 : w.cell? ⟨b, 2, none⟩ = some x := h.2.1 2 (by simp)
  have g2 : w.frozen? ⟨b, 2, none⟩ = false := h.2.2 2 (by simp)
  have a3 : w.cell? ⟨b, 3, none⟩ = some y := h.2.1 3 (by simp)
  have g3 : w.frozen? ⟨b, 3, none⟩ = false := h.2.2 3 (by simp)
  refine ⟨by simpa [World.setCell] using h.1, fun i hi => ?_, fun i hi => ?_⟩
  · rcases i with _ | _ | _ | _ | i
    · show _ = some u; simp [a0, go_sem]
    · show _ = some v; simp [a1, go_sem]
    · show _ = some x; simp [a2, go_sem]
    · show _ = some y'; simp [a3, go_sem]
    · simp at hi; omega
  · rcases i with _ | _ | _ | _ | i
    · rw [World.frozen?_setCell]; exact g0
    · rw [World.frozen?_setCell]; exact g1
    · rw [World.frozen?_setCell]; exact g2
    · rw [World.frozen?_setCell]; exact g3
    · simp at hi; omega
theorem At.four {w : World} {b : Nat} {u v x y : Value} (h : At w b [u, v, x, y]) : b < w.heap.size ∧ w.cell? ⟨b, 0, none⟩ = some u ∧ w.cell? ⟨b, 1, none⟩ = some v ∧ w.cell? ⟨b, 2, none⟩ = some x ∧ w.cell? ⟨b, 3, none⟩ = some y ∧ w.frozen? ⟨b, 0, none⟩ = false ∧ w.frozen? ⟨b, 1, none⟩ = false ∧ w.frozen? ⟨b, 2, none⟩ = false ∧ w.frozen? ⟨b, 3, none⟩ = false :=
  ⟨h.1, h.2.1 0 (by simp), h.2.1 1 (by simp), h.2.1 2 (by simp), h.2.1 3 (by simp), h.2.2 0 (by simp), h.2.2 1 (by simp), h.2.2 2 (by simp), h.2.2 3 (by simp)⟩
theorem At.one {w : World} {b : Nat} {u : Value} (h : At w b [u]) : b < w.heap.size ∧ w.cell? ⟨b, 0, none⟩ = some u ∧ w.frozen? ⟨b, 0, none⟩ = false :=
  ⟨h.1, h.2.1 0 (by simp), h.2.2 0 (by simp)⟩
theorem At.two {w : World} {b : Nat} {u v : Value} (h : At w b [u, v]) : b < w.heap.size ∧ w.cell? ⟨b, 0, none⟩ = some u ∧ w.cell? ⟨b, 1, none⟩ = some v ∧ w.frozen? ⟨b, 0, none⟩ = false ∧ w.frozen? ⟨b, 1, none⟩ = false :=
  ⟨h.1, h.2.1 0 (by simp), h.2.1 1 (by simp), h.2.2 0 (by simp), h.2.2 1 (by simp)⟩
theorem At.three {w : World} {b : Nat} {u v x : Value} (h : At w b [u, v, x]) : b < w.heap.size ∧ w.cell? ⟨b, 0, none⟩ = some u ∧ w.cell? ⟨b, 1, none⟩ = some v ∧ w.cell? ⟨b, 2, none⟩ = some x ∧ w.frozen? ⟨b, 0, none⟩ = false ∧ w.frozen? ⟨b, 1, none⟩ = false ∧ w.frozen? ⟨b, 2, none⟩ = false :=
  ⟨h.1, h.2.1 0 (by simp), h.2.1 1 (by simp), h.2.1 2 (by simp), h.2.2 0 (by simp), h.2.2 1 (by simp), h.2.2 2 (by simp)⟩
theorem regrown_below {w w' : World} (h : ∃ p : Regrown, w' = grow (redrawn w p.d) p.os) : Below w.heap.size w w' := by
  obtain ⟨p, rfl⟩ := h; exact below_regrown w p.d p.os
/-- From here on the world is a letter of which this is known. -/
theorem wp_gen {P : Program} {c : Code} {Q : Exit → Act → World → Prop} {a : Act} {w : World} (S : World → Prop) (h : S w) (k : ∀ W, S W → c.wp P Q a W) : c.wp P Q a w := k w h
theorem below_of_same {P : Program} {f : FuncId} {args : Array Value} {w : World} {v : Value} (h : Calls P f args w fun e w' => e = .returned v ∧ w' = w) :
    Calls P f args w fun e w' => e = .returned v ∧ Below w.heap.size w w' :=
  h.mono fun _ _ ⟨he, hw⟩ => ⟨he, by rw [hw]; exact Below.refl _ _⟩
theorem below_by {n : Nat} {w w' : World} (h : Below n w w' := by repeat (first | (with_reducible first | exact Below.refl _ _ | assumption | refine Below.setCell ?_ (by first | simp <;> omega | omega) _ | refine Below.alloc ?_ (by first | simp <;> omega | omega) _) | refine bl_call ?_ (by assumption) (by first | simp <;> omega | omega) | (with_reducible first | refine bl_drewN ?_ | refine Below.drew ?_ | refine bl_grow ?_ (by first | simp <;> omega | omega)))) : Below n w w' := h
theorem at_by {w : World} {b : Nat} {l : List Value} (h : At w b l := by repeat (first | assumption | (with_reducible first | (refine at_new' _ _ _ _ ?_; first | rfl | (simp; done)) | refine At.alloc ?_ _ | refine At.drewN ?_ | refine At.grow ?_ | refine At.store4 (by assumption) | refine At.store3 (by assumption) | refine At.store2 (by assumption) | refine At.set ?_ (by omega) | apply At.store4 | apply At.store3 | apply At.put43) | refine At.below ?_ (by assumption))) : At w b l := h
theorem at_red {w : World} {b : Nat} {l : List Value} (h : At w b l := by repeat (first | (with_reducible first | assumption | (refine at_new' _ _ _ _ ?_; first | rfl | (simp; done)) | refine At.alloc ?_ _ | refine At.drew ?_ | refine At.drewN ?_ | refine At.set ?_ (by omega) | apply At.store4 | apply At.store3 | apply At.store2 | apply At.put43) | refine At.below ?_ (by with_reducible assumption))) : At w b l := h
end Go.Proofs.YtgngdabfmbipaakGreatDoor

/- A region that draws its order and lays one block ('x := T{.. f(y) ..}'): its other operations only read, its callees turn nothing that was there, its last operation stores into the block: one walk in the order of the text, the block's place a letter; then the store. Of whatever program. -/
namespace Go.Proofs.YtgngdabfmbipaakGreatDoor
open Go.RowKit Go.Sort

section
variable {P : Program} {md : Region.Mode}

/-- The laying of the block, its place known. -/
def ptrOp (o : Oper) (b : Nat) : Oper := { o with op := .assign (.const (.pointer (some ⟨b, 0, none⟩))) }
def withPtr : List Oper → Nat → Nat → List Oper
  | [], _, _ => []
  | o :: r, 0, b => ptrOp o b :: r
  | o :: r, j + 1, b => o :: withPtr r j b
theorem withPtr_len (l : List Oper) (j b : Nat) : (withPtr l j b).length = l.length := by
  induction l generalizing j with
  | nil => cases j <;> rfl
  | cons o r ih =>
    cases j with
    | zero => rfl
    | succ j => simp [withPtr, ih]
theorem withPtr_ne (l : List Oper) (j b i : Nat) (h : i ≠ j) : (withPtr l j b)[i]? = l[i]? := by
  induction l generalizing i j with
  | nil => cases j <;> rfl
  | cons o r ih =>
    cases j with
    | zero => cases i with
      | zero => omega
      | succ i => rfl
    | succ j => cases i with
      | zero => rfl
      | succ i => exact ih j i (by omega)
theorem withPtr_at (l : List Oper) (j b : Nat) {o : Oper} (h : l[j]? = some o) : (withPtr l j b)[j]? = some (ptrOp o b) := by
  induction l generalizing j with
  | nil => simp at h
  | cons x r ih =>
    cases j with
    | zero => simp at h; subst h; rfl
    | succ j => exact ih j (by simpa using h)

/-- Each writes a place of its own. -/
def apartB (l : List Oper) : Bool :=
  (List.range l.length).all fun i => (List.range l.length).all fun k => Nat.beq i k || (match l[i]?, l[k]? with
    | some x, some y => (match x.dst, y.dst with | some d, some e => !(Nat.beq d e) | _, _ => true)
    | _, _ => true)
theorem apartB_spec {l : List Oper} (h : apartB l = true) {i k : Nat} {x y : Oper} {d : Tmp} (hi : l[i]? = some x) (hk : l[k]? = some y) (hne : i ≠ k) (hd : x.dst = some d) : y.dst ≠ some d := by
  intro hy
  unfold apartB at h
  rw [List.all_eq_true] at h
  have hil : i < l.length := (List.getElem?_eq_some_iff.1 hi).1
  have hkl : k < l.length := (List.getElem?_eq_some_iff.1 hk).1
  have h1 := h i (List.mem_range.2 hil)
  rw [List.all_eq_true] at h1
  have h2 := h1 k (List.mem_range.2 hkl)
  rw [hi, hk] at h2
  simp only [hd, hy, Bool.or_eq_true] at h2
  rcases h2 with h2 | h2
  · exact hne (Nat.eq_of_beq_eq_true h2)
  · have : Nat.beq d d = true := Nat.beq_refl d
    rw [this] at h2; cases h2

/-- What stands at the end in a place that nobody writes any more stands there now. -/
theorem slot_end {ops : Array Oper} {C : World → Prop} {A : Act} {d : Tmp} : ∀ (fuel : Nat) (listed : Array Bool) (a : Act), wpAnyQ P md ops C (fun a' => a' = A) fuel listed a →
    (∀ i o, ops[i]? = some o → listed.getD i true = false → o.dst ≠ some d) → A.tmps[d]? = a.tmps[d]? := by
  intro fuel
  induction fuel with
  | zero => intro listed a h _; rw [h.2]
  | succ fuel ih =>
    intro listed a h hd
    cases hr : Region.ready md ops listed with
    | nil => rw [h.1 hr]
    | cons i r =>
      have hm : i ∈ Region.ready md ops listed := by rw [hr]; simp
      obtain ⟨hun, o, ho, _⟩ := mem_ready.1 hm
      obtain ⟨v, _, hk⟩ := yieldsIn_of_qOp ho (h.2 i hm)
      have h1 := ih _ _ hk (fun k x hx hk' => hd k x hx (by
        by_cases hik : i = k
        · subst hik
          rw [getD_tf (by simp; have := (Array.getElem?_eq_some_iff.1 ho).1; rcases Nat.lt_or_ge i listed.size with h' | h'; exact h'; simp [Array.getD_eq_getD_getElem?, Array.getElem?_eq_none h'] at hun)] at hk'
          rw [getD_set_self (by rcases Nat.lt_or_ge i listed.size with h' | h'; exact h'; simp [Array.getD_eq_getD_getElem?, Array.getElem?_eq_none h'] at hun)] at hk'
          cases hk'
        · rw [getD_set_ne true hik] at hk'; exact hk'))
      rw [h1]
      have hne := hd i o ho hun
      cases hdst : o.dst with
      | none => rfl
      | some e =>
        have : e ≠ d := fun h' => hne (by rw [hdst, h'])
        simp [Act.put, this]

/-- The class of the worlds that come of W. -/
abbrev Cls (W : World) : World → Prop := fun w' => ∃ p : Regrown, w' = grow (redrawn W p.d) p.os
theorem cls_self (W : World) : Cls W W := regrown_of_below (Below.refl _ _)

variable {l : List Oper} {o : Oper}

theorem put_same {a A : Act} {d : Tmp} {v v' : Value} (h : A.tmps[d]? = (a.put (some d) v).tmps[d]?) (h' : A.tmps[d]? = (a.put (some d) v').tmps[d]?) : a.put (some d) v = a.put (some d) v' := by
  by_cases hd : d < a.tmps.size
  · have : v = v' := by
      rw [h] at h'
      simpa [Act.put, hd] using h'
    rw [this]
  · simp [Act.put, Array.setIfInBounds, hd]

theorem yielded_dst {l l' : Array Oper} (h : ∀ i : Nat, (l[i]?).bind (·.dst) = (l'[i]?).bind (·.dst)) (t : Array Value) : yielded l t = yielded l' t := by
  funext j; unfold yielded; rw [h j]

theorem withPtr_dst (l : List Oper) (j b i : Nat) : ((withPtr l j b).toArray[i]?).bind (·.dst) = (l.toArray[i]?).bind (·.dst) := by
  simp only [List.getElem?_toArray]
  by_cases hi : i = j
  · subst hi
    cases hl : l[i]? with
    | none =>
      have : (withPtr l i b)[i]? = none := by
        rw [List.getElem?_eq_none_iff, withPtr_len]; exact List.getElem?_eq_none_iff.1 hl
      rw [this]
    | some x => rw [withPtr_at l i b hl]; rfl
  · rw [withPtr_ne l j b i hi]
theorem withPtr_ready (l : List Oper) (j b i : Nat) (L : Array Bool) : i ∈ Region.ready md (withPtr l j b).toArray L ↔ i ∈ Region.ready md l.toArray L := by
  rw [mem_ready, mem_ready]
  simp only [List.getElem?_toArray]
  by_cases hi : i = j
  · subst hi
    cases hl : l[i]? with
    | none =>
      have : (withPtr l i b)[i]? = none := by
        rw [List.getElem?_eq_none_iff, withPtr_len]; exact List.getElem?_eq_none_iff.1 hl
      rw [this]
    | some x =>
      rw [withPtr_at l i b hl]
      constructor
      · rintro ⟨h0, y, hy, hall⟩; obtain rfl := Option.some.inj hy; exact ⟨h0, x, rfl, hall⟩
      · rintro ⟨h0, y, hy, hall⟩; obtain rfl := Option.some.inj hy; exact ⟨h0, _, rfl, hall⟩
  · rw [withPtr_ne l j b i hi]

theorem wpAny_new {Q : Exit → Act → World → Prop} {w : World} {j : Nat} {oa : Oper} {dj : Tmp} {t : TypeId} {zs : List Value} {A : Nat → Act}
    (hd : o.dst = none) (hb : backB (l ++ [o]).toArray = true) (hl : lastB md (l ++ [o]).toArray = true) (hap : apartB l = true) (hsome : ∀ (i : Nat) x, l[i]? = some x → ∃ d, x.dst = some d)
    (hoa : l[j]? = some oa) (hdst : oa.dst = some dj) (hg : oa.guard = none)
    (hal : ∀ (e : Operand → Value) (u : World), (execOp e oa).run P u = .ok (.value (.pointer (some ⟨u.heap.size, 0, none⟩))) (u.alloc (.cells zs.toArray t)))
    (hA : ∀ b, A b = (A 0).put (some dj) (.pointer (some ⟨b, 0, none⟩)))
    (hend : ∀ b W, Below w.heap.size w W → At W b zs → w.heap.size ≤ b → wpList P (l ++ [o]).toArray Q [o] (A b) W) :
    ∀ (fuel : Nat) (L : Array Bool) (a : Act) (u : World) (x : Option Nat), L.size = l.length → Closed md (l ++ [o]).toArray (L.push false) → Below w.heap.size w u →
      (L.getD j false = x.isSome) → (∀ b, x = some b → At u b zs ∧ w.heap.size ≤ b) →
      (∀ b W, (∀ b', x = some b' → b = b') → Below w.heap.size w W → wpAnyQ P md (withPtr l j b).toArray (Cls W) (fun a' => a' = A b) fuel L a) →
      wpAny P md (l ++ [o]).toArray Q (fuel + 1) (L.push false) a u := by
  have hjl : j < l.length := (List.getElem?_eq_some_iff.1 hoa).1
  have hready : ∀ (L : Array Bool) b, Region.ready md (withPtr l j b).toArray L = [] → Region.ready md l.toArray L = [] := by
    intro L b h
    cases e : Region.ready md l.toArray L with
    | nil => rfl
    | cons i r =>
      exfalso
      have hm : i ∈ Region.ready md l.toArray L := by rw [e]; simp
      have := (withPtr_ready l j b i L).2 hm
      rw [h] at this; cases this
  have hready' : ∀ (L : Array Bool) b, Region.ready md l.toArray L = [] → Region.ready md (withPtr l j b).toArray L = [] := by
    intro L b h
    cases e : Region.ready md (withPtr l j b).toArray L with
    | nil => rfl
    | cons i r =>
      exfalso
      have hm : i ∈ Region.ready md (withPtr l j b).toArray L := by rw [e]; simp
      have := (withPtr_ready l j b i L).1 hm
      rw [h] at this; cases this
  have hlast : ∀ (L : Array Bool), L.size = l.length → Region.ready md l.toArray L = [] → l.length ∈ Region.ready md (l ++ [o]).toArray (L.push false) := by
    intro L hL hr
    refine mem_ready.2 ⟨by rw [getD_tf (by simp; omega), getD_push]; simp [Array.getD_eq_getD_getElem?, hL], o, snoc_last, fun e he _ => ?_⟩
    rw [getD_push]
    exact all_of_stuck hL hb hr l.length _ (backB_spec hb snoc_last e he) (backB_spec hb snoc_last e he)
  have hfin : ∀ (L : Array Bool) (a : Act) (u : World) (f : Nat), L.size = l.length → (∀ k, k < l.length → L.getD k false = true) → wpList P (l ++ [o]).toArray Q [o] a u →
      wpOp P (l ++ [o]).toArray Q l.length (wpAny P md (l ++ [o]).toArray Q f ((L.push false).setIfInBounds l.length true)) a u := by
    intro L a u f hL hall h1
    have h2 : wpOp P (l ++ [o]).toArray Q l.length (fun a w => Q .normal a w) a u := by
      unfold wpOp
      rw [snoc_last]
      exact h1
    refine wpOp_mono (fun a' w' h3 => ?_) h2
    have hr : Region.ready md (l ++ [o]).toArray ((L.push false).setIfInBounds l.length true) = [] := by
      cases e : Region.ready md (l ++ [o]).toArray ((L.push false).setIfInBounds l.length true) with
      | nil => rfl
      | cons k r =>
        exfalso
        have hm : k ∈ Region.ready md (l ++ [o]).toArray ((L.push false).setIfInBounds l.length true) := by rw [e]; simp
        obtain ⟨h0, y, hy, _⟩ := mem_ready.1 hm
        have hk : k < l.length + 1 := by have := (Array.getElem?_eq_some_iff.1 hy).1; simpa using this
        rw [getD_tf (by simp; omega)] at h0
        by_cases hkl : k = l.length
        · subst hkl; rw [getD_set_self (by simp; omega)] at h0; cases h0
        · rw [getD_set_other (fun h => hkl h.symm), getD_push, hall k (by omega)] at h0; cases h0
    cases f with
    | zero => exact ⟨hr, h3⟩
    | succ f => exact ⟨fun _ => h3, by rw [hr]; simp⟩
  -- where nothing is left but the last one
  have hdone : ∀ (fuel : Nat) (L : Array Bool) (a : Act) (u : World) (x : Option Nat), L.size = l.length → Closed md (l ++ [o]).toArray (L.push false) → Below w.heap.size w u →
      (L.getD j false = x.isSome) → (∀ b, x = some b → At u b zs ∧ w.heap.size ≤ b) →
      (∀ b W, (∀ b', x = some b' → b = b') → Below w.heap.size w W → wpAnyQ P md (withPtr l j b).toArray (Cls W) (fun a' => a' = A b) fuel L a) →
      l.length ∈ Region.ready md (l ++ [o]).toArray (L.push false) → ∀ f, wpOp P (l ++ [o]).toArray Q l.length (wpAny P md (l ++ [o]).toArray Q f ((L.push false).setIfInBounds l.length true)) a u := by
    intro fuel L a u x hL hcl hbu hx hxb hG hi f
    have hall := fun k hk => all_of_last hL hl hcl hi l.length k (by omega) hk
    have hr := ready_nil_of_all (md := md) hL hall
    have hxs := hall j hjl
    rw [hx] at hxs
    obtain ⟨b, rfl⟩ := Option.isSome_iff_exists.1 hxs
    obtain ⟨hat, hwb⟩ := hxb b rfl
    have hq := hG b w (fun b' h => (Option.some.inj h)) (Below.refl _ _)
    have ha : a = A b := by
      cases fuel with
      | zero => exact hq.2
      | succ f => exact hq.1 (hready' L b hr)
    refine hfin L a u f hL hall ?_
    rw [ha]
    exact hend b u hbu hat hwb
  intro fuel
  induction fuel with
  | zero =>
    intro L a u x hL hcl hbu hx hxb hG
    have hq0 := hG (x.getD 0) w (fun b' h => by rw [h]; rfl) (Below.refl _ _)
    have hr0 := hready L _ hq0.1
    refine ⟨fun h0 => ?_, fun i hi => ?_⟩
    · have := hlast L hL hr0; rw [h0] at this; cases this
    · have hil : i < l.length + 1 := by
        obtain ⟨_, y, hy, _⟩ := mem_ready.1 hi
        have := (Array.getElem?_eq_some_iff.1 hy).1; simpa using this
      by_cases hi2 : i < l.length
      · have := (ready_snoc hL hi2).1 hi; rw [hr0] at this; cases this
      · obtain rfl : i = l.length := by omega
        exact hdone 0 L a u x hL hcl hbu hx hxb hG hi 0
  | succ fuel ih =>
    intro L a u x hL hcl hbu hx hxb hG
    refine ⟨fun h0 => ?_, fun i hi => ?_⟩
    · have hr : Region.ready md l.toArray L = [] := by
        cases e : Region.ready md l.toArray L with
        | nil => rfl
        | cons k r =>
          exfalso
          have hm : k ∈ Region.ready md l.toArray L := by rw [e]; simp
          obtain ⟨_, y, hy, _⟩ := mem_ready.1 hm
          have hk : k < l.length := by have := (Array.getElem?_eq_some_iff.1 hy).1; simpa using this
          have := (ready_snoc (o := o) hL hk).2 hm
          rw [h0] at this; cases this
      have := hlast L hL hr; rw [h0] at this; cases this
    · have hil : i < l.length + 1 := by
        obtain ⟨_, y, hy, _⟩ := mem_ready.1 hi
        have := (Array.getElem?_eq_some_iff.1 hy).1; simpa using this
      by_cases hi2 : i < l.length
      · have hm := (ready_snoc hL hi2).1 hi
        have hset : (L.push false).setIfInBounds i true = (L.setIfInBounds i true).push false := by
          apply Array.ext_getElem?
          intro k
          simp only [Array.getElem?_setIfInBounds, Array.getElem?_push, Array.size_push, Array.size_setIfInBounds]
          by_cases h1 : i = k
          · subst h1; simp [show i < L.size by omega, show i < L.size + 1 by omega, show ¬ i = L.size by omega]
          · simp [h1]
        have hcl' : Closed md (l ++ [o]).toArray ((L.setIfInBounds i true).push false) := by
          intro k y hy hk e he hbe
          rw [← hset] at hk ⊢
          by_cases h1 : i = e.on
          · rw [← h1]; exact getD_set_self (by simp; omega)
          · rw [getD_set_other h1]
            by_cases h2 : i = k
            · subst h2
              obtain ⟨_, y', hy', hall⟩ := mem_ready.1 hi
              rw [hy] at hy'; obtain rfl := Option.some.inj hy'
              exact hall e he hbe
            · rw [getD_set_other h2] at hk
              exact hcl k y hy hk e he hbe
        -- what each walk says of this operation
        have hun : L.getD i false = false := by
          have := (mem_ready.1 hm).1; rwa [getD_tf (by omega)] at this
        by_cases hij : i = j
        · subst hij
          have hxn : x = none := by
            cases x with
            | none => rfl
            | some b => rw [hun] at hx; cases hx
          subst hxn
          unfold wpOp
          rw [snoc_lt hi2, show l.toArray[i]? = some oa by simpa using hoa]
          simp only [Region.wanted, hg, if_true]
          refine Or.inl ?_
          unfold Oper.wp
          rw [hal]
          simp only [Oper.upon]
          rw [hset]
          refine ih _ _ _ (some u.heap.size) (by simpa using hL) hcl' ?_ ?_ ?_ ?_
          · exact hbu.alloc hbu.size _
          · rw [getD_set_self (by omega)]; rfl
          · intro b hbe
            obtain rfl := Option.some.inj hbe
            exact ⟨at_new u zs t, hbu.size⟩
          · intro b W hbb hW
            obtain rfl := hbb u.heap.size rfl
            have hq := (hG u.heap.size W (fun b' h => by cases h) hW).2 i ((withPtr_ready l i _ i L).2 hm)
            obtain ⟨v, hy, hk⟩ := yieldsIn_of_qOp (o := ptrOp oa u.heap.size) (by simpa using withPtr_at l i u.heap.size hoa) hq
            have hv : v = .pointer (some ⟨u.heap.size, 0, none⟩) := by
              rcases hy with ⟨_, hy⟩ | ⟨hw, _⟩
              · have h3 := hy W (cls_self W)
                unfold Oper.quietAt at h3
                rw [BigFrame.run_assign (o := ptrOp oa u.heap.size) (.const (.pointer (some ⟨u.heap.size, 0, none⟩))) rfl] at h3
                exact h3.2.symm
              · simp [Region.wanted, ptrOp, hg] at hw
            rw [hv] at hk
            exact hk
        · have hop : ∀ b, (withPtr l j b).toArray[i]? = l.toArray[i]? := fun b => by
            simpa using withPtr_ne l j b i hij
          obtain ⟨y, hy⟩ : ∃ y, l.toArray[i]? = some y := ⟨l[i], by simp [hi2]⟩
          obtain ⟨d, hyd⟩ := hsome i y (by simpa using hy)
          have hval : ∀ b W, (∀ b', x = some b' → b = b') → Below w.heap.size w W → ∃ v, YieldsIn P (withPtr l j b).toArray (Cls W) y v a ∧ wpAnyQ P md (withPtr l j b).toArray (Cls W) (fun a' => a' = A b) fuel (L.setIfInBounds i true) (a.put (some d) v) := by
            intro b W hbb hW
            have hq := (hG b W hbb hW).2 i ((withPtr_ready l j b i L).2 hm)
            obtain ⟨v, h1, h2⟩ := yieldsIn_of_qOp ((hop b).trans hy) hq
            rw [hyd] at h2
            exact ⟨v, h1, h2⟩
          have hslot : ∀ b W v, wpAnyQ P md (withPtr l j b).toArray (Cls W) (fun a' => a' = A b) fuel (L.setIfInBounds i true) (a.put (some d) v) → (A b).tmps[d]? = (a.put (some d) v).tmps[d]? := by
            intro b W v hk
            refine slot_end fuel _ _ hk ?_
            intro k z hz hkl
            have hik : i ≠ k := by
              intro h; subst h
              rw [getD_tf (by simp; omega), getD_set_self (by omega)] at hkl; cases hkl
            by_cases hkj : k = j
            · subst hkj
              have : z = ptrOp oa b := by
                have h1 := withPtr_at l k b hoa
                rw [List.getElem?_toArray] at hz
                exact Option.some.inj (hz.symm.trans h1)
              rw [this]
              have hne := apartB_spec hap (by simpa using hy) hoa hik hyd
              exact hne
            · have hz' : l[k]? = some z := by
                rw [List.getElem?_toArray, withPtr_ne l j b k hkj] at hz; exact hz
              exact apartB_spec hap (by simpa using hy) hz' hik hyd
          have hdj : d ≠ dj := by
            intro h; subst h
            exact apartB_spec hap (by simpa using hy) hoa hij hyd hdst
          have hAd : ∀ b b', (A b).tmps[d]? = (A b').tmps[d]? := by
            intro b b'
            rw [hA b, hA b']
            simp [Act.put, hdj.symm]
          -- the walk in the world at hand
          obtain ⟨v, hyv, hkv⟩ := hval (x.getD 0) u (fun b' h => by rw [h]; rfl) hbu
          have hsv := hslot _ _ _ hkv
          have hnext : ∀ b W, (∀ b', x = some b' → b = b') → Below w.heap.size w W → wpAnyQ P md (withPtr l j b).toArray (Cls W) (fun a' => a' = A b) fuel (L.setIfInBounds i true) (a.put (some d) v) := by
            intro b W hbb hW
            obtain ⟨v', _, hk'⟩ := hval b W hbb hW
            have hsv' := hslot _ _ _ hk'
            rw [put_same (A := A b) (v := v) (v' := v') (by rw [hAd b (x.getD 0)]; exact hsv) hsv']
            exact hk'
          have hstep : ∀ u', Below w.heap.size w u' → Below u.heap.size u u' → wpAny P md (l ++ [o]).toArray Q (fuel + 1) ((L.setIfInBounds i true).push false) (a.put (some d) v) u' := by
            intro u' hb' huu
            refine ih _ _ u' x (by simpa using hL) hcl' hb' ?_ ?_ hnext
            · rw [getD_set_other hij]; exact hx
            · intro b hbe
              obtain ⟨h1, h2⟩ := hxb b hbe
              exact ⟨h1.below huu, h2⟩
          rw [hset]
          unfold wpOp
          rw [snoc_lt hi2, hy]
          have hyl : yielded (l ++ [o]).toArray a.tmps = yielded (withPtr l j (x.getD 0)).toArray a.tmps := by
            rw [yielded_snoc hd, yielded_dst (fun k => (withPtr_dst l j (x.getD 0) k).symm)]
          simp only [hyl]
          rcases hyv with ⟨hw, hyv⟩ | ⟨hw, rfl⟩
          · simp only [hw, if_true]
            refine Or.inl ?_
            have hqu : y.quiet P a (Cls u) (fun a' => a' = a.put y.dst v) := ⟨v, hyv, rfl⟩
            refine Oper.wp_of_quiet (cls_self u) (fun a' u' hc ha => ?_) hqu
            rw [ha, hyd]
            have hbb := regrown_below hc
            exact hstep u' (bl_call hbu hbb hbu.size) hbb
          · simp only [hw, Bool.false_eq_true, if_false]
            rw [hyd]
            exact hstep u hbu (Below.refl _ _)
      · obtain rfl : i = l.length := by omega
        exact hdone (fuel + 1) L a u x hL hcl hbu hx hxb hG hi (fuel + 1)

/-- The check of a region. -/
def newB (ops : List Oper) : Bool :=
  backB ops.toArray && lastB .any ops.toArray && apartB ops.dropLast && ops.dropLast.all (fun o => o.dst.isSome) && (match ops.getLast? with | some o => o.dst.isNone | none => false)

theorem region_new {id : Nat} {Q : Exit → Act → World → Prop} {a : Act} {w : World} {ops : List Oper} (j : Nat) {oa : Oper} {dj : Tmp} (t : TypeId) (zs : List Value) {A : Nat → Act}
    (hm : P.follows .mixedOrders = true) (hB : newB ops = true) (hlex : ∀ b, Region.lexB .any (withPtr ops.dropLast j b).toArray = true)
    (hoa : ops.dropLast[j]? = some oa) (hdst : oa.dst = some dj) (hg : oa.guard = none)
    (hal : ∀ (e : Operand → Value) (u : World), (execOp e oa).run P u = .ok (.value (.pointer (some ⟨u.heap.size, 0, none⟩))) (u.alloc (.cells zs.toArray t)))
    (h : ∀ b W, Below w.heap.size w W → wpQuiet P (withPtr ops.dropLast j b).toArray (Cls W) (fun a' => a' = A b) (withPtr ops.dropLast j b) a)
    (hA : ∀ b, A b = (A 0).put (some dj) (.pointer (some ⟨b, 0, none⟩)))
    (hend : ∀ b W, Below w.heap.size w W → At W b zs → w.heap.size ≤ b → wpList P ops.toArray Q (ops.drop ops.dropLast.length) (A b) W) : (Code.region id ops.toArray true).wp P Q a w := by
  simp only [newB, Bool.and_eq_true] at hB
  obtain ⟨⟨⟨⟨h1, h2⟩, h3⟩, h3'⟩, h4⟩ := hB
  cases hl : ops.getLast? with
  | none => rw [hl] at h4; simp at h4
  | some o =>
    rw [hl] at h4
    have hd : o.dst = none := by simpa using h4
    have hops : ops = ops.dropLast ++ [o] := by
      obtain ⟨l', rfl⟩ := List.getLast?_eq_some_iff.1 hl
      simp
    generalize hL : ops.dropLast = l at *
    subst hops
    have hdrop : (l ++ [o]).drop l.length = [o] := by simp
    rw [hdrop] at hend
    refine wp_region_any hm ?_
    have e1 : (l ++ [o]).toArray.size = l.length + 1 := by simp
    have e2 : Array.replicate (l.length + 1) false = (Array.replicate l.length false).push false := by
      rw [Array.replicate_succ]
    have hdr : Below w.heap.size w { w with drawn := w.drawn + 1 } := ⟨rfl, rfl, rfl, Nat.le_refl _, fun _ _ => rfl⟩
    rw [e1, e2]
    refine wpAny_new (w := w) (A := A) (zs := zs) (t := t) hd h1 h2 h3 ?_ hoa hdst hg hal hA hend l.length (Array.replicate l.length false) a _ none (by simp) ?_ hdr ?_ (fun b h => by cases h) ?_
    · intro i x hx
      rw [List.all_eq_true] at h3'
      have := h3' x (List.mem_of_getElem? hx)
      exact Option.isSome_iff_exists.1 this
    · intro k x hx hk
      rw [getD_push] at hk
      simp only [Array.getD_eq_getD_getElem?, Array.getElem?_replicate] at hk
      split at hk <;> simp at hk
    · simp only [Array.getD_eq_getD_getElem?, Array.getElem?_replicate]
      split <;> simp
    · intro b W _ hW
      have hx := hlex b
      simp only [Region.lexB, Bool.and_eq_true] at hx
      have := wpAnyQ_lex (P := P) (C := Cls W) (md := .any) hx.1 (withPtr l j b) 0 (Array.replicate (withPtr l j b).toArray.size false) a (by simp) (by simpa using hx.2) (h b W hW)
      simpa [withPtr_len] using this
end
end Go.Proofs.YtgngdabfmbipaakGreatDoor
