/- A region that draws its order, whose operations but the last only read, and whose last one waits for all others: one walk in the order of the text, then the last operation. Of whatever program. -/
import Derived.BigQuiet
import Derived.Lib.QuietBelow
import Derived.Deep.RegionWith
namespace Go.Proofs.Ytmijjjdedadklag
open Go.RowKit Go.Sort

section
variable {P : Program} {md : Region.Mode} {C : World → Prop}

/-- Each operation but the last is one that a later one waits for. -/
def lastB (md : Region.Mode) (ops : Array Oper) : Bool :=
  (List.range (ops.size - 1)).all fun i => (List.range ops.size).any fun j => Nat.blt i j && ((ops[j]?).map fun o => o.after.any fun e => Region.binds md e && Nat.beq e.on i).getD false
/-- Nobody waits for a later one. -/
def backB (ops : Array Oper) : Bool :=
  (List.range ops.size).all fun j => ((ops[j]?).map fun o => o.after.all fun e => Nat.blt e.on j).getD true

theorem lastB_spec {ops : Array Oper} (h : lastB md ops = true) {i : Nat} (hi : i < ops.size - 1) :
    ∃ j o, i < j ∧ ops[j]? = some o ∧ ∃ e ∈ o.after, Region.binds md e = true ∧ e.on = i := by
  unfold lastB at h
  rw [List.all_eq_true] at h
  have h1 := h i (List.mem_range.2 hi)
  rw [List.any_eq_true] at h1
  obtain ⟨j, hj, h2⟩ := h1
  rw [Bool.and_eq_true] at h2
  cases ho : ops[j]? with
  | none => rw [ho] at h2; simp at h2
  | some o =>
    rw [ho] at h2
    simp only [Option.map_some, Option.getD_some] at h2
    obtain ⟨hlt, h3⟩ := h2
    rw [Array.any_eq_true] at h3
    obtain ⟨k, hk, h4⟩ := h3
    rw [Bool.and_eq_true] at h4
    exact ⟨j, o, by rwa [Nat.blt_eq] at hlt, ho, o.after[k], Array.getElem_mem hk, h4.1, Nat.eq_of_beq_eq_true h4.2⟩
theorem backB_spec {ops : Array Oper} (h : backB ops = true) {j : Nat} {o : Oper} (ho : ops[j]? = some o) : ∀ e ∈ o.after, e.on < j := by
  unfold backB at h
  rw [List.all_eq_true] at h
  have hj : j < ops.size := (Array.getElem?_eq_some_iff.1 ho).1
  have h1 := h j (List.mem_range.2 hj)
  rw [ho] at h1
  simp only [Option.map_some, Option.getD_some] at h1
  rw [Array.all_eq_true_iff_forall_mem] at h1
  intro e he
  have := h1 e he
  rwa [Nat.blt_eq] at this

/-- What is listed has all that it waits for listed. -/
def Closed (md : Region.Mode) (ops : Array Oper) (listed : Array Bool) : Prop :=
  ∀ j o, ops[j]? = some o → listed.getD j false = true → ∀ e ∈ o.after, Region.binds md e = true → listed.getD e.on false = true

variable {l : List Oper} {o : Oper}

theorem snoc_lt {j : Nat} (h : j < l.length) : (l ++ [o]).toArray[j]? = l.toArray[j]? := by simp [List.getElem?_append_left h]
theorem snoc_last : (l ++ [o]).toArray[l.length]? = some o := by simp
theorem getD_push {A : Array Bool} {j : Nat} : (A.push false).getD j false = A.getD j false := by
  simp only [Array.getD_eq_getD_getElem?, Array.getElem?_push]
  split
  · rename_i h; subst h; simp
  · rfl
theorem getD_set_self {A : Array Bool} {i : Nat} (h : i < A.size) : (A.setIfInBounds i true).getD i false = true := by
  simp [Array.getD_eq_getD_getElem?, h]
theorem getD_set_other {A : Array Bool} {i j : Nat} (h : i ≠ j) : (A.setIfInBounds i true).getD j false = A.getD j false := by
  simp [Array.getD_eq_getD_getElem?, h]
theorem getD_tf {A : Array Bool} {j : Nat} (h : j < A.size) : A.getD j true = A.getD j false := by
  simp [Array.getD_eq_getD_getElem?, h]

/-- Which may come up now: the same, as long as the last one may not. -/
theorem ready_snoc {L : Array Bool} (hL : L.size = l.length) {j : Nat} (hj : j < l.length) :
    j ∈ Region.ready md (l ++ [o]).toArray (L.push false) ↔ j ∈ Region.ready md l.toArray L := by
  rw [mem_ready, mem_ready, getD_tf (by simp; omega), getD_tf (by omega), getD_push, snoc_lt hj]
  constructor
  · rintro ⟨h0, x, hx, hall⟩
    exact ⟨h0, x, hx, fun e he hbe => by rw [← hall e he hbe, getD_push]⟩
  · rintro ⟨h0, x, hx, hall⟩
    exact ⟨h0, x, hx, fun e he hbe => by rw [← hall e he hbe, getD_push]⟩

/-- Where nothing may come up all is listed. -/
theorem all_of_stuck {L : Array Bool} (hL : L.size = l.length) (hb : backB (l ++ [o]).toArray = true) (hr : Region.ready md l.toArray L = []) :
    ∀ n j, j < n → j < l.length → L.getD j false = true := by
  intro n
  induction n with
  | zero => intro j h; omega
  | succ n ih =>
    intro j h hj
    by_cases hjn : j < n
    · exact ih j hjn hj
    · have hx : (l ++ [o]).toArray[j]? = l.toArray[j]? := snoc_lt hj
      obtain ⟨x, hx'⟩ : ∃ x, l.toArray[j]? = some x := ⟨l[j], by simp [hj]⟩
      cases hv : L.getD j false with
      | true => rfl
      | false =>
        exfalso
        have : j ∈ Region.ready md l.toArray L := mem_ready.2 ⟨by rw [getD_tf (by omega)]; exact hv, x, hx', fun e he _ => ih e.on (by have := backB_spec hb (hx.trans hx') e he; omega) (by have := backB_spec hb (hx.trans hx') e he; omega)⟩
        rw [hr] at this; cases this

/-- Where the last one may come up all others are listed. -/
theorem all_of_last {L : Array Bool} (hL : L.size = l.length) (hl : lastB md (l ++ [o]).toArray = true) (hc : Closed md (l ++ [o]).toArray (L.push false))
    (hr : l.length ∈ Region.ready md (l ++ [o]).toArray (L.push false)) : ∀ n j, l.length - n ≤ j → j < l.length → L.getD j false = true := by
  intro n
  induction n with
  | zero => intro j h1 h2; omega
  | succ n ih =>
    intro j h1 h2
    obtain ⟨k, x, hjk, hx, e, he, hbe, hon⟩ := lastB_spec hl (i := j) (by simp; omega)
    have hk : k < l.length + 1 := by
      have := (Array.getElem?_eq_some_iff.1 hx).1
      simpa using this
    by_cases hkl : k = l.length
    · subst hkl
      obtain ⟨_, y, hy, hall⟩ := mem_ready.1 hr
      rw [hx] at hy
      obtain rfl := Option.some.inj hy
      have := hall e he hbe
      rw [getD_push, hon] at this
      exact this
    · have h3 := hc k x hx (by rw [getD_push]; exact ih k (by omega) (by omega)) e he hbe
      rw [getD_push, hon] at h3
      exact h3

theorem ready_nil_of_all {L : Array Bool} (hL : L.size = l.length) (h : ∀ j, j < l.length → L.getD j false = true) : Region.ready md l.toArray L = [] := by
  cases e : Region.ready md l.toArray L with
  | nil => rfl
  | cons j r =>
    exfalso
    have hm : j ∈ Region.ready md l.toArray L := by rw [e]; simp
    obtain ⟨h0, x, hx, _⟩ := mem_ready.1 hm
    have hj : j < l.length := by have := (Array.getElem?_eq_some_iff.1 hx).1; simpa using this
    rw [getD_tf (by omega), h j hj] at h0
    cases h0

theorem yielded_snoc (hd : o.dst = none) (t : Array Value) : yielded (l ++ [o]).toArray t = yielded l.toArray t := by
  funext j
  unfold yielded
  by_cases h : j < l.length
  · rw [snoc_lt h]
  · by_cases h2 : j = l.length
    · subst h2; rw [snoc_last]; simp [hd]
    · have e1 : (l ++ [o]).toArray[j]? = none := by simp; omega
      have e2 : l.toArray[j]? = none := by simp; omega
      rw [e1, e2]

theorem wpAny_snoc {Q : Exit → Act → World → Prop} {Q' : Act → Prop} (hd : o.dst = none) (hb : backB (l ++ [o]).toArray = true) (hl : lastB md (l ++ [o]).toArray = true)
    (hQ : ∀ a w, C w → Q' a → wpList P (l ++ [o]).toArray Q [o] a w) :
    ∀ (fuel : Nat) (L : Array Bool) (a : Act) (w : World), L.size = l.length → Closed md (l ++ [o]).toArray (L.push false) → C w →
      wpAnyQ P md l.toArray C Q' fuel L a → wpAny P md (l ++ [o]).toArray Q (fuel + 1) (L.push false) a w := by
  have hlast : ∀ (L : Array Bool), L.size = l.length → Region.ready md l.toArray L = [] → l.length ∈ Region.ready md (l ++ [o]).toArray (L.push false) := by
    intro L hL hr
    refine mem_ready.2 ⟨by rw [getD_tf (by simp; omega), getD_push]; simp [Array.getD_eq_getD_getElem?, hL], o, snoc_last, fun e he _ => ?_⟩
    rw [getD_push]
    exact all_of_stuck hL hb hr l.length _ (backB_spec hb snoc_last e he) (backB_spec hb snoc_last e he)
  have hend : ∀ (L : Array Bool) (a : Act) (w : World) (f : Nat), L.size = l.length → (∀ j, j < l.length → L.getD j false = true) → C w → Q' a →
      wpOp P (l ++ [o]).toArray Q l.length (wpAny P md (l ++ [o]).toArray Q f ((L.push false).setIfInBounds l.length true)) a w := by
    intro L a w f hL hall hC hq
    have h1 := hQ a w hC hq
    have h2 : wpOp P (l ++ [o]).toArray Q l.length (fun a w => Q .normal a w) a w := by
      unfold wpOp
      rw [snoc_last]
      exact h1
    refine wpOp_mono (fun a' w' h3 => ?_) h2
    have hr : Region.ready md (l ++ [o]).toArray ((L.push false).setIfInBounds l.length true) = [] := by
      cases e : Region.ready md (l ++ [o]).toArray ((L.push false).setIfInBounds l.length true) with
      | nil => rfl
      | cons j r =>
        exfalso
        have hm : j ∈ Region.ready md (l ++ [o]).toArray ((L.push false).setIfInBounds l.length true) := by rw [e]; simp
        obtain ⟨h0, x, hx, _⟩ := mem_ready.1 hm
        have hj : j < l.length + 1 := by have := (Array.getElem?_eq_some_iff.1 hx).1; simpa using this
        rw [getD_tf (by simp; omega)] at h0
        by_cases hjl : j = l.length
        · subst hjl; rw [getD_set_self (by simp; omega)] at h0; cases h0
        · rw [getD_set_other (fun h => hjl h.symm), getD_push, hall j (by omega)] at h0; cases h0
    cases f with
    | zero => exact ⟨hr, h3⟩
    | succ f => exact ⟨fun _ => h3, by rw [hr]; simp⟩
  intro fuel
  induction fuel with
  | zero =>
    intro L a w hL hcl hC h
    refine ⟨fun h0 => ?_, fun i hi => ?_⟩
    · have := hlast L hL h.1; rw [h0] at this; cases this
    · have hil : i < l.length + 1 := by
        obtain ⟨_, x, hx, _⟩ := mem_ready.1 hi
        have := (Array.getElem?_eq_some_iff.1 hx).1; simpa using this
      by_cases hi2 : i < l.length
      · have := (ready_snoc hL hi2).1 hi; rw [h.1] at this; cases this
      · obtain rfl : i = l.length := by omega
        exact hend L a w 0 hL (fun j hj => all_of_last hL hl hcl hi l.length j (by omega) hj) hC h.2
  | succ fuel ih =>
    intro L a w hL hcl hC h
    refine ⟨fun h0 => ?_, fun i hi => ?_⟩
    · have hr : Region.ready md l.toArray L = [] := by
        cases e : Region.ready md l.toArray L with
        | nil => rfl
        | cons j r =>
          exfalso
          have hm : j ∈ Region.ready md l.toArray L := by rw [e]; simp
          obtain ⟨_, x, hx, _⟩ := mem_ready.1 hm
          have hj : j < l.length := by have := (Array.getElem?_eq_some_iff.1 hx).1; simpa using this
          have := (ready_snoc (o := o) hL hj).2 hm
          rw [h0] at this; cases this
      have := hlast L hL hr; rw [h0] at this; cases this
    · have hil : i < l.length + 1 := by
        obtain ⟨_, x, hx, _⟩ := mem_ready.1 hi
        have := (Array.getElem?_eq_some_iff.1 hx).1; simpa using this
      by_cases hi2 : i < l.length
      · have hm := (ready_snoc hL hi2).1 hi
        have hq := h.2 i hm
        have hset : (L.push false).setIfInBounds i true = (L.setIfInBounds i true).push false := by
          apply Array.ext_getElem?
          intro j
          simp only [Array.getElem?_setIfInBounds, Array.getElem?_push, Array.size_push, Array.size_setIfInBounds]
          by_cases h1 : i = j
          · subst h1; simp [show i < L.size by omega, show i < L.size + 1 by omega, show ¬ i = L.size by omega]
          · simp [h1]
        have hcl' : Closed md (l ++ [o]).toArray ((L.setIfInBounds i true).push false) := by
          intro j x hx hj e he hbe
          rw [← hset] at hj ⊢
          by_cases h1 : i = e.on
          · rw [← h1]; exact getD_set_self (by simp; omega)
          · rw [getD_set_other h1]
            by_cases h2 : i = j
            · subst h2
              obtain ⟨_, y, hy, hall⟩ := mem_ready.1 hi
              rw [hx] at hy; obtain rfl := Option.some.inj hy
              exact hall e he hbe
            · rw [getD_set_other h2] at hj
              exact hcl j x hx hj e he hbe
        have hw := wpOp_of_qOp (P := P) (Q' := Q) (K' := fun a' w' => wpAny P md (l ++ [o]).toArray Q (fuel + 1) ((L.push false).setIfInBounds i true) a' w') hC
          (fun a' w' hC' hk => by rw [hset]; exact ih _ a' w' (by simpa using hL) hcl' hC' hk) hq
        unfold wpOp at hw ⊢
        rw [snoc_lt hi2, yielded_snoc hd]
        exact hw
      · obtain rfl : i = l.length := by omega
        have hall := fun j hj => all_of_last hL hl hcl hi l.length j (by omega) hj
        exact hend L a w (fuel + 1) hL hall hC (h.1 (ready_nil_of_all hL hall))

/-- The whole check of a region. -/
def quietLastB (ops : List Oper) : Bool :=
  Region.lexB .any ops.dropLast.toArray && backB ops.toArray && lastB .any ops.toArray && (match ops.getLast? with | some o => o.dst.isNone | none => false)

theorem region_last {id : Nat} {Q : Exit → Act → World → Prop} {a : Act} {w : World} {ops : List Oper} (hm : P.follows .mixedOrders = true) (hB : quietLastB ops = true) (hC : C { w with drawn := w.drawn + 1 })
    (h : wpQuiet P ops.dropLast.toArray C (fun a' => ∀ w', C w' → wpList P ops.toArray Q (ops.drop ops.dropLast.length) a' w') ops.dropLast a) : (Code.region id ops.toArray true).wp P Q a w := by
  simp only [quietLastB, Bool.and_eq_true] at hB
  obtain ⟨⟨⟨h1, h2⟩, h3⟩, h4⟩ := hB
  cases hl : ops.getLast? with
  | none => rw [hl] at h4; simp at h4
  | some o =>
    rw [hl] at h4
    have hd : o.dst = none := by simpa using h4
    have hops : ops = ops.dropLast ++ [o] := by
      obtain ⟨l', rfl⟩ := List.getLast?_eq_some_iff.1 hl
      simp
    generalize hL : ops.dropLast = l at *
    subst hops
    have hdrop : (l ++ [o]).drop l.length = [o] := by simp
    rw [hdrop] at h
    simp only [Region.lexB, Bool.and_eq_true] at h1
    have hlex := wpAnyQ_lex (C := C) (md := .any) h1.1 l 0 (Array.replicate l.toArray.size false) a (by simp) (by simpa using h1.2) h
    refine wp_region_any hm ?_
    have := wpAny_snoc (P := P) (md := .any) (C := C) (Q := Q) (Q' := fun a' => ∀ w', C w' → wpList P (l ++ [o]).toArray Q [o] a' w') hd h2 h3 (fun a' w' hC' hq => hq w' hC') l.length (Array.replicate l.length false) a { w with drawn := w.drawn + 1 } (by simp)
      (by
        intro j x hx hj
        rw [getD_push] at hj
        simp only [Array.getD_eq_getD_getElem?, Array.getElem?_replicate] at hj
        split at hj <;> simp at hj)
      hC (by simpa using hlex)
    have e1 : (l ++ [o]).toArray.size = l.length + 1 := by simp
    have e2 : Array.replicate (l.length + 1) false = (Array.replicate l.length false).push false := by
      rw [Array.replicate_succ]
    rw [e1, e2]
    exact this

/-- The same, for a region whose operations are written out, where the callees leave the memory as it was. -/
theorem quiet_last {id : Nat} {Q : Exit → Act → World → Prop} {a : Act} {w : World} {ops : List Oper} (hm : P.follows .mixedOrders = true) (hB : quietLastB ops = true)
    (h : wpQuiet P ops.dropLast.toArray (fun w' => ∃ n, w' = w.drewN n) (fun a' => ∀ w', (∃ n, w' = w.drewN n) → wpList P ops.toArray Q (ops.drop ops.dropLast.length) a' w') ops.dropLast a) : (Code.region id ops.toArray true).wp P Q a w :=
  region_last (C := fun w' => ∃ n, w' = w.drewN n) hm hB ⟨1, rfl⟩ h
/-- The same, where the callees lay memory, and turn nothing that was there. -/
theorem below_last {id : Nat} {Q : Exit → Act → World → Prop} {a : Act} {w : World} {ops : List Oper} (hm : P.follows .mixedOrders = true) (hB : quietLastB ops = true)
    (h : wpQuiet P ops.dropLast.toArray (fun w' => ∃ p : Regrown, w' = grow (redrawn w p.d) p.os) (fun a' => ∀ w', (∃ p : Regrown, w' = grow (redrawn w p.d) p.os) → wpList P ops.toArray Q (ops.drop ops.dropLast.length) a' w') ops.dropLast a) : (Code.region id ops.toArray true).wp P Q a w :=
  region_last (C := fun w' => ∃ p : Regrown, w' = grow (redrawn w p.d) p.os) hm hB ⟨⟨w.drawn + 1, #[]⟩, by rw [grow_empty]; rfl⟩ h
end

/-! What a walk leaves of the memory that was there. -/
theorem bl_drewN {B : Nat} {a w : World} {n : Nat} (h : Below B a w) : Below B a (w.drewN n) := ⟨h.os, h.tape, h.output, h.size, h.block⟩
theorem bl_grow {B d : Nat} {a w : World} {os : Array Obj} (h : Below B a w) (hB : B ≤ w.heap.size) : Below B a (grow (redrawn w d) os) := h.trans ((below_regrown w d os).mono hB)
theorem bl_call {B : Nat} {a w w' : World} (h : Below B a w) (k : Below w.heap.size w w') (hB : B ≤ w.heap.size) : Below B a w' := h.trans (k.mono hB)
/-- Old cells, old marks. -/
theorem bcell {W w1 : World} (hb : Below W.heap.size W w1) : (∀ b o, b < W.heap.size → w1.cell? ⟨b, o, none⟩ = W.cell? ⟨b, o, none⟩) ∧ (∀ b o, b < W.heap.size → w1.frozen? ⟨b, o, none⟩ = W.frozen? ⟨b, o, none⟩) :=
  ⟨fun b o h => hb.cell (p := ⟨b, o, none⟩) h, fun b o h => hb.frozen (p := ⟨b, o, none⟩) h⟩
/-- An old cell, in a world of the class. -/
theorem grow_cell {w : World} {d : Nat} {os : Array Obj} {b o : Nat} (h : b < w.heap.size) : (grow (redrawn w d) os).cell? ⟨b, o, none⟩ = w.cell? ⟨b, o, none⟩ := (below_regrown w d os).cell (p := ⟨b, o, none⟩) h
theorem grow_frozen {w : World} {d : Nat} {os : Array Obj} {b o : Nat} (h : b < w.heap.size) : (grow (redrawn w d) os).frozen? ⟨b, o, none⟩ = w.frozen? ⟨b, o, none⟩ := (below_regrown w d os).frozen (p := ⟨b, o, none⟩) h
attribute [go_sem] grow_cell grow_frozen
end Go.Proofs.Ytmijjjdedadklag
