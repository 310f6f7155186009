/- A region that draws its order, in two parts: the first only reads (its callees may lay memory), and all of it is waited for by its last operation, for which the second part waits: the first part is walked once, in the order of the text; behind it the second part is left to be walked. Of whatever program. -/
import Derived.Test.YtgngdabfmbipaakGreatDoorKG2
import Derived.RegionTactic
namespace Go.Proofs.YtgngdabfmbipaakGreatDoor
open Go.RowKit Go.Sort
set_option linter.unusedVariables false

section
variable {P : Program} {md : Region.Mode} {C : World → Prop} {ops : Array Oper} {Q : Exit → Act → World → Prop} {l1 l2 : List Oper}

theorem wpAny_more : ∀ (f : Nat) (L : Array Bool) (a : Act) (w : World), wpAny P md ops Q f L a w → wpAny P md ops Q (f + 1) L a w
  | 0, _, _, _, h => ⟨fun _ => h.2, by rw [h.1]; intro i hi; cases hi⟩
  | f + 1, _, _, _, h => ⟨h.1, fun i hi => wpOp_mono (fun a' w' h' => wpAny_more f _ a' w' h') (h.2 i hi)⟩
theorem wpAny_more' (k : Nat) {f : Nat} {L : Array Bool} {a : Act} {w : World} (h : wpAny P md ops Q f L a w) : wpAny P md ops Q (k + f) L a w := by
  induction k with
  | zero => rwa [Nat.zero_add]
  | succ k ih => rw [Nat.succ_add]; exact wpAny_more _ _ _ _ ih

/-- Each operation from n on waits for number n - 1 or for a later one. -/
def gateB (md : Region.Mode) (n : Nat) (ops : Array Oper) : Bool :=
  (List.range ops.size).all fun j => Nat.blt j n || ((ops[j]?).map fun o => o.after.any fun e => Region.binds md e && Nat.blt n (e.on + 2)).getD true
theorem gateB_spec {n : Nat} (h : gateB md n ops = true) {j : Nat} {o : Oper} (ho : ops[j]? = some o) (hj : n ≤ j) : ∃ e ∈ o.after, Region.binds md e = true ∧ n ≤ e.on + 1 := by
  unfold gateB at h
  rw [List.all_eq_true] at h
  have hs : j < ops.size := (Array.getElem?_eq_some_iff.1 ho).1
  have h1 := h j (List.mem_range.2 hs)
  have hn : Nat.blt j n = false := by rw [← Bool.not_eq_true, Nat.blt_eq]; omega
  rw [hn, Bool.false_or, ho] at h1
  simp only [Option.map_some, Option.getD_some] at h1
  rw [Array.any_eq_true] at h1
  obtain ⟨k, hk, h2⟩ := h1
  rw [Bool.and_eq_true, Nat.blt_eq] at h2
  exact ⟨o.after[k], Array.getElem_mem hk, h2.1, by omega⟩
theorem app_lt {j : Nat} (h : j < l1.length) : (l1 ++ l2).toArray[j]? = l1.toArray[j]? := by simp [List.getElem?_append_left h]
theorem getD_app {L : Array Bool} {n j : Nat} : (L ++ Array.replicate n false).getD j false = L.getD j false := by
  simp only [Array.getD_eq_getD_getElem?, Array.getElem?_append]
  split
  · rfl
  · rename_i h
    rw [Array.getElem?_eq_none (xs := L) (by omega), Array.getElem?_replicate]
    split <;> rfl
theorem ready_app {L : Array Bool} (hL : L.size = l1.length) {n j : Nat} (hj : j < l1.length) :
    j ∈ Region.ready md (l1 ++ l2).toArray (L ++ Array.replicate n false) ↔ j ∈ Region.ready md l1.toArray L := by
  rw [mem_ready, mem_ready, getD_tf (by simp; omega), getD_tf (by omega), getD_app, app_lt hj]
  constructor
  · rintro ⟨h0, x, hx, hall⟩
    exact ⟨h0, x, hx, fun e he hbe => by rw [← hall e he hbe, getD_app]⟩
  · rintro ⟨h0, x, hx, hall⟩
    exact ⟨h0, x, hx, fun e he hbe => by rw [← hall e he hbe, getD_app]⟩
theorem all_stuck {L : Array Bool} (hL : L.size = l1.length) (hb : backB l1.toArray = true) (hr : Region.ready md l1.toArray L = []) :
    ∀ n j, j < n → j < l1.length → L.getD j false = true := by
  intro n
  induction n with
  | zero => intro j h; omega
  | succ n ih =>
    intro j h hj
    by_cases hjn : j < n
    · exact ih j hjn hj
    · obtain ⟨x, hx⟩ : ∃ x, l1.toArray[j]? = some x := ⟨l1[j], by simp [hj]⟩
      cases hv : L.getD j false with
      | true => rfl
      | false =>
        exfalso
        have : j ∈ Region.ready md l1.toArray L := mem_ready.2 ⟨by rw [getD_tf (by omega)]; exact hv, x, hx, fun e he _ => ih e.on (by have := backB_spec hb hx e he; omega) (by have := backB_spec hb hx e he; omega)⟩
        rw [hr] at this; cases this
theorem all_gate {L : Array Bool} (hl : lastB md l1.toArray = true) (hc : Closed md l1.toArray L) (hg : L.getD (l1.length - 1) false = true) :
    ∀ n j, l1.length - 1 - n ≤ j → j < l1.length → L.getD j false = true := by
  intro n
  induction n with
  | zero => intro j h1 h2; rwa [show j = l1.length - 1 by omega]
  | succ n ih =>
    intro j h1 h2
    by_cases hj : j = l1.length - 1
    · rwa [hj]
    · obtain ⟨k, x, hjk, hx, e, he, hbe, hon⟩ := lastB_spec hl (i := j) (by simp; omega)
      have hk : k < l1.length := by have := (Array.getElem?_eq_some_iff.1 hx).1; simpa using this
      have := hc k x hx (ih k (by omega) hk) e he hbe
      rwa [hon] at this
theorem all_later {L : Array Bool} (hL : L.size = l1.length) (h0 : 0 < l1.length) (hl : lastB md l1.toArray = true) (hG : gateB md l1.length (l1 ++ l2).toArray = true) (hc : Closed md l1.toArray L) {n j : Nat} (hj : l1.length ≤ j)
    (hr : j ∈ Region.ready md (l1 ++ l2).toArray (L ++ Array.replicate n false)) : ∀ i, i < l1.length → L.getD i false = true := by
  obtain ⟨_, x, hx, hall⟩ := mem_ready.1 hr
  obtain ⟨e, he, hbe, hon⟩ := gateB_spec hG hx hj
  have h1 := hall e he hbe
  rw [getD_app] at h1
  have h2 : e.on < L.size := by
    rcases Nat.lt_or_ge e.on L.size with h | h
    · exact h
    · simp [Array.getD_eq_getD_getElem?, Array.getElem?_eq_none h] at h1
  have h3 : e.on = l1.length - 1 := by omega
  rw [h3] at h1
  exact fun i hi => all_gate hl hc h1 l1.length i (by omega) hi
theorem all_is {L : Array Bool} (hL : L.size = l1.length) (h : ∀ i, i < l1.length → L.getD i false = true) : L = Array.replicate l1.length true := by
  apply Array.ext
  · simpa using hL
  · intro i h1 h2
    have := h i (by omega)
    simp only [Array.getD_eq_getD_getElem?, Array.getElem?_eq_getElem h1, Option.getD_some] at this
    rw [this]; simp

theorem wpAny_gate {Q' : Act → Prop} (h0 : 0 < l1.length) (hg : l1.all (fun o => o.guard.isNone) = true) (hb : backB l1.toArray = true) (hl : lastB md l1.toArray = true) (hG : gateB md l1.length (l1 ++ l2).toArray = true)
    (hQ : ∀ a w, C w → Q' a → wpAny P md (l1 ++ l2).toArray Q l2.length (Array.replicate l1.length true ++ Array.replicate l2.length false) a w) :
    ∀ (fuel : Nat) (L : Array Bool) (a : Act) (w : World), L.size = l1.length → Closed md l1.toArray L → C w →
      wpAnyQ P md l1.toArray C Q' fuel L a → wpAny P md (l1 ++ l2).toArray Q (fuel + l2.length) (L ++ Array.replicate l2.length false) a w := by
  intro fuel
  induction fuel with
  | zero =>
    intro L a w hL hcl hC h
    rw [all_is hL (fun i hi => all_stuck hL hb h.1 l1.length i hi hi), Nat.zero_add]
    exact hQ a w hC h.2
  | succ fuel ih =>
    intro L a w hL hcl hC h
    by_cases hall : ∀ i, i < l1.length → L.getD i false = true
    · rw [all_is hL hall]
      exact wpAny_more' _ (hQ a w hC (h.1 (ready_nil_of_all hL hall)))
    · rw [Nat.succ_add]
      refine ⟨fun hr => ?_, fun i hi => ?_⟩
      · exfalso
        refine hall fun i hi => all_stuck (md := md) hL hb ?_ l1.length i hi hi
        cases e : Region.ready md l1.toArray L with
        | nil => rfl
        | cons j r =>
          exfalso
          have hm : j ∈ Region.ready md l1.toArray L := by rw [e]; simp
          obtain ⟨_, x, hx, _⟩ := mem_ready.1 hm
          have hj : j < l1.length := by have := (Array.getElem?_eq_some_iff.1 hx).1; simpa using this
          have := (ready_app (l2 := l2) (n := l2.length) hL hj).2 hm
          rw [hr] at this; cases this
      · have hi2 : i < l1.length := by
          rcases Nat.lt_or_ge i l1.length with h' | h'
          · exact h'
          · exact absurd (all_later hL h0 hl hG hcl h' hi) hall
        have hm := (ready_app hL hi2).1 hi
        have hset : (L ++ Array.replicate l2.length false).setIfInBounds i true = L.setIfInBounds i true ++ Array.replicate l2.length false := by
          rw [Array.setIfInBounds_append_left (by omega)]
        have hcl' : Closed md l1.toArray (L.setIfInBounds i true) := by
          intro j x hx hj e he hbe
          by_cases h1 : i = e.on
          · rw [← h1]; exact getD_set_self (by omega)
          · rw [getD_set_other h1]
            by_cases h2 : i = j
            · subst h2
              obtain ⟨_, y, hy, hall'⟩ := mem_ready.1 hm
              rw [hx] at hy; obtain rfl := Option.some.inj hy
              exact hall' e he hbe
            · rw [getD_set_other h2] at hj
              exact hcl j x hx hj e he hbe
        have hw := wpOp_of_qOp (P := P) (Q' := Q) (K' := fun a' w' => wpAny P md (l1 ++ l2).toArray Q (fuel + l2.length) ((L ++ Array.replicate l2.length false).setIfInBounds i true) a' w') hC
          (fun a' w' hC' hk => by rw [hset]; exact ih _ a' w' (by simpa using hL) hcl' hC' hk) (h.2 i hm)
        unfold wpOp at hw ⊢
        rw [app_lt hi2]
        obtain ⟨x, hx⟩ : ∃ x, l1.toArray[i]? = some x := ⟨l1[i], by simp [hi2]⟩
        have hgx : x.guard = none := by
          rw [List.all_eq_true] at hg
          have := hg x (List.mem_of_getElem? (by simpa using hx))
          simpa using this
        simp only [hx, Region.wanted, hgx, if_true] at hw ⊢
        exact hw
/-- The whole check of a region, of which the first n operations only read. -/
def quietGateB (n : Nat) (ops : List Oper) : Bool :=
  Nat.blt 0 (ops.take n).length && Region.lexB .any (ops.take n).toArray && backB (ops.take n).toArray && lastB .any (ops.take n).toArray && gateB .any (ops.take n).length ops.toArray && (ops.take n).all (fun o => o.guard.isNone)

theorem region_gate (n : Nat) {id : Nat} {a : Act} {w : World} {ops : List Oper} (hm : P.follows .mixedOrders = true) (hB : quietGateB n ops = true) (hC : C { w with drawn := w.drawn + 1 })
    (h : wpQuiet P (ops.take n).toArray C (fun a' => ∀ w', C w' → wpAny P .any ops.toArray Q (ops.drop n).length (Array.replicate (ops.take n).length true ++ Array.replicate (ops.drop n).length false) a' w') (ops.take n) a) : (Code.region id ops.toArray true).wp P Q a w := by
  simp only [quietGateB, Bool.and_eq_true] at hB
  obtain ⟨⟨⟨⟨⟨h0, h1⟩, h2⟩, h3⟩, h4⟩, h5⟩ := hB
  rw [Nat.blt_eq] at h0
  have hops : ops = ops.take n ++ ops.drop n := (List.take_append_drop n ops).symm
  generalize hL1 : ops.take n = l1 at *
  generalize hL2 : ops.drop n = l2 at *
  subst hops
  simp only [Region.lexB, Bool.and_eq_true] at h1
  have hlex := wpAnyQ_lex (C := C) (md := .any) h1.1 l1 0 (Array.replicate l1.toArray.size false) a (by simp) (by simpa using h1.2) h
  refine wp_region_any hm ?_
  have := wpAny_gate (P := P) (md := .any) (C := C) (Q := Q) (Q' := fun a' => ∀ w', C w' → wpAny P .any (l1 ++ l2).toArray Q l2.length (Array.replicate l1.length true ++ Array.replicate l2.length false) a' w') h0 h5 h2 h3 h4 (fun a' w' hC' hq => hq w' hC') l1.length (Array.replicate l1.length false) a { w with drawn := w.drawn + 1 } (by simp)
    (by
      intro j x hx hj
      simp only [Array.getD_eq_getD_getElem?, Array.getElem?_replicate] at hj
      split at hj <;> simp at hj)
    hC (by simpa using hlex)
  have e1 : (l1 ++ l2).toArray.size = l1.length + l2.length := by simp
  have e2 : Array.replicate (l1.length + l2.length) false = Array.replicate l1.length false ++ Array.replicate l2.length false := by
    rw [Array.replicate_append_replicate]
  rw [e1, e2]
  exact this
/-- The same, for operations that are written out; behind the first part the memory is a letter. -/
theorem below_gate (n m : Nat) (L : Array Bool) {id : Nat} {a : Act} {w : World} {ops : List Oper} (hm : P.follows .mixedOrders = true) (hB : quietGateB n ops = true)
    (hlm : (ops.drop n).length = m) (hL : Array.replicate (ops.take n).length true ++ Array.replicate (ops.drop n).length false = L)
    (h : wpQuiet P (ops.take n).toArray (fun w' => ∃ p : Regrown, w' = grow (redrawn w p.d) p.os) (fun a' => ∀ w', (∃ p : Regrown, w' = grow (redrawn w p.d) p.os) → wpAny P .any ops.toArray Q m L a' w') (ops.take n) a) : (Code.region id ops.toArray true).wp P Q a w := by
  subst hlm hL
  exact region_gate n (C := fun w' => ∃ p : Regrown, w' = grow (redrawn w p.d) p.os) hm hB ⟨⟨w.drawn + 1, #[]⟩, by rw [grow_empty]; rfl⟩ h
end
end Go.Proofs.YtgngdabfmbipaakGreatDoor
