/- Texts joined: New BookB Book. A region that draws its order and lays one block ('x := T{.. f(y) ..}'): its other operations only read, its callees turn nothing that was there, its last operation stores into the block: one walk in the order of the text, the block's place a letter; then the store. Of whatever program. What package book answers: New, Excess, Live, Coins, Total. What package book answers: Do. -/
import Derived.Test.YtmijjjdedadklajMem
import Derived.Test.YtmijjjdedadklajTB
import Derived.Deep.RegionLaw
import Derived.Deep.AppendLies
import Derived.Deep.Upon
import Derived.BigQuiet
/- New -/
namespace Go.Proofs.Ytmijjjdedadklaj
open Go.RowKit Go.Sort

section
variable {P : Program} {md : Region.Mode}

/-- The laying of the block, its place known. -/
def ptrOp (o : Oper) (b : Nat) : Oper := { o with op := .assign (.const (.pointer (some ⟨b, 0, none⟩))) }
def withPtr : List Oper → Nat → Nat → List Oper
  | [], _, _ => []
  | o :: r, 0, b => ptrOp o b :: r
  | o :: r, j + 1, b => o :: withPtr r j b
theorem withPtr_len (l : List Oper) (j b : Nat) : (withPtr l j b).length = l.length := by
  induction l generalizing j with
  | nil => cases j <;> rfl
  | cons o r ih =>
    cases j with
    | zero => rfl
    | succ j => simp [withPtr, ih]
theorem withPtr_ne (l : List Oper) (j b i : Nat) (h : i ≠ j) : (withPtr l j b)[i]? = l[i]? := by
  induction l generalizing i j with
  | nil => cases j <;> rfl
  | cons o r ih =>
    cases j with
    | zero => cases i with
      | zero => omega
      | succ i => rfl
    | succ j => cases i with
      | zero => rfl
      | succ i => exact ih j i (by omega)
theorem withPtr_at (l : List Oper) (j b : Nat) {o : Oper} (h : l[j]? = some o) : (withPtr l j b)[j]? = some (ptrOp o b) := by
  induction l generalizing j with
  | nil => simp at h
  | cons x r ih =>
    cases j with
    | zero => simp at h; subst h; rfl
    | succ j => exact ih j (by simpa using h)

/-- Each writes a place of its own. -/
def apartB (l : List Oper) : Bool :=
  (List.range l.length).all fun i => (List.range l.length).all fun k => Nat.beq i k || (match l[i]?, l[k]? with
    | some x, some y => (match x.dst, y.dst with | some d, some e => !(Nat.beq d e) | _, _ => true)
    | _, _ => true)
theorem apartB_spec {l : List Oper} (h : apartB l = true) {i k : Nat} {x y : Oper} {d : Tmp} (hi : l[i]? = some x) (hk : l[k]? = some y) (hne : i ≠ k) (hd : x.dst = some d) : y.dst ≠ some d := by
  intro hy
  unfold apartB at h
  rw [List.all_eq_true] at h
  have hil : i < l.length := (List.getElem?_eq_some_iff.1 hi).1
  have hkl : k < l.length := (List.getElem?_eq_some_iff.1 hk).1
  have h1 := h i (List.mem_range.2 hil)
  rw [List.all_eq_true] at h1
  have h2 := h1 k (List.mem_range.2 hkl)
  rw [hi, hk] at h2
  simp only [hd, hy, Bool.or_eq_true] at h2
  rcases h2 with h2 | h2
  · exact hne (Nat.eq_of_beq_eq_true h2)
  · have : Nat.beq d d = true := Nat.beq_refl d
    rw [this] at h2; cases h2

/-- What stands at the end in a place that nobody writes any more stands there now. -/
theorem slot_end {ops : Array Oper} {C : World → Prop} {A : Act} {d : Tmp} : ∀ (fuel : Nat) (listed : Array Bool) (a : Act), wpAnyQ P md ops C (fun a' => a' = A) fuel listed a →
    (∀ i o, ops[i]? = some o → listed.getD i true = false → o.dst ≠ some d) → A.tmps[d]? = a.tmps[d]? := by
  intro fuel
  induction fuel with
  | zero => intro listed a h _; rw [h.2]
  | succ fuel ih =>
    intro listed a h hd
    cases hr : Region.ready md ops listed with
    | nil => rw [h.1 hr]
    | cons i r =>
      have hm : i ∈ Region.ready md ops listed := by rw [hr]; simp
      obtain ⟨hun, o, ho, _⟩ := mem_ready.1 hm
      obtain ⟨v, _, hk⟩ := yieldsIn_of_qOp ho (h.2 i hm)
      have h1 := ih _ _ hk (fun k x hx hk' => hd k x hx (by
        by_cases hik : i = k
        · subst hik
          rw [getD_tf (by simp; have := (Array.getElem?_eq_some_iff.1 ho).1; rcases Nat.lt_or_ge i listed.size with h' | h'; exact h'; simp [Array.getD_eq_getD_getElem?, Array.getElem?_eq_none h'] at hun)] at hk'
          rw [getD_set_self (by rcases Nat.lt_or_ge i listed.size with h' | h'; exact h'; simp [Array.getD_eq_getD_getElem?, Array.getElem?_eq_none h'] at hun)] at hk'
          cases hk'
        · rw [getD_set_ne true hik] at hk'; exact hk'))
      rw [h1]
      have hne := hd i o ho hun
      cases hdst : o.dst with
      | none => rfl
      | some e =>
        have : e ≠ d := fun h' => hne (by rw [hdst, h'])
        simp [Act.put, this]

/-- The class of the worlds that come of W. -/
abbrev Cls (W : World) : World → Prop := fun w' => ∃ p : Regrown, w' = grow (redrawn W p.d) p.os
theorem cls_self (W : World) : Cls W W := regrown_of_below (Below.refl _ _)

variable {l : List Oper} {o : Oper}

theorem put_same {a A : Act} {d : Tmp} {v v' : Value} (h : A.tmps[d]? = (a.put (some d) v).tmps[d]?) (h' : A.tmps[d]? = (a.put (some d) v').tmps[d]?) : a.put (some d) v = a.put (some d) v' := by
  by_cases hd : d < a.tmps.size
  · have : v = v' := by
      rw [h] at h'
      simpa [Act.put, hd] using h'
    rw [this]
  · simp [Act.put, Array.setIfInBounds, hd]

theorem yielded_dst {l l' : Array Oper} (h : ∀ i : Nat, (l[i]?).bind (·.dst) = (l'[i]?).bind (·.dst)) (t : Array Value) : yielded l t = yielded l' t := by
  funext j; unfold yielded; rw [h j]

theorem withPtr_dst (l : List Oper) (j b i : Nat) : ((withPtr l j b).toArray[i]?).bind (·.dst) = (l.toArray[i]?).bind (·.dst) := by
  simp only [List.getElem?_toArray]
  by_cases hi : i = j
  · subst hi
    cases hl : l[i]? with
    | none =>
      have : (withPtr l i b)[i]? = none := by
        rw [List.getElem?_eq_none_iff, withPtr_len]; exact List.getElem?_eq_none_iff.1 hl
      rw [this]
    | some x => rw [withPtr_at l i b hl]; rfl
  · rw [withPtr_ne l j b i hi]
theorem withPtr_ready (l : List Oper) (j b i : Nat) (L : Array Bool) : i ∈ Region.ready md (withPtr l j b).toArray L ↔ i ∈ Region.ready md l.toArray L := by
  rw [mem_ready, mem_ready]
  simp only [List.getElem?_toArray]
  by_cases hi : i = j
  · subst hi
    cases hl : l[i]? with
    | none =>
      have : (withPtr l i b)[i]? = none := by
        rw [List.getElem?_eq_none_iff, withPtr_len]; exact List.getElem?_eq_none_iff.1 hl
      rw [this]
    | some x =>
      rw [withPtr_at l i b hl]
      constructor
      · rintro ⟨h0, y, hy, hall⟩; obtain rfl := Option.some.inj hy; exact ⟨h0, x, rfl, hall⟩
      · rintro ⟨h0, y, hy, hall⟩; obtain rfl := Option.some.inj hy; exact ⟨h0, _, rfl, hall⟩
  · rw [withPtr_ne l j b i hi]

theorem wpAny_new {Q : Exit → Act → World → Prop} {w : World} {j : Nat} {oa : Oper} {dj : Tmp} {t : TypeId} {zs : List Value} {A : Nat → Act}
    (hd : o.dst = none) (hb : backB (l ++ [o]).toArray = true) (hl : lastB md (l ++ [o]).toArray = true) (hap : apartB l = true) (hsome : ∀ (i : Nat) x, l[i]? = some x → ∃ d, x.dst = some d)
    (hoa : l[j]? = some oa) (hdst : oa.dst = some dj) (hg : oa.guard = none)
    (hal : ∀ (e : Operand → Value) (u : World), (execOp e oa).run P u = .ok (.value (.pointer (some ⟨u.heap.size, 0, none⟩))) (u.alloc (.cells zs.toArray t)))
    (hA : ∀ b, A b = (A 0).put (some dj) (.pointer (some ⟨b, 0, none⟩)))
    (hend : ∀ b W, Below w.heap.size w W → At W b zs → w.heap.size ≤ b → wpList P (l ++ [o]).toArray Q [o] (A b) W) :
    ∀ (fuel : Nat) (L : Array Bool) (a : Act) (u : World) (x : Option Nat), L.size = l.length → Closed md (l ++ [o]).toArray (L.push false) → Below w.heap.size w u →
      (L.getD j false = x.isSome) → (∀ b, x = some b → At u b zs ∧ w.heap.size ≤ b) →
      (∀ b W, (∀ b', x = some b' → b = b') → Below w.heap.size w W → wpAnyQ P md (withPtr l j b).toArray (Cls W) (fun a' => a' = A b) fuel L a) →
      wpAny P md (l ++ [o]).toArray Q (fuel + 1) (L.push false) a u := by
  have hjl : j < l.length := (List.getElem?_eq_some_iff.1 hoa).1
  have hready : ∀ (L : Array Bool) b, Region.ready md (withPtr l j b).toArray L = [] → Region.ready md l.toArray L = [] := by
    intro L b h
    cases e : Region.ready md l.toArray L with
    | nil => rfl
    | cons i r =>
      exfalso
      have hm : i ∈ Region.ready md l.toArray L := by rw [e]; simp
      have := (withPtr_ready l j b i L).2 hm
      rw [h] at this; cases this
  have hready' : ∀ (L : Array Bool) b, Region.ready md l.toArray L = [] → Region.ready md (withPtr l j b).toArray L = [] := by
    intro L b h
    cases e : Region.ready md (withPtr l j b).toArray L with
    | nil => rfl
    | cons i r =>
      exfalso
      have hm : i ∈ Region.ready md (withPtr l j b).toArray L := by rw [e]; simp
      have := (withPtr_ready l j b i L).1 hm
      rw [h] at this; cases this
  have hlast : ∀ (L : Array Bool), L.size = l.length → Region.ready md l.toArray L = [] → l.length ∈ Region.ready md (l ++ [o]).toArray (L.push false) := by
    intro L hL hr
    refine mem_ready.2 ⟨by rw [getD_tf (by simp; omega), getD_push]; simp [Array.getD_eq_getD_getElem?, hL], o, snoc_last, fun e he _ => ?_⟩
    rw [getD_push]
    exact all_of_stuck hL hb hr l.length _ (backB_spec hb snoc_last e he) (backB_spec hb snoc_last e he)
  have hfin : ∀ (L : Array Bool) (a : Act) (u : World) (f : Nat), L.size = l.length → (∀ k, k < l.length → L.getD k false = true) → wpList P (l ++ [o]).toArray Q [o] a u →
      wpOp P (l ++ [o]).toArray Q l.length (wpAny P md (l ++ [o]).toArray Q f ((L.push false).setIfInBounds l.length true)) a u := by
    intro L a u f hL hall h1
    have h2 : wpOp P (l ++ [o]).toArray Q l.length (fun a w => Q .normal a w) a u := by
      unfold wpOp
      rw [snoc_last]
      exact h1
    refine wpOp_mono (fun a' w' h3 => ?_) h2
    have hr : Region.ready md (l ++ [o]).toArray ((L.push false).setIfInBounds l.length true) = [] := by
      cases e : Region.ready md (l ++ [o]).toArray ((L.push false).setIfInBounds l.length true) with
      | nil => rfl
      | cons k r =>
        exfalso
        have hm : k ∈ Region.ready md (l ++ [o]).toArray ((L.push false).setIfInBounds l.length true) := by rw [e]; simp
        obtain ⟨h0, y, hy, _⟩ := mem_ready.1 hm
        have hk : k < l.length + 1 := by have := (Array.getElem?_eq_some_iff.1 hy).1; simpa using this
        rw [getD_tf (by simp; omega)] at h0
        by_cases hkl : k = l.length
        · subst hkl; rw [getD_set_self (by simp; omega)] at h0; cases h0
        · rw [getD_set_other (fun h => hkl h.symm), getD_push, hall k (by omega)] at h0; cases h0
    cases f with
    | zero => exact ⟨hr, h3⟩
    | succ f => exact ⟨fun _ => h3, by rw [hr]; simp⟩
  -- where nothing is left but the last one
  have hdone : ∀ (fuel : Nat) (L : Array Bool) (a : Act) (u : World) (x : Option Nat), L.size = l.length → Closed md (l ++ [o]).toArray (L.push false) → Below w.heap.size w u →
      (L.getD j false = x.isSome) → (∀ b, x = some b → At u b zs ∧ w.heap.size ≤ b) →
      (∀ b W, (∀ b', x = some b' → b = b') → Below w.heap.size w W → wpAnyQ P md (withPtr l j b).toArray (Cls W) (fun a' => a' = A b) fuel L a) →
      l.length ∈ Region.ready md (l ++ [o]).toArray (L.push false) → ∀ f, wpOp P (l ++ [o]).toArray Q l.length (wpAny P md (l ++ [o]).toArray Q f ((L.push false).setIfInBounds l.length true)) a u := by
    intro fuel L a u x hL hcl hbu hx hxb hG hi f
    have hall := fun k hk => all_of_last hL hl hcl hi l.length k (by omega) hk
    have hr := ready_nil_of_all (md := md) hL hall
    have hxs := hall j hjl
    rw [hx] at hxs
    obtain ⟨b, rfl⟩ := Option.isSome_iff_exists.1 hxs
    obtain ⟨hat, hwb⟩ := hxb b rfl
    have hq := hG b w (fun b' h => (Option.some.inj h)) (Below.refl _ _)
    have ha : a = A b := by
      cases fuel with
      | zero => exact hq.2
      | succ f => exact hq.1 (hready' L b hr)
    refine hfin L a u f hL hall ?_
    rw [ha]
    exact hend b u hbu hat hwb
  intro fuel
  induction fuel with
  | zero =>
    intro L a u x hL hcl hbu hx hxb hG
    have hq0 := hG (x.getD 0) w (fun b' h => by rw [h]; rfl) (Below.refl _ _)
    have hr0 := hready L _ hq0.1
    refine ⟨fun h0 => ?_, fun i hi => ?_⟩
    · have := hlast L hL hr0; rw [h0] at this; cases this
    · have hil : i < l.length + 1 := by
        obtain ⟨_, y, hy, _⟩ := mem_ready.1 hi
        have := (Array.getElem?_eq_some_iff.1 hy).1; simpa using this
      by_cases hi2 : i < l.length
      · have := (ready_snoc hL hi2).1 hi; rw [hr0] at this; cases this
      · obtain rfl : i = l.length := by omega
        exact hdone 0 L a u x hL hcl hbu hx hxb hG hi 0
  | succ fuel ih =>
    intro L a u x hL hcl hbu hx hxb hG
    refine ⟨fun h0 => ?_, fun i hi => ?_⟩
    · have hr : Region.ready md l.toArray L = [] := by
        cases e : Region.ready md l.toArray L with
        | nil => rfl
        | cons k r =>
          exfalso
          have hm : k ∈ Region.ready md l.toArray L := by rw [e]; simp
          obtain ⟨_, y, hy, _⟩ := mem_ready.1 hm
          have hk : k < l.length := by have := (Array.getElem?_eq_some_iff.1 hy).1; simpa using this
          have := (ready_snoc (o := o) hL hk).2 hm
          rw [h0] at this; cases this
      have := hlast L hL hr; rw [h0] at this; cases this
    · have hil : i < l.length + 1 := by
        obtain ⟨_, y, hy, _⟩ := mem_ready.1 hi
        have := (Array.getElem?_eq_some_iff.1 hy).1; simpa using this
      by_cases hi2 : i < l.length
      · have hm := (ready_snoc hL hi2).1 hi
        have hset : (L.push false).setIfInBounds i true = (L.setIfInBounds i true).push false := by
          apply Array.ext_getElem?
          intro k
          simp only [Array.getElem?_setIfInBounds, Array.getElem?_push, Array.size_push, Array.size_setIfInBounds]
          by_cases h1 : i = k
          · subst h1; simp [show i < L.size by omega, show i < L.size + 1 by omega, show ¬ i = L.size by omega]
          · simp [h1]
        have hcl' : Closed md (l ++ [o]).toArray ((L.setIfInBounds i true).push false) := by
          intro k y hy hk e he hbe
          rw [← hset] at hk ⊢
          by_cases h1 : i = e.on
          · rw [← h1]; exact getD_set_self (by simp; omega)
          · rw [getD_set_other h1]
            by_cases h2 : i = k
            · subst h2
              obtain ⟨_, y', hy', hall⟩ := mem_ready.1 hi
              rw [hy] at hy'; obtain rfl := Option.some.inj hy'
              exact hall e he hbe
            · rw [getD_set_other h2] at hk
              exact hcl k y hy hk e he hbe
        -- what each walk says of this operation
        have hun : L.getD i false = false := by
          have := (mem_ready.1 hm).1; rwa [getD_tf (by omega)] at this
        by_cases hij : i = j
        · subst hij
          have hxn : x = none := by
            cases x with
            | none => rfl
            | some b => rw [hun] at hx; cases hx
          subst hxn
          unfold wpOp
          rw [snoc_lt hi2, show l.toArray[i]? = some oa by simpa using hoa]
          simp only [Region.wanted, hg, if_true]
          refine Or.inl ?_
          unfold Oper.wp
          rw [hal]
          simp only [Oper.upon]
          rw [hset]
          refine ih _ _ _ (some u.heap.size) (by simpa using hL) hcl' ?_ ?_ ?_ ?_
          · exact hbu.alloc hbu.size _
          · rw [getD_set_self (by omega)]; rfl
          · intro b hbe
            obtain rfl := Option.some.inj hbe
            exact ⟨at_new u zs t, hbu.size⟩
          · intro b W hbb hW
            obtain rfl := hbb u.heap.size rfl
            have hq := (hG u.heap.size W (fun b' h => by cases h) hW).2 i ((withPtr_ready l i _ i L).2 hm)
            obtain ⟨v, hy, hk⟩ := yieldsIn_of_qOp (o := ptrOp oa u.heap.size) (by simpa using withPtr_at l i u.heap.size hoa) hq
            have hv : v = .pointer (some ⟨u.heap.size, 0, none⟩) := by
              rcases hy with ⟨_, hy⟩ | ⟨hw, _⟩
              · have h3 := hy W (cls_self W)
                unfold Oper.quietAt at h3
                rw [BigFrame.run_assign (o := ptrOp oa u.heap.size) (.const (.pointer (some ⟨u.heap.size, 0, none⟩))) rfl] at h3
                exact h3.2.symm
              · simp [Region.wanted, ptrOp, hg] at hw
            rw [hv] at hk
            exact hk
        · have hop : ∀ b, (withPtr l j b).toArray[i]? = l.toArray[i]? := fun b => by
            simpa using withPtr_ne l j b i hij
          obtain ⟨y, hy⟩ : ∃ y, l.toArray[i]? = some y := ⟨l[i], by simp [hi2]⟩
          obtain ⟨d, hyd⟩ := hsome i y (by simpa using hy)
          have hval : ∀ b W, (∀ b', x = some b' → b = b') → Below w.heap.size w W → ∃ v, YieldsIn P (withPtr l j b).toArray (Cls W) y v a ∧ wpAnyQ P md (withPtr l j b).toArray (Cls W) (fun a' => a' = A b) fuel (L.setIfInBounds i true) (a.put (some d) v) := by
            intro b W hbb hW
            have hq := (hG b W hbb hW).2 i ((withPtr_ready l j b i L).2 hm)
            obtain ⟨v, h1, h2⟩ := yieldsIn_of_qOp ((hop b).trans hy) hq
            rw [hyd] at h2
            exact ⟨v, h1, h2⟩
          have hslot : ∀ b W v, wpAnyQ P md (withPtr l j b).toArray (Cls W) (fun a' => a' = A b) fuel (L.setIfInBounds i true) (a.put (some d) v) → (A b).tmps[d]? = (a.put (some d) v).tmps[d]? := by
            intro b W v hk
            refine slot_end fuel _ _ hk ?_
            intro k z hz hkl
            have hik : i ≠ k := by
              intro h; subst h
              rw [getD_tf (by simp; omega), getD_set_self (by omega)] at hkl; cases hkl
            by_cases hkj : k = j
            · subst hkj
              have : z = ptrOp oa b := by
                have h1 := withPtr_at l k b hoa
                rw [List.getElem?_toArray] at hz
                exact Option.some.inj (hz.symm.trans h1)
              rw [this]
              have hne := apartB_spec hap (by simpa using hy) hoa hik hyd
              exact hne
            · have hz' : l[k]? = some z := by
                rw [List.getElem?_toArray, withPtr_ne l j b k hkj] at hz; exact hz
              exact apartB_spec hap (by simpa using hy) hz' hik hyd
          have hdj : d ≠ dj := by
            intro h; subst h
            exact apartB_spec hap (by simpa using hy) hoa hij hyd hdst
          have hAd : ∀ b b', (A b).tmps[d]? = (A b').tmps[d]? := by
            intro b b'
            rw [hA b, hA b']
            simp [Act.put, hdj.symm]
          -- the walk in the world at hand
          obtain ⟨v, hyv, hkv⟩ := hval (x.getD 0) u (fun b' h => by rw [h]; rfl) hbu
          have hsv := hslot _ _ _ hkv
          have hnext : ∀ b W, (∀ b', x = some b' → b = b') → Below w.heap.size w W → wpAnyQ P md (withPtr l j b).toArray (Cls W) (fun a' => a' = A b) fuel (L.setIfInBounds i true) (a.put (some d) v) := by
            intro b W hbb hW
            obtain ⟨v', _, hk'⟩ := hval b W hbb hW
            have hsv' := hslot _ _ _ hk'
            rw [put_same (A := A b) (v := v) (v' := v') (by rw [hAd b (x.getD 0)]; exact hsv) hsv']
            exact hk'
          have hstep : ∀ u', Below w.heap.size w u' → Below u.heap.size u u' → wpAny P md (l ++ [o]).toArray Q (fuel + 1) ((L.setIfInBounds i true).push false) (a.put (some d) v) u' := by
            intro u' hb' huu
            refine ih _ _ u' x (by simpa using hL) hcl' hb' ?_ ?_ hnext
            · rw [getD_set_other hij]; exact hx
            · intro b hbe
              obtain ⟨h1, h2⟩ := hxb b hbe
              exact ⟨h1.below huu, h2⟩
          rw [hset]
          unfold wpOp
          rw [snoc_lt hi2, hy]
          have hyl : yielded (l ++ [o]).toArray a.tmps = yielded (withPtr l j (x.getD 0)).toArray a.tmps := by
            rw [yielded_snoc hd, yielded_dst (fun k => (withPtr_dst l j (x.getD 0) k).symm)]
          simp only [hyl]
          rcases hyv with ⟨hw, hyv⟩ | ⟨hw, rfl⟩
          · simp only [hw, if_true]
            refine Or.inl ?_
            have hqu : y.quiet P a (Cls u) (fun a' => a' = a.put y.dst v) := ⟨v, hyv, rfl⟩
            refine Oper.wp_of_quiet (cls_self u) (fun a' u' hc ha => ?_) hqu
            rw [ha, hyd]
            have hbb := regrown_below hc
            exact hstep u' (bl_call hbu hbb hbu.size) hbb
          · simp only [hw, Bool.false_eq_true, if_false]
            rw [hyd]
            exact hstep u hbu (Below.refl _ _)
      · obtain rfl : i = l.length := by omega
        exact hdone (fuel + 1) L a u x hL hcl hbu hx hxb hG hi (fuel + 1)

/-- The check of a region. -/
def newB (ops : List Oper) : Bool :=
  backB ops.toArray && lastB .any ops.toArray && apartB ops.dropLast && ops.dropLast.all (fun o => o.dst.isSome) && (match ops.getLast? with | some o => o.dst.isNone | none => false)

theorem region_new {id : Nat} {Q : Exit → Act → World → Prop} {a : Act} {w : World} {ops : List Oper} (j : Nat) {oa : Oper} {dj : Tmp} (t : TypeId) (zs : List Value) {A : Nat → Act}
    (hm : P.follows .mixedOrders = true) (hB : newB ops = true) (hlex : ∀ b, Region.lexB .any (withPtr ops.dropLast j b).toArray = true)
    (hoa : ops.dropLast[j]? = some oa) (hdst : oa.dst = some dj) (hg : oa.guard = none)
    (hal : ∀ (e : Operand → Value) (u : World), (execOp e oa).run P u = .ok (.value (.pointer (some ⟨u.heap.size, 0, none⟩))) (u.alloc (.cells zs.toArray t)))
    (h : ∀ b W, Below w.heap.size w W → wpQuiet P (withPtr ops.dropLast j b).toArray (Cls W) (fun a' => a' = A b) (withPtr ops.dropLast j b) a)
    (hA : ∀ b, A b = (A 0).put (some dj) (.pointer (some ⟨b, 0, none⟩)))
    (hend : ∀ b W, Below w.heap.size w W → At W b zs → w.heap.size ≤ b → wpList P ops.toArray Q (ops.drop ops.dropLast.length) (A b) W) : (Code.region id ops.toArray true).wp P Q a w := by
  simp only [newB, Bool.and_eq_true] at hB
  obtain ⟨⟨⟨⟨h1, h2⟩, h3⟩, h3'⟩, h4⟩ := hB
  cases hl : ops.getLast? with
  | none => rw [hl] at h4; simp at h4
  | some o =>
    rw [hl] at h4
    have hd : o.dst = none := by simpa using h4
    have hops : ops = ops.dropLast ++ [o] := by
      obtain ⟨l', rfl⟩ := List.getLast?_eq_some_iff.1 hl
      simp
    generalize hL : ops.dropLast = l at *
    subst hops
    have hdrop : (l ++ [o]).drop l.length = [o] := by simp
    rw [hdrop] at hend
    refine wp_region_any hm ?_
    have e1 : (l ++ [o]).toArray.size = l.length + 1 := by simp
    have e2 : Array.replicate (l.length + 1) false = (Array.replicate l.length false).push false := by
      rw [Array.replicate_succ]
    have hdr : Below w.heap.size w { w with drawn := w.drawn + 1 } := ⟨rfl, rfl, rfl, Nat.le_refl _, fun _ _ => rfl⟩
    rw [e1, e2]
    refine wpAny_new (w := w) (A := A) (zs := zs) (t := t) hd h1 h2 h3 ?_ hoa hdst hg hal hA hend l.length (Array.replicate l.length false) a _ none (by simp) ?_ hdr ?_ (fun b h => by cases h) ?_
    · intro i x hx
      rw [List.all_eq_true] at h3'
      have := h3' x (List.mem_of_getElem? hx)
      exact Option.isSome_iff_exists.1 this
    · intro k x hx hk
      rw [getD_push] at hk
      simp only [Array.getD_eq_getD_getElem?, Array.getElem?_replicate] at hk
      split at hk <;> simp at hk
    · simp only [Array.getD_eq_getD_getElem?, Array.getElem?_replicate]
      split <;> simp
    · intro b W _ hW
      have hx := hlex b
      simp only [Region.lexB, Bool.and_eq_true] at hx
      have := wpAnyQ_lex (P := P) (C := Cls W) (md := .any) hx.1 (withPtr l j b) 0 (Array.replicate (withPtr l j b).toArray.size false) a (by simp) (by simpa using hx.2) (h b W hW)
      simpa [withPtr_len] using this
end
end Go.Proofs.Ytmijjjdedadklaj
/- BookB -/
namespace Go.Proofs.Ytmijjjdedadklaj
open Go.RowKit Go.Sort
set_option linter.unusedVariables false
set_option linter.unusedSimpArgs false
theorem ethen_gen3 {K : Act → World → Prop} {Q : Exit → Act → World → Prop} {x : Exit} {a : Act} {w : World} (S : World → Prop) (h : S w) (k : ∀ W, S W → Exit.then K Q x a W) : Exit.then K Q x a w := k w h
/-- What a new book is. -/
def NewAt (e : TypeId) (w w' : World) (p n : Nat) (K : Nat → Nat) : Prop := ∃ u, CoinsAt e w' p u n K (fun _ => false) ∧ (∀ i, fc p u i → w.heap.size ≤ i) ∧ Below w.heap.size w w'
set_option maxRecDepth 100000 in
set_option maxHeartbeats 8000000 in
theorem bnew_no (sl : Option Addr) (n d : Nat) (q : Int) (w : World) (h : ∀ W, Below w.heap.size w W → Calls Try.prog 30 #[.slice sl n d] W fun e w' => e = .returned (errOf q) ∧ Below W.heap.size W w') : Calls Try.prog 7 #[.slice sl n d] w fun e w' => e = .returned (.tuple #[.pointer none, errOf q]) ∧ Below w.heap.size w w' := by
  have H : Hid (∀ W, Below w.heap.size w W → Calls Try.prog 30 #[.slice sl n d] W fun e w' => e = .returned (errOf q) ∧ Below W.heap.size W w') := h
  clear h
  have m1 : True := trivial
  go_enter Try.func7, Try.ntmps7
  go_wp2_with (go_at_call 30; clear m1; refine (H.out _ (by repeat (first | (with_reducible exact Below.refl _ _) | (with_reducible assumption) | (with_reducible refine Below.setCell ?_ (by first | (simp; done) | (simp; omega) | omega) _) | (with_reducible refine Below.alloc ?_ (by first | (simp; done) | (simp; omega) | omega) _) | (refine bl_call ?_ (by assumption) (by first | (simp; done) | (simp; omega) | omega)) | (with_reducible refine bl_drewN ?_) | (with_reducible refine Below.drew ?_) | (with_reducible refine bl_grow ?_ (by first | (simp; done) | (simp; omega) | omega))))).mono ?_; rintro e w1 ⟨rfl, hbw1⟩; have hqw1 : Below w.heap.size w w1 := (by repeat (first | (with_reducible exact Below.refl _ _) | (with_reducible assumption) | (with_reducible refine Below.setCell ?_ (by first | (simp; done) | (simp; omega) | omega) _) | (with_reducible refine Below.alloc ?_ (by first | (simp; done) | (simp; omega) | omega) _) | (refine bl_call ?_ (by assumption) (by first | (simp; done) | (simp; omega) | omega)) | (with_reducible refine bl_drewN ?_) | (with_reducible refine Below.drew ?_) | (with_reducible refine bl_grow ?_ (by first | (simp; done) | (simp; omega) | omega)))); have hzw1 := hqw1.size; clear hbw1)
  exact bodyPost_ret (v := .tuple #[.pointer none, errOf q]) (by simp [results, Try.results7, go_sem, *]) rfl ⟨rfl, by repeat (first | (with_reducible exact Below.refl _ _) | (with_reducible assumption) | (with_reducible refine Below.setCell ?_ (by first | (simp; done) | (simp; omega) | omega) _) | (with_reducible refine Below.alloc ?_ (by first | (simp; done) | (simp; omega) | omega) _) | (refine bl_call ?_ (by assumption) (by first | (simp; done) | (simp; omega) | omega)) | (with_reducible refine bl_drewN ?_) | (with_reducible refine Below.drew ?_) | (with_reducible refine bl_grow ?_ (by first | (simp; done) | (simp; omega) | omega)))⟩
set_option maxRecDepth 100000 in
set_option maxHeartbeats 8000000 in
theorem bnew_ok (sl : Option Addr) (n d : Nat) (K : Nat → Nat) (w : World) (h : ∀ W, Below w.heap.size w W → Calls Try.prog 30 #[.slice sl n d] W fun e w' => e = .returned (.nilIface) ∧ Below W.heap.size W w') (hm : ∀ W, Below w.heap.size w W → Calls Try.prog 31 #[.slice sl n d] W fun ex w' => ∃ q, ex = .returned q ∧ w'.ownsRow W.heap.size 83 4 q n (cellsC K (fun _ => false) n) ∧ Below W.heap.size W w') : Calls Try.prog 7 #[.slice sl n d] w fun ex w' => ∃ p, ex = .returned (.tuple #[.pointer (some ⟨p, 0, none⟩), .nilIface]) ∧ NewAt 83 w w' p n K := by
  have H : Hid (∀ W, Below w.heap.size w W → Calls Try.prog 30 #[.slice sl n d] W fun e w' => e = .returned (.nilIface) ∧ Below W.heap.size W w') := h
  have HM : Hid (∀ W, Below w.heap.size w W → Calls Try.prog 31 #[.slice sl n d] W fun ex w' => ∃ q, ex = .returned q ∧ w'.ownsRow W.heap.size 83 4 q n (cellsC K (fun _ => false) n) ∧ Below W.heap.size W w') := hm
  clear h hm
  have m1 : True := trivial; have m2 : True := trivial
  go_enter Try.func7, Try.ntmps7
  go_wp2_with (first | (go_at_call 30; clear m1; refine (H.out _ (by repeat (first | (with_reducible exact Below.refl _ _) | (with_reducible assumption) | (with_reducible refine Below.setCell ?_ (by first | (simp; done) | (simp; omega) | omega) _) | (with_reducible refine Below.alloc ?_ (by first | (simp; done) | (simp; omega) | omega) _) | (refine bl_call ?_ (by assumption) (by first | (simp; done) | (simp; omega) | omega)) | (with_reducible refine bl_drewN ?_) | (with_reducible refine Below.drew ?_) | (with_reducible refine bl_grow ?_ (by first | (simp; done) | (simp; omega) | omega))))).mono ?_; rintro e w1 ⟨rfl, hbw1⟩; have hqw1 : Below w.heap.size w w1 := (by repeat (first | (with_reducible exact Below.refl _ _) | (with_reducible assumption) | (with_reducible refine Below.setCell ?_ (by first | (simp; done) | (simp; omega) | omega) _) | (with_reducible refine Below.alloc ?_ (by first | (simp; done) | (simp; omega) | omega) _) | (refine bl_call ?_ (by assumption) (by first | (simp; done) | (simp; omega) | omega)) | (with_reducible refine bl_drewN ?_) | (with_reducible refine Below.drew ?_) | (with_reducible refine bl_grow ?_ (by first | (simp; done) | (simp; omega) | omega)))); have hzw1 := hqw1.size; clear hbw1) | (go_at_call 31; clear m2; refine (HM.out _ (by repeat (first | (with_reducible exact Below.refl _ _) | (with_reducible assumption) | (with_reducible refine Below.setCell ?_ (by first | (simp; done) | (simp; omega) | omega) _) | (with_reducible refine Below.alloc ?_ (by first | (simp; done) | (simp; omega) | omega) _) | (refine bl_call ?_ (by assumption) (by first | (simp; done) | (simp; omega) | omega)) | (with_reducible refine bl_drewN ?_) | (with_reducible refine Below.drew ?_) | (with_reducible refine bl_grow ?_ (by first | (simp; done) | (simp; omega) | omega))))).mono ?_; rintro e w2 ⟨q, rfl, how2, hbw2⟩; obtain ⟨saw2, ccw2, rfl, _⟩ := own_slice how2; have HOw2 := (show Hid _ from how2); clear how2; have hqw2 : Below w.heap.size w w2 := (by repeat (first | (with_reducible exact Below.refl _ _) | (with_reducible assumption) | (with_reducible refine Below.setCell ?_ (by first | (simp; done) | (simp; omega) | omega) _) | (with_reducible refine Below.alloc ?_ (by first | (simp; done) | (simp; omega) | omega) _) | (refine bl_call ?_ (by assumption) (by first | (simp; done) | (simp; omega) | omega)) | (with_reducible refine bl_drewN ?_) | (with_reducible refine Below.drew ?_) | (with_reducible refine bl_grow ?_ (by first | (simp; done) | (simp; omega) | omega)))); have hzw2 := hqw2.size; clear hbw2))
  have hO : w2.ownsRow _ 83 4 (.slice saw2 n ccw2) n (cellsC K (fun _ => false) n) := HOw2.out
  have hA : NewAt 83 w (w2.alloc (.cells #[.slice saw2 n ccw2] 70)) w2.heap.size n K := by
    refine ⟨.slice saw2 n ccw2, ⟨at_new w2 [.slice saw2 n ccw2] 70, own_base (own_stay hO ((Below.refl _ _).alloc (Nat.le_refl _) _)) (Nat.zero_le _), fun e => ?_⟩, fun i hi => ?_, hqw2.alloc hzw2 _⟩
    · have := (hO.lt _ e).2; omega
    · rcases hi with rfl | hi
      · exact hzw2
      · exact Nat.le_trans hzw1 (hO.lt i hi).1
  exact bodyPost_ret (v := .tuple #[.pointer (some ⟨w2.heap.size, 0, none⟩), .nilIface]) (by simp [results, Try.results7, go_sem]) rfl ⟨_, rfl, hA⟩
/-- What the landed book is. -/
def bookP : World → Value → (Nat → Prop) → Nat → (Nat → Nat) → (Nat → Bool) → Prop := bookW 83
theorem bookP_ok : PBok bookP := by
  refine ⟨fun h i hi => ?_, fun h k hF => ?_⟩
  · obtain ⟨p, u, rfl, rfl, h⟩ := h
    exact h.lt hi
  · obtain ⟨p, u, rfl, rfl, h⟩ := h
    exact ⟨p, u, rfl, rfl, h.but k hF⟩
theorem bnew_is : BNewIs bookP := by
  refine ⟨fun sl n d X Y F q w hd _ hr hc hq => bnew_no sl n d q w (fun W hW => bcc_no sl n d X Y F q W (brow_up hr hW) hc hq), fun sl n d X Y F K w hn hd _ hr hK => ?_⟩
  refine (bnew_ok sl n d K w (fun W hW => bcc_yes sl n d X Y F K W hn (brow_up hr hW) hK) (fun W hW => bminted sl n d X Y F K W hn (brow_up hr hW) hK)).mono ?_
  rintro e w' ⟨p, rfl, u, h1, h2, h3⟩
  exact ⟨_, _, rfl, ⟨p, u, rfl, rfl, h1⟩, h2, h3⟩
theorem bneg_4 (k : Nat) (w : World) : Calls Try.prog 36 #[.agg #[.int .i64 ((tM (4 * k)).1 : Int), .int .i64 ((tM (4 * k)).2.1 : Int), .bool (tM (4 * k)).2.2]] w fun e w' => e = .returned (.tuple #[.agg #[.int .i64 ((tM (4 * (1012 * k))).1 : Int), .int .i64 ((tM (4 * (1012 * k))).2.1 : Int), .bool (tM (4 * (1012 * k))).2.2], .nilIface]) ∧ Below w.heap.size w w' := by
  have := cneg_tM (4 * k) w
  rwa [show tM (4052 - 4 * k % 4052) = tM (4 * (1012 * k)) from tM_congr (by omega)] at this
set_option maxRecDepth 100000 in
set_option maxHeartbeats 8000000 in
theorem bexc_gone (p m c d dz : Nat) (sz sl : Option Addr) (q : Int) (w : World) (h : ∀ W, Below w.heap.size w W → Calls Try.prog 33 #[.pointer (some ⟨p, 0, none⟩), .slice sz m dz] W fun e w' => e = .returned (errOf q) ∧ Below W.heap.size W w') : Calls Try.prog 9 #[.pointer (some ⟨p, 0, none⟩), .slice sz m dz, .slice sl c d] w fun e w' => e = .returned (.tuple #[.agg #[.int .i64 0, .int .i64 0, .bool false], errOf q]) ∧ Below w.heap.size w w' := by
  have H : Hid (∀ W, Below w.heap.size w W → Calls Try.prog 33 #[.pointer (some ⟨p, 0, none⟩), .slice sz m dz] W fun e w' => e = .returned (errOf q) ∧ Below W.heap.size W w') := h
  clear h
  have m1 : True := trivial
  go_enter Try.func9, Try.ntmps9
  go_wp2_with (go_at_call 33; clear m1; refine (H.out _ (by repeat (first | (with_reducible exact Below.refl _ _) | (with_reducible assumption) | (with_reducible refine Below.setCell ?_ (by first | (simp; done) | (simp; omega) | omega) _) | (with_reducible refine Below.alloc ?_ (by first | (simp; done) | (simp; omega) | omega) _) | (refine bl_call ?_ (by assumption) (by first | (simp; done) | (simp; omega) | omega)) | (with_reducible refine bl_drewN ?_) | (with_reducible refine Below.drew ?_) | (with_reducible refine bl_grow ?_ (by first | (simp; done) | (simp; omega) | omega))))).mono ?_; rintro e w1 ⟨rfl, hbw1⟩; have krw1 : At w1 (w.heap.size) [.int .i64 0, .int .i64 0, .bool false] := (by repeat (first | (with_reducible assumption) | ((with_reducible refine at_new' _ _ _ _ ?_); (first | rfl | (simp; done))) | (with_reducible refine At.alloc ?_ _) | (with_reducible refine At.drew ?_) | (with_reducible refine At.drewN ?_) | (with_reducible refine At.set ?_ (by omega)) | (with_reducible apply At.store4) | (with_reducible apply At.store3) | (with_reducible apply At.store2) | (with_reducible apply At.put43) | (refine At.below ?_ (by with_reducible assumption)))); have hqw1 : Below w.heap.size w w1 := (by repeat (first | (with_reducible exact Below.refl _ _) | (with_reducible assumption) | (with_reducible refine Below.setCell ?_ (by first | (simp; done) | (simp; omega) | omega) _) | (with_reducible refine Below.alloc ?_ (by first | (simp; done) | (simp; omega) | omega) _) | (refine bl_call ?_ (by assumption) (by first | (simp; done) | (simp; omega) | omega)) | (with_reducible refine bl_drewN ?_) | (with_reducible refine Below.drew ?_) | (with_reducible refine bl_grow ?_ (by first | (simp; done) | (simp; omega) | omega)))); have hzw1 := hqw1.size; obtain ⟨zrw1, cr0w1, cr1w1, cr2w1, fr0w1, fr1w1, fr2w1⟩ := krw1.three; clear hbw1)
  exact bodyPost_ret (v := .tuple #[.agg #[.int .i64 0, .int .i64 0, .bool false], errOf q]) (by simp [results, Try.results9, go_sem, *]) rfl ⟨rfl, by repeat (first | (with_reducible exact Below.refl _ _) | (with_reducible assumption) | (with_reducible refine Below.setCell ?_ (by first | (simp; done) | (simp; omega) | omega) _) | (with_reducible refine Below.alloc ?_ (by first | (simp; done) | (simp; omega) | omega) _) | (refine bl_call ?_ (by assumption) (by first | (simp; done) | (simp; omega) | omega)) | (with_reducible refine bl_drewN ?_) | (with_reducible refine Below.drew ?_) | (with_reducible refine bl_grow ?_ (by first | (simp; done) | (simp; omega) | omega)))⟩
set_option maxRecDepth 100000 in
set_option maxHeartbeats 8000000 in
theorem bexc_come (p m c d dz : Nat) (sz sl : Option Addr) (q : Int) (w : World) (h : ∀ W, Below w.heap.size w W → Calls Try.prog 33 #[.pointer (some ⟨p, 0, none⟩), .slice sz m dz] W fun e w' => e = .returned (.nilIface) ∧ Below W.heap.size W w') (hc : ∀ W, Below w.heap.size w W → Calls Try.prog 30 #[.slice sl c d] W fun e w' => e = .returned (errOf q) ∧ Below W.heap.size W w') : Calls Try.prog 9 #[.pointer (some ⟨p, 0, none⟩), .slice sz m dz, .slice sl c d] w fun e w' => e = .returned (.tuple #[.agg #[.int .i64 0, .int .i64 0, .bool false], errOf q]) ∧ Below w.heap.size w w' := by
  have H : Hid (∀ W, Below w.heap.size w W → Calls Try.prog 33 #[.pointer (some ⟨p, 0, none⟩), .slice sz m dz] W fun e w' => e = .returned (.nilIface) ∧ Below W.heap.size W w') := h
  have HC : Hid (∀ W, Below w.heap.size w W → Calls Try.prog 30 #[.slice sl c d] W fun e w' => e = .returned (errOf q) ∧ Below W.heap.size W w') := hc
  clear h hc
  have m1 : True := trivial; have m2 : True := trivial
  go_enter Try.func9, Try.ntmps9
  go_wp2_with (first | (go_at_call 33; clear m1; refine (H.out _ (by repeat (first | (with_reducible exact Below.refl _ _) | (with_reducible assumption) | (with_reducible refine Below.setCell ?_ (by first | (simp; done) | (simp; omega) | omega) _) | (with_reducible refine Below.alloc ?_ (by first | (simp; done) | (simp; omega) | omega) _) | (refine bl_call ?_ (by assumption) (by first | (simp; done) | (simp; omega) | omega)) | (with_reducible refine bl_drewN ?_) | (with_reducible refine Below.drew ?_) | (with_reducible refine bl_grow ?_ (by first | (simp; done) | (simp; omega) | omega))))).mono ?_; rintro e w1 ⟨rfl, hbw1⟩; have krw1 : At w1 (w.heap.size) [.int .i64 0, .int .i64 0, .bool false] := (by repeat (first | (with_reducible assumption) | ((with_reducible refine at_new' _ _ _ _ ?_); (first | rfl | (simp; done))) | (with_reducible refine At.alloc ?_ _) | (with_reducible refine At.drew ?_) | (with_reducible refine At.drewN ?_) | (with_reducible refine At.set ?_ (by omega)) | (with_reducible apply At.store4) | (with_reducible apply At.store3) | (with_reducible apply At.store2) | (with_reducible apply At.put43) | (refine At.below ?_ (by with_reducible assumption)))); have hqw1 : Below w.heap.size w w1 := (by repeat (first | (with_reducible exact Below.refl _ _) | (with_reducible assumption) | (with_reducible refine Below.setCell ?_ (by first | (simp; done) | (simp; omega) | omega) _) | (with_reducible refine Below.alloc ?_ (by first | (simp; done) | (simp; omega) | omega) _) | (refine bl_call ?_ (by assumption) (by first | (simp; done) | (simp; omega) | omega)) | (with_reducible refine bl_drewN ?_) | (with_reducible refine Below.drew ?_) | (with_reducible refine bl_grow ?_ (by first | (simp; done) | (simp; omega) | omega)))); have hzw1 := hqw1.size; obtain ⟨zrw1, cr0w1, cr1w1, cr2w1, fr0w1, fr1w1, fr2w1⟩ := krw1.three; clear hbw1) | (go_at_call 30; clear m2; refine (HC.out _ (by repeat (first | (with_reducible exact Below.refl _ _) | (with_reducible assumption) | (with_reducible refine Below.setCell ?_ (by first | (simp; done) | (simp; omega) | omega) _) | (with_reducible refine Below.alloc ?_ (by first | (simp; done) | (simp; omega) | omega) _) | (refine bl_call ?_ (by assumption) (by first | (simp; done) | (simp; omega) | omega)) | (with_reducible refine bl_drewN ?_) | (with_reducible refine Below.drew ?_) | (with_reducible refine bl_grow ?_ (by first | (simp; done) | (simp; omega) | omega))))).mono ?_; rintro e w2 ⟨rfl, hbw2⟩; have krw2 : At w2 (w.heap.size) [.int .i64 0, .int .i64 0, .bool false] := (by repeat (first | (with_reducible assumption) | ((with_reducible refine at_new' _ _ _ _ ?_); (first | rfl | (simp; done))) | (with_reducible refine At.alloc ?_ _) | (with_reducible refine At.drew ?_) | (with_reducible refine At.drewN ?_) | (with_reducible refine At.set ?_ (by omega)) | (with_reducible apply At.store4) | (with_reducible apply At.store3) | (with_reducible apply At.store2) | (with_reducible apply At.put43) | (refine At.below ?_ (by with_reducible assumption)))); have hqw2 : Below w.heap.size w w2 := (by repeat (first | (with_reducible exact Below.refl _ _) | (with_reducible assumption) | (with_reducible refine Below.setCell ?_ (by first | (simp; done) | (simp; omega) | omega) _) | (with_reducible refine Below.alloc ?_ (by first | (simp; done) | (simp; omega) | omega) _) | (refine bl_call ?_ (by assumption) (by first | (simp; done) | (simp; omega) | omega)) | (with_reducible refine bl_drewN ?_) | (with_reducible refine Below.drew ?_) | (with_reducible refine bl_grow ?_ (by first | (simp; done) | (simp; omega) | omega)))); have hzw2 := hqw2.size; obtain ⟨zrw2, cr0w2, cr1w2, cr2w2, fr0w2, fr1w2, fr2w2⟩ := krw2.three; clear krw1 cr0w1 fr0w1 cr1w1 fr1w1 cr2w1 fr2w1 hqw1; clear hbw2))
  exact bodyPost_ret (v := .tuple #[.agg #[.int .i64 0, .int .i64 0, .bool false], errOf q]) (by simp [results, Try.results9, go_sem, *]) rfl ⟨rfl, by repeat (first | (with_reducible exact Below.refl _ _) | (with_reducible assumption) | (with_reducible refine Below.setCell ?_ (by first | (simp; done) | (simp; omega) | omega) _) | (with_reducible refine Below.alloc ?_ (by first | (simp; done) | (simp; omega) | omega) _) | (refine bl_call ?_ (by assumption) (by first | (simp; done) | (simp; omega) | omega)) | (with_reducible refine bl_drewN ?_) | (with_reducible refine Below.drew ?_) | (with_reducible refine bl_grow ?_ (by first | (simp; done) | (simp; omega) | omega)))⟩
set_option maxRecDepth 100000 in
set_option maxHeartbeats 8000000 in
theorem bexc_ok (p m c d dz : Nat) (sz sl : Option Addr) (K J : Nat → Nat) (Z : Nat → Int) (w : World) (h : ∀ W, Below w.heap.size w W → Calls Try.prog 33 #[.pointer (some ⟨p, 0, none⟩), .slice sz m dz] W fun e w' => e = .returned (.nilIface) ∧ Below W.heap.size W w') (hc : ∀ W, Below w.heap.size w W → Calls Try.prog 30 #[.slice sl c d] W fun e w' => e = .returned (.nilIface) ∧ Below W.heap.size W w') (hs : ∀ W, Below w.heap.size w W → Calls Try.prog 34 #[.slice sl c d] W fun e w' => e = .returned (.tuple #[.agg #[.int .i64 ((tM (4 * jsN J c)).1 : Int), .int .i64 ((tM (4 * jsN J c)).2.1 : Int), .bool (tM (4 * jsN J c)).2.2], .nilIface]) ∧ Below W.heap.size W w') (ha : ∀ W, Below w.heap.size w W → Calls Try.prog 35 #[.pointer (some ⟨p, 0, none⟩), .slice sz m dz] W fun ex w' => ∃ q, ex = .returned q ∧ w'.ownsRow W.heap.size 26 3 q m (cellsK (fun i => K (Z i).toNat) m) ∧ Below W.heap.size W w') (hsl : ∀ W sa cc, Below w.heap.size w W → (∃ B, W.ownsRow B 26 3 (.slice sa m cc) m (cellsK (fun i => K (Z i).toNat) m)) → Calls Try.prog 34 #[.slice sa m cc] W fun e w' => e = .returned (.tuple #[.agg #[.int .i64 ((tM (4 * jsN (fun i => K (Z i).toNat) m)).1 : Int), .int .i64 ((tM (4 * jsN (fun i => K (Z i).toNat) m)).2.1 : Int), .bool (tM (4 * jsN (fun i => K (Z i).toNat) m)).2.2], .nilIface]) ∧ Below W.heap.size W w') : Calls Try.prog 9 #[.pointer (some ⟨p, 0, none⟩), .slice sz m dz, .slice sl c d] w fun e w' => e = .returned (.tuple #[.agg #[.int .i64 ((tM (4 * exN K Z m J c)).1 : Int), .int .i64 ((tM (4 * exN K Z m J c)).2.1 : Int), .bool (tM (4 * exN K Z m J c)).2.2], .nilIface]) ∧ Below w.heap.size w w' := by
  have H : Hid (∀ W, Below w.heap.size w W → Calls Try.prog 33 #[.pointer (some ⟨p, 0, none⟩), .slice sz m dz] W fun e w' => e = .returned (.nilIface) ∧ Below W.heap.size W w') := h
  have HC : Hid (∀ W, Below w.heap.size w W → Calls Try.prog 30 #[.slice sl c d] W fun e w' => e = .returned (.nilIface) ∧ Below W.heap.size W w') := hc
  have HS : Hid (∀ W, Below w.heap.size w W → Calls Try.prog 34 #[.slice sl c d] W fun e w' => e = .returned (.tuple #[.agg #[.int .i64 ((tM (4 * jsN J c)).1 : Int), .int .i64 ((tM (4 * jsN J c)).2.1 : Int), .bool (tM (4 * jsN J c)).2.2], .nilIface]) ∧ Below W.heap.size W w') := hs
  have HA : Hid (∀ W, Below w.heap.size w W → Calls Try.prog 35 #[.pointer (some ⟨p, 0, none⟩), .slice sz m dz] W fun ex w' => ∃ q, ex = .returned q ∧ w'.ownsRow W.heap.size 26 3 q m (cellsK (fun i => K (Z i).toNat) m) ∧ Below W.heap.size W w') := ha
  have HSL : Hid (∀ W sa cc, Below w.heap.size w W → (∃ B, W.ownsRow B 26 3 (.slice sa m cc) m (cellsK (fun i => K (Z i).toNat) m)) → Calls Try.prog 34 #[.slice sa m cc] W fun e w' => e = .returned (.tuple #[.agg #[.int .i64 ((tM (4 * jsN (fun i => K (Z i).toNat) m)).1 : Int), .int .i64 ((tM (4 * jsN (fun i => K (Z i).toNat) m)).2.1 : Int), .bool (tM (4 * jsN (fun i => K (Z i).toNat) m)).2.2], .nilIface]) ∧ Below W.heap.size W w') := hsl
  have E : Hid (tM (4 * jsN J c + 4 * (1012 * jsN (fun i => K (Z i).toNat) m)) = tM (4 * exN K Z m J c)) := ex_neg K Z m J c
  clear h hc hs ha hsl
  have m1 : True := trivial; have m2 : True := trivial; have m3 : True := trivial; have m4 : True := trivial; have m5 : True := trivial; have m6 : True := trivial; have m7 : True := trivial
  go_enter Try.func9, Try.ntmps9
  go_wp2_with (first | (go_at_call 33; clear m1; refine (H.out _ (by repeat (first | (with_reducible exact Below.refl _ _) | (with_reducible assumption) | (with_reducible refine Below.setCell ?_ (by first | (simp; done) | (simp; omega) | omega) _) | (with_reducible refine Below.alloc ?_ (by first | (simp; done) | (simp; omega) | omega) _) | (refine bl_call ?_ (by assumption) (by first | (simp; done) | (simp; omega) | omega)) | (with_reducible refine bl_drewN ?_) | (with_reducible refine Below.drew ?_) | (with_reducible refine bl_grow ?_ (by first | (simp; done) | (simp; omega) | omega))))).mono ?_; rintro e w1 ⟨rfl, hbw1⟩; have krw1 : At w1 (w.heap.size) [.int .i64 0, .int .i64 0, .bool false] := (by repeat (first | (with_reducible assumption) | ((with_reducible refine at_new' _ _ _ _ ?_); (first | rfl | (simp; done))) | (with_reducible refine At.alloc ?_ _) | (with_reducible refine At.drew ?_) | (with_reducible refine At.drewN ?_) | (with_reducible refine At.set ?_ (by omega)) | (with_reducible apply At.store4) | (with_reducible apply At.store3) | (with_reducible apply At.store2) | (with_reducible apply At.put43) | (refine At.below ?_ (by with_reducible assumption)))); have hqw1 : Below w.heap.size w w1 := (by repeat (first | (with_reducible exact Below.refl _ _) | (with_reducible assumption) | (with_reducible refine Below.setCell ?_ (by first | (simp; done) | (simp; omega) | omega) _) | (with_reducible refine Below.alloc ?_ (by first | (simp; done) | (simp; omega) | omega) _) | (refine bl_call ?_ (by assumption) (by first | (simp; done) | (simp; omega) | omega)) | (with_reducible refine bl_drewN ?_) | (with_reducible refine Below.drew ?_) | (with_reducible refine bl_grow ?_ (by first | (simp; done) | (simp; omega) | omega)))); have hzw1 := hqw1.size; obtain ⟨zrw1, cr0w1, cr1w1, cr2w1, fr0w1, fr1w1, fr2w1⟩ := krw1.three; clear hbw1) | (go_at_call 30; clear m2; refine (HC.out _ (by repeat (first | (with_reducible exact Below.refl _ _) | (with_reducible assumption) | (with_reducible refine Below.setCell ?_ (by first | (simp; done) | (simp; omega) | omega) _) | (with_reducible refine Below.alloc ?_ (by first | (simp; done) | (simp; omega) | omega) _) | (refine bl_call ?_ (by assumption) (by first | (simp; done) | (simp; omega) | omega)) | (with_reducible refine bl_drewN ?_) | (with_reducible refine Below.drew ?_) | (with_reducible refine bl_grow ?_ (by first | (simp; done) | (simp; omega) | omega))))).mono ?_; rintro e w2 ⟨rfl, hbw2⟩; have krw2 : At w2 (w.heap.size) [.int .i64 0, .int .i64 0, .bool false] := (by repeat (first | (with_reducible assumption) | ((with_reducible refine at_new' _ _ _ _ ?_); (first | rfl | (simp; done))) | (with_reducible refine At.alloc ?_ _) | (with_reducible refine At.drew ?_) | (with_reducible refine At.drewN ?_) | (with_reducible refine At.set ?_ (by omega)) | (with_reducible apply At.store4) | (with_reducible apply At.store3) | (with_reducible apply At.store2) | (with_reducible apply At.put43) | (refine At.below ?_ (by with_reducible assumption)))); have hqw2 : Below w.heap.size w w2 := (by repeat (first | (with_reducible exact Below.refl _ _) | (with_reducible assumption) | (with_reducible refine Below.setCell ?_ (by first | (simp; done) | (simp; omega) | omega) _) | (with_reducible refine Below.alloc ?_ (by first | (simp; done) | (simp; omega) | omega) _) | (refine bl_call ?_ (by assumption) (by first | (simp; done) | (simp; omega) | omega)) | (with_reducible refine bl_drewN ?_) | (with_reducible refine Below.drew ?_) | (with_reducible refine bl_grow ?_ (by first | (simp; done) | (simp; omega) | omega)))); have hzw2 := hqw2.size; obtain ⟨zrw2, cr0w2, cr1w2, cr2w2, fr0w2, fr1w2, fr2w2⟩ := krw2.three; clear krw1 cr0w1 fr0w1 cr1w1 fr1w1 cr2w1 fr2w1 hqw1; clear hbw2) | (go_at_call 34; clear m3; refine (HS.out _ (by repeat (first | (with_reducible exact Below.refl _ _) | (with_reducible assumption) | (with_reducible refine Below.setCell ?_ (by first | (simp; done) | (simp; omega) | omega) _) | (with_reducible refine Below.alloc ?_ (by first | (simp; done) | (simp; omega) | omega) _) | (refine bl_call ?_ (by assumption) (by first | (simp; done) | (simp; omega) | omega)) | (with_reducible refine bl_drewN ?_) | (with_reducible refine Below.drew ?_) | (with_reducible refine bl_grow ?_ (by first | (simp; done) | (simp; omega) | omega))))).mono ?_; rintro e w3 ⟨rfl, hbw3⟩; have krw3 : At w3 (w.heap.size) [.int .i64 0, .int .i64 0, .bool false] := (by repeat (first | (with_reducible assumption) | ((with_reducible refine at_new' _ _ _ _ ?_); (first | rfl | (simp; done))) | (with_reducible refine At.alloc ?_ _) | (with_reducible refine At.drew ?_) | (with_reducible refine At.drewN ?_) | (with_reducible refine At.set ?_ (by omega)) | (with_reducible apply At.store4) | (with_reducible apply At.store3) | (with_reducible apply At.store2) | (with_reducible apply At.put43) | (refine At.below ?_ (by with_reducible assumption)))); have hqw3 : Below w.heap.size w w3 := (by repeat (first | (with_reducible exact Below.refl _ _) | (with_reducible assumption) | (with_reducible refine Below.setCell ?_ (by first | (simp; done) | (simp; omega) | omega) _) | (with_reducible refine Below.alloc ?_ (by first | (simp; done) | (simp; omega) | omega) _) | (refine bl_call ?_ (by assumption) (by first | (simp; done) | (simp; omega) | omega)) | (with_reducible refine bl_drewN ?_) | (with_reducible refine Below.drew ?_) | (with_reducible refine bl_grow ?_ (by first | (simp; done) | (simp; omega) | omega)))); have hzw3 := hqw3.size; obtain ⟨zrw3, cr0w3, cr1w3, cr2w3, fr0w3, fr1w3, fr2w3⟩ := krw3.three; clear krw2 cr0w2 fr0w2 cr1w2 fr1w2 cr2w2 fr2w2 hqw2; clear hbw3) | (go_at_call 35; clear m4; refine (HA.out _ (by repeat (first | (with_reducible exact Below.refl _ _) | (with_reducible assumption) | (with_reducible refine Below.setCell ?_ (by first | (simp; done) | (simp; omega) | omega) _) | (with_reducible refine Below.alloc ?_ (by first | (simp; done) | (simp; omega) | omega) _) | (refine bl_call ?_ (by assumption) (by first | (simp; done) | (simp; omega) | omega)) | (with_reducible refine bl_drewN ?_) | (with_reducible refine Below.drew ?_) | (with_reducible refine bl_grow ?_ (by first | (simp; done) | (simp; omega) | omega))))).mono ?_; rintro e w4 ⟨q, rfl, how4, hbw4⟩; obtain ⟨saw4, ccw4, rfl, _⟩ := own_slice how4; have HOw4 := (show Hid _ from how4); clear how4; have krw4 : At w4 (w.heap.size) [.int .i64 0, .int .i64 0, .bool false] := (by repeat (first | (with_reducible assumption) | ((with_reducible refine at_new' _ _ _ _ ?_); (first | rfl | (simp; done))) | (with_reducible refine At.alloc ?_ _) | (with_reducible refine At.drew ?_) | (with_reducible refine At.drewN ?_) | (with_reducible refine At.set ?_ (by omega)) | (with_reducible apply At.store4) | (with_reducible apply At.store3) | (with_reducible apply At.store2) | (with_reducible apply At.put43) | (refine At.below ?_ (by with_reducible assumption)))); have kmw4 : At w4 (w3.heap.size) [.int .i64 ((tM (4 * jsN J c)).1 : Int), .int .i64 ((tM (4 * jsN J c)).2.1 : Int), .bool (tM (4 * jsN J c)).2.2] := (by repeat (first | (with_reducible assumption) | ((with_reducible refine at_new' _ _ _ _ ?_); (first | rfl | (simp; done))) | (with_reducible refine At.alloc ?_ _) | (with_reducible refine At.drew ?_) | (with_reducible refine At.drewN ?_) | (with_reducible refine At.set ?_ (by omega)) | (with_reducible apply At.store4) | (with_reducible apply At.store3) | (with_reducible apply At.store2) | (with_reducible apply At.put43) | (refine At.below ?_ (by with_reducible assumption)))); have hqw4 : Below w.heap.size w w4 := (by repeat (first | (with_reducible exact Below.refl _ _) | (with_reducible assumption) | (with_reducible refine Below.setCell ?_ (by first | (simp; done) | (simp; omega) | omega) _) | (with_reducible refine Below.alloc ?_ (by first | (simp; done) | (simp; omega) | omega) _) | (refine bl_call ?_ (by assumption) (by first | (simp; done) | (simp; omega) | omega)) | (with_reducible refine bl_drewN ?_) | (with_reducible refine Below.drew ?_) | (with_reducible refine bl_grow ?_ (by first | (simp; done) | (simp; omega) | omega)))); have hzw4 := hqw4.size; obtain ⟨zrw4, cr0w4, cr1w4, cr2w4, fr0w4, fr1w4, fr2w4⟩ := krw4.three; obtain ⟨zmw4, cm0w4, cm1w4, cm2w4, fm0w4, fm1w4, fm2w4⟩ := kmw4.three; clear krw3 cr0w3 fr0w3 cr1w3 fr1w3 cr2w3 fr2w3 hqw3; clear hbw4) | (go_at_call 34; clear m5; refine (HSL.out _ _ _ (by repeat (first | (with_reducible exact Below.refl _ _) | (with_reducible assumption) | (with_reducible refine Below.setCell ?_ (by first | (simp; done) | (simp; omega) | omega) _) | (with_reducible refine Below.alloc ?_ (by first | (simp; done) | (simp; omega) | omega) _) | (refine bl_call ?_ (by assumption) (by first | (simp; done) | (simp; omega) | omega)) | (with_reducible refine bl_drewN ?_) | (with_reducible refine Below.drew ?_) | (with_reducible refine bl_grow ?_ (by first | (simp; done) | (simp; omega) | omega)))) ⟨_, HOw4.out⟩).mono ?_; rintro e w5 ⟨rfl, hbw5⟩; have krw5 : At w5 (w.heap.size) [.int .i64 0, .int .i64 0, .bool false] := (by repeat (first | (with_reducible assumption) | ((with_reducible refine at_new' _ _ _ _ ?_); (first | rfl | (simp; done))) | (with_reducible refine At.alloc ?_ _) | (with_reducible refine At.drew ?_) | (with_reducible refine At.drewN ?_) | (with_reducible refine At.set ?_ (by omega)) | (with_reducible apply At.store4) | (with_reducible apply At.store3) | (with_reducible apply At.store2) | (with_reducible apply At.put43) | (refine At.below ?_ (by with_reducible assumption)))); have kmw5 : At w5 (w3.heap.size) [.int .i64 ((tM (4 * jsN J c)).1 : Int), .int .i64 ((tM (4 * jsN J c)).2.1 : Int), .bool (tM (4 * jsN J c)).2.2] := (by repeat (first | (with_reducible assumption) | ((with_reducible refine at_new' _ _ _ _ ?_); (first | rfl | (simp; done))) | (with_reducible refine At.alloc ?_ _) | (with_reducible refine At.drew ?_) | (with_reducible refine At.drewN ?_) | (with_reducible refine At.set ?_ (by omega)) | (with_reducible apply At.store4) | (with_reducible apply At.store3) | (with_reducible apply At.store2) | (with_reducible apply At.put43) | (refine At.below ?_ (by with_reducible assumption)))); have hqw5 : Below w.heap.size w w5 := (by repeat (first | (with_reducible exact Below.refl _ _) | (with_reducible assumption) | (with_reducible refine Below.setCell ?_ (by first | (simp; done) | (simp; omega) | omega) _) | (with_reducible refine Below.alloc ?_ (by first | (simp; done) | (simp; omega) | omega) _) | (refine bl_call ?_ (by assumption) (by first | (simp; done) | (simp; omega) | omega)) | (with_reducible refine bl_drewN ?_) | (with_reducible refine Below.drew ?_) | (with_reducible refine bl_grow ?_ (by first | (simp; done) | (simp; omega) | omega)))); have hzw5 := hqw5.size; obtain ⟨zrw5, cr0w5, cr1w5, cr2w5, fr0w5, fr1w5, fr2w5⟩ := krw5.three; obtain ⟨zmw5, cm0w5, cm1w5, cm2w5, fm0w5, fm1w5, fm2w5⟩ := kmw5.three; clear krw4 cr0w4 fr0w4 cr1w4 fr1w4 cr2w4 fr2w4 kmw4 cm0w4 fm0w4 cm1w4 fm1w4 cm2w4 fm2w4 hqw4; clear hbw5) | (go_at_call 36; clear m6; refine (bneg_4 _ _).mono ?_; rintro e w6 ⟨rfl, hbw6⟩; have krw6 : At w6 (w.heap.size) [.int .i64 0, .int .i64 0, .bool false] := (by repeat (first | (with_reducible assumption) | ((with_reducible refine at_new' _ _ _ _ ?_); (first | rfl | (simp; done))) | (with_reducible refine At.alloc ?_ _) | (with_reducible refine At.drew ?_) | (with_reducible refine At.drewN ?_) | (with_reducible refine At.set ?_ (by omega)) | (with_reducible apply At.store4) | (with_reducible apply At.store3) | (with_reducible apply At.store2) | (with_reducible apply At.put43) | (refine At.below ?_ (by with_reducible assumption)))); have kmw6 : At w6 (w3.heap.size) [.int .i64 ((tM (4 * jsN J c)).1 : Int), .int .i64 ((tM (4 * jsN J c)).2.1 : Int), .bool (tM (4 * jsN J c)).2.2] := (by repeat (first | (with_reducible assumption) | ((with_reducible refine at_new' _ _ _ _ ?_); (first | rfl | (simp; done))) | (with_reducible refine At.alloc ?_ _) | (with_reducible refine At.drew ?_) | (with_reducible refine At.drewN ?_) | (with_reducible refine At.set ?_ (by omega)) | (with_reducible apply At.store4) | (with_reducible apply At.store3) | (with_reducible apply At.store2) | (with_reducible apply At.put43) | (refine At.below ?_ (by with_reducible assumption)))); have klw6 : At w6 (w5.heap.size) [.int .i64 ((tM (4 * jsN (fun i => K (Z i).toNat) m)).1 : Int), .int .i64 ((tM (4 * jsN (fun i => K (Z i).toNat) m)).2.1 : Int), .bool (tM (4 * jsN (fun i => K (Z i).toNat) m)).2.2] := (by repeat (first | (with_reducible assumption) | ((with_reducible refine at_new' _ _ _ _ ?_); (first | rfl | (simp; done))) | (with_reducible refine At.alloc ?_ _) | (with_reducible refine At.drew ?_) | (with_reducible refine At.drewN ?_) | (with_reducible refine At.set ?_ (by omega)) | (with_reducible apply At.store4) | (with_reducible apply At.store3) | (with_reducible apply At.store2) | (with_reducible apply At.put43) | (refine At.below ?_ (by with_reducible assumption)))); have hqw6 : Below w.heap.size w w6 := (by repeat (first | (with_reducible exact Below.refl _ _) | (with_reducible assumption) | (with_reducible refine Below.setCell ?_ (by first | (simp; done) | (simp; omega) | omega) _) | (with_reducible refine Below.alloc ?_ (by first | (simp; done) | (simp; omega) | omega) _) | (refine bl_call ?_ (by assumption) (by first | (simp; done) | (simp; omega) | omega)) | (with_reducible refine bl_drewN ?_) | (with_reducible refine Below.drew ?_) | (with_reducible refine bl_grow ?_ (by first | (simp; done) | (simp; omega) | omega)))); have hzw6 := hqw6.size; obtain ⟨zrw6, cr0w6, cr1w6, cr2w6, fr0w6, fr1w6, fr2w6⟩ := krw6.three; obtain ⟨zmw6, cm0w6, cm1w6, cm2w6, fm0w6, fm1w6, fm2w6⟩ := kmw6.three; obtain ⟨zlw6, cl0w6, cl1w6, cl2w6, fl0w6, fl1w6, fl2w6⟩ := klw6.three; clear krw5 cr0w5 fr0w5 cr1w5 fr1w5 cr2w5 fr2w5 kmw5 cm0w5 fm0w5 cm1w5 fm1w5 cm2w5 fm2w5 hqw5; clear hbw6) | (go_at_call 29; clear m7; refine (cadd_eq E.out _).mono ?_; rintro e w7 ⟨rfl, hbw7⟩; have krw7 : At w7 (w.heap.size) [.int .i64 0, .int .i64 0, .bool false] := (by repeat (first | (with_reducible assumption) | ((with_reducible refine at_new' _ _ _ _ ?_); (first | rfl | (simp; done))) | (with_reducible refine At.alloc ?_ _) | (with_reducible refine At.drew ?_) | (with_reducible refine At.drewN ?_) | (with_reducible refine At.set ?_ (by omega)) | (with_reducible apply At.store4) | (with_reducible apply At.store3) | (with_reducible apply At.store2) | (with_reducible apply At.put43) | (refine At.below ?_ (by with_reducible assumption)))); have hqw7 : Below w.heap.size w w7 := (by repeat (first | (with_reducible exact Below.refl _ _) | (with_reducible assumption) | (with_reducible refine Below.setCell ?_ (by first | (simp; done) | (simp; omega) | omega) _) | (with_reducible refine Below.alloc ?_ (by first | (simp; done) | (simp; omega) | omega) _) | (refine bl_call ?_ (by assumption) (by first | (simp; done) | (simp; omega) | omega)) | (with_reducible refine bl_drewN ?_) | (with_reducible refine Below.drew ?_) | (with_reducible refine bl_grow ?_ (by first | (simp; done) | (simp; omega) | omega)))); have hzw7 := hqw7.size; obtain ⟨zrw7, cr0w7, cr1w7, cr2w7, fr0w7, fr1w7, fr2w7⟩ := krw7.three; clear krw6 cr0w6 fr0w6 cr1w6 fr1w6 cr2w6 fr2w6 kmw6 cm0w6 fm0w6 cm1w6 fm1w6 cm2w6 fm2w6 klw6 cl0w6 fl0w6 cl1w6 fl1w6 cl2w6 fl2w6 hqw6; clear hbw7))
  exact bodyPost_ret (v := .tuple #[.agg #[.int .i64 ((tM (4 * exN K Z m J c)).1 : Int), .int .i64 ((tM (4 * exN K Z m J c)).2.1 : Int), .bool (tM (4 * exN K Z m J c)).2.2], .nilIface]) (by simp [results, Try.results9, go_sem, *]) rfl ⟨rfl, by repeat (first | (with_reducible exact Below.refl _ _) | (with_reducible assumption) | (with_reducible refine Below.setCell ?_ (by first | (simp; done) | (simp; omega) | omega) _) | (with_reducible refine Below.alloc ?_ (by first | (simp; done) | (simp; omega) | omega) _) | (refine bl_call ?_ (by assumption) (by first | (simp; done) | (simp; omega) | omega)) | (with_reducible refine bl_drewN ?_) | (with_reducible refine Below.drew ?_) | (with_reducible refine bl_grow ?_ (by first | (simp; done) | (simp; omega) | omega)))⟩
theorem bexc_yes (p n m c d dz : Nat) (sz sl : Option Addr) (u : Value) (K : Nat → Nat) (G : Nat → Bool) (Z : Nat → Int) (X Y : Nat → Int) (F : Nat → Bool) (J : Nat → Nat) (w : World) (hn : n ≤ 1000) (h : CoinsAt 83 w p u n K G) (hz : (m = 0 ∨ ∃ b o : Nat, sz = some ⟨b, o, none⟩ ∧ RowI w b o m Z)) (hr : (c = 0 ∨ ∃ b o : Nat, sl = some ⟨b, o, none⟩ ∧ RowO w b o c X Y F)) (hg : ∀ i, i < m → goE n G Z i = 0) (hc : c ≤ 12) (hJ : isC X Y F J c) : Calls Try.prog 9 #[.pointer (some ⟨p, 0, none⟩), .slice sz m dz, .slice sl c d] w fun e w' => e = .returned (.tuple #[.agg #[.int .i64 ((tM (4 * exN K Z m J c)).1 : Int), .int .i64 ((tM (4 * exN K Z m J c)).2.1 : Int), .bool (tM (4 * exN K Z m J c)).2.2], .nilIface]) ∧ Below w.heap.size w w' := by
  have hm : m ≤ 1000 := Nat.le_trans (go_many hg) hn
  exact bexc_ok p m c d dz sz sl K J Z w (fun W hW => bgone_yes p n m dz sz u K G Z W hn (by omega) (h.below hW) (brz_up hz hW) hg) (fun W hW => bcc_yes sl c d X Y F J W hc (brow_up hr hW) hJ) (fun W hW => bsum sl c d X Y F J W (by omega) (brow_up hr hW) hJ)
    (fun W hW => bat p n m dz sz u K G Z W hn hm (h.below hW) (brz_up hz hW) fun i hi => inN_yes (goE_ok (hg i hi)).1)
    (fun W sa cc hW ⟨B, ho⟩ => by
      obtain ⟨sa', cc', e, r⟩ := own_isC ho
      injection e with e1 e2 e3
      subst e1 e3
      exact bsum sa m cc _ _ _ _ W (by omega) r (fun i hi => ⟨rfl, rfl, rfl⟩))
theorem bexc_is : BExcIs bookP := by
  refine ⟨fun v Q n m c d dz sz sl K G Z X Y F q w hn hm hdz hcd _ h hz hr hc he => ?_, fun v Q n m c d dz sz sl K G Z X Y F J w hn hm hdz hcd _ h hz hr hg hc hJ => ?_⟩
  · obtain ⟨p, u, rfl, rfl, h⟩ := h
    unfold exE at he ⊢
    cases h1 : gnE n G Z m == 0 with
    | false =>
      rw [h1] at he
      exact bexc_gone p m c d dz sz sl _ w (fun W hW => bgone_no p n m dz sz u K G Z W hn hm (h.below hW) (brz_up hz hW) h1)
    | true =>
      rw [h1] at he
      exact bexc_come p m c d dz sz sl _ w (fun W hW => bgone_yes p n m dz sz u K G Z W hn hm (h.below hW) (brz_up hz hW) (gnE_zero (by simpa using h1))) (fun W hW => bcc_no sl c d X Y F q W (brow_up hr hW) hc he)
  · obtain ⟨p, u, rfl, rfl, h⟩ := h
    exact bexc_yes p n m c d dz sz sl u K G Z X Y F J w hn h hz hr hg hc hJ
theorem bliinfo : (Try.prog.info? 3).map (fun i => (i.zero, i.size, i.bytes)) = some (some (.int .i64 0), 1, 8) := by kernel_rfl
set_option maxRecDepth 100000 in
set_option maxHeartbeats 8000000 in
theorem blive (p n : Nat) (u : Value) (K : Nat → Nat) (G : Nat → Bool) (w : World) (hn : n ≤ 1000) (h : CoinsAt 83 w p u n K G) : Calls Try.prog 44 #[.pointer (some ⟨p, 0, none⟩)] w fun ex w' => ∃ q, ex = .returned q ∧ w'.ownsRow w.heap.size 3 1 q (lvL G n).length (lvC G n) ∧ Below w.heap.size w w' := by
  obtain ⟨su, cu, rfl, hrow⟩ := h.slice
  have HP : Hid (At w p [.slice su n cu]) := h.cells
  have HR : Hid (n = 0 ∨ ∃ g, su = some ⟨g, 0, none⟩ ∧ RowC w g 0 n K G) := hrow
  have hpw := h.cells.1
  clear hrow h
  have kpw := HP.out
  obtain ⟨zpw, cp0w, fp0w⟩ := kpw.one
  obtain ⟨i0, hi, hv0, hv1, hv2⟩ := info_parts bliinfo
  go_enter Try.func44, Try.ntmps44
  go_wp2_with fail
  clear kpw cp0w fp0w
  go_loopw [3, 11] (fun tv ti wl => ∃ k : Nat, k ≤ n ∧ ti = .int .i64 k ∧ wl.ownsRow w.heap.size 3 1 tv (lvL G k).length (lvC G k) ∧ Below w.heap.size w wl) (fun _ ti _ => n - (intOf ti).toNat)
  case atStart => exact ⟨0, by omega, rfl, by show World.ownsRow _ _ _ _ _ 0 []; exact World.ownsRow_nil _ _ _ _, by repeat (first | (with_reducible exact Below.refl _ _) | (with_reducible assumption) | (with_reducible refine Below.setCell ?_ (by first | (simp; done) | (simp; omega) | omega) _) | (with_reducible refine Below.alloc ?_ (by first | (simp; done) | (simp; omega) | omega) _) | (refine bl_call ?_ (by assumption) (by first | (simp; done) | (simp; omega) | omega)) | (with_reducible refine bl_drewN ?_) | (with_reducible refine Below.drew ?_) | (with_reducible refine bl_grow ?_ (by first | (simp; done) | (simp; omega) | omega)))⟩
  case round =>
    obtain ⟨k, hk, rfl, hown, hqV⟩ := hrel
    rename World => V
    have hzV := hqV.size
    by_cases hlt : k < n
    · have hlt' : (k : Int) < n := by omega
      obtain ⟨g, rfl, r1⟩ := HR.out.resolve_left (by omega)
      have hgV := Nat.lt_of_lt_of_le r1.1 hzV
      obtain ⟨c0, c1, c2, c3⟩ := (r1.below r1.1 hqV).2 k hlt
      rw [Nat.zero_add] at c0 c1 c2 c3
      clear r1
      have hle := lvL_len G k
      cases hG : G k with
      | true =>
        rw [hG] at c3
        change V.cell? _ = some (.bool false) at c3
        have HE : Hid (lvC G (k + 1) = lvC G k) := lvC_gone hG
        have HE3 : Hid ((lvL G (k + 1)).length = (lvL G k).length) := congrArg List.length (lvL_gone hG)
        clear hG
        go_wp2_with fail
        go_roundw
        case rel => exact ⟨k + 1, by omega, by simp, by rw [HE.out, HE3.out]; exact own_stay hown (by repeat (first | (with_reducible exact Below.refl _ _) | (with_reducible assumption) | (with_reducible refine Below.setCell ?_ (by first | (simp; done) | (simp; omega) | omega) _) | (with_reducible refine Below.alloc ?_ (by first | (simp; done) | (simp; omega) | omega) _) | (refine bl_call ?_ (by assumption) (by first | (simp; done) | (simp; omega) | omega)) | (with_reducible refine bl_drewN ?_) | (with_reducible refine Below.drew ?_) | (with_reducible refine bl_grow ?_ (by first | (simp; done) | (simp; omega) | omega)))), by repeat (first | (with_reducible exact Below.refl _ _) | (with_reducible assumption) | (with_reducible refine Below.setCell ?_ (by first | (simp; done) | (simp; omega) | omega) _) | (with_reducible refine Below.alloc ?_ (by first | (simp; done) | (simp; omega) | omega) _) | (refine bl_call ?_ (by assumption) (by first | (simp; done) | (simp; omega) | omega)) | (with_reducible refine bl_drewN ?_) | (with_reducible refine Below.drew ?_) | (with_reducible refine bl_grow ?_ (by first | (simp; done) | (simp; omega) | omega)))⟩
        case measure => simp [intOf]; omega
      | false =>
        rw [hG] at c3
        change V.cell? _ = some (.bool true) at c3
        have HE : Hid (lvC G (k + 1) = lvC G k ++ [.int .i64 (k : Int)]) := lvC_live hG
        have HE3 : Hid ((lvL G (k + 1)).length = (lvL G k).length + 1) := by unfold Hid; rw [lvL_live hG]; simp
        clear hG
        go_wp2_with (at_builtin; refine wpList_append_own_at _ rfl _ _ 22 rfl w.heap.size 3 i0 (.int .i64 0) 1 8 Try.underlying22 hi hv0 hv1 hv2 rfl (by decide) _ _ _ rfl (own_stay hown (by repeat (first | (with_reducible exact Below.refl _ _) | (with_reducible assumption) | (with_reducible refine Below.setCell ?_ (by first | (simp; done) | (simp; omega) | omega) _) | (with_reducible refine Below.alloc ?_ (by first | (simp; done) | (simp; omega) | omega) _) | (refine bl_call ?_ (by assumption) (by first | (simp; done) | (simp; omega) | omega)) | (with_reducible refine bl_drewN ?_) | (with_reducible refine Below.drew ?_) | (with_reducible refine bl_grow ?_ (by first | (simp; done) | (simp; omega) | omega))))) ⟨_, 0, none⟩ 1 1 [.int .i64 (k : Int)] rfl rfl ?c1 ?c2 ?c3 ?c4 ?c5 ?_)
        case c1 => exact bone_at (by simp) _ _
        case c2 => intro u hu; simp at hu; subst hu; rfl
        case c3 => unfold maxLen; omega
        case c4 => omega
        case c5 => simp; omega
        · intro v' w13 hown' hgrow _ hat
          have hq13 : Below w.heap.size w w13 := grown_under (B := w.heap.size) (by repeat (first | (with_reducible exact Below.refl _ _) | (with_reducible assumption) | (with_reducible refine Below.setCell ?_ (by first | (simp; done) | (simp; omega) | omega) _) | (with_reducible refine Below.alloc ?_ (by first | (simp; done) | (simp; omega) | omega) _) | (refine bl_call ?_ (by assumption) (by first | (simp; done) | (simp; omega) | omega)) | (with_reducible refine bl_drewN ?_) | (with_reducible refine Below.drew ?_) | (with_reducible refine bl_grow ?_ (by first | (simp; done) | (simp; omega) | omega)))) (own_stay hown (by repeat (first | (with_reducible exact Below.refl _ _) | (with_reducible assumption) | (with_reducible refine Below.setCell ?_ (by first | (simp; done) | (simp; omega) | omega) _) | (with_reducible refine Below.alloc ?_ (by first | (simp; done) | (simp; omega) | omega) _) | (refine bl_call ?_ (by assumption) (by first | (simp; done) | (simp; omega) | omega)) | (with_reducible refine bl_drewN ?_) | (with_reducible refine Below.drew ?_) | (with_reducible refine bl_grow ?_ (by first | (simp; done) | (simp; omega) | omega))))) hgrow (by simp; omega) (Nat.le_refl _)
          rw [← HE.out, ← HE3.out] at hown'
          clear hgrow hat hown
          go_wp2_with fail
          go_roundw
          case rel => exact ⟨k + 1, by omega, by simp, hown', hq13⟩
          case measure => simp [intOf]; omega
    · have hlt' : ¬ (k : Int) < n := by omega
      obtain rfl : k = n := by omega
      go_wp2_with fail
      go_ret
      exact ⟨_, rfl, hown, by repeat (first | (with_reducible exact Below.refl _ _) | (with_reducible assumption) | (with_reducible refine Below.setCell ?_ (by first | (simp; done) | (simp; omega) | omega) _) | (with_reducible refine Below.alloc ?_ (by first | (simp; done) | (simp; omega) | omega) _) | (refine bl_call ?_ (by assumption) (by first | (simp; done) | (simp; omega) | omega)) | (with_reducible refine bl_drewN ?_) | (with_reducible refine Below.drew ?_) | (with_reducible refine bl_grow ?_ (by first | (simp; done) | (simp; omega) | omega)))⟩
theorem blive_is : BLiveIs bookP := fun v Q n K G w hn h => by
  obtain ⟨p, u, rfl, rfl, h⟩ := h
  exact blive p n u K G w hn h
set_option maxRecDepth 100000 in
set_option maxHeartbeats 8000000 in
theorem btotal (p n l : Nat) (K : Nat → Nat) (G : Nat → Bool) (T : Sn) (w : World) (hl : ∀ W, Below w.heap.size w W → Calls Try.prog 44 #[.pointer (some ⟨p, 0, none⟩)] W fun ex w' => ∃ q, ex = .returned q ∧ w'.ownsRow W.heap.size 3 1 q l (lvC G n) ∧ Below W.heap.size W w') (ha : ∀ W sz dz, Below w.heap.size w W → (∃ B, W.ownsRow B 3 1 (.slice sz l dz) l (lvC G n)) → Calls Try.prog 35 #[.pointer (some ⟨p, 0, none⟩), .slice sz l dz] W fun ex w' => ∃ q, ex = .returned q ∧ w'.ownsRow W.heap.size 26 3 q l (cellsK (fun i => K (lvZ G n i).toNat) l) ∧ Below W.heap.size W w') (hs : ∀ W sa cc, Below w.heap.size w W → (∃ B, W.ownsRow B 26 3 (.slice sa l cc) l (cellsK (fun i => K (lvZ G n i).toNat) l)) → Calls Try.prog 34 #[.slice sa l cc] W fun e w' => e = .returned (.tuple #[.agg #[.int .i64 ((T).1 : Int), .int .i64 ((T).2.1 : Int), .bool (T).2.2], .nilIface]) ∧ Below W.heap.size W w') : Calls Try.prog 16 #[.pointer (some ⟨p, 0, none⟩)] w fun e w' => e = .returned (.agg #[.int .i64 ((T).1 : Int), .int .i64 ((T).2.1 : Int), .bool (T).2.2]) ∧ Below w.heap.size w w' := by
  have HL : Hid (∀ W, Below w.heap.size w W → Calls Try.prog 44 #[.pointer (some ⟨p, 0, none⟩)] W fun ex w' => ∃ q, ex = .returned q ∧ w'.ownsRow W.heap.size 3 1 q l (lvC G n) ∧ Below W.heap.size W w') := hl
  have HA : Hid (∀ W sz dz, Below w.heap.size w W → (∃ B, W.ownsRow B 3 1 (.slice sz l dz) l (lvC G n)) → Calls Try.prog 35 #[.pointer (some ⟨p, 0, none⟩), .slice sz l dz] W fun ex w' => ∃ q, ex = .returned q ∧ w'.ownsRow W.heap.size 26 3 q l (cellsK (fun i => K (lvZ G n i).toNat) l) ∧ Below W.heap.size W w') := ha
  have HS : Hid (∀ W sa cc, Below w.heap.size w W → (∃ B, W.ownsRow B 26 3 (.slice sa l cc) l (cellsK (fun i => K (lvZ G n i).toNat) l)) → Calls Try.prog 34 #[.slice sa l cc] W fun e w' => e = .returned (.tuple #[.agg #[.int .i64 ((T).1 : Int), .int .i64 ((T).2.1 : Int), .bool (T).2.2], .nilIface]) ∧ Below W.heap.size W w') := hs
  clear hl ha hs
  have m1 : True := trivial; have m2 : True := trivial; have m3 : True := trivial
  go_enter Try.func16, Try.ntmps16
  go_wp2_with (first | (go_at_call 44; clear m1; refine (HL.out _ (by repeat (first | (with_reducible exact Below.refl _ _) | (with_reducible assumption) | (with_reducible refine Below.setCell ?_ (by first | (simp; done) | (simp; omega) | omega) _) | (with_reducible refine Below.alloc ?_ (by first | (simp; done) | (simp; omega) | omega) _) | (refine bl_call ?_ (by assumption) (by first | (simp; done) | (simp; omega) | omega)) | (with_reducible refine bl_drewN ?_) | (with_reducible refine Below.drew ?_) | (with_reducible refine bl_grow ?_ (by first | (simp; done) | (simp; omega) | omega))))).mono ?_; rintro e w1 ⟨q, rfl, how1, hbw1⟩; obtain ⟨saw1, ccw1, rfl, _⟩ := own_slice how1; have HOw1 := (show Hid _ from how1); clear how1; have krw1 : At w1 (w.heap.size) [.int .i64 0, .int .i64 0, .bool false] := (by repeat (first | (with_reducible assumption) | ((with_reducible refine at_new' _ _ _ _ ?_); (first | rfl | (simp; done))) | (with_reducible refine At.alloc ?_ _) | (with_reducible refine At.drew ?_) | (with_reducible refine At.drewN ?_) | (with_reducible refine At.set ?_ (by omega)) | (with_reducible apply At.store4) | (with_reducible apply At.store3) | (with_reducible apply At.store2) | (with_reducible apply At.put43) | (refine At.below ?_ (by with_reducible assumption)))); have hqw1 : Below w.heap.size w w1 := (by repeat (first | (with_reducible exact Below.refl _ _) | (with_reducible assumption) | (with_reducible refine Below.setCell ?_ (by first | (simp; done) | (simp; omega) | omega) _) | (with_reducible refine Below.alloc ?_ (by first | (simp; done) | (simp; omega) | omega) _) | (refine bl_call ?_ (by assumption) (by first | (simp; done) | (simp; omega) | omega)) | (with_reducible refine bl_drewN ?_) | (with_reducible refine Below.drew ?_) | (with_reducible refine bl_grow ?_ (by first | (simp; done) | (simp; omega) | omega)))); have hzw1 := hqw1.size; obtain ⟨zrw1, cr0w1, cr1w1, cr2w1, fr0w1, fr1w1, fr2w1⟩ := krw1.three; clear hbw1) | (go_at_call 35; clear m2; refine (HA.out _ _ _ (by repeat (first | (with_reducible exact Below.refl _ _) | (with_reducible assumption) | (with_reducible refine Below.setCell ?_ (by first | (simp; done) | (simp; omega) | omega) _) | (with_reducible refine Below.alloc ?_ (by first | (simp; done) | (simp; omega) | omega) _) | (refine bl_call ?_ (by assumption) (by first | (simp; done) | (simp; omega) | omega)) | (with_reducible refine bl_drewN ?_) | (with_reducible refine Below.drew ?_) | (with_reducible refine bl_grow ?_ (by first | (simp; done) | (simp; omega) | omega)))) ⟨_, HOw1.out⟩).mono ?_; rintro e w2 ⟨q, rfl, how2, hbw2⟩; obtain ⟨saw2, ccw2, rfl, _⟩ := own_slice how2; have HOw2 := (show Hid _ from how2); clear how2; have krw2 : At w2 (w.heap.size) [.int .i64 0, .int .i64 0, .bool false] := (by repeat (first | (with_reducible assumption) | ((with_reducible refine at_new' _ _ _ _ ?_); (first | rfl | (simp; done))) | (with_reducible refine At.alloc ?_ _) | (with_reducible refine At.drew ?_) | (with_reducible refine At.drewN ?_) | (with_reducible refine At.set ?_ (by omega)) | (with_reducible apply At.store4) | (with_reducible apply At.store3) | (with_reducible apply At.store2) | (with_reducible apply At.put43) | (refine At.below ?_ (by with_reducible assumption)))); have hqw2 : Below w.heap.size w w2 := (by repeat (first | (with_reducible exact Below.refl _ _) | (with_reducible assumption) | (with_reducible refine Below.setCell ?_ (by first | (simp; done) | (simp; omega) | omega) _) | (with_reducible refine Below.alloc ?_ (by first | (simp; done) | (simp; omega) | omega) _) | (refine bl_call ?_ (by assumption) (by first | (simp; done) | (simp; omega) | omega)) | (with_reducible refine bl_drewN ?_) | (with_reducible refine Below.drew ?_) | (with_reducible refine bl_grow ?_ (by first | (simp; done) | (simp; omega) | omega)))); have hzw2 := hqw2.size; obtain ⟨zrw2, cr0w2, cr1w2, cr2w2, fr0w2, fr1w2, fr2w2⟩ := krw2.three; clear krw1 cr0w1 fr0w1 cr1w1 fr1w1 cr2w1 fr2w1 hqw1; clear hbw2) | (go_at_call 34; clear m3; refine (HS.out _ _ _ (by repeat (first | (with_reducible exact Below.refl _ _) | (with_reducible assumption) | (with_reducible refine Below.setCell ?_ (by first | (simp; done) | (simp; omega) | omega) _) | (with_reducible refine Below.alloc ?_ (by first | (simp; done) | (simp; omega) | omega) _) | (refine bl_call ?_ (by assumption) (by first | (simp; done) | (simp; omega) | omega)) | (with_reducible refine bl_drewN ?_) | (with_reducible refine Below.drew ?_) | (with_reducible refine bl_grow ?_ (by first | (simp; done) | (simp; omega) | omega)))) ⟨_, HOw2.out⟩).mono ?_; rintro e w3 ⟨rfl, hbw3⟩; have krw3 : At w3 (w.heap.size) [.int .i64 0, .int .i64 0, .bool false] := (by repeat (first | (with_reducible assumption) | ((with_reducible refine at_new' _ _ _ _ ?_); (first | rfl | (simp; done))) | (with_reducible refine At.alloc ?_ _) | (with_reducible refine At.drew ?_) | (with_reducible refine At.drewN ?_) | (with_reducible refine At.set ?_ (by omega)) | (with_reducible apply At.store4) | (with_reducible apply At.store3) | (with_reducible apply At.store2) | (with_reducible apply At.put43) | (refine At.below ?_ (by with_reducible assumption)))); have hqw3 : Below w.heap.size w w3 := (by repeat (first | (with_reducible exact Below.refl _ _) | (with_reducible assumption) | (with_reducible refine Below.setCell ?_ (by first | (simp; done) | (simp; omega) | omega) _) | (with_reducible refine Below.alloc ?_ (by first | (simp; done) | (simp; omega) | omega) _) | (refine bl_call ?_ (by assumption) (by first | (simp; done) | (simp; omega) | omega)) | (with_reducible refine bl_drewN ?_) | (with_reducible refine Below.drew ?_) | (with_reducible refine bl_grow ?_ (by first | (simp; done) | (simp; omega) | omega)))); have hzw3 := hqw3.size; obtain ⟨zrw3, cr0w3, cr1w3, cr2w3, fr0w3, fr1w3, fr2w3⟩ := krw3.three; clear krw2 cr0w2 fr0w2 cr1w2 fr1w2 cr2w2 fr2w2 hqw2; clear hbw3))
  exact bodyPost_ret (v := .agg #[.int .i64 ((T).1 : Int), .int .i64 ((T).2.1 : Int), .bool (T).2.2]) (by simp [results, Try.results16, go_sem, *]) rfl ⟨rfl, by repeat (first | (with_reducible exact Below.refl _ _) | (with_reducible assumption) | (with_reducible refine Below.setCell ?_ (by first | (simp; done) | (simp; omega) | omega) _) | (with_reducible refine Below.alloc ?_ (by first | (simp; done) | (simp; omega) | omega) _) | (refine bl_call ?_ (by assumption) (by first | (simp; done) | (simp; omega) | omega)) | (with_reducible refine bl_drewN ?_) | (with_reducible refine Below.drew ?_) | (with_reducible refine bl_grow ?_ (by first | (simp; done) | (simp; omega) | omega)))⟩
theorem btotal_is : BTotalIs bookP := fun v Q n K G w hn h => by
  obtain ⟨p, u, rfl, rfl, h⟩ := h
  have hl : (lvL G n).length ≤ 1000 := Nat.le_trans (lvL_len G n) hn
  refine btotal p n (lvL G n).length K G (tM (4 * ttN K G n)) w (fun W hW => blive p n u K G W hn (h.below hW)) (fun W sz dz hW ⟨B, ho⟩ => ?_) (fun W sa cc hW ⟨B, ho⟩ => ?_)
  · rw [lvC_row] at ho
    obtain ⟨sa, cc, e, r⟩ := own_ints ho
    injection e with e1 e2 e3
    subst e1 e3
    refine bat p n _ dz sz u K G (lvZ G n) W hn hl (h.below hW) (r.imp_right fun ⟨g, a, _, _, r⟩ => ⟨g, 0, a, r⟩) (fun i hi => ?_)
    have := lv_lt G n i hi
    unfold lvZ
    omega
  · obtain ⟨sa', cc', e, r⟩ := own_isC ho
    injection e with e1 e2 e3
    subst e1 e3
    have := bsum sa _ cc _ _ _ (fun i => K (lvZ G n i).toNat) W (by omega) r (fun i hi => ⟨rfl, rfl, rfl⟩)
    rwa [show jsN (fun i => K (lvZ G n i).toNat) (lvL G n).length = ttN K G n from lv_total K G n] at this
end Go.Proofs.Ytmijjjdedadklaj
/- Book -/
namespace Go.Proofs.Ytmijjjdedadklaj
open Go.RowKit Go.Sort
set_option linter.unusedVariables false
set_option linter.unusedSimpArgs false
/-- What a deal that is done leaves of a book. -/
def CoinsDone (e : TypeId) (w w' : World) (p : Nat) (u : Value) (n : Nat) (K : Nat → Nat) (G : Nat → Bool) : Prop :=
  But (fc p u) w w' ∧ ∃ u', CoinsAt e w' p u' n K G ∧ ∀ i, fc p u' i → fc p u i ∨ w.heap.size ≤ i
theorem cellsC_one (K : Nat → Nat) (G : Nat → Bool) : ∀ n, ∀ u ∈ cellsC K G n, u.oneCell' = true
  | 0, u, h => by cases h
  | n + 1, u, h => by
    rw [cellsC_succ] at h
    rcases List.mem_append.1 h with h | h
    · exact cellsC_one K G n u h
    · unfold coinL at h
      simp at h
      rcases h with rfl | rfl | rfl | rfl <;> rfl
/-- Nothing is appended, in a region that draws. -/
theorem step_append_nought {P : Program} {w : World} {ops : Array Oper} {o : Oper} {a : Act} {K : Act → World → Prop} {Q : Exit → Act → World → Prop} {E : Prop} (hgd : o.guard = none) (s x : Operand) (t : TypeId)
    (ho : o.op = .call { callee := .builtin .append, args := #[s, x], argTypes := #[t, t] }) (e : TypeId) (i : TypeInfo) (ht : P.underlying t = some (.slice e)) (hi : P.info? e = some i)
    (sb so : Option Addr) (n k c : Nat) (hs : a.eval s = .slice sb n k) (hk : n ≤ k) (hx : a.eval x = .slice so 0 c) (h : K (a.put o.dst (.slice sb n k)) w) :
    if Region.wanted o (yielded ops a.tmps) = true then Oper.wp P o a w K Q else E := by
  have hw : Region.wanted o (yielded ops a.tmps) = true := by simp [Region.wanted, hgd]
  rw [if_pos hw]
  have hsrc : Src P i.size t (.slice so 0 c) 0 [] w := by
    cases so with
    | none => exact Src.ofNil w ht c
    | some ad => exact Src.ofSlice w ht ad 0 c [] (by simp) (fun j u hj => by simp at hj) (fun u hu => by simp at hu)
  have hr := run_append_nothing (P := P) w t t o.type e i ht hi sb n k hk (.slice so 0 c) hsrc
  unfold Oper.wp execOp
  simp only [ho, resolve, invoke, builtin, Sem.run_bind, Sem.run_pure, Result.andThen_ok, List.map_toArray, List.map_cons, List.map_nil, hs, hx, hr]
  exact h
theorem grown_same (w : World) (r : Option Nat) : w.grownBy w r := ⟨rfl, rfl, rfl, Nat.le_refl _, fun _ _ _ => rfl⟩
section
variable {e : TypeId} {w V w5 w7 : World} {p : Nat} {u u7 : Value} {n n7 : Nat} {K K7 : Nat → Nat} {G G7 : Nat → Bool} {H : Nat → Bool}
/-- A row that has grown behind all that, stored. -/
theorem coins_stored (hB : CoinsAt e V p u n K H) (hq : But (fc p u) w V) (h5 : Below V.drew.heap.size V.drew w5) (hg : w5.grownBy w7 u.ownBlock) (ho : w7.ownsRow 0 e 4 u7 n7 (cellsC K7 G7 n7)) (hat : u7.ownBlock = u.ownBlock ∨ u7.ownBlock = some w5.heap.size) :
    CoinsDone e w (w7.setCell ⟨p, 0, none⟩ u7) p u n7 K7 G7 := by
  have hV : Below V.heap.size V w5 := (Below.drew (Below.refl _ _)).trans h5
  have h0 := hq.size
  have h1 := hV.size
  refine ⟨((hq.call hV).grown hg fun k hk => Or.inl (Or.inr hk)).setCell (Or.inl (Or.inl rfl)) _, u7, hB.grow hV hg ho hat, fun i hi => ?_⟩
  rcases hi with rfl | hi
  · exact Or.inl (Or.inl rfl)
  · rcases hat with e | e
    · exact Or.inl (Or.inr (e.symm.trans hi))
    · rw [e] at hi
      injection hi with hi
      exact Or.inr (by omega)
end
set_option maxRecDepth 100000 in
set_option maxHeartbeats 8000000 in
theorem bdo_exc (p n m c d dz : Nat) (sz sl : Option Addr) (rx ry S q : Int) (rf : Bool) (w : World) (hx : ∀ W, Below w.heap.size w W → Calls Try.prog 9 #[.pointer (some ⟨p, 0, none⟩), .slice sz m dz, .slice sl c d] W fun e w' => e = .returned (.tuple #[.agg #[.int .i64 0, .int .i64 0, .bool false], errOf q]) ∧ Below W.heap.size W w') : Calls Try.prog 12 #[.pointer (some ⟨p, 0, none⟩), .agg #[.slice sz m dz, .slice sl c d, .int .i64 rx, .int .i64 ry, .bool rf, .int .i64 S]] w fun e w' => e = .returned (errOf q) ∧ Below w.heap.size w w' := by
  have HX : Hid (∀ W, Below w.heap.size w W → Calls Try.prog 9 #[.pointer (some ⟨p, 0, none⟩), .slice sz m dz, .slice sl c d] W fun e w' => e = .returned (.tuple #[.agg #[.int .i64 0, .int .i64 0, .bool false], errOf q]) ∧ Below W.heap.size W w') := hx
  clear hx
  have m1 : True := trivial
  go_enter Try.func12, Try.ntmps12
  go_wp2_with (go_at_call 9; clear m1; refine (HX.out _ (by repeat (first | (with_reducible exact Below.refl _ _) | (with_reducible assumption) | (with_reducible refine Below.setCell ?_ (by first | (simp; done) | (simp; omega) | omega) _) | (with_reducible refine Below.alloc ?_ (by first | (simp; done) | (simp; omega) | omega) _) | (refine bl_call ?_ (by assumption) (by first | (simp; done) | (simp; omega) | omega)) | (with_reducible refine bl_drewN ?_) | (with_reducible refine Below.drew ?_) | (with_reducible refine bl_grow ?_ (by first | (simp; done) | (simp; omega) | omega))))).mono ?_; rintro e w1 ⟨rfl, hbw1⟩; have kdw1 : At w1 (w.heap.size) [.slice sz m dz, .slice sl c d, .int .i64 rx, .int .i64 ry, .bool rf, .int .i64 S] := (by repeat (first | (with_reducible assumption) | ((with_reducible refine at_new' _ _ _ _ ?_); (first | rfl | (simp; done))) | (with_reducible refine At.alloc ?_ _) | (with_reducible refine At.drew ?_) | (with_reducible refine At.drewN ?_) | (with_reducible refine At.set ?_ (by omega)) | (with_reducible apply At.store4) | (with_reducible apply At.store3) | (with_reducible apply At.store2) | (with_reducible apply At.put43) | (refine At.below ?_ (by with_reducible assumption)))); have hqw1 : Below w.heap.size w w1 := (by repeat (first | (with_reducible exact Below.refl _ _) | (with_reducible assumption) | (with_reducible refine Below.setCell ?_ (by first | (simp; done) | (simp; omega) | omega) _) | (with_reducible refine Below.alloc ?_ (by first | (simp; done) | (simp; omega) | omega) _) | (refine bl_call ?_ (by assumption) (by first | (simp; done) | (simp; omega) | omega)) | (with_reducible refine bl_drewN ?_) | (with_reducible refine Below.drew ?_) | (with_reducible refine bl_grow ?_ (by first | (simp; done) | (simp; omega) | omega)))); have hzw1 := hqw1.size; obtain ⟨zdw1, cd0w1, cd1w1, cd2w1, cd3w1, cd4w1, cd5w1, fd0w1, fd1w1, fd2w1, fd3w1, fd4w1, fd5w1⟩ := kdw1.six; clear hbw1)
  go_ret
  exact ⟨rfl, by repeat (first | (with_reducible exact Below.refl _ _) | (with_reducible assumption) | (with_reducible refine Below.setCell ?_ (by first | (simp; done) | (simp; omega) | omega) _) | (with_reducible refine Below.alloc ?_ (by first | (simp; done) | (simp; omega) | omega) _) | (refine bl_call ?_ (by assumption) (by first | (simp; done) | (simp; omega) | omega)) | (with_reducible refine bl_drewN ?_) | (with_reducible refine Below.drew ?_) | (with_reducible refine bl_grow ?_ (by first | (simp; done) | (simp; omega) | omega)))⟩
set_option maxRecDepth 100000 in
set_option maxHeartbeats 8000000 in
theorem bdo_full (p n m c d dz : Nat) (sz sl : Option Addr) (u : Value) (K : Nat → Nat) (G : Nat → Bool) (x : Nat) (rx ry S : Int) (rf : Bool) (w : World) (hn : n ≤ 1000) (hc : c ≤ 12) (hf : 1000 < n + c) (h : CoinsAt 83 w p u n K G) (hx : ∀ W, Below w.heap.size w W → Calls Try.prog 9 #[.pointer (some ⟨p, 0, none⟩), .slice sz m dz, .slice sl c d] W fun e w' => e = .returned (.tuple #[.agg #[.int .i64 ((tM (4 * x)).1 : Int), .int .i64 ((tM (4 * x)).2.1 : Int), .bool (tM (4 * x)).2.2], .nilIface]) ∧ Below W.heap.size W w') : Calls Try.prog 12 #[.pointer (some ⟨p, 0, none⟩), .agg #[.slice sz m dz, .slice sl c d, .int .i64 rx, .int .i64 ry, .bool rf, .int .i64 S]] w fun e w' => e = .returned (errOf 4) ∧ Below w.heap.size w w' := by
  have hf1 : (n : Int) + (c : Int) > 1000 := by omega
  obtain ⟨su, cu, rfl, _⟩ := h.slice
  have HP : Hid (At w p [.slice su n cu]) := h.cells
  have HX : Hid (∀ W, Below w.heap.size w W → Calls Try.prog 9 #[.pointer (some ⟨p, 0, none⟩), .slice sz m dz, .slice sl c d] W fun e w' => e = .returned (.tuple #[.agg #[.int .i64 ((tM (4 * x)).1 : Int), .int .i64 ((tM (4 * x)).2.1 : Int), .bool (tM (4 * x)).2.2], .nilIface]) ∧ Below W.heap.size W w') := hx
  clear h hx
  have m1 : True := trivial; have m2 : True := trivial
  go_enter Try.func12, Try.ntmps12
  go_upto_region 4 with (go_at_call 9; clear m1; refine (HX.out _ (by repeat (first | (with_reducible exact Below.refl _ _) | (with_reducible assumption) | (with_reducible refine Below.setCell ?_ (by first | (simp; done) | (simp; omega) | omega) _) | (with_reducible refine Below.alloc ?_ (by first | (simp; done) | (simp; omega) | omega) _) | (refine bl_call ?_ (by assumption) (by first | (simp; done) | (simp; omega) | omega)) | (with_reducible refine bl_drewN ?_) | (with_reducible refine Below.drew ?_) | (with_reducible refine bl_grow ?_ (by first | (simp; done) | (simp; omega) | omega))))).mono ?_; rintro e w1 ⟨rfl, hbw1⟩; have kdw1 : At w1 (w.heap.size) [.slice sz m dz, .slice sl c d, .int .i64 rx, .int .i64 ry, .bool rf, .int .i64 S] := (by repeat (first | (with_reducible assumption) | ((with_reducible refine at_new' _ _ _ _ ?_); (first | rfl | (simp; done))) | (with_reducible refine At.alloc ?_ _) | (with_reducible refine At.drew ?_) | (with_reducible refine At.drewN ?_) | (with_reducible refine At.set ?_ (by omega)) | (with_reducible apply At.store4) | (with_reducible apply At.store3) | (with_reducible apply At.store2) | (with_reducible apply At.put43) | (refine At.below ?_ (by with_reducible assumption)))); have hqw1 : Below w.heap.size w w1 := (by repeat (first | (with_reducible exact Below.refl _ _) | (with_reducible assumption) | (with_reducible refine Below.setCell ?_ (by first | (simp; done) | (simp; omega) | omega) _) | (with_reducible refine Below.alloc ?_ (by first | (simp; done) | (simp; omega) | omega) _) | (refine bl_call ?_ (by assumption) (by first | (simp; done) | (simp; omega) | omega)) | (with_reducible refine bl_drewN ?_) | (with_reducible refine Below.drew ?_) | (with_reducible refine bl_grow ?_ (by first | (simp; done) | (simp; omega) | omega)))); have hzw1 := hqw1.size; obtain ⟨zdw1, cd0w1, cd1w1, cd2w1, cd3w1, cd4w1, cd5w1, fd0w1, fd1w1, fd2w1, fd3w1, fd4w1, fd5w1⟩ := kdw1.six; clear hbw1)
  refine wp_gen (fun V => At V (w.heap.size) [.slice sz m dz, .slice sl c d, .int .i64 rx, .int .i64 ry, .bool rf, .int .i64 S] ∧ At V (w1.heap.size) [.int .i64 ((tM (4 * x)).1 : Int), .int .i64 ((tM (4 * x)).2.1 : Int), .bool (tM (4 * x)).2.2] ∧ Below w.heap.size w V) ⟨by repeat (first | (with_reducible assumption) | ((with_reducible refine at_new' _ _ _ _ ?_); (first | rfl | (simp; done))) | (with_reducible refine At.alloc ?_ _) | (with_reducible refine At.drew ?_) | (with_reducible refine At.drewN ?_) | (with_reducible refine At.set ?_ (by omega)) | (with_reducible apply At.store4) | (with_reducible apply At.store3) | (with_reducible apply At.store2) | (with_reducible apply At.put43) | (refine At.below ?_ (by with_reducible assumption))), by repeat (first | (with_reducible assumption) | ((with_reducible refine at_new' _ _ _ _ ?_); (first | rfl | (simp; done))) | (with_reducible refine At.alloc ?_ _) | (with_reducible refine At.drew ?_) | (with_reducible refine At.drewN ?_) | (with_reducible refine At.set ?_ (by omega)) | (with_reducible apply At.store4) | (with_reducible apply At.store3) | (with_reducible apply At.store2) | (with_reducible apply At.put43) | (refine At.below ?_ (by with_reducible assumption))), by repeat (first | (with_reducible exact Below.refl _ _) | (with_reducible assumption) | (with_reducible refine Below.setCell ?_ (by first | (simp; done) | (simp; omega) | omega) _) | (with_reducible refine Below.alloc ?_ (by first | (simp; done) | (simp; omega) | omega) _) | (refine bl_call ?_ (by assumption) (by first | (simp; done) | (simp; omega) | omega)) | (with_reducible refine bl_drewN ?_) | (with_reducible refine Below.drew ?_) | (with_reducible refine bl_grow ?_ (by first | (simp; done) | (simp; omega) | omega)))⟩ ?_
  rintro V ⟨kdV, kxV, hqV⟩
  have hzV := hqV.size
  clear kdw1 cd0w1 fd0w1 cd1w1 fd1w1 cd2w1 fd2w1 cd3w1 fd3w1 cd4w1 fd4w1 cd5w1 fd5w1 hqw1
  obtain ⟨zdV, cd0V, cd1V, cd2V, cd3V, cd4V, cd5V, fd0V, fd1V, fd2V, fd3V, fd4V, fd5V⟩ := kdV.six
  obtain ⟨zxV, cx0V, cx1V, cx2V, fx0V, fx1V, fx2V⟩ := kxV.three
  have kpV := HP.out.below hqV
  obtain ⟨zpV, cp0V, fp0V⟩ := kpV.one
  refine wp_region_quiet_below (by kernel_rfl) (by kernel_rfl) ?_
  repeat (go_big_quiet_step (first | fail))
  refine wpQuiet_nil ?_
  intro U hw1
  have hrU := regrown_below hw1
  clear hw1
  have kdU := kdV.below hrU
  have kxU := kxV.below hrU
  have kpU := kpV.below hrU
  have hqU := bl_call hqV hrU (by omega)
  have hzU := hqU.size
  clear hrU kdV cd0V fd0V cd1V fd1V cd2V fd2V cd3V fd3V cd4V fd4V cd5V fd5V kxV cx0V fx0V cx1V fx1V cx2V fx2V kpV cp0V fp0V hqV
  obtain ⟨zdU, cd0U, cd1U, cd2U, cd3U, cd4U, cd5U, fd0U, fd1U, fd2U, fd3U, fd4U, fd5U⟩ := kdU.six
  obtain ⟨zxU, cx0U, cx1U, cx2U, fx0U, fx1U, fx2U⟩ := kxU.three
  obtain ⟨zpU, cp0U, fp0U⟩ := kpU.one
  go_wp2_with fail
  go_ret
  exact ⟨rfl, by repeat (first | (with_reducible exact Below.refl _ _) | (with_reducible assumption) | (with_reducible refine Below.setCell ?_ (by first | (simp; done) | (simp; omega) | omega) _) | (with_reducible refine Below.alloc ?_ (by first | (simp; done) | (simp; omega) | omega) _) | (refine bl_call ?_ (by assumption) (by first | (simp; done) | (simp; omega) | omega)) | (with_reducible refine bl_drewN ?_) | (with_reducible refine Below.drew ?_) | (with_reducible refine bl_grow ?_ (by first | (simp; done) | (simp; omega) | omega)))⟩
set_option maxRecDepth 100000 in
set_option maxHeartbeats 8000000 in
theorem bdo_seal (p n m c d dz : Nat) (sz sl : Option Addr) (u : Value) (K : Nat → Nat) (G : Nat → Bool) (x : Nat) (rx ry S q : Int) (rf : Bool) (w : World) (hn : n ≤ 1000) (hc : c ≤ 12) (hf : n + c ≤ 1000) (h : CoinsAt 83 w p u n K G) (hx : ∀ W, Below w.heap.size w W → Calls Try.prog 9 #[.pointer (some ⟨p, 0, none⟩), .slice sz m dz, .slice sl c d] W fun e w' => e = .returned (.tuple #[.agg #[.int .i64 ((tM (4 * x)).1 : Int), .int .i64 ((tM (4 * x)).2.1 : Int), .bool (tM (4 * x)).2.2], .nilIface]) ∧ Below W.heap.size W w') (hs : ∀ w, Calls Try.prog 39 #[.agg #[.int .i64 rx, .int .i64 ry, .bool rf, .int .i64 S], .agg #[.int .i64 ((tM (4 * x)).1 : Int), .int .i64 ((tM (4 * x)).2.1 : Int), .bool (tM (4 * x)).2.2]] w fun e w' => e = .returned (errOf q) ∧ Below w.heap.size w w') : Calls Try.prog 12 #[.pointer (some ⟨p, 0, none⟩), .agg #[.slice sz m dz, .slice sl c d, .int .i64 rx, .int .i64 ry, .bool rf, .int .i64 S]] w fun e w' => e = .returned (errOf q) ∧ Below w.heap.size w w' := by
  have hf1 : ¬ (n : Int) + (c : Int) > 1000 := by omega
  have HS : Hid (∀ w, Calls Try.prog 39 #[.agg #[.int .i64 rx, .int .i64 ry, .bool rf, .int .i64 S], .agg #[.int .i64 ((tM (4 * x)).1 : Int), .int .i64 ((tM (4 * x)).2.1 : Int), .bool (tM (4 * x)).2.2]] w fun e w' => e = .returned (errOf q) ∧ Below w.heap.size w w') := hs
  clear hs
  obtain ⟨su, cu, rfl, _⟩ := h.slice
  have HP : Hid (At w p [.slice su n cu]) := h.cells
  have HX : Hid (∀ W, Below w.heap.size w W → Calls Try.prog 9 #[.pointer (some ⟨p, 0, none⟩), .slice sz m dz, .slice sl c d] W fun e w' => e = .returned (.tuple #[.agg #[.int .i64 ((tM (4 * x)).1 : Int), .int .i64 ((tM (4 * x)).2.1 : Int), .bool (tM (4 * x)).2.2], .nilIface]) ∧ Below W.heap.size W w') := hx
  clear h hx
  have m1 : True := trivial; have m2 : True := trivial
  go_enter Try.func12, Try.ntmps12
  go_upto_region 4 with (go_at_call 9; clear m1; refine (HX.out _ (by repeat (first | (with_reducible exact Below.refl _ _) | (with_reducible assumption) | (with_reducible refine Below.setCell ?_ (by first | (simp; done) | (simp; omega) | omega) _) | (with_reducible refine Below.alloc ?_ (by first | (simp; done) | (simp; omega) | omega) _) | (refine bl_call ?_ (by assumption) (by first | (simp; done) | (simp; omega) | omega)) | (with_reducible refine bl_drewN ?_) | (with_reducible refine Below.drew ?_) | (with_reducible refine bl_grow ?_ (by first | (simp; done) | (simp; omega) | omega))))).mono ?_; rintro e w1 ⟨rfl, hbw1⟩; have kdw1 : At w1 (w.heap.size) [.slice sz m dz, .slice sl c d, .int .i64 rx, .int .i64 ry, .bool rf, .int .i64 S] := (by repeat (first | (with_reducible assumption) | ((with_reducible refine at_new' _ _ _ _ ?_); (first | rfl | (simp; done))) | (with_reducible refine At.alloc ?_ _) | (with_reducible refine At.drew ?_) | (with_reducible refine At.drewN ?_) | (with_reducible refine At.set ?_ (by omega)) | (with_reducible apply At.store4) | (with_reducible apply At.store3) | (with_reducible apply At.store2) | (with_reducible apply At.put43) | (refine At.below ?_ (by with_reducible assumption)))); have hqw1 : Below w.heap.size w w1 := (by repeat (first | (with_reducible exact Below.refl _ _) | (with_reducible assumption) | (with_reducible refine Below.setCell ?_ (by first | (simp; done) | (simp; omega) | omega) _) | (with_reducible refine Below.alloc ?_ (by first | (simp; done) | (simp; omega) | omega) _) | (refine bl_call ?_ (by assumption) (by first | (simp; done) | (simp; omega) | omega)) | (with_reducible refine bl_drewN ?_) | (with_reducible refine Below.drew ?_) | (with_reducible refine bl_grow ?_ (by first | (simp; done) | (simp; omega) | omega)))); have hzw1 := hqw1.size; obtain ⟨zdw1, cd0w1, cd1w1, cd2w1, cd3w1, cd4w1, cd5w1, fd0w1, fd1w1, fd2w1, fd3w1, fd4w1, fd5w1⟩ := kdw1.six; clear hbw1)
  refine wp_gen (fun V => At V (w.heap.size) [.slice sz m dz, .slice sl c d, .int .i64 rx, .int .i64 ry, .bool rf, .int .i64 S] ∧ At V (w1.heap.size) [.int .i64 ((tM (4 * x)).1 : Int), .int .i64 ((tM (4 * x)).2.1 : Int), .bool (tM (4 * x)).2.2] ∧ Below w.heap.size w V) ⟨by repeat (first | (with_reducible assumption) | ((with_reducible refine at_new' _ _ _ _ ?_); (first | rfl | (simp; done))) | (with_reducible refine At.alloc ?_ _) | (with_reducible refine At.drew ?_) | (with_reducible refine At.drewN ?_) | (with_reducible refine At.set ?_ (by omega)) | (with_reducible apply At.store4) | (with_reducible apply At.store3) | (with_reducible apply At.store2) | (with_reducible apply At.put43) | (refine At.below ?_ (by with_reducible assumption))), by repeat (first | (with_reducible assumption) | ((with_reducible refine at_new' _ _ _ _ ?_); (first | rfl | (simp; done))) | (with_reducible refine At.alloc ?_ _) | (with_reducible refine At.drew ?_) | (with_reducible refine At.drewN ?_) | (with_reducible refine At.set ?_ (by omega)) | (with_reducible apply At.store4) | (with_reducible apply At.store3) | (with_reducible apply At.store2) | (with_reducible apply At.put43) | (refine At.below ?_ (by with_reducible assumption))), by repeat (first | (with_reducible exact Below.refl _ _) | (with_reducible assumption) | (with_reducible refine Below.setCell ?_ (by first | (simp; done) | (simp; omega) | omega) _) | (with_reducible refine Below.alloc ?_ (by first | (simp; done) | (simp; omega) | omega) _) | (refine bl_call ?_ (by assumption) (by first | (simp; done) | (simp; omega) | omega)) | (with_reducible refine bl_drewN ?_) | (with_reducible refine Below.drew ?_) | (with_reducible refine bl_grow ?_ (by first | (simp; done) | (simp; omega) | omega)))⟩ ?_
  rintro V ⟨kdV, kxV, hqV⟩
  have hzV := hqV.size
  clear kdw1 cd0w1 fd0w1 cd1w1 fd1w1 cd2w1 fd2w1 cd3w1 fd3w1 cd4w1 fd4w1 cd5w1 fd5w1 hqw1
  obtain ⟨zdV, cd0V, cd1V, cd2V, cd3V, cd4V, cd5V, fd0V, fd1V, fd2V, fd3V, fd4V, fd5V⟩ := kdV.six
  obtain ⟨zxV, cx0V, cx1V, cx2V, fx0V, fx1V, fx2V⟩ := kxV.three
  have kpV := HP.out.below hqV
  obtain ⟨zpV, cp0V, fp0V⟩ := kpV.one
  refine wp_region_quiet_below (by kernel_rfl) (by kernel_rfl) ?_
  repeat (go_big_quiet_step (first | fail))
  refine wpQuiet_nil ?_
  intro U hw1
  have hrU := regrown_below hw1
  clear hw1
  have kdU := kdV.below hrU
  have kxU := kxV.below hrU
  have kpU := kpV.below hrU
  have hqU := bl_call hqV hrU (by omega)
  have hzU := hqU.size
  clear hrU kdV cd0V fd0V cd1V fd1V cd2V fd2V cd3V fd3V cd4V fd4V cd5V fd5V kxV cx0V fx0V cx1V fx1V cx2V fx2V kpV cp0V fp0V hqV
  obtain ⟨zdU, cd0U, cd1U, cd2U, cd3U, cd4U, cd5U, fd0U, fd1U, fd2U, fd3U, fd4U, fd5U⟩ := kdU.six
  obtain ⟨zxU, cx0U, cx1U, cx2U, fx0U, fx1U, fx2U⟩ := kxU.three
  obtain ⟨zpU, cp0U, fp0U⟩ := kpU.one
  go_wp2_with (go_at_call 39; clear m2; refine (HS.out _).mono ?_; rintro e w2 ⟨rfl, hbw2⟩; have kdw2 : At w2 (w.heap.size) [.slice sz m dz, .slice sl c d, .int .i64 rx, .int .i64 ry, .bool rf, .int .i64 S] := (by repeat (first | (with_reducible assumption) | ((with_reducible refine at_new' _ _ _ _ ?_); (first | rfl | (simp; done))) | (with_reducible refine At.alloc ?_ _) | (with_reducible refine At.drew ?_) | (with_reducible refine At.drewN ?_) | (with_reducible refine At.set ?_ (by omega)) | (with_reducible apply At.store4) | (with_reducible apply At.store3) | (with_reducible apply At.store2) | (with_reducible apply At.put43) | (refine At.below ?_ (by with_reducible assumption)))); have kxw2 : At w2 (w1.heap.size) [.int .i64 ((tM (4 * x)).1 : Int), .int .i64 ((tM (4 * x)).2.1 : Int), .bool (tM (4 * x)).2.2] := (by repeat (first | (with_reducible assumption) | ((with_reducible refine at_new' _ _ _ _ ?_); (first | rfl | (simp; done))) | (with_reducible refine At.alloc ?_ _) | (with_reducible refine At.drew ?_) | (with_reducible refine At.drewN ?_) | (with_reducible refine At.set ?_ (by omega)) | (with_reducible apply At.store4) | (with_reducible apply At.store3) | (with_reducible apply At.store2) | (with_reducible apply At.put43) | (refine At.below ?_ (by with_reducible assumption)))); have kpw2 : At w2 (p) [.slice su n cu] := (by repeat (first | (with_reducible assumption) | ((with_reducible refine at_new' _ _ _ _ ?_); (first | rfl | (simp; done))) | (with_reducible refine At.alloc ?_ _) | (with_reducible refine At.drew ?_) | (with_reducible refine At.drewN ?_) | (with_reducible refine At.set ?_ (by omega)) | (with_reducible apply At.store4) | (with_reducible apply At.store3) | (with_reducible apply At.store2) | (with_reducible apply At.put43) | (refine At.below ?_ (by with_reducible assumption)))); have hqw2 : Below w.heap.size w w2 := (by repeat (first | (with_reducible exact Below.refl _ _) | (with_reducible assumption) | (with_reducible refine Below.setCell ?_ (by first | (simp; done) | (simp; omega) | omega) _) | (with_reducible refine Below.alloc ?_ (by first | (simp; done) | (simp; omega) | omega) _) | (refine bl_call ?_ (by assumption) (by first | (simp; done) | (simp; omega) | omega)) | (with_reducible refine bl_drewN ?_) | (with_reducible refine Below.drew ?_) | (with_reducible refine bl_grow ?_ (by first | (simp; done) | (simp; omega) | omega)))); have hzw2 := hqw2.size; obtain ⟨zdw2, cd0w2, cd1w2, cd2w2, cd3w2, cd4w2, cd5w2, fd0w2, fd1w2, fd2w2, fd3w2, fd4w2, fd5w2⟩ := kdw2.six; obtain ⟨zxw2, cx0w2, cx1w2, cx2w2, fx0w2, fx1w2, fx2w2⟩ := kxw2.three; obtain ⟨zpw2, cp0w2, fp0w2⟩ := kpw2.one; clear kdU cd0U fd0U cd1U fd1U cd2U fd2U cd3U fd3U cd4U fd4U cd5U fd5U kxU cx0U fx0U cx1U fx1U cx2U fx2U kpU cp0U fp0U hqU; clear hbw2)
  go_ret
  exact ⟨rfl, by repeat (first | (with_reducible exact Below.refl _ _) | (with_reducible assumption) | (with_reducible refine Below.setCell ?_ (by first | (simp; done) | (simp; omega) | omega) _) | (with_reducible refine Below.alloc ?_ (by first | (simp; done) | (simp; omega) | omega) _) | (refine bl_call ?_ (by assumption) (by first | (simp; done) | (simp; omega) | omega)) | (with_reducible refine bl_drewN ?_) | (with_reducible refine Below.drew ?_) | (with_reducible refine bl_grow ?_ (by first | (simp; done) | (simp; omega) | omega)))⟩
set_option maxRecDepth 100000 in
set_option maxHeartbeats 8000000 in
theorem bdo_ok (p n m c d dz : Nat) (sz sl : Option Addr) (u : Value) (K : Nat → Nat) (G : Nat → Bool) (x a s : Nat) (J : Nat → Nat) (Z : Nat → Int) (X Y : Nat → Int) (F : Nat → Bool) (w : World) (hn : n ≤ 1000) (hc : c ≤ 12) (hf : n + c ≤ 1000) (hm : m ≤ 1000) (h : CoinsAt 83 w p u n K G) (hx : ∀ W, Below w.heap.size w W → Calls Try.prog 9 #[.pointer (some ⟨p, 0, none⟩), .slice sz m dz, .slice sl c d] W fun e w' => e = .returned (.tuple #[.agg #[.int .i64 ((tM (4 * x)).1 : Int), .int .i64 ((tM (4 * x)).2.1 : Int), .bool (tM (4 * x)).2.2], .nilIface]) ∧ Below W.heap.size W w') (hs : ∀ w, Calls Try.prog 39 #[.agg #[.int .i64 ((tM a).1 : Int), .int .i64 ((tM a).2.1 : Int), .bool (tM a).2.2, .int .i64 (s : Int)], .agg #[.int .i64 ((tM (4 * x)).1 : Int), .int .i64 ((tM (4 * x)).2.1 : Int), .bool (tM (4 * x)).2.2]] w fun e w' => e = .returned (.nilIface) ∧ Below w.heap.size w w') (hz : (m = 0 ∨ ∃ g o : Nat, sz = some ⟨g, o, none⟩ ∧ RowI w g o m Z ∧ ¬ fc p u g)) (hok : ∀ j, j < m → goE n G Z j = 0) (hr : (c = 0 ∨ ∃ g o : Nat, sl = some ⟨g, o, none⟩ ∧ RowO w g o c X Y F ∧ ¬ fc p u g)) (hK : isC X Y F J c) :
    Calls Try.prog 12 #[.pointer (some ⟨p, 0, none⟩), .agg #[.slice sz m dz, .slice sl c d, .int .i64 ((tM a).1 : Int), .int .i64 ((tM a).2.1 : Int), .bool (tM a).2.2, .int .i64 (s : Int)]] w fun e w' => e = .returned .nilIface ∧ CoinsDone 83 w w' p u (n + c) (appN K n J c) (appN (mkG G Z m) n (fun _ => false) c) := by
  have hf1 : ¬ (n : Int) + (c : Int) > 1000 := by omega
  have HBK : Hid (CoinsAt 83 w p u n K G) := h
  have HZ : Hid ((m = 0 ∨ ∃ g o : Nat, sz = some ⟨g, o, none⟩ ∧ RowI w g o m Z ∧ ¬ fc p u g)) := hz
  have HO : Hid (∀ j, j < m → goE n G Z j = 0) := hok
  have HR : Hid ((c = 0 ∨ ∃ g o : Nat, sl = some ⟨g, o, none⟩ ∧ RowO w g o c X Y F ∧ ¬ fc p u g)) := hr
  have HK : Hid (isC X Y F J c) := hK
  have HS : Hid (∀ w, Calls Try.prog 39 #[.agg #[.int .i64 ((tM a).1 : Int), .int .i64 ((tM a).2.1 : Int), .bool (tM a).2.2, .int .i64 (s : Int)], .agg #[.int .i64 ((tM (4 * x)).1 : Int), .int .i64 ((tM (4 * x)).2.1 : Int), .bool (tM (4 * x)).2.2]] w fun e w' => e = .returned (.nilIface) ∧ Below w.heap.size w w') := hs
  have hpw := h.cells.1
  clear hz hok hr hK hs
  obtain ⟨su, cu, rfl, _⟩ := h.slice
  have HP : Hid (At w p [.slice su n cu]) := h.cells
  have HX : Hid (∀ W, Below w.heap.size w W → Calls Try.prog 9 #[.pointer (some ⟨p, 0, none⟩), .slice sz m dz, .slice sl c d] W fun e w' => e = .returned (.tuple #[.agg #[.int .i64 ((tM (4 * x)).1 : Int), .int .i64 ((tM (4 * x)).2.1 : Int), .bool (tM (4 * x)).2.2], .nilIface]) ∧ Below W.heap.size W w') := hx
  clear h hx
  have m1 : True := trivial; have m2 : True := trivial
  go_enter Try.func12, Try.ntmps12
  go_upto_region 4 with (go_at_call 9; clear m1; refine (HX.out _ (by repeat (first | (with_reducible exact Below.refl _ _) | (with_reducible assumption) | (with_reducible refine Below.setCell ?_ (by first | (simp; done) | (simp; omega) | omega) _) | (with_reducible refine Below.alloc ?_ (by first | (simp; done) | (simp; omega) | omega) _) | (refine bl_call ?_ (by assumption) (by first | (simp; done) | (simp; omega) | omega)) | (with_reducible refine bl_drewN ?_) | (with_reducible refine Below.drew ?_) | (with_reducible refine bl_grow ?_ (by first | (simp; done) | (simp; omega) | omega))))).mono ?_; rintro e w1 ⟨rfl, hbw1⟩; have kdw1 : At w1 (w.heap.size) [.slice sz m dz, .slice sl c d, .int .i64 ((tM a).1 : Int), .int .i64 ((tM a).2.1 : Int), .bool (tM a).2.2, .int .i64 (s : Int)] := (by repeat (first | (with_reducible assumption) | ((with_reducible refine at_new' _ _ _ _ ?_); (first | rfl | (simp; done))) | (with_reducible refine At.alloc ?_ _) | (with_reducible refine At.drew ?_) | (with_reducible refine At.drewN ?_) | (with_reducible refine At.set ?_ (by omega)) | (with_reducible apply At.store4) | (with_reducible apply At.store3) | (with_reducible apply At.store2) | (with_reducible apply At.put43) | (refine At.below ?_ (by with_reducible assumption)))); have hqw1 : Below w.heap.size w w1 := (by repeat (first | (with_reducible exact Below.refl _ _) | (with_reducible assumption) | (with_reducible refine Below.setCell ?_ (by first | (simp; done) | (simp; omega) | omega) _) | (with_reducible refine Below.alloc ?_ (by first | (simp; done) | (simp; omega) | omega) _) | (refine bl_call ?_ (by assumption) (by first | (simp; done) | (simp; omega) | omega)) | (with_reducible refine bl_drewN ?_) | (with_reducible refine Below.drew ?_) | (with_reducible refine bl_grow ?_ (by first | (simp; done) | (simp; omega) | omega)))); have hzw1 := hqw1.size; obtain ⟨zdw1, cd0w1, cd1w1, cd2w1, cd3w1, cd4w1, cd5w1, fd0w1, fd1w1, fd2w1, fd3w1, fd4w1, fd5w1⟩ := kdw1.six; clear hbw1)
  refine wp_gen (fun V => At V (w.heap.size) [.slice sz m dz, .slice sl c d, .int .i64 ((tM a).1 : Int), .int .i64 ((tM a).2.1 : Int), .bool (tM a).2.2, .int .i64 (s : Int)] ∧ At V (w1.heap.size) [.int .i64 ((tM (4 * x)).1 : Int), .int .i64 ((tM (4 * x)).2.1 : Int), .bool (tM (4 * x)).2.2] ∧ Below w.heap.size w V) ⟨by repeat (first | (with_reducible assumption) | ((with_reducible refine at_new' _ _ _ _ ?_); (first | rfl | (simp; done))) | (with_reducible refine At.alloc ?_ _) | (with_reducible refine At.drew ?_) | (with_reducible refine At.drewN ?_) | (with_reducible refine At.set ?_ (by omega)) | (with_reducible apply At.store4) | (with_reducible apply At.store3) | (with_reducible apply At.store2) | (with_reducible apply At.put43) | (refine At.below ?_ (by with_reducible assumption))), by repeat (first | (with_reducible assumption) | ((with_reducible refine at_new' _ _ _ _ ?_); (first | rfl | (simp; done))) | (with_reducible refine At.alloc ?_ _) | (with_reducible refine At.drew ?_) | (with_reducible refine At.drewN ?_) | (with_reducible refine At.set ?_ (by omega)) | (with_reducible apply At.store4) | (with_reducible apply At.store3) | (with_reducible apply At.store2) | (with_reducible apply At.put43) | (refine At.below ?_ (by with_reducible assumption))), by repeat (first | (with_reducible exact Below.refl _ _) | (with_reducible assumption) | (with_reducible refine Below.setCell ?_ (by first | (simp; done) | (simp; omega) | omega) _) | (with_reducible refine Below.alloc ?_ (by first | (simp; done) | (simp; omega) | omega) _) | (refine bl_call ?_ (by assumption) (by first | (simp; done) | (simp; omega) | omega)) | (with_reducible refine bl_drewN ?_) | (with_reducible refine Below.drew ?_) | (with_reducible refine bl_grow ?_ (by first | (simp; done) | (simp; omega) | omega)))⟩ ?_
  rintro V ⟨kdV, kxV, hqV⟩
  have hzV := hqV.size
  clear kdw1 cd0w1 fd0w1 cd1w1 fd1w1 cd2w1 fd2w1 cd3w1 fd3w1 cd4w1 fd4w1 cd5w1 fd5w1 hqw1
  obtain ⟨zdV, cd0V, cd1V, cd2V, cd3V, cd4V, cd5V, fd0V, fd1V, fd2V, fd3V, fd4V, fd5V⟩ := kdV.six
  obtain ⟨zxV, cx0V, cx1V, cx2V, fx0V, fx1V, fx2V⟩ := kxV.three
  have kpV := HP.out.below hqV
  obtain ⟨zpV, cp0V, fp0V⟩ := kpV.one
  refine wp_region_quiet_below (by kernel_rfl) (by kernel_rfl) ?_
  repeat (go_big_quiet_step (first | fail))
  refine wpQuiet_nil ?_
  intro U hw1
  have hrU := regrown_below hw1
  clear hw1
  have kdU := kdV.below hrU
  have kxU := kxV.below hrU
  have kpU := kpV.below hrU
  have hqU := bl_call hqV hrU (by omega)
  have hzU := hqU.size
  clear hrU kdV cd0V fd0V cd1V fd1V cd2V fd2V cd3V fd3V cd4V fd4V cd5V fd5V kxV cx0V fx0V cx1V fx1V cx2V fx2V kpV cp0V fp0V hqV
  obtain ⟨zdU, cd0U, cd1U, cd2U, cd3U, cd4U, cd5U, fd0U, fd1U, fd2U, fd3U, fd4U, fd5U⟩ := kdU.six
  obtain ⟨zxU, cx0U, cx1U, cx2U, fx0U, fx1U, fx2U⟩ := kxU.three
  obtain ⟨zpU, cp0U, fp0U⟩ := kpU.one
  go_wp2_with (go_at_call 39; clear m2; refine (HS.out _).mono ?_; rintro e w2 ⟨rfl, hbw2⟩; have kdw2 : At w2 (w.heap.size) [.slice sz m dz, .slice sl c d, .int .i64 ((tM a).1 : Int), .int .i64 ((tM a).2.1 : Int), .bool (tM a).2.2, .int .i64 (s : Int)] := (by repeat (first | (with_reducible assumption) | ((with_reducible refine at_new' _ _ _ _ ?_); (first | rfl | (simp; done))) | (with_reducible refine At.alloc ?_ _) | (with_reducible refine At.drew ?_) | (with_reducible refine At.drewN ?_) | (with_reducible refine At.set ?_ (by omega)) | (with_reducible apply At.store4) | (with_reducible apply At.store3) | (with_reducible apply At.store2) | (with_reducible apply At.put43) | (refine At.below ?_ (by with_reducible assumption)))); have kxw2 : At w2 (w1.heap.size) [.int .i64 ((tM (4 * x)).1 : Int), .int .i64 ((tM (4 * x)).2.1 : Int), .bool (tM (4 * x)).2.2] := (by repeat (first | (with_reducible assumption) | ((with_reducible refine at_new' _ _ _ _ ?_); (first | rfl | (simp; done))) | (with_reducible refine At.alloc ?_ _) | (with_reducible refine At.drew ?_) | (with_reducible refine At.drewN ?_) | (with_reducible refine At.set ?_ (by omega)) | (with_reducible apply At.store4) | (with_reducible apply At.store3) | (with_reducible apply At.store2) | (with_reducible apply At.put43) | (refine At.below ?_ (by with_reducible assumption)))); have kpw2 : At w2 (p) [.slice su n cu] := (by repeat (first | (with_reducible assumption) | ((with_reducible refine at_new' _ _ _ _ ?_); (first | rfl | (simp; done))) | (with_reducible refine At.alloc ?_ _) | (with_reducible refine At.drew ?_) | (with_reducible refine At.drewN ?_) | (with_reducible refine At.set ?_ (by omega)) | (with_reducible apply At.store4) | (with_reducible apply At.store3) | (with_reducible apply At.store2) | (with_reducible apply At.put43) | (refine At.below ?_ (by with_reducible assumption)))); have hqw2 : Below w.heap.size w w2 := (by repeat (first | (with_reducible exact Below.refl _ _) | (with_reducible assumption) | (with_reducible refine Below.setCell ?_ (by first | (simp; done) | (simp; omega) | omega) _) | (with_reducible refine Below.alloc ?_ (by first | (simp; done) | (simp; omega) | omega) _) | (refine bl_call ?_ (by assumption) (by first | (simp; done) | (simp; omega) | omega)) | (with_reducible refine bl_drewN ?_) | (with_reducible refine Below.drew ?_) | (with_reducible refine bl_grow ?_ (by first | (simp; done) | (simp; omega) | omega)))); have hzw2 := hqw2.size; obtain ⟨zdw2, cd0w2, cd1w2, cd2w2, cd3w2, cd4w2, cd5w2, fd0w2, fd1w2, fd2w2, fd3w2, fd4w2, fd5w2⟩ := kdw2.six; obtain ⟨zxw2, cx0w2, cx1w2, cx2w2, fx0w2, fx1w2, fx2w2⟩ := kxw2.three; obtain ⟨zpw2, cp0w2, fp0w2⟩ := kpw2.one; clear kdU cd0U fd0U cd1U fd1U cd2U fd2U cd3U fd3U cd4U fd4U cd5U fd5U kxU cx0U fx0U cx1U fx1U cx2U fx2U kpU cp0U fp0U hqU; clear hbw2)
  go_loopw [43] (fun ti wl => ∃ k : Nat, k ≤ m ∧ ti = .int .i64 k ∧ CoinsAt 83 wl p (.slice su n cu) n K (mkG G Z k) ∧ At wl (w.heap.size) [.slice sz m dz, .slice sl c d, .int .i64 ((tM a).1 : Int), .int .i64 ((tM a).2.1 : Int), .bool (tM a).2.2, .int .i64 (s : Int)] ∧ But (fc p (.slice su n cu)) w wl) (fun ti _ => m - (intOf ti).toNat)
  case atStart => exact ⟨0, by omega, rfl, HBK.out.below hqw2, kdw2, But.of_below _ hqw2⟩
  case round =>
    clear kdw2 cd0w2 fd0w2 cd1w2 fd1w2 cd2w2 fd2w2 cd3w2 fd3w2 cd4w2 fd4w2 cd5w2 fd5w2 kxw2 cx0w2 fx0w2 cx1w2 fx1w2 cx2w2 fx2w2 kpw2 cp0w2 fp0w2 hqw2
    obtain ⟨k, hk, rfl, hBV, kdV, hqV⟩ := hrel
    rename World => V
    have hzV := hqV.size
    have kpV := hBV.cells
    obtain ⟨zdV, cd0V, cd1V, cd2V, cd3V, cd4V, cd5V, fd0V, fd1V, fd2V, fd3V, fd4V, fd5V⟩ := kdV.six
    obtain ⟨zpV, cp0V, fp0V⟩ := kpV.one
    by_cases hlt : k < m
    · have hlt' : (k : Int) < m := by omega
      obtain ⟨b1, o1, rfl, hzr, hnf⟩ := HZ.out.resolve_left (by omega)
      obtain ⟨a1, a2, a3⟩ := goE_ok (HO.out k hlt)
      obtain ⟨z, hz⟩ : ∃ z : Nat, Z k = (z : Int) := ⟨(Z k).toNat, by have := inN_yes a1; omega⟩
      have hzn : z < n := by have := inN_yes a1; omega
      have c0 := (hzr.but hqV hnf).2 k hlt
      have hb1 : b1 < V.heap.size := (hzr.but hqV hnf).1
      have HZz : Hid (Z k = (z : Int)) := hz
      rw [hz] at c0
      clear a1 a2 a3 hz hzr hnf
      have t1 : 0 ≤ (z : Int) := by omega
      have t2 : (z : Int) < n := by omega
      obtain ⟨su2, cu2, e5, hrow⟩ := hBV.slice
      obtain ⟨g2, e6, _⟩ := hrow.resolve_left (by omega)
      injection e5 with e5
      rw [← e5] at e6
      subst e6
      clear hrow e5
      have HBV : Hid (CoinsAt 83 V p (.slice (some ⟨g2, 0, none⟩) n cu) n K (mkG G Z k)) := hBV
      have zgV : g2 < V.heap.size := (hBV.coins.lt g2 rfl).2
      have czV := hBV.coins.cellAt (z * 4 + 3) (by omega)
      rw [cellsC_at K _ hzn (by omega)] at czV
      change V.cell? _ = some (.bool (!mkG G Z k z)) at czV
      generalize (!mkG G Z k z) = bz at czV
      have fzV := hBV.coins.frozenAt (z * 4 + 3)
      clear hBV
      go_wp2_with fail
      go_roundw
      case rel => exact ⟨k + 1, by omega, by simp, by
          show CoinsAt _ _ _ _ _ _ (setB (mkG G Z k) (Z k).toNat)
          rw [HZz.out, Int.toNat_natCast]
          exact HBV.out.gone hzn, At.set kdV (fun e => by have := (HBK.out.coins.lt g2 rfl).2; omega), hqV.setCell (Or.inl (Or.inr rfl)) _⟩
      case measure => simp [intOf]; omega
    · have hlt' : ¬ (k : Int) < m := by omega
      obtain rfl : k = m := by omega
      obtain ⟨i0, hi, hv0, hv1, hv2⟩ := info_parts bcinfo
      have HBV : Hid (CoinsAt 83 V p (.slice su n cu) n K (mkG G Z k)) := hBV
      have HCo : Hid (V.ownsRow 0 83 4 (.slice su n cu) n (cellsC K (mkG G Z k) n)) := hBV.coins
      have HAu : Hid ((Value.slice su n cu).ownBlock ≠ some p) := hBV.au
      have HAd : Hid ((Value.slice su n cu).ownBlock ≠ some w.heap.size) := fun e => by have := (HBK.out.coins.lt _ e).2; omega
      have HRm : Hid (n ≤ cu) := own_room hBV.coins
      have HM : Hid (∀ W, Below V.heap.size V W → Calls Try.prog 31 #[.slice sl c d] W fun ex w' => ∃ q, ex = .returned q ∧ w'.ownsRow W.heap.size 83 4 q c (cellsC J (fun _ => false) c) ∧ Below W.heap.size W w') := fun W hW => bminted sl c d X Y F J W hc (HR.out.imp_right fun ⟨g, o, e, r, hnf⟩ => ⟨g, o, e, (r.but hqV hnf).below (r.but hqV hnf).1 hW⟩) HK.out
      clear hBV
      rcases Nat.eq_zero_or_pos c with rfl | hc0
      · go_upto_region 14 with fail
        go_region_law (first | (refine step_append_nought (by rfl) _ _ 67 (by rfl) 83 i0 Try.underlying67 hi su _ n cu _ (by rfl) HRm.out (by rfl) ?_) | ((go_simp); (go_at_call 31; refine (HM.out _ (Below.drew (Below.refl _ _))).mono ?_; rintro e w5 ⟨q5, rfl, ho5, hb5⟩; obtain ⟨sa5, cc5, rfl, hg5⟩ := own_slice ho5; clear hg5; have HO5 : Hid (w5.ownsRow _ 83 4 _ 0 (cellsC J (fun _ => false) 0)) := ho5; clear ho5; have HB5 : Hid (Below V.drew.heap.size V.drew w5) := hb5; have kp5 : At w5 p [.slice su n cu] := (At.drew kpV).below hb5; have kd5 : At w5 (w.heap.size) [.slice sz k dz, .slice sl 0 d, .int .i64 ((tM a).1 : Int), .int .i64 ((tM a).2.1 : Int), .bool (tM a).2.2, .int .i64 (s : Int)] := (At.drew kdV).below hb5; obtain ⟨zp5, cp05, fp05⟩ := kp5.one; have hs5 := hb5.size; (try simp at hs5); clear hb5); (go_wp2_with fail)))
        
        all_goals (
        have hD := coins_stored HBV.out hqV HB5.out (grown_same w5 _) (own_stay (own_drew HCo.out) HB5.out) (Or.inl rfl)
        refine ethen_gen3 (fun O => CoinsDone 83 w O p (.slice su n cu) n K (mkG G Z k)) hD ?_
        intro O hO
        go_wp2_with fail
        go_ret
        exact ⟨rfl, hO⟩)
      · go_upto_region 14 with fail
        go_region_law (first | ((refine step_append_lies _ (by rfl) _ _ 67 (by rfl) 0 83 i0 (.agg #[.int .i64 0, .int .i64 0, .bool false, .bool false]) 4 32 Try.underlying67 hi hv0 hv1 hv2 (by rfl) (by decide) _ n _ (by rfl) (own_stay (own_drew HCo.out) HB5.out) ⟨g5, 0, none⟩ c cc5 (cellsC J (fun _ => false) c) (by rfl) (cellsC_len _ _ _) (HO5.out.cells rfl) (cellsC_one _ _ _) hc0 (by unfold maxLen; omega) (by omega) (Nat.zero_le _) w5.heap.size (by rfl) ?_); (intro g7 cap7 w7 hown7 hgrow7 hat7 hlt7); (have kp7 : At w7 p [.slice su n cu] := At.grown kp5 hgrow7 HAu.out); (have kd7 : At w7 (w.heap.size) [.slice sz k dz, .slice sl c d, .int .i64 ((tM a).1 : Int), .int .i64 ((tM a).2.1 : Int), .bool (tM a).2.2, .int .i64 (s : Int)] := At.grown kd5 hgrow7 HAd.out); (obtain ⟨zp7, cp07, fp07⟩ := kp7.one)) | ((go_simp); (go_at_call 31; refine (HM.out _ (Below.drew (Below.refl _ _))).mono ?_; rintro e w5 ⟨q5, rfl, ho5, hb5⟩; obtain ⟨sa5, cc5, rfl, hg5⟩ := own_slice ho5; obtain ⟨g5, rfl, _, _, _⟩ := hg5.resolve_left (by omega); have HO5 : Hid (w5.ownsRow _ 83 4 _ c (cellsC J (fun _ => false) c)) := ho5; clear ho5; have HB5 : Hid (Below V.drew.heap.size V.drew w5) := hb5; have kp5 : At w5 p [.slice su n cu] := (At.drew kpV).below hb5; have kd5 : At w5 (w.heap.size) [.slice sz k dz, .slice sl c d, .int .i64 ((tM a).1 : Int), .int .i64 ((tM a).2.1 : Int), .bool (tM a).2.2, .int .i64 (s : Int)] := (At.drew kdV).below hb5; obtain ⟨zp5, cp05, fp05⟩ := kp5.one; have hs5 := hb5.size; (try simp at hs5); clear hb5); (go_wp2_with fail)))
        
        all_goals (
        rw [← cellsC_app] at hown7
        have hat8 : (Value.slice (some ⟨g7, 0, none⟩) (n + c) cap7).ownBlock = (Value.slice su n cu).ownBlock ∨ (Value.slice (some ⟨g7, 0, none⟩) (n + c) cap7).ownBlock = some w5.heap.size := by
          rcases hat7 with e | e
          · exact Or.inl e.symm
          · exact Or.inr (by rw [e]; simp [Value.ownBlock])
        have hD := coins_stored HBV.out hqV HB5.out hgrow7 hown7 hat8
        refine ethen_gen3 (fun O => CoinsDone 83 w O p (.slice su n cu) (n + c) (appN K n J c) (appN (mkG G Z k) n (fun _ => false) c)) hD ?_
        intro O hO
        go_wp2_with fail
        go_ret
        exact ⟨rfl, hO⟩)
theorem bdo_is : BDoIs bookP := by
  refine ⟨fun v Q n m c d dz sz sl K G Z X Y F rx ry S q rf w hn hm hdz hcd h0 h hz hr hc he => ?_, fun v Q n m c d dz sz sl K G Z X Y F J rx ry S rf w hn hm hdz hcd h0 h hz hr hg hc hJ hf => ?_, fun v Q n m c d dz sz sl K G Z X Y F J rx ry S rf w hn hm hdz hcd h0 h hz hr hg hc hJ hf _ hS => ?_, fun v Q n m c d dz sz sl K G Z X Y F J rx ry S rf w hn hm hdz hcd h0 h hz hr hg hc hJ hf hS hR => ?_, fun v Q n m c d dz sz sl K G Z X Y F J a s w hn hm hdz hcd h0 h hz hr hg hc hJ hf hs hcl => ?_, fun v Q n m c d dz sz sl K G Z X Y F J a s w hn hm hdz hcd h0 h hz hr hzq hrq hg hc hJ hf hs hcl => ?_⟩
  · have hb := h
    obtain ⟨p, u, rfl, rfl, h⟩ := h
    exact bdo_exc p n m c d dz sz sl rx ry S _ rf w (fun W hW => bexc_is.1 _ _ n m c d dz sz sl K G Z X Y F q W hn hm hdz hcd h0 (bookP_ok.stay hb (But.of_below (fun _ => False) hW) fun _ _ e => e) (brz_up hz hW) (brow_up hr hW) hc he)
  all_goals obtain ⟨p, u, rfl, rfl, h⟩ := h
  · exact bdo_full p n m c d dz sz sl u K G _ rx ry S rf w hn hc hf h (fun W hW => bexc_yes p n m c d dz sz sl u K G Z X Y F J W hn (h.below hW) (brz_up hz hW) (brow_up hr hW) hg hc hJ)
  · exact bdo_seal p n m c d dz sz sl u K G _ rx ry S 1 rf w hn hc hf h (fun W hW => bexc_yes p n m c d dz sz sl u K G Z X Y F J W hn (h.below hW) (brz_up hz hW) (brow_up hr hW) hg hc hJ) (fun w => bcs_s _ rx ry S rf w hS)
  · exact bdo_seal p n m c d dz sz sl u K G _ rx ry S _ rf w hn hc hf h (fun W hW => bexc_yes p n m c d dz sz sl u K G Z X Y F J W hn (h.below hW) (brz_up hz hW) (brow_up hr hW) hg hc hJ) (fun w => bcs_r _ rx ry S rf w hS hR)
  · exact bdo_seal p n m c d dz sz sl u K G _ _ _ _ 8 _ w hn hc hf h (fun W hW => bexc_yes p n m c d dz sz sl u K G Z X Y F J W hn (h.below hW) (brz_up hz hW) (brow_up hr hW) hg hc hJ) (fun w => by have := bcs_same a (exN K Z m J c) s w hs; rwa [hcl] at this)
  · refine (bdo_ok p n m c d dz sz sl u K G (exN K Z m J c) a s J Z X Y F w hn hc hf (Nat.le_trans (go_many hg) hn) h (fun W hW => bexc_yes p n m c d dz sz sl u K G Z X Y F J W hn (h.below hW) (brz_up hz hW) (brow_up hr hW) hg hc hJ) (fun w => by have := bcs_same a (exN K Z m J c) s w hs; rwa [hcl] at this) ?_ hg ?_ hJ).mono ?_
    · rcases hz with h1 | ⟨b, o, e, r⟩
      · exact Or.inl h1
      · by_cases h1 : m = 0
        · exact Or.inl h1
        · exact Or.inr ⟨b, o, e, r, hzq h1 b o e⟩
    · rcases hr with h1 | ⟨b, o, e, r⟩
      · exact Or.inl h1
      · by_cases h1 : c = 0
        · exact Or.inl h1
        · exact Or.inr ⟨b, o, e, r, hrq h1 b o e⟩
    · rintro e w' ⟨rfl, h1, u', h2, h3⟩
      exact ⟨rfl, h1, fc p u', ⟨p, u', rfl, rfl, h2⟩, h3⟩
end Go.Proofs.Ytmijjjdedadklaj
