/- Texts joined: New Gate List BookA BookB Book BookKeepsWalk Open. A region that draws its order and lays one block ('x := T{.. f(y) ..}'): its other operations only read, its callees turn nothing that was there, its last operation stores into the block: one walk in the order of the text, the block's place a letter; then the store. Of whatever program. A region that draws its order, in two parts: the first only reads (its callees may lay memory), and all of it is waited for by its last operation, for which the second part waits: the first part is walked once, in the order of the text; behind it the second part is left to be walked. Of whatever program. What curve.CheckAll and bytes.List answer of so many spots that lie in a row, from whatever place on. What package book is made of: isNumber, Ask, Close, checkCoins, sum, minted, at, checkGone, answered, checkSeal. What package book answers: New, Excess, Live, Coins, Total. What package book answers: Do. Proved: stonelaw3.BookKeeps answers true for every five lists of numbers and every number: a deal of coins whose values add up is done, one whose values do not is refused, unless the challenge is 0; and no coin goes twice. No condition stands behind it. Slices of ints, of structs of two ints and of texts, opened at every place. -/
import Derived.Test.YtlbdcgnhmkjfiaiDoorMem
import Derived.RegionTactic
import Derived.Test.YtlbdcgnhmkjfiaiDoorBytes
import Derived.Test.YtlbdcgnhmkjfiaiDoorBuilder
import Derived.Test.YtlbdcgnhmkjfiaiDoorStay
import Derived.Test.YtlbdcgnhmkjfiaiDoorRowE
import Derived.Test.YtlbdcgnhmkjfiaiDoorBookIs
import Derived.Test.YtlbdcgnhmkjfiaiDoorBookCoins
import Derived.Test.YtlbdcgnhmkjfiaiDoorHide
import Derived.Test.YtlbdcgnhmkjfiaiDoorHashLong
import Derived.Test.YtlbdcgnhmkjfiaiDoorTimesOrd
import Derived.Test.YtlbdcgnhmkjfiaiDoorCurveEq
import Derived.Test.YtlbdcgnhmkjfiaiDoorSealMath
import Derived.Deep.RegionHeld3
import Derived.Deep.CutRange
import Derived.Deep.RegionLaw
import Derived.Deep.AppendLies
import Derived.Deep.Upon
import Derived.BigQuiet
import Derived.Test.YtlbdcgnhmkjfiaiDoorBY
import Derived.Test.YtlbdcgnhmkjfiaiDoorOwn
import Derived.SizedLaws
/- New -/
namespace Go.Proofs.YtlbdcgnhmkjfiaiDoor
open Go.RowKit Go.Sort

section
variable {P : Program} {md : Region.Mode}

/-- The laying of the block, its place known. -/
def ptrOp (o : Oper) (b : Nat) : Oper := { o with op := .assign (.const (.pointer (some ⟨b, 0, none⟩))) }
def withPtr : List Oper → Nat → Nat → List Oper
  | [], _, _ => []
  | o :: r, 0, b => ptrOp o b :: r
  | o :: r, j + 1, b => o :: withPtr r j b
theorem withPtr_len (l : List Oper) (j b : Nat) : (withPtr l j b).length = l.length := by
  induction l generalizing j with
  | nil => cases j <;> rfl
  | cons o r ih =>
    cases j with
    | zero => rfl
    | succ j => simp [withPtr, ih]
theorem withPtr_ne (l : List Oper) (j b i : Nat) (h : i ≠ j) : (withPtr l j b)[i]? = l[i]? := by
  induction l generalizing i j with
  | nil => cases j <;> rfl
  | cons o r ih =>
    cases j with
    | zero => cases i with
      | zero => omega
      | succ i => rfl
    | succ j => cases i with
      | zero => rfl
      | succ i => exact ih j i (by omega)
theorem withPtr_at (l : List Oper) (j b : Nat) {o : Oper} (h : l[j]? = some o) : (withPtr l j b)[j]? = some (ptrOp o b) := by
  induction l generalizing j with
  | nil => simp at h
  | cons x r ih =>
    cases j with
    | zero => simp at h; subst h; rfl
    | succ j => exact ih j (by simpa using h)

/-- Each writes a place of its own. -/
def apartB (l : List Oper) : Bool :=
  (List.range l.length).all fun i => (List.range l.length).all fun k => Nat.beq i k || (match l[i]?, l[k]? with
    | some x, some y => (match x.dst, y.dst with | some d, some e => !(Nat.beq d e) | _, _ => true)
    | _, _ => true)
theorem apartB_spec {l : List Oper} (h : apartB l = true) {i k : Nat} {x y : Oper} {d : Tmp} (hi : l[i]? = some x) (hk : l[k]? = some y) (hne : i ≠ k) (hd : x.dst = some d) : y.dst ≠ some d := by
  intro hy
  unfold apartB at h
  rw [List.all_eq_true] at h
  have hil : i < l.length := (List.getElem?_eq_some_iff.1 hi).1
  have hkl : k < l.length := (List.getElem?_eq_some_iff.1 hk).1
  have h1 := h i (List.mem_range.2 hil)
  rw [List.all_eq_true] at h1
  have h2 := h1 k (List.mem_range.2 hkl)
  rw [hi, hk] at h2
  simp only [hd, hy, Bool.or_eq_true] at h2
  rcases h2 with h2 | h2
  · exact hne (Nat.eq_of_beq_eq_true h2)
  · have : Nat.beq d d = true := Nat.beq_refl d
    rw [this] at h2; cases h2

/-- What stands at the end in a place that nobody writes any more stands there now. -/
theorem slot_end {ops : Array Oper} {C : World → Prop} {A : Act} {d : Tmp} : ∀ (fuel : Nat) (listed : Array Bool) (a : Act), wpAnyQ P md ops C (fun a' => a' = A) fuel listed a →
    (∀ i o, ops[i]? = some o → listed.getD i true = false → o.dst ≠ some d) → A.tmps[d]? = a.tmps[d]? := by
  intro fuel
  induction fuel with
  | zero => intro listed a h _; rw [h.2]
  | succ fuel ih =>
    intro listed a h hd
    cases hr : Region.ready md ops listed with
    | nil => rw [h.1 hr]
    | cons i r =>
      have hm : i ∈ Region.ready md ops listed := by rw [hr]; simp
      obtain ⟨hun, o, ho, _⟩ := mem_ready.1 hm
      obtain ⟨v, _, hk⟩ := yieldsIn_of_qOp ho (h.2 i hm)
      have h1 := ih _ _ hk (fun k x hx hk' => hd k x hx (by
        by_cases hik : i = k
        · subst hik
          rw [getD_tf (by simp; have := (Array.getElem?_eq_some_iff.1 ho).1; rcases Nat.lt_or_ge i listed.size with h' | h'; exact h'; simp [Array.getD_eq_getD_getElem?, Array.getElem?_eq_none h'] at hun)] at hk'
          rw [getD_set_self (by rcases Nat.lt_or_ge i listed.size with h' | h'; exact h'; simp [Array.getD_eq_getD_getElem?, Array.getElem?_eq_none h'] at hun)] at hk'
          cases hk'
        · rw [getD_set_ne true hik] at hk'; exact hk'))
      rw [h1]
      have hne := hd i o ho hun
      cases hdst : o.dst with
      | none => rfl
      | some e =>
        have : e ≠ d := fun h' => hne (by rw [hdst, h'])
        simp [Act.put, this]

/-- The class of the worlds that come of W. -/
abbrev Cls (W : World) : World → Prop := fun w' => ∃ p : Regrown, w' = grow (redrawn W p.d) p.os
theorem cls_self (W : World) : Cls W W := regrown_of_below (Below.refl _ _)

variable {l : List Oper} {o : Oper}

theorem put_same {a A : Act} {d : Tmp} {v v' : Value} (h : A.tmps[d]? = (a.put (some d) v).tmps[d]?) (h' : A.tmps[d]? = (a.put (some d) v').tmps[d]?) : a.put (some d) v = a.put (some d) v' := by
  by_cases hd : d < a.tmps.size
  · have : v = v' := by
      rw [h] at h'
      simpa [Act.put, hd] using h'
    rw [this]
  · simp [Act.put, Array.setIfInBounds, hd]

theorem yielded_dst {l l' : Array Oper} (h : ∀ i : Nat, (l[i]?).bind (·.dst) = (l'[i]?).bind (·.dst)) (t : Array Value) : yielded l t = yielded l' t := by
  funext j; unfold yielded; rw [h j]

theorem withPtr_dst (l : List Oper) (j b i : Nat) : ((withPtr l j b).toArray[i]?).bind (·.dst) = (l.toArray[i]?).bind (·.dst) := by
  simp only [List.getElem?_toArray]
  by_cases hi : i = j
  · subst hi
    cases hl : l[i]? with
    | none =>
      have : (withPtr l i b)[i]? = none := by
        rw [List.getElem?_eq_none_iff, withPtr_len]; exact List.getElem?_eq_none_iff.1 hl
      rw [this]
    | some x => rw [withPtr_at l i b hl]; rfl
  · rw [withPtr_ne l j b i hi]
theorem withPtr_ready (l : List Oper) (j b i : Nat) (L : Array Bool) : i ∈ Region.ready md (withPtr l j b).toArray L ↔ i ∈ Region.ready md l.toArray L := by
  rw [mem_ready, mem_ready]
  simp only [List.getElem?_toArray]
  by_cases hi : i = j
  · subst hi
    cases hl : l[i]? with
    | none =>
      have : (withPtr l i b)[i]? = none := by
        rw [List.getElem?_eq_none_iff, withPtr_len]; exact List.getElem?_eq_none_iff.1 hl
      rw [this]
    | some x =>
      rw [withPtr_at l i b hl]
      constructor
      · rintro ⟨h0, y, hy, hall⟩; obtain rfl := Option.some.inj hy; exact ⟨h0, x, rfl, hall⟩
      · rintro ⟨h0, y, hy, hall⟩; obtain rfl := Option.some.inj hy; exact ⟨h0, _, rfl, hall⟩
  · rw [withPtr_ne l j b i hi]

theorem wpAny_new {Q : Exit → Act → World → Prop} {w : World} {j : Nat} {oa : Oper} {dj : Tmp} {t : TypeId} {zs : List Value} {A : Nat → Act}
    (hd : o.dst = none) (hb : backB (l ++ [o]).toArray = true) (hl : lastB md (l ++ [o]).toArray = true) (hap : apartB l = true) (hsome : ∀ (i : Nat) x, l[i]? = some x → ∃ d, x.dst = some d)
    (hoa : l[j]? = some oa) (hdst : oa.dst = some dj) (hg : oa.guard = none)
    (hal : ∀ (e : Operand → Value) (u : World), (execOp e oa).run P u = .ok (.value (.pointer (some ⟨u.heap.size, 0, none⟩))) (u.alloc (.cells zs.toArray t)))
    (hA : ∀ b, A b = (A 0).put (some dj) (.pointer (some ⟨b, 0, none⟩)))
    (hend : ∀ b W, Below w.heap.size w W → At W b zs → w.heap.size ≤ b → wpList P (l ++ [o]).toArray Q [o] (A b) W) :
    ∀ (fuel : Nat) (L : Array Bool) (a : Act) (u : World) (x : Option Nat), L.size = l.length → Closed md (l ++ [o]).toArray (L.push false) → Below w.heap.size w u →
      (L.getD j false = x.isSome) → (∀ b, x = some b → At u b zs ∧ w.heap.size ≤ b) →
      (∀ b W, (∀ b', x = some b' → b = b') → Below w.heap.size w W → wpAnyQ P md (withPtr l j b).toArray (Cls W) (fun a' => a' = A b) fuel L a) →
      wpAny P md (l ++ [o]).toArray Q (fuel + 1) (L.push false) a u := by
  have hjl : j < l.length := (List.getElem?_eq_some_iff.1 hoa).1
  have hready : ∀ (L : Array Bool) b, Region.ready md (withPtr l j b).toArray L = [] → Region.ready md l.toArray L = [] := by
    intro L b h
    cases e : Region.ready md l.toArray L with
    | nil => rfl
    | cons i r =>
      exfalso
      have hm : i ∈ Region.ready md l.toArray L := by rw [e]; simp
      have := (withPtr_ready l j b i L).2 hm
      rw [h] at this; cases this
  have hready' : ∀ (L : Array Bool) b, Region.ready md l.toArray L = [] → Region.ready md (withPtr l j b).toArray L = [] := by
    intro L b h
    cases e : Region.ready md (withPtr l j b).toArray L with
    | nil => rfl
    | cons i r =>
      exfalso
      have hm : i ∈ Region.ready md (withPtr l j b).toArray L := by rw [e]; simp
      have := (withPtr_ready l j b i L).1 hm
      rw [h] at this; cases this
  have hlast : ∀ (L : Array Bool), L.size = l.length → Region.ready md l.toArray L = [] → l.length ∈ Region.ready md (l ++ [o]).toArray (L.push false) := by
    intro L hL hr
    refine mem_ready.2 ⟨by rw [getD_tf (by simp; omega), getD_push]; simp [Array.getD_eq_getD_getElem?, hL], o, snoc_last, fun e he _ => ?_⟩
    rw [getD_push]
    exact all_of_stuck hL hb hr l.length _ (backB_spec hb snoc_last e he) (backB_spec hb snoc_last e he)
  have hfin : ∀ (L : Array Bool) (a : Act) (u : World) (f : Nat), L.size = l.length → (∀ k, k < l.length → L.getD k false = true) → wpList P (l ++ [o]).toArray Q [o] a u →
      wpOp P (l ++ [o]).toArray Q l.length (wpAny P md (l ++ [o]).toArray Q f ((L.push false).setIfInBounds l.length true)) a u := by
    intro L a u f hL hall h1
    have h2 : wpOp P (l ++ [o]).toArray Q l.length (fun a w => Q .normal a w) a u := by
      unfold wpOp
      rw [snoc_last]
      exact h1
    refine wpOp_mono (fun a' w' h3 => ?_) h2
    have hr : Region.ready md (l ++ [o]).toArray ((L.push false).setIfInBounds l.length true) = [] := by
      cases e : Region.ready md (l ++ [o]).toArray ((L.push false).setIfInBounds l.length true) with
      | nil => rfl
      | cons k r =>
        exfalso
        have hm : k ∈ Region.ready md (l ++ [o]).toArray ((L.push false).setIfInBounds l.length true) := by rw [e]; simp
        obtain ⟨h0, y, hy, _⟩ := mem_ready.1 hm
        have hk : k < l.length + 1 := by have := (Array.getElem?_eq_some_iff.1 hy).1; simpa using this
        rw [getD_tf (by simp; omega)] at h0
        by_cases hkl : k = l.length
        · subst hkl; rw [getD_set_self (by simp; omega)] at h0; cases h0
        · rw [getD_set_other (fun h => hkl h.symm), getD_push, hall k (by omega)] at h0; cases h0
    cases f with
    | zero => exact ⟨hr, h3⟩
    | succ f => exact ⟨fun _ => h3, by rw [hr]; simp⟩
  -- where nothing is left but the last one
  have hdone : ∀ (fuel : Nat) (L : Array Bool) (a : Act) (u : World) (x : Option Nat), L.size = l.length → Closed md (l ++ [o]).toArray (L.push false) → Below w.heap.size w u →
      (L.getD j false = x.isSome) → (∀ b, x = some b → At u b zs ∧ w.heap.size ≤ b) →
      (∀ b W, (∀ b', x = some b' → b = b') → Below w.heap.size w W → wpAnyQ P md (withPtr l j b).toArray (Cls W) (fun a' => a' = A b) fuel L a) →
      l.length ∈ Region.ready md (l ++ [o]).toArray (L.push false) → ∀ f, wpOp P (l ++ [o]).toArray Q l.length (wpAny P md (l ++ [o]).toArray Q f ((L.push false).setIfInBounds l.length true)) a u := by
    intro fuel L a u x hL hcl hbu hx hxb hG hi f
    have hall := fun k hk => all_of_last hL hl hcl hi l.length k (by omega) hk
    have hr := ready_nil_of_all (md := md) hL hall
    have hxs := hall j hjl
    rw [hx] at hxs
    obtain ⟨b, rfl⟩ := Option.isSome_iff_exists.1 hxs
    obtain ⟨hat, hwb⟩ := hxb b rfl
    have hq := hG b w (fun b' h => (Option.some.inj h)) (Below.refl _ _)
    have ha : a = A b := by
      cases fuel with
      | zero => exact hq.2
      | succ f => exact hq.1 (hready' L b hr)
    refine hfin L a u f hL hall ?_
    rw [ha]
    exact hend b u hbu hat hwb
  intro fuel
  induction fuel with
  | zero =>
    intro L a u x hL hcl hbu hx hxb hG
    have hq0 := hG (x.getD 0) w (fun b' h => by rw [h]; rfl) (Below.refl _ _)
    have hr0 := hready L _ hq0.1
    refine ⟨fun h0 => ?_, fun i hi => ?_⟩
    · have := hlast L hL hr0; rw [h0] at this; cases this
    · have hil : i < l.length + 1 := by
        obtain ⟨_, y, hy, _⟩ := mem_ready.1 hi
        have := (Array.getElem?_eq_some_iff.1 hy).1; simpa using this
      by_cases hi2 : i < l.length
      · have := (ready_snoc hL hi2).1 hi; rw [hr0] at this; cases this
      · obtain rfl : i = l.length := by omega
        exact hdone 0 L a u x hL hcl hbu hx hxb hG hi 0
  | succ fuel ih =>
    intro L a u x hL hcl hbu hx hxb hG
    refine ⟨fun h0 => ?_, fun i hi => ?_⟩
    · have hr : Region.ready md l.toArray L = [] := by
        cases e : Region.ready md l.toArray L with
        | nil => rfl
        | cons k r =>
          exfalso
          have hm : k ∈ Region.ready md l.toArray L := by rw [e]; simp
          obtain ⟨_, y, hy, _⟩ := mem_ready.1 hm
          have hk : k < l.length := by have := (Array.getElem?_eq_some_iff.1 hy).1; simpa using this
          have := (ready_snoc (o := o) hL hk).2 hm
          rw [h0] at this; cases this
      have := hlast L hL hr; rw [h0] at this; cases this
    · have hil : i < l.length + 1 := by
        obtain ⟨_, y, hy, _⟩ := mem_ready.1 hi
        have := (Array.getElem?_eq_some_iff.1 hy).1; simpa using this
      by_cases hi2 : i < l.length
      · have hm := (ready_snoc hL hi2).1 hi
        have hset : (L.push false).setIfInBounds i true = (L.setIfInBounds i true).push false := by
          apply Array.ext_getElem?
          intro k
          simp only [Array.getElem?_setIfInBounds, Array.getElem?_push, Array.size_push, Array.size_setIfInBounds]
          by_cases h1 : i = k
          · subst h1; simp [show i < L.size by omega, show i < L.size + 1 by omega, show ¬ i = L.size by omega]
          · simp [h1]
        have hcl' : Closed md (l ++ [o]).toArray ((L.setIfInBounds i true).push false) := by
          intro k y hy hk e he hbe
          rw [← hset] at hk ⊢
          by_cases h1 : i = e.on
          · rw [← h1]; exact getD_set_self (by simp; omega)
          · rw [getD_set_other h1]
            by_cases h2 : i = k
            · subst h2
              obtain ⟨_, y', hy', hall⟩ := mem_ready.1 hi
              rw [hy] at hy'; obtain rfl := Option.some.inj hy'
              exact hall e he hbe
            · rw [getD_set_other h2] at hk
              exact hcl k y hy hk e he hbe
        -- what each walk says of this operation
        have hun : L.getD i false = false := by
          have := (mem_ready.1 hm).1; rwa [getD_tf (by omega)] at this
        by_cases hij : i = j
        · subst hij
          have hxn : x = none := by
            cases x with
            | none => rfl
            | some b => rw [hun] at hx; cases hx
          subst hxn
          unfold wpOp
          rw [snoc_lt hi2, show l.toArray[i]? = some oa by simpa using hoa]
          simp only [Region.wanted, hg, if_true]
          refine Or.inl ?_
          unfold Oper.wp
          rw [hal]
          simp only [Oper.upon]
          rw [hset]
          refine ih _ _ _ (some u.heap.size) (by simpa using hL) hcl' ?_ ?_ ?_ ?_
          · exact hbu.alloc hbu.size _
          · rw [getD_set_self (by omega)]; rfl
          · intro b hbe
            obtain rfl := Option.some.inj hbe
            exact ⟨at_new u zs t, hbu.size⟩
          · intro b W hbb hW
            obtain rfl := hbb u.heap.size rfl
            have hq := (hG u.heap.size W (fun b' h => by cases h) hW).2 i ((withPtr_ready l i _ i L).2 hm)
            obtain ⟨v, hy, hk⟩ := yieldsIn_of_qOp (o := ptrOp oa u.heap.size) (by simpa using withPtr_at l i u.heap.size hoa) hq
            have hv : v = .pointer (some ⟨u.heap.size, 0, none⟩) := by
              rcases hy with ⟨_, hy⟩ | ⟨hw, _⟩
              · have h3 := hy W (cls_self W)
                unfold Oper.quietAt at h3
                rw [BigFrame.run_assign (o := ptrOp oa u.heap.size) (.const (.pointer (some ⟨u.heap.size, 0, none⟩))) rfl] at h3
                exact h3.2.symm
              · simp [Region.wanted, ptrOp, hg] at hw
            rw [hv] at hk
            exact hk
        · have hop : ∀ b, (withPtr l j b).toArray[i]? = l.toArray[i]? := fun b => by
            simpa using withPtr_ne l j b i hij
          obtain ⟨y, hy⟩ : ∃ y, l.toArray[i]? = some y := ⟨l[i], by simp [hi2]⟩
          obtain ⟨d, hyd⟩ := hsome i y (by simpa using hy)
          have hval : ∀ b W, (∀ b', x = some b' → b = b') → Below w.heap.size w W → ∃ v, YieldsIn P (withPtr l j b).toArray (Cls W) y v a ∧ wpAnyQ P md (withPtr l j b).toArray (Cls W) (fun a' => a' = A b) fuel (L.setIfInBounds i true) (a.put (some d) v) := by
            intro b W hbb hW
            have hq := (hG b W hbb hW).2 i ((withPtr_ready l j b i L).2 hm)
            obtain ⟨v, h1, h2⟩ := yieldsIn_of_qOp ((hop b).trans hy) hq
            rw [hyd] at h2
            exact ⟨v, h1, h2⟩
          have hslot : ∀ b W v, wpAnyQ P md (withPtr l j b).toArray (Cls W) (fun a' => a' = A b) fuel (L.setIfInBounds i true) (a.put (some d) v) → (A b).tmps[d]? = (a.put (some d) v).tmps[d]? := by
            intro b W v hk
            refine slot_end fuel _ _ hk ?_
            intro k z hz hkl
            have hik : i ≠ k := by
              intro h; subst h
              rw [getD_tf (by simp; omega), getD_set_self (by omega)] at hkl; cases hkl
            by_cases hkj : k = j
            · subst hkj
              have : z = ptrOp oa b := by
                have h1 := withPtr_at l k b hoa
                rw [List.getElem?_toArray] at hz
                exact Option.some.inj (hz.symm.trans h1)
              rw [this]
              have hne := apartB_spec hap (by simpa using hy) hoa hik hyd
              exact hne
            · have hz' : l[k]? = some z := by
                rw [List.getElem?_toArray, withPtr_ne l j b k hkj] at hz; exact hz
              exact apartB_spec hap (by simpa using hy) hz' hik hyd
          have hdj : d ≠ dj := by
            intro h; subst h
            exact apartB_spec hap (by simpa using hy) hoa hij hyd hdst
          have hAd : ∀ b b', (A b).tmps[d]? = (A b').tmps[d]? := by
            intro b b'
            rw [hA b, hA b']
            simp [Act.put, hdj.symm]
          -- the walk in the world at hand
          obtain ⟨v, hyv, hkv⟩ := hval (x.getD 0) u (fun b' h => by rw [h]; rfl) hbu
          have hsv := hslot _ _ _ hkv
          have hnext : ∀ b W, (∀ b', x = some b' → b = b') → Below w.heap.size w W → wpAnyQ P md (withPtr l j b).toArray (Cls W) (fun a' => a' = A b) fuel (L.setIfInBounds i true) (a.put (some d) v) := by
            intro b W hbb hW
            obtain ⟨v', _, hk'⟩ := hval b W hbb hW
            have hsv' := hslot _ _ _ hk'
            rw [put_same (A := A b) (v := v) (v' := v') (by rw [hAd b (x.getD 0)]; exact hsv) hsv']
            exact hk'
          have hstep : ∀ u', Below w.heap.size w u' → Below u.heap.size u u' → wpAny P md (l ++ [o]).toArray Q (fuel + 1) ((L.setIfInBounds i true).push false) (a.put (some d) v) u' := by
            intro u' hb' huu
            refine ih _ _ u' x (by simpa using hL) hcl' hb' ?_ ?_ hnext
            · rw [getD_set_other hij]; exact hx
            · intro b hbe
              obtain ⟨h1, h2⟩ := hxb b hbe
              exact ⟨h1.below huu, h2⟩
          rw [hset]
          unfold wpOp
          rw [snoc_lt hi2, hy]
          have hyl : yielded (l ++ [o]).toArray a.tmps = yielded (withPtr l j (x.getD 0)).toArray a.tmps := by
            rw [yielded_snoc hd, yielded_dst (fun k => (withPtr_dst l j (x.getD 0) k).symm)]
          simp only [hyl]
          rcases hyv with ⟨hw, hyv⟩ | ⟨hw, rfl⟩
          · simp only [hw, if_true]
            refine Or.inl ?_
            have hqu : y.quiet P a (Cls u) (fun a' => a' = a.put y.dst v) := ⟨v, hyv, rfl⟩
            refine Oper.wp_of_quiet (cls_self u) (fun a' u' hc ha => ?_) hqu
            rw [ha, hyd]
            have hbb := regrown_below hc
            exact hstep u' (bl_call hbu hbb hbu.size) hbb
          · simp only [hw, Bool.false_eq_true, if_false]
            rw [hyd]
            exact hstep u hbu (Below.refl _ _)
      · obtain rfl : i = l.length := by omega
        exact hdone (fuel + 1) L a u x hL hcl hbu hx hxb hG hi (fuel + 1)

/-- The check of a region. -/
def newB (ops : List Oper) : Bool :=
  backB ops.toArray && lastB .any ops.toArray && apartB ops.dropLast && ops.dropLast.all (fun o => o.dst.isSome) && (match ops.getLast? with | some o => o.dst.isNone | none => false)

theorem region_new {id : Nat} {Q : Exit → Act → World → Prop} {a : Act} {w : World} {ops : List Oper} (j : Nat) {oa : Oper} {dj : Tmp} (t : TypeId) (zs : List Value) {A : Nat → Act}
    (hm : P.follows .mixedOrders = true) (hB : newB ops = true) (hlex : ∀ b, Region.lexB .any (withPtr ops.dropLast j b).toArray = true)
    (hoa : ops.dropLast[j]? = some oa) (hdst : oa.dst = some dj) (hg : oa.guard = none)
    (hal : ∀ (e : Operand → Value) (u : World), (execOp e oa).run P u = .ok (.value (.pointer (some ⟨u.heap.size, 0, none⟩))) (u.alloc (.cells zs.toArray t)))
    (h : ∀ b W, Below w.heap.size w W → wpQuiet P (withPtr ops.dropLast j b).toArray (Cls W) (fun a' => a' = A b) (withPtr ops.dropLast j b) a)
    (hA : ∀ b, A b = (A 0).put (some dj) (.pointer (some ⟨b, 0, none⟩)))
    (hend : ∀ b W, Below w.heap.size w W → At W b zs → w.heap.size ≤ b → wpList P ops.toArray Q (ops.drop ops.dropLast.length) (A b) W) : (Code.region id ops.toArray true).wp P Q a w := by
  simp only [newB, Bool.and_eq_true] at hB
  obtain ⟨⟨⟨⟨h1, h2⟩, h3⟩, h3'⟩, h4⟩ := hB
  cases hl : ops.getLast? with
  | none => rw [hl] at h4; simp at h4
  | some o =>
    rw [hl] at h4
    have hd : o.dst = none := by simpa using h4
    have hops : ops = ops.dropLast ++ [o] := by
      obtain ⟨l', rfl⟩ := List.getLast?_eq_some_iff.1 hl
      simp
    generalize hL : ops.dropLast = l at *
    subst hops
    have hdrop : (l ++ [o]).drop l.length = [o] := by simp
    rw [hdrop] at hend
    refine wp_region_any hm ?_
    have e1 : (l ++ [o]).toArray.size = l.length + 1 := by simp
    have e2 : Array.replicate (l.length + 1) false = (Array.replicate l.length false).push false := by
      rw [Array.replicate_succ]
    have hdr : Below w.heap.size w { w with drawn := w.drawn + 1 } := ⟨rfl, rfl, rfl, Nat.le_refl _, fun _ _ => rfl⟩
    rw [e1, e2]
    refine wpAny_new (w := w) (A := A) (zs := zs) (t := t) hd h1 h2 h3 ?_ hoa hdst hg hal hA hend l.length (Array.replicate l.length false) a _ none (by simp) ?_ hdr ?_ (fun b h => by cases h) ?_
    · intro i x hx
      rw [List.all_eq_true] at h3'
      have := h3' x (List.mem_of_getElem? hx)
      exact Option.isSome_iff_exists.1 this
    · intro k x hx hk
      rw [getD_push] at hk
      simp only [Array.getD_eq_getD_getElem?, Array.getElem?_replicate] at hk
      split at hk <;> simp at hk
    · simp only [Array.getD_eq_getD_getElem?, Array.getElem?_replicate]
      split <;> simp
    · intro b W _ hW
      have hx := hlex b
      simp only [Region.lexB, Bool.and_eq_true] at hx
      have := wpAnyQ_lex (P := P) (C := Cls W) (md := .any) hx.1 (withPtr l j b) 0 (Array.replicate (withPtr l j b).toArray.size false) a (by simp) (by simpa using hx.2) (h b W hW)
      simpa [withPtr_len] using this
end
end Go.Proofs.YtlbdcgnhmkjfiaiDoor
/- Gate -/
namespace Go.Proofs.YtlbdcgnhmkjfiaiDoor
open Go.RowKit Go.Sort
set_option linter.unusedVariables false

section
variable {P : Program} {md : Region.Mode} {C : World → Prop} {ops : Array Oper} {Q : Exit → Act → World → Prop} {l1 l2 : List Oper}

theorem wpAny_more : ∀ (f : Nat) (L : Array Bool) (a : Act) (w : World), wpAny P md ops Q f L a w → wpAny P md ops Q (f + 1) L a w
  | 0, _, _, _, h => ⟨fun _ => h.2, by rw [h.1]; intro i hi; cases hi⟩
  | f + 1, _, _, _, h => ⟨h.1, fun i hi => wpOp_mono (fun a' w' h' => wpAny_more f _ a' w' h') (h.2 i hi)⟩
theorem wpAny_more' (k : Nat) {f : Nat} {L : Array Bool} {a : Act} {w : World} (h : wpAny P md ops Q f L a w) : wpAny P md ops Q (k + f) L a w := by
  induction k with
  | zero => rwa [Nat.zero_add]
  | succ k ih => rw [Nat.succ_add]; exact wpAny_more _ _ _ _ ih

/-- Each operation from n on waits for number n - 1 or for a later one. -/
def gateB (md : Region.Mode) (n : Nat) (ops : Array Oper) : Bool :=
  (List.range ops.size).all fun j => Nat.blt j n || ((ops[j]?).map fun o => o.after.any fun e => Region.binds md e && Nat.blt n (e.on + 2)).getD true
theorem gateB_spec {n : Nat} (h : gateB md n ops = true) {j : Nat} {o : Oper} (ho : ops[j]? = some o) (hj : n ≤ j) : ∃ e ∈ o.after, Region.binds md e = true ∧ n ≤ e.on + 1 := by
  unfold gateB at h
  rw [List.all_eq_true] at h
  have hs : j < ops.size := (Array.getElem?_eq_some_iff.1 ho).1
  have h1 := h j (List.mem_range.2 hs)
  have hn : Nat.blt j n = false := by rw [← Bool.not_eq_true, Nat.blt_eq]; omega
  rw [hn, Bool.false_or, ho] at h1
  simp only [Option.map_some, Option.getD_some] at h1
  rw [Array.any_eq_true] at h1
  obtain ⟨k, hk, h2⟩ := h1
  rw [Bool.and_eq_true, Nat.blt_eq] at h2
  exact ⟨o.after[k], Array.getElem_mem hk, h2.1, by omega⟩
theorem app_lt {j : Nat} (h : j < l1.length) : (l1 ++ l2).toArray[j]? = l1.toArray[j]? := by simp [List.getElem?_append_left h]
theorem getD_app {L : Array Bool} {n j : Nat} : (L ++ Array.replicate n false).getD j false = L.getD j false := by
  simp only [Array.getD_eq_getD_getElem?, Array.getElem?_append]
  split
  · rfl
  · rename_i h
    rw [Array.getElem?_eq_none (xs := L) (by omega), Array.getElem?_replicate]
    split <;> rfl
theorem ready_app {L : Array Bool} (hL : L.size = l1.length) {n j : Nat} (hj : j < l1.length) :
    j ∈ Region.ready md (l1 ++ l2).toArray (L ++ Array.replicate n false) ↔ j ∈ Region.ready md l1.toArray L := by
  rw [mem_ready, mem_ready, getD_tf (by simp; omega), getD_tf (by omega), getD_app, app_lt hj]
  constructor
  · rintro ⟨h0, x, hx, hall⟩
    exact ⟨h0, x, hx, fun e he hbe => by rw [← hall e he hbe, getD_app]⟩
  · rintro ⟨h0, x, hx, hall⟩
    exact ⟨h0, x, hx, fun e he hbe => by rw [← hall e he hbe, getD_app]⟩
theorem all_stuck {L : Array Bool} (hL : L.size = l1.length) (hb : backB l1.toArray = true) (hr : Region.ready md l1.toArray L = []) :
    ∀ n j, j < n → j < l1.length → L.getD j false = true := by
  intro n
  induction n with
  | zero => intro j h; omega
  | succ n ih =>
    intro j h hj
    by_cases hjn : j < n
    · exact ih j hjn hj
    · obtain ⟨x, hx⟩ : ∃ x, l1.toArray[j]? = some x := ⟨l1[j], by simp [hj]⟩
      cases hv : L.getD j false with
      | true => rfl
      | false =>
        exfalso
        have : j ∈ Region.ready md l1.toArray L := mem_ready.2 ⟨by rw [getD_tf (by omega)]; exact hv, x, hx, fun e he _ => ih e.on (by have := backB_spec hb hx e he; omega) (by have := backB_spec hb hx e he; omega)⟩
        rw [hr] at this; cases this
theorem all_gate {L : Array Bool} (hl : lastB md l1.toArray = true) (hc : Closed md l1.toArray L) (hg : L.getD (l1.length - 1) false = true) :
    ∀ n j, l1.length - 1 - n ≤ j → j < l1.length → L.getD j false = true := by
  intro n
  induction n with
  | zero => intro j h1 h2; rwa [show j = l1.length - 1 by omega]
  | succ n ih =>
    intro j h1 h2
    by_cases hj : j = l1.length - 1
    · rwa [hj]
    · obtain ⟨k, x, hjk, hx, e, he, hbe, hon⟩ := lastB_spec hl (i := j) (by simp; omega)
      have hk : k < l1.length := by have := (Array.getElem?_eq_some_iff.1 hx).1; simpa using this
      have := hc k x hx (ih k (by omega) hk) e he hbe
      rwa [hon] at this
theorem all_later {L : Array Bool} (hL : L.size = l1.length) (h0 : 0 < l1.length) (hl : lastB md l1.toArray = true) (hG : gateB md l1.length (l1 ++ l2).toArray = true) (hc : Closed md l1.toArray L) {n j : Nat} (hj : l1.length ≤ j)
    (hr : j ∈ Region.ready md (l1 ++ l2).toArray (L ++ Array.replicate n false)) : ∀ i, i < l1.length → L.getD i false = true := by
  obtain ⟨_, x, hx, hall⟩ := mem_ready.1 hr
  obtain ⟨e, he, hbe, hon⟩ := gateB_spec hG hx hj
  have h1 := hall e he hbe
  rw [getD_app] at h1
  have h2 : e.on < L.size := by
    rcases Nat.lt_or_ge e.on L.size with h | h
    · exact h
    · simp [Array.getD_eq_getD_getElem?, Array.getElem?_eq_none h] at h1
  have h3 : e.on = l1.length - 1 := by omega
  rw [h3] at h1
  exact fun i hi => all_gate hl hc h1 l1.length i (by omega) hi
theorem all_is {L : Array Bool} (hL : L.size = l1.length) (h : ∀ i, i < l1.length → L.getD i false = true) : L = Array.replicate l1.length true := by
  apply Array.ext
  · simpa using hL
  · intro i h1 h2
    have := h i (by omega)
    simp only [Array.getD_eq_getD_getElem?, Array.getElem?_eq_getElem h1, Option.getD_some] at this
    rw [this]; simp

theorem wpAny_gate {Q' : Act → Prop} (h0 : 0 < l1.length) (hg : l1.all (fun o => o.guard.isNone) = true) (hb : backB l1.toArray = true) (hl : lastB md l1.toArray = true) (hG : gateB md l1.length (l1 ++ l2).toArray = true)
    (hQ : ∀ a w, C w → Q' a → wpAny P md (l1 ++ l2).toArray Q l2.length (Array.replicate l1.length true ++ Array.replicate l2.length false) a w) :
    ∀ (fuel : Nat) (L : Array Bool) (a : Act) (w : World), L.size = l1.length → Closed md l1.toArray L → C w →
      wpAnyQ P md l1.toArray C Q' fuel L a → wpAny P md (l1 ++ l2).toArray Q (fuel + l2.length) (L ++ Array.replicate l2.length false) a w := by
  intro fuel
  induction fuel with
  | zero =>
    intro L a w hL hcl hC h
    rw [all_is hL (fun i hi => all_stuck hL hb h.1 l1.length i hi hi), Nat.zero_add]
    exact hQ a w hC h.2
  | succ fuel ih =>
    intro L a w hL hcl hC h
    by_cases hall : ∀ i, i < l1.length → L.getD i false = true
    · rw [all_is hL hall]
      exact wpAny_more' _ (hQ a w hC (h.1 (ready_nil_of_all hL hall)))
    · rw [Nat.succ_add]
      refine ⟨fun hr => ?_, fun i hi => ?_⟩
      · exfalso
        refine hall fun i hi => all_stuck (md := md) hL hb ?_ l1.length i hi hi
        cases e : Region.ready md l1.toArray L with
        | nil => rfl
        | cons j r =>
          exfalso
          have hm : j ∈ Region.ready md l1.toArray L := by rw [e]; simp
          obtain ⟨_, x, hx, _⟩ := mem_ready.1 hm
          have hj : j < l1.length := by have := (Array.getElem?_eq_some_iff.1 hx).1; simpa using this
          have := (ready_app (l2 := l2) (n := l2.length) hL hj).2 hm
          rw [hr] at this; cases this
      · have hi2 : i < l1.length := by
          rcases Nat.lt_or_ge i l1.length with h' | h'
          · exact h'
          · exact absurd (all_later hL h0 hl hG hcl h' hi) hall
        have hm := (ready_app hL hi2).1 hi
        have hset : (L ++ Array.replicate l2.length false).setIfInBounds i true = L.setIfInBounds i true ++ Array.replicate l2.length false := by
          rw [Array.setIfInBounds_append_left (by omega)]
        have hcl' : Closed md l1.toArray (L.setIfInBounds i true) := by
          intro j x hx hj e he hbe
          by_cases h1 : i = e.on
          · rw [← h1]; exact getD_set_self (by omega)
          · rw [getD_set_other h1]
            by_cases h2 : i = j
            · subst h2
              obtain ⟨_, y, hy, hall'⟩ := mem_ready.1 hm
              rw [hx] at hy; obtain rfl := Option.some.inj hy
              exact hall' e he hbe
            · rw [getD_set_other h2] at hj
              exact hcl j x hx hj e he hbe
        have hw := wpOp_of_qOp (P := P) (Q' := Q) (K' := fun a' w' => wpAny P md (l1 ++ l2).toArray Q (fuel + l2.length) ((L ++ Array.replicate l2.length false).setIfInBounds i true) a' w') hC
          (fun a' w' hC' hk => by rw [hset]; exact ih _ a' w' (by simpa using hL) hcl' hC' hk) (h.2 i hm)
        unfold wpOp at hw ⊢
        rw [app_lt hi2]
        obtain ⟨x, hx⟩ : ∃ x, l1.toArray[i]? = some x := ⟨l1[i], by simp [hi2]⟩
        have hgx : x.guard = none := by
          rw [List.all_eq_true] at hg
          have := hg x (List.mem_of_getElem? (by simpa using hx))
          simpa using this
        simp only [hx, Region.wanted, hgx, if_true] at hw ⊢
        exact hw
/-- The whole check of a region, of which the first n operations only read. -/
def quietGateB (n : Nat) (ops : List Oper) : Bool :=
  Nat.blt 0 (ops.take n).length && Region.lexB .any (ops.take n).toArray && backB (ops.take n).toArray && lastB .any (ops.take n).toArray && gateB .any (ops.take n).length ops.toArray && (ops.take n).all (fun o => o.guard.isNone)

theorem region_gate (n : Nat) {id : Nat} {a : Act} {w : World} {ops : List Oper} (hm : P.follows .mixedOrders = true) (hB : quietGateB n ops = true) (hC : C { w with drawn := w.drawn + 1 })
    (h : wpQuiet P (ops.take n).toArray C (fun a' => ∀ w', C w' → wpAny P .any ops.toArray Q (ops.drop n).length (Array.replicate (ops.take n).length true ++ Array.replicate (ops.drop n).length false) a' w') (ops.take n) a) : (Code.region id ops.toArray true).wp P Q a w := by
  simp only [quietGateB, Bool.and_eq_true] at hB
  obtain ⟨⟨⟨⟨⟨h0, h1⟩, h2⟩, h3⟩, h4⟩, h5⟩ := hB
  rw [Nat.blt_eq] at h0
  have hops : ops = ops.take n ++ ops.drop n := (List.take_append_drop n ops).symm
  generalize hL1 : ops.take n = l1 at *
  generalize hL2 : ops.drop n = l2 at *
  subst hops
  simp only [Region.lexB, Bool.and_eq_true] at h1
  have hlex := wpAnyQ_lex (C := C) (md := .any) h1.1 l1 0 (Array.replicate l1.toArray.size false) a (by simp) (by simpa using h1.2) h
  refine wp_region_any hm ?_
  have := wpAny_gate (P := P) (md := .any) (C := C) (Q := Q) (Q' := fun a' => ∀ w', C w' → wpAny P .any (l1 ++ l2).toArray Q l2.length (Array.replicate l1.length true ++ Array.replicate l2.length false) a' w') h0 h5 h2 h3 h4 (fun a' w' hC' hq => hq w' hC') l1.length (Array.replicate l1.length false) a { w with drawn := w.drawn + 1 } (by simp)
    (by
      intro j x hx hj
      simp only [Array.getD_eq_getD_getElem?, Array.getElem?_replicate] at hj
      split at hj <;> simp at hj)
    hC (by simpa using hlex)
  have e1 : (l1 ++ l2).toArray.size = l1.length + l2.length := by simp
  have e2 : Array.replicate (l1.length + l2.length) false = Array.replicate l1.length false ++ Array.replicate l2.length false := by
    rw [Array.replicate_append_replicate]
  rw [e1, e2]
  exact this
/-- The same, for operations that are written out; behind the first part the memory is a letter. -/
theorem below_gate (n m : Nat) (L : Array Bool) {id : Nat} {a : Act} {w : World} {ops : List Oper} (hm : P.follows .mixedOrders = true) (hB : quietGateB n ops = true)
    (hlm : (ops.drop n).length = m) (hL : Array.replicate (ops.take n).length true ++ Array.replicate (ops.drop n).length false = L)
    (h : wpQuiet P (ops.take n).toArray (fun w' => ∃ p : Regrown, w' = grow (redrawn w p.d) p.os) (fun a' => ∀ w', (∃ p : Regrown, w' = grow (redrawn w p.d) p.os) → wpAny P .any ops.toArray Q m L a' w') (ops.take n) a) : (Code.region id ops.toArray true).wp P Q a w := by
  subst hlm hL
  exact region_gate n (C := fun w' => ∃ p : Regrown, w' = grow (redrawn w p.d) p.os) hm hB ⟨⟨w.drawn + 1, #[]⟩, by rw [grow_empty]; rfl⟩ h
end
end Go.Proofs.YtlbdcgnhmkjfiaiDoor
/- List -/
namespace Go.Proofs.YtlbdcgnhmkjfiaiDoor
open Go.RowKit Go.Sort
set_option linter.unusedVariables false
set_option linter.unusedSimpArgs false
theorem list_many (sa : Option Addr) (n c : Nat) (w : World) (h : 12 < n) : Calls Tryd.prog 67 #[.slice sa n c] w fun e w' => e = .returned (.tuple #[.string ⟨#[]⟩, errOf 4]) ∧ Below w.heap.size w w' := by
  have h1 : 12 < (n : Int) := by omega
  go_enter Tryd.func67, Tryd.ntmps67
  go_wp2_with fail
  exact bodyPost_ret (v := .tuple #[.string ⟨#[]⟩, errOf 4]) (by simp [results, Tryd.results67, go_sem, *]) rfl ⟨rfl, by repeat (first | (with_reducible exact Below.refl _ _) | (with_reducible assumption) | (with_reducible refine Below.setCell ?_ (by first | (simp; done) | (simp; omega) | omega) _) | (with_reducible refine Below.alloc ?_ (by first | (simp; done) | (simp; omega) | omega) _) | (refine bl_call ?_ (by assumption) (by first | (simp; done) | (simp; omega) | omega)) | (with_reducible refine bl_drewN ?_) | (with_reducible refine Below.drew ?_) | (with_reducible refine bl_grow ?_ (by first | (simp; done) | (simp; omega) | omega)))⟩
theorem list_no (b o n c : Nat) (X Y : Nat → Int) (F : Nat → Bool) (w : World) (hn : n ≤ 12) (hr : RowO w b o n X Y F) (h : (rowE X Y F n == 0) = false) :
    Calls Tryd.prog 67 #[.slice (some ⟨b, o, none⟩) n c] w fun e w' => e = .returned (.tuple #[.string ⟨#[]⟩, errOf (rowE X Y F n)]) ∧ Below w.heap.size w w' := by
  have h1 : ¬ (12 < (n : Int)) := by omega
  have HR : Hid (RowO w b o n X Y F) := hr
  have HE : Hid ((rowE X Y F n == 0) = false) := h
  clear hr h
  have m1 : True := trivial
  go_enter Tryd.func67, Tryd.ntmps67
  go_wp2_with (first | (go_at_call 56; clear m1; refine (checkAll_bad _ _ _ _ _ _ _ _ (by omega) HR.out HE.out).mono ?_; rintro e w1 ⟨rfl, hbw1⟩; have hqw1 : Below w.heap.size w w1 := (by repeat (first | (with_reducible exact Below.refl _ _) | (with_reducible assumption) | (with_reducible refine Below.setCell ?_ (by first | (simp; done) | (simp; omega) | omega) _) | (with_reducible refine Below.alloc ?_ (by first | (simp; done) | (simp; omega) | omega) _) | (refine bl_call ?_ (by assumption) (by first | (simp; done) | (simp; omega) | omega)) | (with_reducible refine bl_drewN ?_) | (with_reducible refine Below.drew ?_) | (with_reducible refine bl_grow ?_ (by first | (simp; done) | (simp; omega) | omega)))); have hzw1 := hqw1.size; clear hbw1))
  exact bodyPost_ret (v := .tuple #[.string ⟨#[]⟩, errOf (rowE X Y F n)]) (by simp [results, Tryd.results67, go_sem, *]) rfl ⟨rfl, by repeat (first | (with_reducible exact Below.refl _ _) | (with_reducible assumption) | (with_reducible refine Below.setCell ?_ (by first | (simp; done) | (simp; omega) | omega) _) | (with_reducible refine Below.alloc ?_ (by first | (simp; done) | (simp; omega) | omega) _) | (refine bl_call ?_ (by assumption) (by first | (simp; done) | (simp; omega) | omega)) | (with_reducible refine bl_drewN ?_) | (with_reducible refine Below.drew ?_) | (with_reducible refine bl_grow ?_ (by first | (simp; done) | (simp; omega) | omega)))⟩
theorem u8_nat {n : Nat} (h : n ≤ 12) : ((UInt8.ofNat n).toNat : Int) = (n : Int) := by rw [UInt8.toNat_ofNat']; omega
theorem writeByte_n (B b n : Nat) (w : World) (hn : n ≤ 12) (h : Bld B b [] w) (hB : B ≤ w.heap.size) :
    Calls Tryd.prog 91 #[.pointer (some ⟨b, 0, none⟩), .int .u8 (n : Int)] w fun e w' => e = .returned .nilIface ∧ Bld B b [UInt8.ofNat n] w' ∧ Below B w w' := by
  rw [← u8_nat hn]
  exact (writeByte_bld B b [] (UInt8.ofNat n) w h (by simp) hB).mono fun _ _ ⟨h1, h2, h3, _⟩ => ⟨h1, h2, h3⟩
theorem writeString_pk (B b : Nat) (l : List UInt8) (s : Sn) (w : World) (h : Bld B b l w) (hl : l.length ≤ 1000000) (hB : B ≤ w.heap.size) :
    Calls Tryd.prog 92 #[.pointer (some ⟨b, 0, none⟩), .string (pkB s)] w fun e w' => e = .returned (.tuple #[.int .i64 (pkL s).length, .nilIface]) ∧ Bld B b (l ++ pkL s) w' ∧ Below B w w' :=
  (writeString_bld B b l (pkL s) w h hl (by have := pkL_le s; omega) hB).mono fun _ _ ⟨h1, h2, h3, _⟩ => ⟨h1, h2, h3⟩
set_option maxRecDepth 100000 in
set_option maxHeartbeats 2000000 in
theorem list_row (b o n c : Nat) (X Y : Nat → Int) (F : Nat → Bool) (K : Nat → Nat) (w : World) (hn : n ≤ 12) (hr : RowO w b o n X Y F) (h : rowE X Y F n = 0) (hK : ∀ i, i < n → X i = ((tM (K i)).1 : Int) ∧ Y i = ((tM (K i)).2.1 : Int) ∧ F i = (tM (K i)).2.2) :
    Calls Tryd.prog 67 #[.slice (some ⟨b, o, none⟩) n c] w fun e w' => e = .returned (.tuple #[.string ⟨(lsL K n).toArray⟩, .nilIface]) ∧ Below w.heap.size w w' := by
  have h1 : ¬ (12 < (n : Int)) := by omega
  have HR : Hid (RowO w b o n X Y F) := hr
  have HE : Hid (rowE X Y F n = 0) := h
  have HK : Hid (∀ i, i < n → X i = ((tM (K i)).1 : Int) ∧ Y i = ((tM (K i)).2.1 : Int) ∧ F i = (tM (K i)).2.2) := hK
  have hb := hr.1
  clear hr h hK
  have m1 : True := trivial
  go_enter Tryd.func67, Tryd.ntmps67
  go_wp2_with (first | (go_at_call 56; clear m1; refine (checkAll_all _ _ _ _ _ _ _ _ (by omega) HR.out HE.out).mono ?_; rintro e w1 ⟨rfl, hbw1⟩; have hqw1 : Below w.heap.size w w1 := (by repeat (first | (with_reducible exact Below.refl _ _) | (with_reducible assumption) | (with_reducible refine Below.setCell ?_ (by first | (simp; done) | (simp; omega) | omega) _) | (with_reducible refine Below.alloc ?_ (by first | (simp; done) | (simp; omega) | omega) _) | (refine bl_call ?_ (by assumption) (by first | (simp; done) | (simp; omega) | omega)) | (with_reducible refine bl_drewN ?_) | (with_reducible refine Below.drew ?_) | (with_reducible refine bl_grow ?_ (by first | (simp; done) | (simp; omega) | omega)))); have hzw1 := hqw1.size; clear hbw1) | (go_at_call 91; refine (writeByte_n w1.heap.size w1.heap.size n _ hn (bld_new w1) (by simp)).mono ?_; rintro e w2 ⟨rfl, hB2, hb2⟩))
  have hq2 : Below w1.heap.size w1 w2 := ((Below.refl _ _).alloc (Nat.le_refl _) _).trans hb2
  clear hb2
  go_loopw [23] (fun ti wr => ∃ k : Nat, k ≤ n ∧ ti = .int .i64 k ∧ Bld w1.heap.size w1.heap.size (UInt8.ofNat n :: rowL K k) wr ∧ Below w1.heap.size w1 wr) (fun ti _ => n - (intOf ti).toNat)
  case atStart => exact ⟨0, by omega, rfl, hB2, hq2⟩
  case round =>
    clear hB2 hq2
    obtain ⟨k, hk, rfl, hB, hbl⟩ := hrel
    have hz := hbl.size
    by_cases hlt : k < n
    · have hlt' : (k : Int) < n := by omega
      obtain ⟨c0, c1, c2⟩ := ((HR.out.below hb hqw1).below (by omega) hbl).2 k hlt
      obtain ⟨e0, e1, e2⟩ := HK.out k hlt
      rw [e0] at c0; rw [e1] at c1; rw [e2] at c2
      clear e0 e1 e2
      have HL : Hid ((UInt8.ofNat n :: rowL K k).length ≤ 1000000) := by
        have := rowL_le K k
        unfold Hid; simp only [List.length_cons]; omega
      have HB : Hid (Bld w1.heap.size w1.heap.size (UInt8.ofNat n :: rowL K k) wr) := hB
      clear hB
      go_wp2_with (first | (go_at_call 93; refine (packed_tM (K k) _).mono ?_; rintro e w3 ⟨rfl, hb3⟩; have hq3 : Below wr.heap.size wr w3 := (by repeat (first | (with_reducible exact Below.refl _ _) | (with_reducible assumption) | (with_reducible refine Below.setCell ?_ (by first | (simp; done) | (simp; omega) | omega) _) | (with_reducible refine Below.alloc ?_ (by first | (simp; done) | (simp; omega) | omega) _) | (refine bl_call ?_ (by assumption) (by first | (simp; done) | (simp; omega) | omega)) | (with_reducible refine bl_drewN ?_) | (with_reducible refine Below.drew ?_) | (with_reducible refine bl_grow ?_ (by first | (simp; done) | (simp; omega) | omega)))); have hz3 := hq3.size; clear hb3) | (go_at_call 92; refine (writeString_pk _ _ _ _ _ (HB.out.below hq3) HL.out (by omega)).mono ?_; rintro e w4 ⟨rfl, hB4, hb4⟩))
      go_roundw
      case rel =>
        refine ⟨k + 1, by omega, by simp, ?_, (hbl.trans (hq3.mono (by omega))).trans hb4⟩
        rw [rowL_succ]
        exact hB4
      case measure => simp [intOf]; omega
    · have hlt' : ¬ (k : Int) < n := by omega
      obtain rfl : k = n := by omega
      go_wp2_with (go_at_call 94; refine (string_bld _ _ _ _ hB (by omega)).mono ?_; rintro e w3 ⟨rfl, hb3⟩)
      have hq3 : Below w.heap.size w w3 := hqw1.trans ((hbl.trans hb3).mono hzw1)
      exact bodyPost_ret (v := .tuple #[.string ⟨(lsL K k).toArray⟩, .nilIface]) (by simp [results, Tryd.results67, go_sem, lsL]) rfl ⟨rfl, hq3⟩
theorem list_nil (sa : Option Addr) (c : Nat) (w : World) : Calls Tryd.prog 67 #[.slice sa 0 c] w fun e w' => e = .returned (.tuple #[.string ⟨#[0]⟩, .nilIface]) ∧ Below w.heap.size w w' := by
  have m1 : True := trivial
  go_enter Tryd.func67, Tryd.ntmps67
  go_wp2_with (first | (go_at_call 56; clear m1; refine (checkAll_nil _ _ _).mono ?_; rintro e w1 ⟨rfl, hbw1⟩; have hqw1 : Below w.heap.size w w1 := (by repeat (first | (with_reducible exact Below.refl _ _) | (with_reducible assumption) | (with_reducible refine Below.setCell ?_ (by first | (simp; done) | (simp; omega) | omega) _) | (with_reducible refine Below.alloc ?_ (by first | (simp; done) | (simp; omega) | omega) _) | (refine bl_call ?_ (by assumption) (by first | (simp; done) | (simp; omega) | omega)) | (with_reducible refine bl_drewN ?_) | (with_reducible refine Below.drew ?_) | (with_reducible refine bl_grow ?_ (by first | (simp; done) | (simp; omega) | omega)))); have hzw1 := hqw1.size; clear hbw1) | (go_at_call 91; refine (writeByte_n w1.heap.size w1.heap.size 0 _ (by omega) (bld_new w1) (by simp)).mono ?_; rintro e w2 ⟨rfl, hB2, hb2⟩))
  have hq2 : Below w1.heap.size w1 w2 := ((Below.refl _ _).alloc (Nat.le_refl _) _).trans hb2
  clear hb2
  go_loopw [23] (fun ti wr => ti = .int .i64 0 ∧ Bld w1.heap.size w1.heap.size [0] wr ∧ Below w1.heap.size w1 wr) (fun _ _ => 0)
  case atStart => exact ⟨rfl, hB2, hq2⟩
  case round =>
    clear hB2 hq2
    obtain ⟨rfl, hB, hbl⟩ := hrel
    have hz := hbl.size
    go_wp2_with (go_at_call 94; refine (string_bld _ _ _ _ hB (by omega)).mono ?_; rintro e w3 ⟨rfl, hb3⟩)
    have hq3 : Below w.heap.size w w3 := hqw1.trans ((hbl.trans hb3).mono hzw1)
    exact bodyPost_ret (v := .tuple #[.string ⟨#[0]⟩, .nilIface]) (by simp [results, Tryd.results67, go_sem]) rfl ⟨rfl, hq3⟩
end Go.Proofs.YtlbdcgnhmkjfiaiDoor
/- BookA -/
namespace Go.Proofs.YtlbdcgnhmkjfiaiDoor
open Go.RowKit Go.Sort
set_option linter.unusedVariables false
set_option linter.unusedSimpArgs false
theorem bb_lt {W w1 : World} (hb : Below W.heap.size W w1) : ∀ b, b < W.heap.size → b < w1.heap.size := fun b h => Nat.lt_of_lt_of_le h hb.size
theorem bb_ne {W w1 : World} (hb : Below W.heap.size W w1) : ∀ b, b < W.heap.size → (b = w1.heap.size) = False := fun b h => eq_false (Nat.ne_of_lt (bb_lt hb b h))
theorem bb_ne2 {W w1 : World} (hb : Below W.heap.size W w1) : ∀ b, b < W.heap.size → (w1.heap.size = b) = False := fun b h => eq_false (Nat.ne_of_gt (bb_lt hb b h))
theorem brow_up {n : Nat} {sl : Option Addr} {X Y : Nat → Int} {F : Nat → Bool} {w W : World} (h : (n = 0 ∨ ∃ b o : Nat, sl = some ⟨b, o, none⟩ ∧ RowO w b o n X Y F)) (k : Below w.heap.size w W) : (n = 0 ∨ ∃ b o : Nat, sl = some ⟨b, o, none⟩ ∧ RowO W b o n X Y F) := h.imp_right fun ⟨b, o, e, r⟩ => ⟨b, o, e, r.below r.1 k⟩
theorem brz_up {m : Nat} {sz : Option Addr} {Z : Nat → Int} {w W : World} (h : (m = 0 ∨ ∃ b o : Nat, sz = some ⟨b, o, none⟩ ∧ RowI w b o m Z)) (k : Below w.heap.size w W) : (m = 0 ∨ ∃ b o : Nat, sz = some ⟨b, o, none⟩ ∧ RowI W b o m Z) := h.imp_right fun ⟨b, o, e, r⟩ => ⟨b, o, e, r.below r.1 k⟩
theorem brow_zero {X Y : Nat → Int} {F : Nat → Bool} {K : Nat → Nat} : ∀ {n : Nat}, (∀ i, i < n → X i = ((tM (K i)).1 : Int) ∧ Y i = ((tM (K i)).2.1 : Int) ∧ F i = (tM (K i)).2.2) → rowE X Y F n = 0
  | 0, _ => rfl
  | n + 1, h => by
    obtain ⟨a, b, c⟩ := h n (by omega)
    unfold rowE
    rw [brow_zero (n := n) (fun i hi => h i (by omega)), a, b, c]
    exact ck_tM _
theorem bone_at {w : World} {b : Nat} (h : w.heap.size = b) (x : Value) (t : TypeId) : ∀ j u, [x][j]? = some u → (w.alloc (.cells #[x] t)).cell? ((⟨b, 0, none⟩ : Addr).add j) = some u := one_at h x t
theorem bfour_at {w : World} {b : Nat} (h : w.heap.size = b) (x y z t : Value) (s : TypeId) : ∀ j u, [x, y, z, t][j]? = some u → (w.alloc (.cells #[x, y, z, t] s)).cell? ((⟨b, 0, none⟩ : Addr).add j) = some u := by
  subst h
  intro j u hj
  rw [addr_add]
  match j, hj with
  | 0, hj => simp at hj; subst hj; simp
  | 1, hj => simp at hj; subst hj; simp
  | 2, hj => simp at hj; subst hj; simp
  | 3, hj => simp at hj; subst hj; simp
/-- Has it been marked? -/
theorem mk_dup {Z : Nat → Int} {z : Nat} : ∀ {k : Nat}, (∀ i, i < k → 0 ≤ Z i) → mkG (fun _ => false) Z k z = dupB Z (z : Int) k
  | 0, _ => rfl
  | k + 1, h => by
    show setB (mkG (fun _ => false) Z k) (Z k).toNat z = (dupB Z (z : Int) k || (Z k == (z : Int)))
    have h0 := h k (by omega)
    by_cases e : z = (Z k).toNat
    · have e2 : Z k = (z : Int) := by omega
      rw [← e, setB_at, e2]; simp
    · have e2 : (Z k == (z : Int)) = false := by rw [beq_eq_false_iff_ne]; omega
      rw [setB_ne _ e, e2, mk_dup fun i hi => h i (by omega), Bool.or_false]
theorem go_nonneg {n : Nat} {G : Nat → Bool} {Z : Nat → Int} {t : Nat} (h : ∀ i, i < t → goE n G Z i = 0) : ∀ i, i < t → 0 ≤ Z i := fun i hi => (inN_yes (goE_ok (h i hi)).1).1
theorem go_many {n : Nat} {G : Nat → Bool} {Z : Nat → Int} {m : Nat} (h : ∀ i, i < m → goE n G Z i = 0) : m ≤ n := by
  have h1 := (tt_mark (K := fun _ => 0) h).2
  have h2 := lvL_len G n
  omega
theorem bmade (n : Nat) : (madeCells #[Value.bool false] n).toList = cellsB (mkG (fun _ => false) (fun _ => 0) 0) n := by
  rw [toList_madeCells_one]
  unfold cellsB mkG
  refine List.ext_getElem? fun i => ?_
  by_cases h : i < n
  · simp [h]
  · simp [h]
theorem beinfo : (Tryd.prog.info? 23).map (fun i => (i.zero, i.size, i.bytes)) = some (some (.agg #[.int .i64 0, .int .i64 0, .bool false]), 3, 24) := by kernel_rfl
theorem bisnum {n : Int} {t : Bool} (ht : resB n = t) (w : World) : Calls Tryd.prog 61 #[.int .i64 n] w fun e w' => e = .returned (.bool t) ∧ w' = w := by
  subst ht
  by_cases h : n ≥ 0
  · by_cases h2 : n < 1013
    · rw [show resB n = true from decide_eq_true ⟨h, h2⟩]
      go_enter Tryd.func61, Tryd.ntmps61
      go_wp2_with fail
      go_ret
      exact ⟨rfl, rfl⟩
    · rw [show resB n = false from decide_eq_false fun k => h2 k.2]
      go_enter Tryd.func61, Tryd.ntmps61
      go_wp2_with fail
      go_ret
      exact ⟨rfl, rfl⟩
  · rw [show resB n = false from decide_eq_false fun k => h k.1]
    go_enter Tryd.func61, Tryd.ntmps61
    go_wp2_with fail
    go_ret
    exact ⟨rfl, rfl⟩
set_option maxRecDepth 100000 in
set_option maxHeartbeats 8000000 in
theorem bask_no (x1 y1 x2 y2 cc : Int) (f1 f2 : Bool) (w : World) (h : ∀ W j, RowO W j 0 2 (twoR x1 x2) (twoR y1 y2) (twoR f1 f2) → Calls Tryd.prog 67 #[.slice (some ⟨j, 0, none⟩) 2 2] W fun e w' => e = .returned (.tuple #[.string ⟨#[]⟩, errOf cc]) ∧ Below W.heap.size W w') : Calls Tryd.prog 33 #[.agg #[.int .i64 x1, .int .i64 y1, .bool f1], .agg #[.int .i64 x2, .int .i64 y2, .bool f2]] w fun e w' => e = .returned (.tuple #[.int .i64 0, errOf cc]) ∧ Below w.heap.size w w' := by
  have HL : Hid (∀ W j, RowO W j 0 2 (twoR x1 x2) (twoR y1 y2) (twoR f1 f2) → Calls Tryd.prog 67 #[.slice (some ⟨j, 0, none⟩) 2 2] W fun e w' => e = .returned (.tuple #[.string ⟨#[]⟩, errOf cc]) ∧ Below W.heap.size W w') := h
  clear h
  go_enter Tryd.func33, Tryd.ntmps33
  go_upto_region 1 with fail
  refine wp_gen (fun V => At V (w.heap.size) [.int .i64 x1, .int .i64 y1, .bool f1] ∧ At V (w.heap.size + 1) [.int .i64 x2, .int .i64 y2, .bool f2] ∧ Below w.heap.size w V) ⟨by repeat (first | (with_reducible assumption) | ((with_reducible refine at_new' _ _ _ _ ?_); (first | rfl | (simp; done))) | (with_reducible refine At.alloc ?_ _) | (with_reducible refine At.drew ?_) | (with_reducible refine At.drewN ?_) | (with_reducible refine At.set ?_ (by omega)) | (with_reducible apply At.store4) | (with_reducible apply At.store3) | (with_reducible apply At.store2) | (with_reducible apply At.put43) | (refine At.below ?_ (by with_reducible assumption))), by repeat (first | (with_reducible assumption) | ((with_reducible refine at_new' _ _ _ _ ?_); (first | rfl | (simp; done))) | (with_reducible refine At.alloc ?_ _) | (with_reducible refine At.drew ?_) | (with_reducible refine At.drewN ?_) | (with_reducible refine At.set ?_ (by omega)) | (with_reducible apply At.store4) | (with_reducible apply At.store3) | (with_reducible apply At.store2) | (with_reducible apply At.put43) | (refine At.below ?_ (by with_reducible assumption))), by repeat (first | (with_reducible exact Below.refl _ _) | (with_reducible assumption) | (with_reducible refine Below.setCell ?_ (by first | (simp; done) | (simp; omega) | omega) _) | (with_reducible refine Below.alloc ?_ (by first | (simp; done) | (simp; omega) | omega) _) | (refine bl_call ?_ (by assumption) (by first | (simp; done) | (simp; omega) | omega)) | (with_reducible refine bl_drewN ?_) | (with_reducible refine Below.drew ?_) | (with_reducible refine bl_grow ?_ (by first | (simp; done) | (simp; omega) | omega)))⟩ ?_
  rintro V ⟨krV, keV, hqV⟩
  have hzV := hqV.size
  obtain ⟨zrV, cr0V, cr1V, cr2V, fr0V, fr1V, fr2V⟩ := krV.three
  obtain ⟨zeV, ce0V, ce1V, ce2V, fe0V, fe1V, fe2V⟩ := keV.three
  go_wp2_with (go_at_call 67; refine (HL.out _ V.heap.size ⟨by simp, fun i hi => by rcases lt_two hi with rfl | rfl <;> exact ⟨by simp [two_0, two_1], by simp [two_0, two_1], by simp [two_0, two_1]⟩⟩).mono ?_; rintro e w1 ⟨rfl, hb1⟩; have hq1 : Below w.heap.size w w1 := (by repeat (first | (with_reducible exact Below.refl _ _) | (with_reducible assumption) | (with_reducible refine Below.setCell ?_ (by first | (simp; done) | (simp; omega) | omega) _) | (with_reducible refine Below.alloc ?_ (by first | (simp; done) | (simp; omega) | omega) _) | (refine bl_call ?_ (by assumption) (by first | (simp; done) | (simp; omega) | omega)) | (with_reducible refine bl_drewN ?_) | (with_reducible refine Below.drew ?_) | (with_reducible refine bl_grow ?_ (by first | (simp; done) | (simp; omega) | omega)))); have hz1 := hq1.size; clear hb1)
  exact bodyPost_ret (v := .tuple #[.int .i64 0, errOf cc]) (by simp [results, Tryd.results33, go_sem, *]) rfl ⟨rfl, by repeat (first | (with_reducible exact Below.refl _ _) | (with_reducible assumption) | (with_reducible refine Below.setCell ?_ (by first | (simp; done) | (simp; omega) | omega) _) | (with_reducible refine Below.alloc ?_ (by first | (simp; done) | (simp; omega) | omega) _) | (refine bl_call ?_ (by assumption) (by first | (simp; done) | (simp; omega) | omega)) | (with_reducible refine bl_drewN ?_) | (with_reducible refine Below.drew ?_) | (with_reducible refine bl_grow ?_ (by first | (simp; done) | (simp; omega) | omega)))⟩
set_option maxRecDepth 100000 in
set_option maxHeartbeats 8000000 in
theorem bask_ok (a b : Nat) (w : World) : Calls Tryd.prog 33 #[.agg #[.int .i64 ((tM a).1 : Int), .int .i64 ((tM a).2.1 : Int), .bool (tM a).2.2], .agg #[.int .i64 ((tM b).1 : Int), .int .i64 ((tM b).2.1 : Int), .bool (tM b).2.2]] w fun e w' => e = .returned (.tuple #[.int .i64 (baN a b : Int), .nilIface]) ∧ Below w.heap.size w w' := by
  have HL : Hid (∀ W j, RowO W j 0 2 (twoR ((tM a).1 : Int) ((tM b).1 : Int)) (twoR ((tM a).2.1 : Int) ((tM b).2.1 : Int)) (twoR (tM a).2.2 (tM b).2.2) → Calls Tryd.prog 67 #[.slice (some ⟨j, 0, none⟩) 2 2] W fun e w' => e = .returned (.tuple #[.string (lsB (twoR a b) 2), .nilIface]) ∧ Below W.heap.size W w') := fun W j hr => by
    have hK : ∀ i, i < 2 → twoR ((tM a).1 : Int) ((tM b).1 : Int) i = ((tM (twoR a b i)).1 : Int) ∧ twoR ((tM a).2.1 : Int) ((tM b).2.1 : Int) i = ((tM (twoR a b i)).2.1 : Int) ∧ twoR (tM a).2.2 (tM b).2.2 i = (tM (twoR a b i)).2.2 := fun i hi => by rcases lt_two hi with rfl | rfl <;> exact ⟨rfl, rfl, rfl⟩
    exact list_row j 0 2 2 _ _ _ (twoR a b) W (by omega) hr (brow_zero hK) hK
  have HN : Hid (∀ w, Calls Tryd.prog 68 #[.string (lsB (twoR a b) 2)] w fun e w' => e = .returned (.int .i64 (baN a b : Int)) ∧ Below w.heap.size w w') := fun w => by
    have := below_of_same (number_any (lsB (twoR a b) 2) w (by have := ls_size (twoR a b) (n := 2) (by omega); omega))
    rwa [baI] at this
  obtain ⟨n, hn⟩ : ∃ n, baN a b = n := ⟨_, rfl⟩
  obtain ⟨t, ht⟩ : ∃ t, lsB (twoR a b) 2 = t := ⟨_, rfl⟩
  rw [hn, ht] at HN
  rw [ht] at HL
  rw [hn]
  clear hn ht
  go_enter Tryd.func33, Tryd.ntmps33
  go_upto_region 1 with fail
  refine wp_gen (fun V => At V (w.heap.size) [.int .i64 ((tM a).1 : Int), .int .i64 ((tM a).2.1 : Int), .bool (tM a).2.2] ∧ At V (w.heap.size + 1) [.int .i64 ((tM b).1 : Int), .int .i64 ((tM b).2.1 : Int), .bool (tM b).2.2] ∧ Below w.heap.size w V) ⟨by repeat (first | (with_reducible assumption) | ((with_reducible refine at_new' _ _ _ _ ?_); (first | rfl | (simp; done))) | (with_reducible refine At.alloc ?_ _) | (with_reducible refine At.drew ?_) | (with_reducible refine At.drewN ?_) | (with_reducible refine At.set ?_ (by omega)) | (with_reducible apply At.store4) | (with_reducible apply At.store3) | (with_reducible apply At.store2) | (with_reducible apply At.put43) | (refine At.below ?_ (by with_reducible assumption))), by repeat (first | (with_reducible assumption) | ((with_reducible refine at_new' _ _ _ _ ?_); (first | rfl | (simp; done))) | (with_reducible refine At.alloc ?_ _) | (with_reducible refine At.drew ?_) | (with_reducible refine At.drewN ?_) | (with_reducible refine At.set ?_ (by omega)) | (with_reducible apply At.store4) | (with_reducible apply At.store3) | (with_reducible apply At.store2) | (with_reducible apply At.put43) | (refine At.below ?_ (by with_reducible assumption))), by repeat (first | (with_reducible exact Below.refl _ _) | (with_reducible assumption) | (with_reducible refine Below.setCell ?_ (by first | (simp; done) | (simp; omega) | omega) _) | (with_reducible refine Below.alloc ?_ (by first | (simp; done) | (simp; omega) | omega) _) | (refine bl_call ?_ (by assumption) (by first | (simp; done) | (simp; omega) | omega)) | (with_reducible refine bl_drewN ?_) | (with_reducible refine Below.drew ?_) | (with_reducible refine bl_grow ?_ (by first | (simp; done) | (simp; omega) | omega)))⟩ ?_
  rintro V ⟨krV, keV, hqV⟩
  have hzV := hqV.size
  obtain ⟨zrV, cr0V, cr1V, cr2V, fr0V, fr1V, fr2V⟩ := krV.three
  obtain ⟨zeV, ce0V, ce1V, ce2V, fe0V, fe1V, fe2V⟩ := keV.three
  go_wp2_with (first | (go_at_call 67; refine (HL.out _ V.heap.size ⟨by simp, fun i hi => by rcases lt_two hi with rfl | rfl <;> exact ⟨by simp [two_0, two_1], by simp [two_0, two_1], by simp [two_0, two_1]⟩⟩).mono ?_; rintro e w1 ⟨rfl, hb1⟩; have hq1 : Below w.heap.size w w1 := (by repeat (first | (with_reducible exact Below.refl _ _) | (with_reducible assumption) | (with_reducible refine Below.setCell ?_ (by first | (simp; done) | (simp; omega) | omega) _) | (with_reducible refine Below.alloc ?_ (by first | (simp; done) | (simp; omega) | omega) _) | (refine bl_call ?_ (by assumption) (by first | (simp; done) | (simp; omega) | omega)) | (with_reducible refine bl_drewN ?_) | (with_reducible refine Below.drew ?_) | (with_reducible refine bl_grow ?_ (by first | (simp; done) | (simp; omega) | omega)))); have hz1 := hq1.size; clear hb1) | (go_at_call 68; refine (HN.out _).mono ?_; rintro e w2 ⟨rfl, hb2⟩; have hq2 : Below w.heap.size w w2 := (by repeat (first | (with_reducible exact Below.refl _ _) | (with_reducible assumption) | (with_reducible refine Below.setCell ?_ (by first | (simp; done) | (simp; omega) | omega) _) | (with_reducible refine Below.alloc ?_ (by first | (simp; done) | (simp; omega) | omega) _) | (refine bl_call ?_ (by assumption) (by first | (simp; done) | (simp; omega) | omega)) | (with_reducible refine bl_drewN ?_) | (with_reducible refine Below.drew ?_) | (with_reducible refine bl_grow ?_ (by first | (simp; done) | (simp; omega) | omega)))); clear hb2))
  exact bodyPost_ret (v := .tuple #[.int .i64 (n : Int), .nilIface]) (by simp [results, Tryd.results33, go_sem, *]) rfl ⟨rfl, by repeat (first | (with_reducible exact Below.refl _ _) | (with_reducible assumption) | (with_reducible refine Below.setCell ?_ (by first | (simp; done) | (simp; omega) | omega) _) | (with_reducible refine Below.alloc ?_ (by first | (simp; done) | (simp; omega) | omega) _) | (refine bl_call ?_ (by assumption) (by first | (simp; done) | (simp; omega) | omega)) | (with_reducible refine bl_drewN ?_) | (with_reducible refine Below.drew ?_) | (with_reducible refine bl_grow ?_ (by first | (simp; done) | (simp; omega) | omega)))⟩
theorem bask_is : BAskIs :=
  ⟨fun x1 y1 x2 y2 f1 f2 w h => bask_no _ _ _ _ _ _ _ w (fun W j hr => list_no j 0 2 2 _ _ _ W (by omega) hr h), fun a b w => bask_ok a b w⟩
/-- The first is right, the second is not. -/
theorem bask_2 (T : Nat) (x2 y2 : Int) (f2 : Bool) (w : World) (h : (ckI x2 y2 f2 == 0) = false) : Calls Tryd.prog 33 #[.agg #[.int .i64 ((tM T).1 : Int), .int .i64 ((tM T).2.1 : Int), .bool (tM T).2.2], .agg #[.int .i64 x2, .int .i64 y2, .bool f2]] w fun e w' => e = .returned (.tuple #[.int .i64 0, errOf (ckI x2 y2 f2)]) ∧ Below w.heap.size w w' := by
  have e : rowE (twoR ((tM T).1 : Int) x2) (twoR ((tM T).2.1 : Int) y2) (twoR (tM T).2.2 f2) 2 = ckI x2 y2 f2 := by
    have h1 : rowE (twoR ((tM T).1 : Int) x2) (twoR ((tM T).2.1 : Int) y2) (twoR (tM T).2.2 f2) 1 = 0 := brow_zero (K := fun _ => T) fun i hi => by
      obtain rfl : i = 0 := by omega
      exact ⟨rfl, rfl, rfl⟩
    unfold rowE
    rw [h1]
    rfl
  have := bask_is.1 ((tM T).1 : Int) ((tM T).2.1 : Int) x2 y2 (tM T).2.2 f2 w (by rw [e]; exact h)
  rwa [e] at this
set_option maxRecDepth 100000 in
set_option maxHeartbeats 8000000 in
theorem bclose_no (r k x1 y1 : Int) (f1 : Bool) (w : World) (h : (resB r && secB k) = false) : Calls Tryd.prog 29 #[.int .i64 r, .int .i64 k, .agg #[.int .i64 x1, .int .i64 y1, .bool f1]] w fun e w' => e = .returned (.tuple #[.agg #[.int .i64 0, .int .i64 0, .bool false, .int .i64 0], errOf 1]) ∧ Below w.heap.size w w' := by
  cases hv : resB r with
  | false =>
    have H1 : Hid (∀ w, Calls Tryd.prog 61 #[.int .i64 r] w fun e w' => e = .returned (.bool false) ∧ w' = w) := bisnum hv
    clear hv h
    go_enter Tryd.func29, Tryd.ntmps29
    go_wp2_with (go_at_call 61; refine (H1.out _).mono ?_; rintro e v1 ⟨rfl, hv1⟩; subst v1)
    exact bodyPost_ret (v := .tuple #[.agg #[.int .i64 0, .int .i64 0, .bool false, .int .i64 0], errOf 1]) (by simp [results, Tryd.results29, go_sem, *]) rfl ⟨rfl, by repeat (first | (with_reducible exact Below.refl _ _) | (with_reducible assumption) | (with_reducible refine Below.setCell ?_ (by first | (simp; done) | (simp; omega) | omega) _) | (with_reducible refine Below.alloc ?_ (by first | (simp; done) | (simp; omega) | omega) _) | (refine bl_call ?_ (by assumption) (by first | (simp; done) | (simp; omega) | omega)) | (with_reducible refine bl_drewN ?_) | (with_reducible refine Below.drew ?_) | (with_reducible refine bl_grow ?_ (by first | (simp; done) | (simp; omega) | omega)))⟩
  | true =>
    rw [hv, Bool.true_and] at h
    have H1 : Hid (∀ w, Calls Tryd.prog 61 #[.int .i64 r] w fun e w' => e = .returned (.bool true) ∧ w' = w) := bisnum hv
    cases hk : resB k with
    | false =>
      have H2 : Hid (∀ w, Calls Tryd.prog 61 #[.int .i64 k] w fun e w' => e = .returned (.bool false) ∧ w' = w) := bisnum hk
      clear hv h hk
      go_enter Tryd.func29, Tryd.ntmps29
      go_wp2_with (first | (go_at_call 61; refine (H1.out _).mono ?_; rintro e v1 ⟨rfl, hv1⟩; subst v1) | (go_at_call 61; refine (H2.out _).mono ?_; rintro e v1 ⟨rfl, hv1⟩; subst v1))
      exact bodyPost_ret (v := .tuple #[.agg #[.int .i64 0, .int .i64 0, .bool false, .int .i64 0], errOf 1]) (by simp [results, Tryd.results29, go_sem, *]) rfl ⟨rfl, by repeat (first | (with_reducible exact Below.refl _ _) | (with_reducible assumption) | (with_reducible refine Below.setCell ?_ (by first | (simp; done) | (simp; omega) | omega) _) | (with_reducible refine Below.alloc ?_ (by first | (simp; done) | (simp; omega) | omega) _) | (refine bl_call ?_ (by assumption) (by first | (simp; done) | (simp; omega) | omega)) | (with_reducible refine bl_drewN ?_) | (with_reducible refine Below.drew ?_) | (with_reducible refine bl_grow ?_ (by first | (simp; done) | (simp; omega) | omega)))⟩
    | true =>
      have H2 : Hid (∀ w, Calls Tryd.prog 61 #[.int .i64 k] w fun e w' => e = .returned (.bool true) ∧ w' = w) := bisnum hk
      obtain rfl : k = 0 := by
        have a := of_decide_eq_true (p := 0 ≤ k ∧ k < 1013) hk
        have b := of_decide_eq_false (p := 1 ≤ k ∧ k < 1013) h
        omega
      clear hv h hk
      go_enter Tryd.func29, Tryd.ntmps29
      go_wp2_with (first | (go_at_call 61; refine (H1.out _).mono ?_; rintro e v1 ⟨rfl, hv1⟩; subst v1) | (go_at_call 61; refine (H2.out _).mono ?_; rintro e v1 ⟨rfl, hv1⟩; subst v1))
      exact bodyPost_ret (v := .tuple #[.agg #[.int .i64 0, .int .i64 0, .bool false, .int .i64 0], errOf 1]) (by simp [results, Tryd.results29, go_sem, *]) rfl ⟨rfl, by repeat (first | (with_reducible exact Below.refl _ _) | (with_reducible assumption) | (with_reducible refine Below.setCell ?_ (by first | (simp; done) | (simp; omega) | omega) _) | (with_reducible refine Below.alloc ?_ (by first | (simp; done) | (simp; omega) | omega) _) | (refine bl_call ?_ (by assumption) (by first | (simp; done) | (simp; omega) | omega)) | (with_reducible refine bl_drewN ?_) | (with_reducible refine Below.drew ?_) | (with_reducible refine bl_grow ?_ (by first | (simp; done) | (simp; omega) | omega)))⟩
set_option maxRecDepth 100000 in
set_option maxHeartbeats 8000000 in
theorem bclose_e (h r k : Nat) (T : Sn) (x1 y1 cc : Int) (f1 : Bool) (w : World) (r1 : r < 1013) (k0 : 1 ≤ k) (k1 : k < 1013) (hs : ∀ w, Calls Tryd.prog 62 #[] w fun e w' => e = .returned (.agg #[.int .i64 ((tM (4 * h)).1 : Int), .int .i64 ((tM (4 * h)).2.1 : Int), .bool (tM (4 * h)).2.2]) ∧ Below w.heap.size w w') (he : tM (4 * h * em (k : Int)) = T) (ha : ∀ w, Calls Tryd.prog 33 #[.agg #[.int .i64 ((T).1 : Int), .int .i64 ((T).2.1 : Int), .bool (T).2.2], .agg #[.int .i64 x1, .int .i64 y1, .bool f1]] w fun e w' => e = .returned (.tuple #[.int .i64 0, errOf cc]) ∧ Below w.heap.size w w') : Calls Tryd.prog 29 #[.int .i64 (r : Int), .int .i64 (k : Int), .agg #[.int .i64 x1, .int .i64 y1, .bool f1]] w fun e w' => e = .returned (.tuple #[.agg #[.int .i64 0, .int .i64 0, .bool false, .int .i64 0], errOf cc]) ∧ Below w.heap.size w w' := by
  have H1 : Hid (∀ w, Calls Tryd.prog 61 #[.int .i64 (r : Int)] w fun e w' => e = .returned (.bool true) ∧ w' = w) := bisnum (decide_eq_true ⟨by omega, by omega⟩)
  have H2 : Hid (∀ w, Calls Tryd.prog 61 #[.int .i64 (k : Int)] w fun e w' => e = .returned (.bool true) ∧ w' = w) := bisnum (decide_eq_true ⟨by omega, by omega⟩)
  have hk0 : ((k : Int) == 0) = false := by rw [beq_eq_false_iff_ne]; omega
  have HS : Hid (∀ w, Calls Tryd.prog 62 #[] w fun e w' => e = .returned (.agg #[.int .i64 ((tM (4 * h)).1 : Int), .int .i64 ((tM (4 * h)).2.1 : Int), .bool (tM (4 * h)).2.2]) ∧ Below w.heap.size w w') := hs
  have E : Hid (tM (4 * h * em (k : Int)) = T) := he
  have HA : Hid (∀ w, Calls Tryd.prog 33 #[.agg #[.int .i64 ((T).1 : Int), .int .i64 ((T).2.1 : Int), .bool (T).2.2], .agg #[.int .i64 x1, .int .i64 y1, .bool f1]] w fun e w' => e = .returned (.tuple #[.int .i64 0, errOf cc]) ∧ Below w.heap.size w w') := ha
  clear hs he ha
  have m1 : True := trivial; have m2 : True := trivial; have m3 : True := trivial
  go_enter Tryd.func29, Tryd.ntmps29
  go_wp2_with (first | (go_at_call 61; refine (H1.out _).mono ?_; rintro e v1 ⟨rfl, hv1⟩; subst v1) | (go_at_call 61; refine (H2.out _).mono ?_; rintro e v1 ⟨rfl, hv1⟩; subst v1) | (go_at_call 62; clear m1; refine (HS.out _).mono ?_; rintro e w1 ⟨rfl, hbw1⟩; have kew1 : At w1 (w.heap.size) [.int .i64 x1, .int .i64 y1, .bool f1] := (by repeat (first | (with_reducible assumption) | ((with_reducible refine at_new' _ _ _ _ ?_); (first | rfl | (simp; done))) | (with_reducible refine At.alloc ?_ _) | (with_reducible refine At.drew ?_) | (with_reducible refine At.drewN ?_) | (with_reducible refine At.set ?_ (by omega)) | (with_reducible apply At.store4) | (with_reducible apply At.store3) | (with_reducible apply At.store2) | (with_reducible apply At.put43) | (refine At.below ?_ (by with_reducible assumption)))); have kzw1 : At w1 (w.heap.size + 1) [.int .i64 0, .int .i64 0, .bool false, .int .i64 0] := (by repeat (first | (with_reducible assumption) | ((with_reducible refine at_new' _ _ _ _ ?_); (first | rfl | (simp; done))) | (with_reducible refine At.alloc ?_ _) | (with_reducible refine At.drew ?_) | (with_reducible refine At.drewN ?_) | (with_reducible refine At.set ?_ (by omega)) | (with_reducible apply At.store4) | (with_reducible apply At.store3) | (with_reducible apply At.store2) | (with_reducible apply At.put43) | (refine At.below ?_ (by with_reducible assumption)))); have hqw1 : Below w.heap.size w w1 := (by repeat (first | (with_reducible exact Below.refl _ _) | (with_reducible assumption) | (with_reducible refine Below.setCell ?_ (by first | (simp; done) | (simp; omega) | omega) _) | (with_reducible refine Below.alloc ?_ (by first | (simp; done) | (simp; omega) | omega) _) | (refine bl_call ?_ (by assumption) (by first | (simp; done) | (simp; omega) | omega)) | (with_reducible refine bl_drewN ?_) | (with_reducible refine Below.drew ?_) | (with_reducible refine bl_grow ?_ (by first | (simp; done) | (simp; omega) | omega)))); have hzw1 := hqw1.size; obtain ⟨zew1, ce0w1, ce1w1, ce2w1, fe0w1, fe1w1, fe2w1⟩ := kew1.three; obtain ⟨zzw1, cz0w1, cz1w1, cz2w1, cz3w1, fz0w1, fz1w1, fz2w1, fz3w1⟩ := kzw1.four; clear hbw1) | (go_at_call 36; clear m2; refine (times_eq E.out _).mono ?_; rintro e w2 ⟨rfl, hbw2⟩; have kew2 : At w2 (w.heap.size) [.int .i64 x1, .int .i64 y1, .bool f1] := (by repeat (first | (with_reducible assumption) | ((with_reducible refine at_new' _ _ _ _ ?_); (first | rfl | (simp; done))) | (with_reducible refine At.alloc ?_ _) | (with_reducible refine At.drew ?_) | (with_reducible refine At.drewN ?_) | (with_reducible refine At.set ?_ (by omega)) | (with_reducible apply At.store4) | (with_reducible apply At.store3) | (with_reducible apply At.store2) | (with_reducible apply At.put43) | (refine At.below ?_ (by with_reducible assumption)))); have kzw2 : At w2 (w.heap.size + 1) [.int .i64 0, .int .i64 0, .bool false, .int .i64 0] := (by repeat (first | (with_reducible assumption) | ((with_reducible refine at_new' _ _ _ _ ?_); (first | rfl | (simp; done))) | (with_reducible refine At.alloc ?_ _) | (with_reducible refine At.drew ?_) | (with_reducible refine At.drewN ?_) | (with_reducible refine At.set ?_ (by omega)) | (with_reducible apply At.store4) | (with_reducible apply At.store3) | (with_reducible apply At.store2) | (with_reducible apply At.put43) | (refine At.below ?_ (by with_reducible assumption)))); have hqw2 : Below w.heap.size w w2 := (by repeat (first | (with_reducible exact Below.refl _ _) | (with_reducible assumption) | (with_reducible refine Below.setCell ?_ (by first | (simp; done) | (simp; omega) | omega) _) | (with_reducible refine Below.alloc ?_ (by first | (simp; done) | (simp; omega) | omega) _) | (refine bl_call ?_ (by assumption) (by first | (simp; done) | (simp; omega) | omega)) | (with_reducible refine bl_drewN ?_) | (with_reducible refine Below.drew ?_) | (with_reducible refine bl_grow ?_ (by first | (simp; done) | (simp; omega) | omega)))); have hzw2 := hqw2.size; obtain ⟨zew2, ce0w2, ce1w2, ce2w2, fe0w2, fe1w2, fe2w2⟩ := kew2.three; obtain ⟨zzw2, cz0w2, cz1w2, cz2w2, cz3w2, fz0w2, fz1w2, fz2w2, fz3w2⟩ := kzw2.four; clear kew1 ce0w1 fe0w1 ce1w1 fe1w1 ce2w1 fe2w1 kzw1 cz0w1 fz0w1 cz1w1 fz1w1 cz2w1 fz2w1 cz3w1 fz3w1 hqw1; clear hbw2) | (go_at_call 33; clear m3; refine (HA.out _).mono ?_; rintro e w3 ⟨rfl, hbw3⟩; have kew3 : At w3 (w.heap.size) [.int .i64 x1, .int .i64 y1, .bool f1] := (by repeat (first | (with_reducible assumption) | ((with_reducible refine at_new' _ _ _ _ ?_); (first | rfl | (simp; done))) | (with_reducible refine At.alloc ?_ _) | (with_reducible refine At.drew ?_) | (with_reducible refine At.drewN ?_) | (with_reducible refine At.set ?_ (by omega)) | (with_reducible apply At.store4) | (with_reducible apply At.store3) | (with_reducible apply At.store2) | (with_reducible apply At.put43) | (refine At.below ?_ (by with_reducible assumption)))); have kzw3 : At w3 (w.heap.size + 1) [.int .i64 0, .int .i64 0, .bool false, .int .i64 0] := (by repeat (first | (with_reducible assumption) | ((with_reducible refine at_new' _ _ _ _ ?_); (first | rfl | (simp; done))) | (with_reducible refine At.alloc ?_ _) | (with_reducible refine At.drew ?_) | (with_reducible refine At.drewN ?_) | (with_reducible refine At.set ?_ (by omega)) | (with_reducible apply At.store4) | (with_reducible apply At.store3) | (with_reducible apply At.store2) | (with_reducible apply At.put43) | (refine At.below ?_ (by with_reducible assumption)))); have ktw3 : At w3 (w2.heap.size) [.int .i64 ((T).1 : Int), .int .i64 ((T).2.1 : Int), .bool (T).2.2] := (by repeat (first | (with_reducible assumption) | ((with_reducible refine at_new' _ _ _ _ ?_); (first | rfl | (simp; done))) | (with_reducible refine At.alloc ?_ _) | (with_reducible refine At.drew ?_) | (with_reducible refine At.drewN ?_) | (with_reducible refine At.set ?_ (by omega)) | (with_reducible apply At.store4) | (with_reducible apply At.store3) | (with_reducible apply At.store2) | (with_reducible apply At.put43) | (refine At.below ?_ (by with_reducible assumption)))); have hqw3 : Below w.heap.size w w3 := (by repeat (first | (with_reducible exact Below.refl _ _) | (with_reducible assumption) | (with_reducible refine Below.setCell ?_ (by first | (simp; done) | (simp; omega) | omega) _) | (with_reducible refine Below.alloc ?_ (by first | (simp; done) | (simp; omega) | omega) _) | (refine bl_call ?_ (by assumption) (by first | (simp; done) | (simp; omega) | omega)) | (with_reducible refine bl_drewN ?_) | (with_reducible refine Below.drew ?_) | (with_reducible refine bl_grow ?_ (by first | (simp; done) | (simp; omega) | omega)))); have hzw3 := hqw3.size; obtain ⟨zew3, ce0w3, ce1w3, ce2w3, fe0w3, fe1w3, fe2w3⟩ := kew3.three; obtain ⟨zzw3, cz0w3, cz1w3, cz2w3, cz3w3, fz0w3, fz1w3, fz2w3, fz3w3⟩ := kzw3.four; obtain ⟨ztw3, ct0w3, ct1w3, ct2w3, ft0w3, ft1w3, ft2w3⟩ := ktw3.three; clear kew2 ce0w2 fe0w2 ce1w2 fe1w2 ce2w2 fe2w2 kzw2 cz0w2 fz0w2 cz1w2 fz1w2 cz2w2 fz2w2 cz3w2 fz3w2 hqw2; clear hbw3))
  exact bodyPost_ret (v := .tuple #[.agg #[.int .i64 0, .int .i64 0, .bool false, .int .i64 0], errOf cc]) (by simp [results, Tryd.results29, go_sem, *]) rfl ⟨rfl, by repeat (first | (with_reducible exact Below.refl _ _) | (with_reducible assumption) | (with_reducible refine Below.setCell ?_ (by first | (simp; done) | (simp; omega) | omega) _) | (with_reducible refine Below.alloc ?_ (by first | (simp; done) | (simp; omega) | omega) _) | (refine bl_call ?_ (by assumption) (by first | (simp; done) | (simp; omega) | omega)) | (with_reducible refine bl_drewN ?_) | (with_reducible refine Below.drew ?_) | (with_reducible refine bl_grow ?_ (by first | (simp; done) | (simp; omega) | omega)))⟩
set_option maxRecDepth 100000 in
set_option maxHeartbeats 8000000 in
theorem bclose_ok (h r k c s : Nat) (T E : Sn) (w : World) (r1 : r < 1013) (k0 : 1 ≤ k) (k1 : k < 1013) (hc : c < 1013) (hs : ∀ w, Calls Tryd.prog 62 #[] w fun e w' => e = .returned (.agg #[.int .i64 ((tM (4 * h)).1 : Int), .int .i64 ((tM (4 * h)).2.1 : Int), .bool (tM (4 * h)).2.2]) ∧ Below w.heap.size w w') (he : tM (4 * h * em (k : Int)) = T) (ha : ∀ w, Calls Tryd.prog 33 #[.agg #[.int .i64 ((T).1 : Int), .int .i64 ((T).2.1 : Int), .bool (T).2.2], .agg #[.int .i64 ((E).1 : Int), .int .i64 ((E).2.1 : Int), .bool (E).2.2]] w fun e w' => e = .returned (.tuple #[.int .i64 (c : Int), .nilIface]) ∧ Below w.heap.size w w') (hS : ((k : Int) + (c : Int) * (r : Int)) % 1013 = (s : Int)) : Calls Tryd.prog 29 #[.int .i64 (r : Int), .int .i64 (k : Int), .agg #[.int .i64 ((E).1 : Int), .int .i64 ((E).2.1 : Int), .bool (E).2.2]] w fun e w' => e = .returned (.tuple #[.agg #[.int .i64 ((T).1 : Int), .int .i64 ((T).2.1 : Int), .bool (T).2.2, .int .i64 (s : Int)], .nilIface]) ∧ Below w.heap.size w w' := by
  have H1 : Hid (∀ w, Calls Tryd.prog 61 #[.int .i64 (r : Int)] w fun e w' => e = .returned (.bool true) ∧ w' = w) := bisnum (decide_eq_true ⟨by omega, by omega⟩)
  have H2 : Hid (∀ w, Calls Tryd.prog 61 #[.int .i64 (k : Int)] w fun e w' => e = .returned (.bool true) ∧ w' = w) := bisnum (decide_eq_true ⟨by omega, by omega⟩)
  have hk0 : ((k : Int) == 0) = false := by rw [beq_eq_false_iff_ne]; omega
  have HS : Hid (∀ w, Calls Tryd.prog 62 #[] w fun e w' => e = .returned (.agg #[.int .i64 ((tM (4 * h)).1 : Int), .int .i64 ((tM (4 * h)).2.1 : Int), .bool (tM (4 * h)).2.2]) ∧ Below w.heap.size w w') := hs
  have ET : Hid (tM (4 * h * em (k : Int)) = T) := he
  have HA : Hid (∀ w, Calls Tryd.prog 33 #[.agg #[.int .i64 ((T).1 : Int), .int .i64 ((T).2.1 : Int), .bool (T).2.2], .agg #[.int .i64 ((E).1 : Int), .int .i64 ((E).2.1 : Int), .bool (E).2.2]] w fun e w' => e = .returned (.tuple #[.int .i64 (c : Int), .nilIface]) ∧ Below w.heap.size w w') := ha
  obtain ⟨b1, b2⟩ := sg_bd hc r1 k1
  clear hs he ha
  have m1 : True := trivial; have m2 : True := trivial; have m3 : True := trivial
  go_enter Tryd.func29, Tryd.ntmps29
  go_wp2_with (first | (go_at_call 61; refine (H1.out _).mono ?_; rintro e v1 ⟨rfl, hv1⟩; subst v1) | (go_at_call 61; refine (H2.out _).mono ?_; rintro e v1 ⟨rfl, hv1⟩; subst v1) | (go_at_call 62; clear m1; refine (HS.out _).mono ?_; rintro e w1 ⟨rfl, hbw1⟩; have kew1 : At w1 (w.heap.size) [.int .i64 ((E).1 : Int), .int .i64 ((E).2.1 : Int), .bool (E).2.2] := (by repeat (first | (with_reducible assumption) | ((with_reducible refine at_new' _ _ _ _ ?_); (first | rfl | (simp; done))) | (with_reducible refine At.alloc ?_ _) | (with_reducible refine At.drew ?_) | (with_reducible refine At.drewN ?_) | (with_reducible refine At.set ?_ (by omega)) | (with_reducible apply At.store4) | (with_reducible apply At.store3) | (with_reducible apply At.store2) | (with_reducible apply At.put43) | (refine At.below ?_ (by with_reducible assumption)))); have kzw1 : At w1 (w.heap.size + 1) [.int .i64 0, .int .i64 0, .bool false, .int .i64 0] := (by repeat (first | (with_reducible assumption) | ((with_reducible refine at_new' _ _ _ _ ?_); (first | rfl | (simp; done))) | (with_reducible refine At.alloc ?_ _) | (with_reducible refine At.drew ?_) | (with_reducible refine At.drewN ?_) | (with_reducible refine At.set ?_ (by omega)) | (with_reducible apply At.store4) | (with_reducible apply At.store3) | (with_reducible apply At.store2) | (with_reducible apply At.put43) | (refine At.below ?_ (by with_reducible assumption)))); have hqw1 : Below w.heap.size w w1 := (by repeat (first | (with_reducible exact Below.refl _ _) | (with_reducible assumption) | (with_reducible refine Below.setCell ?_ (by first | (simp; done) | (simp; omega) | omega) _) | (with_reducible refine Below.alloc ?_ (by first | (simp; done) | (simp; omega) | omega) _) | (refine bl_call ?_ (by assumption) (by first | (simp; done) | (simp; omega) | omega)) | (with_reducible refine bl_drewN ?_) | (with_reducible refine Below.drew ?_) | (with_reducible refine bl_grow ?_ (by first | (simp; done) | (simp; omega) | omega)))); have hzw1 := hqw1.size; obtain ⟨zew1, ce0w1, ce1w1, ce2w1, fe0w1, fe1w1, fe2w1⟩ := kew1.three; obtain ⟨zzw1, cz0w1, cz1w1, cz2w1, cz3w1, fz0w1, fz1w1, fz2w1, fz3w1⟩ := kzw1.four; clear hbw1) | (go_at_call 36; clear m2; refine (times_eq ET.out _).mono ?_; rintro e w2 ⟨rfl, hbw2⟩; have kew2 : At w2 (w.heap.size) [.int .i64 ((E).1 : Int), .int .i64 ((E).2.1 : Int), .bool (E).2.2] := (by repeat (first | (with_reducible assumption) | ((with_reducible refine at_new' _ _ _ _ ?_); (first | rfl | (simp; done))) | (with_reducible refine At.alloc ?_ _) | (with_reducible refine At.drew ?_) | (with_reducible refine At.drewN ?_) | (with_reducible refine At.set ?_ (by omega)) | (with_reducible apply At.store4) | (with_reducible apply At.store3) | (with_reducible apply At.store2) | (with_reducible apply At.put43) | (refine At.below ?_ (by with_reducible assumption)))); have kzw2 : At w2 (w.heap.size + 1) [.int .i64 0, .int .i64 0, .bool false, .int .i64 0] := (by repeat (first | (with_reducible assumption) | ((with_reducible refine at_new' _ _ _ _ ?_); (first | rfl | (simp; done))) | (with_reducible refine At.alloc ?_ _) | (with_reducible refine At.drew ?_) | (with_reducible refine At.drewN ?_) | (with_reducible refine At.set ?_ (by omega)) | (with_reducible apply At.store4) | (with_reducible apply At.store3) | (with_reducible apply At.store2) | (with_reducible apply At.put43) | (refine At.below ?_ (by with_reducible assumption)))); have hqw2 : Below w.heap.size w w2 := (by repeat (first | (with_reducible exact Below.refl _ _) | (with_reducible assumption) | (with_reducible refine Below.setCell ?_ (by first | (simp; done) | (simp; omega) | omega) _) | (with_reducible refine Below.alloc ?_ (by first | (simp; done) | (simp; omega) | omega) _) | (refine bl_call ?_ (by assumption) (by first | (simp; done) | (simp; omega) | omega)) | (with_reducible refine bl_drewN ?_) | (with_reducible refine Below.drew ?_) | (with_reducible refine bl_grow ?_ (by first | (simp; done) | (simp; omega) | omega)))); have hzw2 := hqw2.size; obtain ⟨zew2, ce0w2, ce1w2, ce2w2, fe0w2, fe1w2, fe2w2⟩ := kew2.three; obtain ⟨zzw2, cz0w2, cz1w2, cz2w2, cz3w2, fz0w2, fz1w2, fz2w2, fz3w2⟩ := kzw2.four; clear kew1 ce0w1 fe0w1 ce1w1 fe1w1 ce2w1 fe2w1 kzw1 cz0w1 fz0w1 cz1w1 fz1w1 cz2w1 fz2w1 cz3w1 fz3w1 hqw1; clear hbw2) | (go_at_call 33; clear m3; refine (HA.out _).mono ?_; rintro e w3 ⟨rfl, hbw3⟩; have kew3 : At w3 (w.heap.size) [.int .i64 ((E).1 : Int), .int .i64 ((E).2.1 : Int), .bool (E).2.2] := (by repeat (first | (with_reducible assumption) | ((with_reducible refine at_new' _ _ _ _ ?_); (first | rfl | (simp; done))) | (with_reducible refine At.alloc ?_ _) | (with_reducible refine At.drew ?_) | (with_reducible refine At.drewN ?_) | (with_reducible refine At.set ?_ (by omega)) | (with_reducible apply At.store4) | (with_reducible apply At.store3) | (with_reducible apply At.store2) | (with_reducible apply At.put43) | (refine At.below ?_ (by with_reducible assumption)))); have kzw3 : At w3 (w.heap.size + 1) [.int .i64 0, .int .i64 0, .bool false, .int .i64 0] := (by repeat (first | (with_reducible assumption) | ((with_reducible refine at_new' _ _ _ _ ?_); (first | rfl | (simp; done))) | (with_reducible refine At.alloc ?_ _) | (with_reducible refine At.drew ?_) | (with_reducible refine At.drewN ?_) | (with_reducible refine At.set ?_ (by omega)) | (with_reducible apply At.store4) | (with_reducible apply At.store3) | (with_reducible apply At.store2) | (with_reducible apply At.put43) | (refine At.below ?_ (by with_reducible assumption)))); have ktw3 : At w3 (w2.heap.size) [.int .i64 ((T).1 : Int), .int .i64 ((T).2.1 : Int), .bool (T).2.2] := (by repeat (first | (with_reducible assumption) | ((with_reducible refine at_new' _ _ _ _ ?_); (first | rfl | (simp; done))) | (with_reducible refine At.alloc ?_ _) | (with_reducible refine At.drew ?_) | (with_reducible refine At.drewN ?_) | (with_reducible refine At.set ?_ (by omega)) | (with_reducible apply At.store4) | (with_reducible apply At.store3) | (with_reducible apply At.store2) | (with_reducible apply At.put43) | (refine At.below ?_ (by with_reducible assumption)))); have hqw3 : Below w.heap.size w w3 := (by repeat (first | (with_reducible exact Below.refl _ _) | (with_reducible assumption) | (with_reducible refine Below.setCell ?_ (by first | (simp; done) | (simp; omega) | omega) _) | (with_reducible refine Below.alloc ?_ (by first | (simp; done) | (simp; omega) | omega) _) | (refine bl_call ?_ (by assumption) (by first | (simp; done) | (simp; omega) | omega)) | (with_reducible refine bl_drewN ?_) | (with_reducible refine Below.drew ?_) | (with_reducible refine bl_grow ?_ (by first | (simp; done) | (simp; omega) | omega)))); have hzw3 := hqw3.size; obtain ⟨zew3, ce0w3, ce1w3, ce2w3, fe0w3, fe1w3, fe2w3⟩ := kew3.three; obtain ⟨zzw3, cz0w3, cz1w3, cz2w3, cz3w3, fz0w3, fz1w3, fz2w3, fz3w3⟩ := kzw3.four; obtain ⟨ztw3, ct0w3, ct1w3, ct2w3, ft0w3, ft1w3, ft2w3⟩ := ktw3.three; clear kew2 ce0w2 fe0w2 ce1w2 fe1w2 ce2w2 fe2w2 kzw2 cz0w2 fz0w2 cz1w2 fz1w2 cz2w2 fz2w2 cz3w2 fz3w2 hqw2; clear hbw3))
  exact bodyPost_ret (v := .tuple #[.agg #[.int .i64 ((T).1 : Int), .int .i64 ((T).2.1 : Int), .bool (T).2.2, .int .i64 (s : Int)], .nilIface]) (by simp [results, Tryd.results29, go_sem, *]) rfl ⟨rfl, by repeat (first | (with_reducible exact Below.refl _ _) | (with_reducible assumption) | (with_reducible refine Below.setCell ?_ (by first | (simp; done) | (simp; omega) | omega) _) | (with_reducible refine Below.alloc ?_ (by first | (simp; done) | (simp; omega) | omega) _) | (refine bl_call ?_ (by assumption) (by first | (simp; done) | (simp; omega) | omega)) | (with_reducible refine bl_drewN ?_) | (with_reducible refine Below.drew ?_) | (with_reducible refine bl_grow ?_ (by first | (simp; done) | (simp; omega) | omega)))⟩
theorem cl_em {k : Nat} (hk : k < 1013) : tM (4 * h2N * em (k : Int)) = tM (4 * clR k) := by
  rw [em_nat hk, clR_is, Nat.mul_assoc]
theorem bclose_is : BCloseIs := by
  refine ⟨fun r k x1 y1 f1 w _ _ h => bclose_no r k x1 y1 f1 w h, fun r k x1 y1 f1 w hrk h => ?_, fun r k a w r1 k0 k1 => ?_⟩
  · rw [Bool.and_eq_true] at hrk
    have a := of_decide_eq_true (p := 0 ≤ r ∧ r < 1013) hrk.1
    have b := of_decide_eq_true (p := 1 ≤ k ∧ k < 1013) hrk.2
    obtain ⟨r', rfl⟩ := Int.eq_ofNat_of_zero_le a.1
    obtain ⟨k', rfl⟩ := Int.eq_ofNat_of_zero_le (show 0 ≤ k by omega)
    have k1 : k' < 1013 := by omega
    exact bclose_e h2N r' k' (tM (4 * clR k')) x1 y1 _ f1 w (by omega) (by omega) k1 second_w (cl_em k1) (fun w => bask_2 (4 * clR k') x1 y1 f1 w h)
  · exact bclose_ok h2N r k (baN (4 * clR k) a) (clS r k a) (tM (4 * clR k)) (tM a) w r1 k0 k1 (baN_lt _ _) second_w (cl_em k1) (fun w => bask_ok (4 * clR k) a w) (by unfold clS; rw [Int.natCast_emod, Int.natCast_add, Int.natCast_mul]; rfl)
theorem bcc_many (sl : Option Addr) (n d : Nat) (w : World) (h : 12 < n) : Calls Tryd.prog 57 #[.slice sl n d] w fun e w' => e = .returned (errOf 4) ∧ Below w.heap.size w w' := by
  have h1 : (n : Int) > 12 := by omega
  go_enter Tryd.func57, Tryd.ntmps57
  go_wp2_with fail
  go_ret
  exact ⟨rfl, by repeat (first | (with_reducible exact Below.refl _ _) | (with_reducible assumption) | (with_reducible refine Below.setCell ?_ (by first | (simp; done) | (simp; omega) | omega) _) | (with_reducible refine Below.alloc ?_ (by first | (simp; done) | (simp; omega) | omega) _) | (refine bl_call ?_ (by assumption) (by first | (simp; done) | (simp; omega) | omega)) | (with_reducible refine bl_drewN ?_) | (with_reducible refine Below.drew ?_) | (with_reducible refine bl_grow ?_ (by first | (simp; done) | (simp; omega) | omega)))⟩
set_option maxRecDepth 100000 in
set_option maxHeartbeats 8000000 in
theorem bcc_any (sl : Option Addr) (n d m : Nat) (X Y : Nat → Int) (F : Nat → Bool) (c : Value) (w : World) (hn : n ≤ 12) (hr : (n = 0 ∨ ∃ b o : Nat, sl = some ⟨b, o, none⟩ ∧ RowO w b o n X Y F)) (hm : m ≤ n) (hok : ∀ j, j < m → goodC (X j) (Y j) (F j)) (hc : (m = n ∧ c = .nilIface) ∨ (m < n ∧ badC (X m) (Y m) (F m) ∧ c = errOf 3)) : Calls Tryd.prog 57 #[.slice sl n d] w fun e w' => e = .returned (c) ∧ Below w.heap.size w w' := by
  have h1 : ¬ (n : Int) > 12 := by omega
  have HR : Hid ((n = 0 ∨ ∃ b o : Nat, sl = some ⟨b, o, none⟩ ∧ RowO w b o n X Y F)) := hr
  have HO : Hid (∀ j, j < m → goodC (X j) (Y j) (F j)) := hok
  have HC : Hid ((m = n ∧ c = .nilIface) ∨ (m < n ∧ badC (X m) (Y m) (F m) ∧ c = errOf 3)) := hc
  clear hr hok hc
  go_enter Tryd.func57, Tryd.ntmps57
  go_wp2_with fail
  go_loopw [13] (fun ti wl => ∃ k : Nat, k ≤ m ∧ ti = .int .i64 k ∧ Below w.heap.size w wl) (fun ti _ => n - (intOf ti).toNat)
  case atStart => exact ⟨0, by omega, rfl, by repeat (first | (with_reducible exact Below.refl _ _) | (with_reducible assumption) | (with_reducible refine Below.setCell ?_ (by first | (simp; done) | (simp; omega) | omega) _) | (with_reducible refine Below.alloc ?_ (by first | (simp; done) | (simp; omega) | omega) _) | (refine bl_call ?_ (by assumption) (by first | (simp; done) | (simp; omega) | omega)) | (with_reducible refine bl_drewN ?_) | (with_reducible refine Below.drew ?_) | (with_reducible refine bl_grow ?_ (by first | (simp; done) | (simp; omega) | omega)))⟩
  case round =>
    obtain ⟨k, hk, rfl, hqV⟩ := hrel
    rename World => V
    have hzV := hqV.size
    by_cases hlt : k < n
    · have hlt' : (k : Int) < n := by omega
      obtain ⟨b, o, rfl, hz⟩ : ∃ b o : Nat, sl = some ⟨b, o, none⟩ ∧ RowO w b o n X Y F := HR.out.resolve_left (by omega)
      have hbV := Nat.lt_of_lt_of_le hz.1 hzV
      obtain ⟨c0, c1, c2⟩ := (hz.below hz.1 hqV).2 k hlt
      by_cases hkm : k < m
      · obtain ⟨j, e0, e1, e2⟩ := HO.out k hkm
        rw [e0] at c0
        rw [e1] at c1
        rw [e2] at c2
        clear e0 e1 e2 hz
        have HI : Hid (∀ w, Calls Tryd.prog 88 #[.agg #[.int .i64 ((tM (4 * j)).1 : Int), .int .i64 ((tM (4 * j)).2.1 : Int), .bool (tM (4 * j)).2.2]] w fun e w' => e = .returned (.tuple #[.bool true, .nilIface]) ∧ Below w.heap.size w w') := fun w => in_eq (far_four j) w
        obtain ⟨T, hT⟩ : ∃ T, tM (4 * j) = T := ⟨_, rfl⟩
        rw [hT] at c0 c1 c2 HI
        clear hT
        have m1 : True := trivial
        go_wp2_with (go_at_call 88; clear m1; refine (HI.out _).mono ?_; rintro e w2 ⟨rfl, hbw2⟩; have hqw2 : Below w.heap.size w w2 := (by repeat (first | (with_reducible exact Below.refl _ _) | (with_reducible assumption) | (with_reducible refine Below.setCell ?_ (by first | (simp; done) | (simp; omega) | omega) _) | (with_reducible refine Below.alloc ?_ (by first | (simp; done) | (simp; omega) | omega) _) | (refine bl_call ?_ (by assumption) (by first | (simp; done) | (simp; omega) | omega)) | (with_reducible refine bl_drewN ?_) | (with_reducible refine Below.drew ?_) | (with_reducible refine bl_grow ?_ (by first | (simp; done) | (simp; omega) | omega)))); have hzw2 := hqw2.size; clear hbw2)
        go_roundw
        case rel => exact ⟨k + 1, by omega, by simp, by repeat (first | (with_reducible exact Below.refl _ _) | (with_reducible assumption) | (with_reducible refine Below.setCell ?_ (by first | (simp; done) | (simp; omega) | omega) _) | (with_reducible refine Below.alloc ?_ (by first | (simp; done) | (simp; omega) | omega) _) | (refine bl_call ?_ (by assumption) (by first | (simp; done) | (simp; omega) | omega)) | (with_reducible refine bl_drewN ?_) | (with_reducible refine Below.drew ?_) | (with_reducible refine bl_grow ?_ (by first | (simp; done) | (simp; omega) | omega)))⟩
        case measure => simp [intOf]; omega
      · obtain rfl : k = m := by omega
        obtain ⟨g1, g2, rfl⟩ : k < n ∧ badC (X k) (Y k) (F k) ∧ c = errOf 3 := HC.out.resolve_left fun g => by omega
        rcases g2 with g2 | ⟨j, e0, e1, e2, g2⟩
        · have HI : Hid (∀ w, Calls Tryd.prog 88 #[.agg #[.int .i64 (X k), .int .i64 (Y k), .bool (F k)]] w fun e w' => e = .returned (.tuple #[.bool false, errOf (ckI (X k) (Y k) (F k))]) ∧ Below w.heap.size w w') := fun w => in_no _ _ _ w g2
          generalize ckI (X k) (Y k) (F k) = q at HI g2
          clear hz
          have m1 : True := trivial
          go_wp2_with (go_at_call 88; clear m1; refine (HI.out _).mono ?_; rintro e w2 ⟨rfl, hbw2⟩; have hqw2 : Below w.heap.size w w2 := (by repeat (first | (with_reducible exact Below.refl _ _) | (with_reducible assumption) | (with_reducible refine Below.setCell ?_ (by first | (simp; done) | (simp; omega) | omega) _) | (with_reducible refine Below.alloc ?_ (by first | (simp; done) | (simp; omega) | omega) _) | (refine bl_call ?_ (by assumption) (by first | (simp; done) | (simp; omega) | omega)) | (with_reducible refine bl_drewN ?_) | (with_reducible refine Below.drew ?_) | (with_reducible refine bl_grow ?_ (by first | (simp; done) | (simp; omega) | omega)))); have hzw2 := hqw2.size; clear hbw2)
          go_ret
          exact ⟨rfl, by repeat (first | (with_reducible exact Below.refl _ _) | (with_reducible assumption) | (with_reducible refine Below.setCell ?_ (by first | (simp; done) | (simp; omega) | omega) _) | (with_reducible refine Below.alloc ?_ (by first | (simp; done) | (simp; omega) | omega) _) | (refine bl_call ?_ (by assumption) (by first | (simp; done) | (simp; omega) | omega)) | (with_reducible refine bl_drewN ?_) | (with_reducible refine Below.drew ?_) | (with_reducible refine bl_grow ?_ (by first | (simp; done) | (simp; omega) | omega)))⟩
        · rw [e0] at c0
          rw [e1] at c1
          rw [e2] at c2
          clear e0 e1 e2 hz
          have HI : Hid (∀ w, Calls Tryd.prog 88 #[.agg #[.int .i64 ((tM j).1 : Int), .int .i64 ((tM j).2.1 : Int), .bool (tM j).2.2]] w fun e w' => e = .returned (.tuple #[.bool false, .nilIface]) ∧ Below w.heap.size w w') := fun w => in_eq g2 w
          clear g2
          have m1 : True := trivial
          go_wp2_with (go_at_call 88; clear m1; refine (HI.out _).mono ?_; rintro e w2 ⟨rfl, hbw2⟩; have hqw2 : Below w.heap.size w w2 := (by repeat (first | (with_reducible exact Below.refl _ _) | (with_reducible assumption) | (with_reducible refine Below.setCell ?_ (by first | (simp; done) | (simp; omega) | omega) _) | (with_reducible refine Below.alloc ?_ (by first | (simp; done) | (simp; omega) | omega) _) | (refine bl_call ?_ (by assumption) (by first | (simp; done) | (simp; omega) | omega)) | (with_reducible refine bl_drewN ?_) | (with_reducible refine Below.drew ?_) | (with_reducible refine bl_grow ?_ (by first | (simp; done) | (simp; omega) | omega)))); have hzw2 := hqw2.size; clear hbw2)
          go_ret
          exact ⟨rfl, by repeat (first | (with_reducible exact Below.refl _ _) | (with_reducible assumption) | (with_reducible refine Below.setCell ?_ (by first | (simp; done) | (simp; omega) | omega) _) | (with_reducible refine Below.alloc ?_ (by first | (simp; done) | (simp; omega) | omega) _) | (refine bl_call ?_ (by assumption) (by first | (simp; done) | (simp; omega) | omega)) | (with_reducible refine bl_drewN ?_) | (with_reducible refine Below.drew ?_) | (with_reducible refine bl_grow ?_ (by first | (simp; done) | (simp; omega) | omega)))⟩
    · have hlt' : ¬ (k : Int) < n := by omega
      obtain ⟨g1, rfl⟩ : m = n ∧ c = .nilIface := HC.out.resolve_right fun g => by omega
      go_wp2_with fail
      go_ret
      exact ⟨rfl, by repeat (first | (with_reducible exact Below.refl _ _) | (with_reducible assumption) | (with_reducible refine Below.setCell ?_ (by first | (simp; done) | (simp; omega) | omega) _) | (with_reducible refine Below.alloc ?_ (by first | (simp; done) | (simp; omega) | omega) _) | (refine bl_call ?_ (by assumption) (by first | (simp; done) | (simp; omega) | omega)) | (with_reducible refine bl_drewN ?_) | (with_reducible refine Below.drew ?_) | (with_reducible refine bl_grow ?_ (by first | (simp; done) | (simp; omega) | omega)))⟩
theorem bcc_no (sl : Option Addr) (n d : Nat) (X Y : Nat → Int) (F : Nat → Bool) (q : Int) (w : World) (hr : (n = 0 ∨ ∃ b o : Nat, sl = some ⟨b, o, none⟩ ∧ RowO w b o n X Y F)) (hc : ComeIs X Y F n q) (hq : (q == 0) = false) : Calls Tryd.prog 57 #[.slice sl n d] w fun e w' => e = .returned (errOf q) ∧ Below w.heap.size w w' := by
  rcases hc with ⟨h1, rfl⟩ | ⟨h1, ⟨m, m1, m2, m3⟩, rfl⟩ | ⟨_, _, rfl⟩
  · exact bcc_many sl n d w h1
  · exact bcc_any sl n d m X Y F _ w h1 hr (by omega) m2 (Or.inr ⟨m1, m3, rfl⟩)
  · exact absurd hq (by decide)
theorem bcc_yes (sl : Option Addr) (n d : Nat) (X Y : Nat → Int) (F : Nat → Bool) (K : Nat → Nat) (w : World) (hn : n ≤ 12) (hr : (n = 0 ∨ ∃ b o : Nat, sl = some ⟨b, o, none⟩ ∧ RowO w b o n X Y F)) (hK : isC X Y F K n) : Calls Tryd.prog 57 #[.slice sl n d] w fun e w' => e = .returned (.nilIface) ∧ Below w.heap.size w w' :=
  bcc_any sl n d n X Y F _ w hn hr (Nat.le_refl _) (fun j hj => ⟨K j, hK j hj⟩) (Or.inl ⟨rfl, rfl⟩)
set_option maxRecDepth 100000 in
set_option maxHeartbeats 8000000 in
theorem bsum (sl : Option Addr) (n d : Nat) (X Y : Nat → Int) (F : Nat → Bool) (J : Nat → Nat) (w : World) (hn : n ≤ 1000000) (hr : (n = 0 ∨ ∃ b o : Nat, sl = some ⟨b, o, none⟩ ∧ RowO w b o n X Y F)) (hK : isC X Y F J n) : Calls Tryd.prog 59 #[.slice sl n d] w fun e w' => e = .returned (.tuple #[.agg #[.int .i64 ((tM (4 * jsN J n)).1 : Int), .int .i64 ((tM (4 * jsN J n)).2.1 : Int), .bool (tM (4 * jsN J n)).2.2], .nilIface]) ∧ Below w.heap.size w w' := by
  have HR : Hid ((n = 0 ∨ ∃ b o : Nat, sl = some ⟨b, o, none⟩ ∧ RowO w b o n X Y F)) := hr
  have HK : Hid (isC X Y F J n) := hK
  clear hr hK
  go_enter Tryd.func59, Tryd.ntmps59
  go_wp2_with fail
  go_loopw [12] (fun ti wl => ∃ k : Nat, k ≤ n ∧ ti = .int .i64 k ∧ At wl (w.heap.size) [.int .i64 0, .int .i64 0, .bool false] ∧ At wl (w.heap.size + 1) [.int .i64 ((tM (4 * jsN J k)).1 : Int), .int .i64 ((tM (4 * jsN J k)).2.1 : Int), .bool (tM (4 * jsN J k)).2.2] ∧ Below w.heap.size w wl) (fun ti _ => n - (intOf ti).toNat)
  case atStart => exact ⟨0, by omega, rfl, by repeat (first | (with_reducible assumption) | ((with_reducible refine at_new' _ _ _ _ ?_); (first | rfl | (simp; done))) | (with_reducible refine At.alloc ?_ _) | (with_reducible refine At.drew ?_) | (with_reducible refine At.drewN ?_) | (with_reducible refine At.set ?_ (by omega)) | (with_reducible apply At.store4) | (with_reducible apply At.store3) | (with_reducible apply At.store2) | (with_reducible apply At.put43) | (refine At.below ?_ (by with_reducible assumption))), by show At _ _ [.int .i64 0, .int .i64 0, .bool true]; exact (by repeat (first | (with_reducible assumption) | ((with_reducible refine at_new' _ _ _ _ ?_); (first | rfl | (simp; done))) | (with_reducible refine At.alloc ?_ _) | (with_reducible refine At.drew ?_) | (with_reducible refine At.drewN ?_) | (with_reducible refine At.set ?_ (by omega)) | (with_reducible apply At.store4) | (with_reducible apply At.store3) | (with_reducible apply At.store2) | (with_reducible apply At.put43) | (refine At.below ?_ (by with_reducible assumption)))), by repeat (first | (with_reducible exact Below.refl _ _) | (with_reducible assumption) | (with_reducible refine Below.setCell ?_ (by first | (simp; done) | (simp; omega) | omega) _) | (with_reducible refine Below.alloc ?_ (by first | (simp; done) | (simp; omega) | omega) _) | (refine bl_call ?_ (by assumption) (by first | (simp; done) | (simp; omega) | omega)) | (with_reducible refine bl_drewN ?_) | (with_reducible refine Below.drew ?_) | (with_reducible refine bl_grow ?_ (by first | (simp; done) | (simp; omega) | omega)))⟩
  case round =>
    obtain ⟨k, hk, rfl, krV, ktV, hqV⟩ := hrel
    rename World => V
    have hzV := hqV.size
    obtain ⟨zrV, cr0V, cr1V, cr2V, fr0V, fr1V, fr2V⟩ := krV.three
    obtain ⟨ztV, ct0V, ct1V, ct2V, ft0V, ft1V, ft2V⟩ := ktV.three
    by_cases hlt : k < n
    · have hlt' : (k : Int) < n := by omega
      obtain ⟨b, o, rfl, hz⟩ : ∃ b o : Nat, sl = some ⟨b, o, none⟩ ∧ RowO w b o n X Y F := HR.out.resolve_left (by omega)
      have hbV := Nat.lt_of_lt_of_le hz.1 hzV
      obtain ⟨c0, c1, c2⟩ := (hz.below hz.1 hqV).2 k hlt
      obtain ⟨e0, e1, e2⟩ := HK.out k hlt
      rw [e0] at c0
      rw [e1] at c1
      rw [e2] at c2
      clear e0 e1 e2 hz
      have E : Hid (tM (4 * jsN J k + 4 * J k) = tM (4 * jsN J (k + 1))) := by unfold Hid; rw [← Nat.mul_add]; rfl
      have m1 : True := trivial
      go_wp2_with (go_at_call 34; clear m1; refine (cadd_eq E.out _).mono ?_; rintro e W1 ⟨rfl, hbW1⟩; have krW1 : At W1 (w.heap.size) [.int .i64 0, .int .i64 0, .bool false] := (by repeat (first | (with_reducible assumption) | ((with_reducible refine at_new' _ _ _ _ ?_); (first | rfl | (simp; done))) | (with_reducible refine At.alloc ?_ _) | (with_reducible refine At.drew ?_) | (with_reducible refine At.drewN ?_) | (with_reducible refine At.set ?_ (by omega)) | (with_reducible apply At.store4) | (with_reducible apply At.store3) | (with_reducible apply At.store2) | (with_reducible apply At.put43) | (refine At.below ?_ (by with_reducible assumption)))); have ktW1 : At W1 (w.heap.size + 1) [.int .i64 ((tM (4 * jsN J k)).1 : Int), .int .i64 ((tM (4 * jsN J k)).2.1 : Int), .bool (tM (4 * jsN J k)).2.2] := (by repeat (first | (with_reducible assumption) | ((with_reducible refine at_new' _ _ _ _ ?_); (first | rfl | (simp; done))) | (with_reducible refine At.alloc ?_ _) | (with_reducible refine At.drew ?_) | (with_reducible refine At.drewN ?_) | (with_reducible refine At.set ?_ (by omega)) | (with_reducible apply At.store4) | (with_reducible apply At.store3) | (with_reducible apply At.store2) | (with_reducible apply At.put43) | (refine At.below ?_ (by with_reducible assumption)))); have hqW1 : Below w.heap.size w W1 := (by repeat (first | (with_reducible exact Below.refl _ _) | (with_reducible assumption) | (with_reducible refine Below.setCell ?_ (by first | (simp; done) | (simp; omega) | omega) _) | (with_reducible refine Below.alloc ?_ (by first | (simp; done) | (simp; omega) | omega) _) | (refine bl_call ?_ (by assumption) (by first | (simp; done) | (simp; omega) | omega)) | (with_reducible refine bl_drewN ?_) | (with_reducible refine Below.drew ?_) | (with_reducible refine bl_grow ?_ (by first | (simp; done) | (simp; omega) | omega)))); have hzW1 := hqW1.size; obtain ⟨zrW1, cr0W1, cr1W1, cr2W1, fr0W1, fr1W1, fr2W1⟩ := krW1.three; obtain ⟨ztW1, ct0W1, ct1W1, ct2W1, ft0W1, ft1W1, ft2W1⟩ := ktW1.three; clear krV cr0V fr0V cr1V fr1V cr2V fr2V ktV ct0V ft0V ct1V ft1V ct2V ft2V hqV; clear hbW1)
      go_roundw
      case rel => exact ⟨k + 1, by omega, by simp, by repeat (first | (with_reducible assumption) | ((with_reducible refine at_new' _ _ _ _ ?_); (first | rfl | (simp; done))) | (with_reducible refine At.alloc ?_ _) | (with_reducible refine At.drew ?_) | (with_reducible refine At.drewN ?_) | (with_reducible refine At.set ?_ (by omega)) | (with_reducible apply At.store4) | (with_reducible apply At.store3) | (with_reducible apply At.store2) | (with_reducible apply At.put43) | (refine At.below ?_ (by with_reducible assumption))), by repeat (first | (with_reducible assumption) | ((with_reducible refine at_new' _ _ _ _ ?_); (first | rfl | (simp; done))) | (with_reducible refine At.alloc ?_ _) | (with_reducible refine At.drew ?_) | (with_reducible refine At.drewN ?_) | (with_reducible refine At.set ?_ (by omega)) | (with_reducible apply At.store4) | (with_reducible apply At.store3) | (with_reducible apply At.store2) | (with_reducible apply At.put43) | (refine At.below ?_ (by with_reducible assumption))), by repeat (first | (with_reducible exact Below.refl _ _) | (with_reducible assumption) | (with_reducible refine Below.setCell ?_ (by first | (simp; done) | (simp; omega) | omega) _) | (with_reducible refine Below.alloc ?_ (by first | (simp; done) | (simp; omega) | omega) _) | (refine bl_call ?_ (by assumption) (by first | (simp; done) | (simp; omega) | omega)) | (with_reducible refine bl_drewN ?_) | (with_reducible refine Below.drew ?_) | (with_reducible refine bl_grow ?_ (by first | (simp; done) | (simp; omega) | omega)))⟩
      case measure => simp [intOf]; omega
    · have hlt' : ¬ (k : Int) < n := by omega
      obtain rfl : k = n := by omega
      go_wp2_with fail
      exact bodyPost_ret (v := .tuple #[.agg #[.int .i64 ((tM (4 * jsN J k)).1 : Int), .int .i64 ((tM (4 * jsN J k)).2.1 : Int), .bool (tM (4 * jsN J k)).2.2], .nilIface]) (by simp [results, Tryd.results59, go_sem, *]) rfl ⟨rfl, by repeat (first | (with_reducible exact Below.refl _ _) | (with_reducible assumption) | (with_reducible refine Below.setCell ?_ (by first | (simp; done) | (simp; omega) | omega) _) | (with_reducible refine Below.alloc ?_ (by first | (simp; done) | (simp; omega) | omega) _) | (refine bl_call ?_ (by assumption) (by first | (simp; done) | (simp; omega) | omega)) | (with_reducible refine bl_drewN ?_) | (with_reducible refine Below.drew ?_) | (with_reducible refine bl_grow ?_ (by first | (simp; done) | (simp; omega) | omega)))⟩
theorem bcinfo : (Tryd.prog.info? 98).map (fun i => (i.zero, i.size, i.bytes)) = some (some (.agg #[.int .i64 0, .int .i64 0, .bool false, .bool false]), 4, 32) := by kernel_rfl
set_option maxRecDepth 100000 in
set_option maxHeartbeats 8000000 in
theorem bminted (sl : Option Addr) (n d : Nat) (X Y : Nat → Int) (F : Nat → Bool) (J : Nat → Nat) (w : World) (hn : n ≤ 12) (hr : (n = 0 ∨ ∃ b o : Nat, sl = some ⟨b, o, none⟩ ∧ RowO w b o n X Y F)) (hK : isC X Y F J n) : Calls Tryd.prog 58 #[.slice sl n d] w fun ex w' => ∃ q, ex = .returned q ∧ w'.ownsRow w.heap.size 98 4 q n (cellsC J (fun _ => false) n) ∧ Below w.heap.size w w' := by
  have HR : Hid ((n = 0 ∨ ∃ b o : Nat, sl = some ⟨b, o, none⟩ ∧ RowO w b o n X Y F)) := hr
  have HK : Hid (isC X Y F J n) := hK
  clear hr hK
  obtain ⟨i0, hi, hv0, hv1, hv2⟩ := info_parts bcinfo
  go_enter Tryd.func58, Tryd.ntmps58
  go_wp2_with (at_make; refine wpList_make_own _ rfl _ _ 91 rfl w.heap.size 98 i0 (.agg #[.int .i64 0, .int .i64 0, .bool false, .bool false]) 4 Tryd.underlying91 hi hv0 hv1 _ _ _ n rfl rfl rfl ?b2 ?b3 ?b4 ?_)
  case b2 => rw [hv2]; omega
  case b3 => unfold maxLen; omega
  case b4 => omega
  intro w2 hown0 hgrow
  have hq2 : Below w.heap.size w w2 := (Below.refl _ _ : Below w.heap.size w _).grown hgrow (Nat.le_refl _) (fun k hk => by cases hk)
  clear hgrow
  go_wp2_with fail
  go_loopw [3, 11] (fun tv ti wl => ∃ k : Nat, k ≤ n ∧ ti = .int .i64 k ∧ wl.ownsRow w.heap.size 98 4 tv k (cellsC J (fun _ => false) k) ∧ Below w.heap.size w wl) (fun _ ti _ => n - (intOf ti).toNat)
  case atStart => exact ⟨0, by omega, rfl, hown0, by repeat (first | (with_reducible exact Below.refl _ _) | (with_reducible assumption) | (with_reducible refine Below.setCell ?_ (by first | (simp; done) | (simp; omega) | omega) _) | (with_reducible refine Below.alloc ?_ (by first | (simp; done) | (simp; omega) | omega) _) | (refine bl_call ?_ (by assumption) (by first | (simp; done) | (simp; omega) | omega)) | (with_reducible refine bl_drewN ?_) | (with_reducible refine Below.drew ?_) | (with_reducible refine bl_grow ?_ (by first | (simp; done) | (simp; omega) | omega)))⟩
  case round =>
    clear hown0 hq2
    obtain ⟨k, hk, rfl, hown, hqV⟩ := hrel
    rename World => V
    have hzV := hqV.size
    by_cases hlt : k < n
    · have hlt' : (k : Int) < n := by omega
      obtain ⟨b, o, rfl, hz⟩ : ∃ b o : Nat, sl = some ⟨b, o, none⟩ ∧ RowO w b o n X Y F := HR.out.resolve_left (by omega)
      have hbV := Nat.lt_of_lt_of_le hz.1 hzV
      obtain ⟨c0, c1, c2⟩ := (hz.below hz.1 hqV).2 k hlt
      obtain ⟨e0, e1, e2⟩ := HK.out k hlt
      rw [e0] at c0
      rw [e1] at c1
      rw [e2] at c2
      clear e0 e1 e2 hz
      have HOW : Hid (V.ownsRow w.heap.size 98 4 _ k (cellsC J (fun _ => false) k)) := hown
      go_wp2_with (at_builtin; refine wpList_append_own_at _ rfl _ _ 91 rfl w.heap.size 98 i0 (.agg #[.int .i64 0, .int .i64 0, .bool false, .bool false]) 4 32 Tryd.underlying91 hi hv0 hv1 hv2 rfl (by decide) _ _ _ rfl (own_stay hown (by repeat (first | (with_reducible exact Below.refl _ _) | (with_reducible assumption) | (with_reducible refine Below.setCell ?_ (by first | (simp; done) | (simp; omega) | omega) _) | (with_reducible refine Below.alloc ?_ (by first | (simp; done) | (simp; omega) | omega) _) | (refine bl_call ?_ (by assumption) (by first | (simp; done) | (simp; omega) | omega)) | (with_reducible refine bl_drewN ?_) | (with_reducible refine Below.drew ?_) | (with_reducible refine bl_grow ?_ (by first | (simp; done) | (simp; omega) | omega))))) ⟨_, 0, none⟩ 1 1 [.int .i64 ((tM (4 * J k)).1 : Int), .int .i64 ((tM (4 * J k)).2.1 : Int), .bool (tM (4 * J k)).2.2, .bool true] rfl rfl ?c1 ?c2 ?c3 ?c4 ?c5 ?_)
      case c1 => exact bfour_at (by simp) _ _ _ _ _
      case c2 => intro u hu; simp at hu; rcases hu with rfl | rfl | rfl | rfl <;> rfl
      case c3 => unfold maxLen; omega
      case c4 => omega
      case c5 => simp; omega
      · intro v' w13 hown' hgrow _ hat
        have hq13 : Below w.heap.size w w13 := grown_under (B := w.heap.size) (by repeat (first | (with_reducible exact Below.refl _ _) | (with_reducible assumption) | (with_reducible refine Below.setCell ?_ (by first | (simp; done) | (simp; omega) | omega) _) | (with_reducible refine Below.alloc ?_ (by first | (simp; done) | (simp; omega) | omega) _) | (refine bl_call ?_ (by assumption) (by first | (simp; done) | (simp; omega) | omega)) | (with_reducible refine bl_drewN ?_) | (with_reducible refine Below.drew ?_) | (with_reducible refine bl_grow ?_ (by first | (simp; done) | (simp; omega) | omega)))) (own_stay hown (by repeat (first | (with_reducible exact Below.refl _ _) | (with_reducible assumption) | (with_reducible refine Below.setCell ?_ (by first | (simp; done) | (simp; omega) | omega) _) | (with_reducible refine Below.alloc ?_ (by first | (simp; done) | (simp; omega) | omega) _) | (refine bl_call ?_ (by assumption) (by first | (simp; done) | (simp; omega) | omega)) | (with_reducible refine bl_drewN ?_) | (with_reducible refine Below.drew ?_) | (with_reducible refine bl_grow ?_ (by first | (simp; done) | (simp; omega) | omega))))) hgrow (by simp; omega) (Nat.le_refl _)
        have hown2 : w13.ownsRow w.heap.size 98 4 v' (k + 1) (cellsC J (fun _ => false) (k + 1)) := by rw [cellsC_succ]; exact hown'
        clear hgrow hat hown hown'
        go_wp2_with fail
        go_roundw
        case rel => exact ⟨k + 1, by omega, by simp, hown2, hq13⟩
        case measure => simp [intOf]; omega
    · have hlt' : ¬ (k : Int) < n := by omega
      obtain rfl : k = n := by omega
      go_wp2_with fail
      go_ret
      exact ⟨_, rfl, hown, by repeat (first | (with_reducible exact Below.refl _ _) | (with_reducible assumption) | (with_reducible refine Below.setCell ?_ (by first | (simp; done) | (simp; omega) | omega) _) | (with_reducible refine Below.alloc ?_ (by first | (simp; done) | (simp; omega) | omega) _) | (refine bl_call ?_ (by assumption) (by first | (simp; done) | (simp; omega) | omega)) | (with_reducible refine bl_drewN ?_) | (with_reducible refine Below.drew ?_) | (with_reducible refine bl_grow ?_ (by first | (simp; done) | (simp; omega) | omega)))⟩
set_option maxRecDepth 100000 in
set_option maxHeartbeats 8000000 in
theorem bat (p n m dz : Nat) (sz : Option Addr) (u : Value) (K : Nat → Nat) (G : Nat → Bool) (Z : Nat → Int) (w : World) (hn : n ≤ 1000) (hm : m ≤ 1000) (h : CoinsAt 98 w p u n K G) (hz : (m = 0 ∨ ∃ b o : Nat, sz = some ⟨b, o, none⟩ ∧ RowI w b o m Z)) (hok : ∀ i, i < m → 0 ≤ Z i ∧ Z i < (n : Int)) : Calls Tryd.prog 60 #[.pointer (some ⟨p, 0, none⟩), .slice sz m dz] w fun ex w' => ∃ q, ex = .returned q ∧ w'.ownsRow w.heap.size 23 3 q m (cellsK (fun i => K (Z i).toNat) m) ∧ Below w.heap.size w w' := by
  obtain ⟨su, cu, rfl, hrow⟩ := h.slice
  have HP : Hid (At w p [.slice su n cu]) := h.cells
  have HR : Hid (n = 0 ∨ ∃ g, su = some ⟨g, 0, none⟩ ∧ RowC w g 0 n K G) := hrow
  have hpw := h.cells.1
  clear hrow h
  have HZ : Hid ((m = 0 ∨ ∃ b o : Nat, sz = some ⟨b, o, none⟩ ∧ RowI w b o m Z)) := hz
  have HO : Hid (∀ i, i < m → 0 ≤ Z i ∧ Z i < (n : Int)) := hok
  clear hz hok
  obtain ⟨i0, hi, hv0, hv1, hv2⟩ := info_parts beinfo
  go_enter Tryd.func60, Tryd.ntmps60
  go_wp2_with (at_make; refine wpList_make_own _ rfl _ _ 36 rfl w.heap.size 23 i0 (.agg #[.int .i64 0, .int .i64 0, .bool false]) 3 Tryd.underlying36 hi hv0 hv1 _ _ _ m rfl rfl rfl ?b2 ?b3 ?b4 ?_)
  case b2 => rw [hv2]; omega
  case b3 => unfold maxLen; omega
  case b4 => omega
  intro w2 hown0 hgrow
  have hq2 : Below w.heap.size w w2 := (Below.refl _ _ : Below w.heap.size w _).grown hgrow (Nat.le_refl _) (fun k hk => by cases hk)
  clear hgrow
  go_wp2_with fail
  go_loopw [5, 13] (fun tv ti wl => ∃ k : Nat, k ≤ m ∧ ti = .int .i64 k ∧ wl.ownsRow w.heap.size 23 3 tv k (cellsK (fun i => K (Z i).toNat) k) ∧ Below w.heap.size w wl) (fun _ ti _ => m - (intOf ti).toNat)
  case atStart => exact ⟨0, by omega, rfl, hown0, by repeat (first | (with_reducible exact Below.refl _ _) | (with_reducible assumption) | (with_reducible refine Below.setCell ?_ (by first | (simp; done) | (simp; omega) | omega) _) | (with_reducible refine Below.alloc ?_ (by first | (simp; done) | (simp; omega) | omega) _) | (refine bl_call ?_ (by assumption) (by first | (simp; done) | (simp; omega) | omega)) | (with_reducible refine bl_drewN ?_) | (with_reducible refine Below.drew ?_) | (with_reducible refine bl_grow ?_ (by first | (simp; done) | (simp; omega) | omega)))⟩
  case round =>
    clear hown0 hq2
    obtain ⟨k, hk, rfl, hown, hqV⟩ := hrel
    rename World => V
    have hzV := hqV.size
    have kpV := HP.out.below hqV
    obtain ⟨zpV, cp0V, fp0V⟩ := kpV.one
    by_cases hlt : k < m
    · have hlt' : (k : Int) < m := by omega
      obtain ⟨b, o, rfl, hzr⟩ : ∃ b o : Nat, sz = some ⟨b, o, none⟩ ∧ RowI w b o m Z := HZ.out.resolve_left (by omega)
      have hbV := Nat.lt_of_lt_of_le hzr.1 hzV
      have d0 := (hzr.below hzr.1 hqV).2 k hlt
      obtain ⟨z, hz⟩ : ∃ z : Nat, Z k = (z : Int) := ⟨(Z k).toNat, by have := (HO.out k hlt).1; omega⟩
      have hzn : z < n := by have := (HO.out k hlt).2; omega
      have HZz : Hid (Z k = (z : Int)) := hz
      rw [hz] at d0
      clear hz hzr
      have t1 : 0 ≤ (z : Int) := by omega
      have t2 : (z : Int) < n := by omega
      obtain ⟨g, rfl, r1⟩ := HR.out.resolve_left (by omega)
      have hgV := Nat.lt_of_lt_of_le r1.1 hzV
      obtain ⟨c0, c1, c2, _⟩ := (r1.below r1.1 hqV).2 z hzn
      rw [Nat.zero_add] at c0 c1 c2
      clear r1
      go_wp2_with (at_builtin; refine wpList_append_own_at _ rfl _ _ 36 rfl w.heap.size 23 i0 (.agg #[.int .i64 0, .int .i64 0, .bool false]) 3 24 Tryd.underlying36 hi hv0 hv1 hv2 rfl (by decide) _ _ _ rfl (own_stay hown (by repeat (first | (with_reducible exact Below.refl _ _) | (with_reducible assumption) | (with_reducible refine Below.setCell ?_ (by first | (simp; done) | (simp; omega) | omega) _) | (with_reducible refine Below.alloc ?_ (by first | (simp; done) | (simp; omega) | omega) _) | (refine bl_call ?_ (by assumption) (by first | (simp; done) | (simp; omega) | omega)) | (with_reducible refine bl_drewN ?_) | (with_reducible refine Below.drew ?_) | (with_reducible refine bl_grow ?_ (by first | (simp; done) | (simp; omega) | omega))))) ⟨_, 0, none⟩ 1 1 [.int .i64 ((tM (4 * K z)).1 : Int), .int .i64 ((tM (4 * K z)).2.1 : Int), .bool (tM (4 * K z)).2.2] rfl rfl ?c1 ?c2 ?c3 ?c4 ?c5 ?_)
      case c1 => exact three_at (by simp) _ _ _ _
      case c2 => intro u hu; simp at hu; rcases hu with rfl | rfl | rfl <;> rfl
      case c3 => unfold maxLen; omega
      case c4 => omega
      case c5 => simp; omega
      · intro v' w13 hown' hgrow _ hat
        have hq13 : Below w.heap.size w w13 := grown_under (B := w.heap.size) (by repeat (first | (with_reducible exact Below.refl _ _) | (with_reducible assumption) | (with_reducible refine Below.setCell ?_ (by first | (simp; done) | (simp; omega) | omega) _) | (with_reducible refine Below.alloc ?_ (by first | (simp; done) | (simp; omega) | omega) _) | (refine bl_call ?_ (by assumption) (by first | (simp; done) | (simp; omega) | omega)) | (with_reducible refine bl_drewN ?_) | (with_reducible refine Below.drew ?_) | (with_reducible refine bl_grow ?_ (by first | (simp; done) | (simp; omega) | omega)))) (own_stay hown (by repeat (first | (with_reducible exact Below.refl _ _) | (with_reducible assumption) | (with_reducible refine Below.setCell ?_ (by first | (simp; done) | (simp; omega) | omega) _) | (with_reducible refine Below.alloc ?_ (by first | (simp; done) | (simp; omega) | omega) _) | (refine bl_call ?_ (by assumption) (by first | (simp; done) | (simp; omega) | omega)) | (with_reducible refine bl_drewN ?_) | (with_reducible refine Below.drew ?_) | (with_reducible refine bl_grow ?_ (by first | (simp; done) | (simp; omega) | omega))))) hgrow (by simp; omega) (Nat.le_refl _)
        have hown2 : w13.ownsRow w.heap.size 23 3 v' (k + 1) (cellsK (fun i => K (Z i).toNat) (k + 1)) := by
          rw [cellsK_succ, HZz.out, Int.toNat_natCast]; exact hown'
        clear hgrow hat hown hown'
        go_wp2_with fail
        go_roundw
        case rel => exact ⟨k + 1, by omega, by simp, hown2, hq13⟩
        case measure => simp [intOf]; omega
    · have hlt' : ¬ (k : Int) < m := by omega
      obtain rfl : k = m := by omega
      go_wp2_with fail
      go_ret
      exact ⟨_, rfl, hown, by repeat (first | (with_reducible exact Below.refl _ _) | (with_reducible assumption) | (with_reducible refine Below.setCell ?_ (by first | (simp; done) | (simp; omega) | omega) _) | (with_reducible refine Below.alloc ?_ (by first | (simp; done) | (simp; omega) | omega) _) | (refine bl_call ?_ (by assumption) (by first | (simp; done) | (simp; omega) | omega)) | (with_reducible refine bl_drewN ?_) | (with_reducible refine Below.drew ?_) | (with_reducible refine bl_grow ?_ (by first | (simp; done) | (simp; omega) | omega)))⟩
/-- Of any row of coins. -/
theorem own_isC {W : World} {B : Nat} {q : Value} {m : Nat} {K : Nat → Nat} (h : W.ownsRow B 23 3 q m (cellsK K m)) : ∃ (sa : Option Addr) (c : Nat), q = .slice sa m c ∧ (m = 0 ∨ ∃ b o : Nat, sa = some ⟨b, o, none⟩ ∧ RowO W b o m (fun i => ((tM (4 * K i)).1 : Int)) (fun i => ((tM (4 * K i)).2.1 : Int)) (fun i => (tM (4 * K i)).2.2)) := by
  obtain ⟨sa, c, e, k⟩ := own_spots h
  exact ⟨sa, c, e, k.imp_right fun ⟨g, a, _, _, r⟩ => ⟨g, 0, a, r⟩⟩
theorem bbinfo : (Tryd.prog.info? 4).map (fun i => (i.zero, i.size, i.bytes)) = some (some (.bool false), 1, 1) := by kernel_rfl
set_option maxRecDepth 100000 in
set_option maxHeartbeats 8000000 in
theorem bgone (p n m dz t : Nat) (sz : Option Addr) (u : Value) (K : Nat → Nat) (G : Nat → Bool) (Z : Nat → Int) (c : Value) (w : World) (hn : n ≤ 1000) (hm : m ≤ 9223372036854775807) (h : CoinsAt 98 w p u n K G) (hz : (m = 0 ∨ ∃ b o : Nat, sz = some ⟨b, o, none⟩ ∧ RowI w b o m Z)) (ht : t ≤ m) (hok : ∀ i, i < t → goE n G Z i = 0) (hc : (t = m ∧ c = .nilIface) ∨ (t < m ∧ (goE n G Z t == 0) = false ∧ c = errOf (goE n G Z t))) : Calls Tryd.prog 65 #[.pointer (some ⟨p, 0, none⟩), .slice sz m dz] w fun e w' => e = .returned (c) ∧ Below w.heap.size w w' := by
  obtain ⟨su, cu, rfl, hrow⟩ := h.slice
  have HP : Hid (At w p [.slice su n cu]) := h.cells
  have HR : Hid (n = 0 ∨ ∃ g, su = some ⟨g, 0, none⟩ ∧ RowC w g 0 n K G) := hrow
  have hpw := h.cells.1
  clear hrow h
  have HZ : Hid ((m = 0 ∨ ∃ b o : Nat, sz = some ⟨b, o, none⟩ ∧ RowI w b o m Z)) := hz
  have HO : Hid (∀ i, i < t → goE n G Z i = 0) := hok
  have HC : Hid ((t = m ∧ c = .nilIface) ∨ (t < m ∧ (goE n G Z t == 0) = false ∧ c = errOf (goE n G Z t))) := hc
  clear hz hok hc
  obtain ⟨j0, hj, hu0, hu1, hu2⟩ := info_parts bbinfo
  have kpw := HP.out
  obtain ⟨zpw, cp0w, fp0w⟩ := kpw.one
  go_enter Tryd.func65, Tryd.ntmps65
  go_wp2_with (at_make; refine wpList_make_full _ rfl _ _ 121 rfl w.heap.size 4 j0 (.bool false) 1 Tryd.underlying121 hj hu0 hu1 _ _ _ _ n rfl rfl rfl rfl ?b2 ?b3 ?b4 ?_)
  case b2 => rw [hu2]; omega
  case b3 => unfold maxLen; omega
  case b4 => omega
  intro w1 hown1 hgrow1
  rw [bmade] at hown1
  have hq1 : Below w.heap.size w w1 := (Below.refl _ _ : Below w.heap.size w _).grown hgrow1 (Nat.le_refl _) (fun k hk => by cases hk)
  clear hgrow1 kpw cp0w fp0w
  go_wp2_with fail
  go_loopw [16] (fun ti wl => ∃ k : Nat, k ≤ t ∧ ti = .int .i64 k ∧ wl.ownsRow w.heap.size 4 1 (.slice (some ⟨w.heap.size, 0, none⟩) n n) n (cellsB (mkG (fun _ => false) Z k) n) ∧ Below w.heap.size w wl) (fun ti _ => m - (intOf ti).toNat)
  case atStart => exact ⟨0, by omega, rfl, hown1, by repeat (first | (with_reducible exact Below.refl _ _) | (with_reducible assumption) | (with_reducible refine Below.setCell ?_ (by first | (simp; done) | (simp; omega) | omega) _) | (with_reducible refine Below.alloc ?_ (by first | (simp; done) | (simp; omega) | omega) _) | (refine bl_call ?_ (by assumption) (by first | (simp; done) | (simp; omega) | omega)) | (with_reducible refine bl_drewN ?_) | (with_reducible refine Below.drew ?_) | (with_reducible refine bl_grow ?_ (by first | (simp; done) | (simp; omega) | omega)))⟩
  case round =>
    clear hown1 hq1
    obtain ⟨k, hk, rfl, hown, hqV⟩ := hrel
    rename World => V
    have hzV := hqV.size
    have kpV := HP.out.below hqV
    obtain ⟨zpV, cp0V, fp0V⟩ := kpV.one
    by_cases hlt : k < m
    · have hlt' : (k : Int) < m := by omega
      obtain ⟨b, o, rfl, hzr⟩ : ∃ b o : Nat, sz = some ⟨b, o, none⟩ ∧ RowI w b o m Z := HZ.out.resolve_left (by omega)
      have hbV := Nat.lt_of_lt_of_le hzr.1 hzV
      have d0 := (hzr.below hzr.1 hqV).2 k hlt
      clear hzr
      have HN : Hid (∀ i, i < k → 0 ≤ Z i) := go_nonneg fun i hi => HO.out i (by omega)
      rcases goE_way n G Z k with ⟨a1, e⟩ | ⟨a1, a2, e⟩ | ⟨a1, a2, a3, e⟩ | ⟨a1, a2, a3, e⟩
      · have hkt : ¬ k < t := fun g => by have := HO.out k g; omega
        obtain rfl : k = t := by omega
        obtain rfl : c = errOf 1 := (HC.out.resolve_left fun g => by omega).2.2.trans (by rw [e])
        clear e hkt
        have a2 := inN_no a1
        clear a1
        by_cases a3 : Z k < 0
        · go_wp2_with fail
          go_ret
          exact ⟨rfl, by repeat (first | (with_reducible exact Below.refl _ _) | (with_reducible assumption) | (with_reducible refine Below.setCell ?_ (by first | (simp; done) | (simp; omega) | omega) _) | (with_reducible refine Below.alloc ?_ (by first | (simp; done) | (simp; omega) | omega) _) | (refine bl_call ?_ (by assumption) (by first | (simp; done) | (simp; omega) | omega)) | (with_reducible refine bl_drewN ?_) | (with_reducible refine Below.drew ?_) | (with_reducible refine bl_grow ?_ (by first | (simp; done) | (simp; omega) | omega)))⟩
        · have a4 : Z k ≥ n := by omega
          clear a2
          go_wp2_with fail
          go_ret
          exact ⟨rfl, by repeat (first | (with_reducible exact Below.refl _ _) | (with_reducible assumption) | (with_reducible refine Below.setCell ?_ (by first | (simp; done) | (simp; omega) | omega) _) | (with_reducible refine Below.alloc ?_ (by first | (simp; done) | (simp; omega) | omega) _) | (refine bl_call ?_ (by assumption) (by first | (simp; done) | (simp; omega) | omega)) | (with_reducible refine bl_drewN ?_) | (with_reducible refine Below.drew ?_) | (with_reducible refine bl_grow ?_ (by first | (simp; done) | (simp; omega) | omega)))⟩
      · have hkt : ¬ k < t := fun g => by have := HO.out k g; omega
        obtain rfl : k = t := by omega
        obtain rfl : c = errOf 6 := (HC.out.resolve_left fun g => by omega).2.2.trans (by rw [e])
        clear e hkt
        obtain ⟨z, hz⟩ : ∃ z : Nat, Z k = (z : Int) := ⟨(Z k).toNat, by have := inN_yes a1; omega⟩
        have hzn : z < n := by have := inN_yes a1; omega
        have HZz : Hid (Z k = (z : Int)) := hz
        rw [hz] at d0
        rw [hz, Int.toNat_natCast] at a2
        clear a1 hz
        have t0 : ¬ (z : Int) < 0 := by omega
        have t1 : 0 ≤ (z : Int) := by omega
        have t2 : (z : Int) < n := by omega
        have t3 : ¬ (z : Int) ≥ n := by omega
        obtain ⟨g, rfl, r1⟩ := HR.out.resolve_left (by omega)
        have hgV := Nat.lt_of_lt_of_le r1.1 hzV
        obtain ⟨_, _, _, c3⟩ := (r1.below r1.1 hqV).2 z hzn
        rw [Nat.zero_add, a2] at c3
        clear r1 a2
        change V.cell? _ = some (.bool false) at c3
        go_wp2_with fail
        go_ret
        exact ⟨rfl, by repeat (first | (with_reducible exact Below.refl _ _) | (with_reducible assumption) | (with_reducible refine Below.setCell ?_ (by first | (simp; done) | (simp; omega) | omega) _) | (with_reducible refine Below.alloc ?_ (by first | (simp; done) | (simp; omega) | omega) _) | (refine bl_call ?_ (by assumption) (by first | (simp; done) | (simp; omega) | omega)) | (with_reducible refine bl_drewN ?_) | (with_reducible refine Below.drew ?_) | (with_reducible refine bl_grow ?_ (by first | (simp; done) | (simp; omega) | omega)))⟩
      · have hkt : ¬ k < t := fun g => by have := HO.out k g; omega
        obtain rfl : k = t := by omega
        obtain rfl : c = errOf 7 := (HC.out.resolve_left fun g => by omega).2.2.trans (by rw [e])
        clear e hkt
        obtain ⟨z, hz⟩ : ∃ z : Nat, Z k = (z : Int) := ⟨(Z k).toNat, by have := inN_yes a1; omega⟩
        have hzn : z < n := by have := inN_yes a1; omega
        have HZz : Hid (Z k = (z : Int)) := hz
        rw [hz] at d0
        rw [hz, Int.toNat_natCast] at a2
        clear a1 hz
        have t0 : ¬ (z : Int) < 0 := by omega
        have t1 : 0 ≤ (z : Int) := by omega
        have t2 : (z : Int) < n := by omega
        have t3 : ¬ (z : Int) ≥ n := by omega
        obtain ⟨g, rfl, r1⟩ := HR.out.resolve_left (by omega)
        have hgV := Nat.lt_of_lt_of_le r1.1 hzV
        obtain ⟨_, _, _, c3⟩ := (r1.below r1.1 hqV).2 z hzn
        rw [Nat.zero_add, a2] at c3
        clear r1 a2
        change V.cell? _ = some (.bool true) at c3
        have zfV : w.heap.size < V.heap.size := (hown.lt w.heap.size rfl).2
        have f0 := hown.cellAt z (by omega)
        rw [cellsB_at _ hzn, mk_dup HN.out, ← HZz.out, a3] at f0
        have f1 := hown.frozenAt z
        clear a3
        go_wp2_with fail
        go_ret
        exact ⟨rfl, by repeat (first | (with_reducible exact Below.refl _ _) | (with_reducible assumption) | (with_reducible refine Below.setCell ?_ (by first | (simp; done) | (simp; omega) | omega) _) | (with_reducible refine Below.alloc ?_ (by first | (simp; done) | (simp; omega) | omega) _) | (refine bl_call ?_ (by assumption) (by first | (simp; done) | (simp; omega) | omega)) | (with_reducible refine bl_drewN ?_) | (with_reducible refine Below.drew ?_) | (with_reducible refine bl_grow ?_ (by first | (simp; done) | (simp; omega) | omega)))⟩
      · have hkt : k < t := by
          rcases Nat.lt_or_ge k t with g | g
          · exact g
          · obtain rfl : k = t := by omega
            obtain ⟨_, g2, _⟩ := HC.out.resolve_left fun g => by omega
            rw [e] at g2
            exact absurd g2 (by decide)
        clear e
        obtain ⟨z, hz⟩ : ∃ z : Nat, Z k = (z : Int) := ⟨(Z k).toNat, by have := inN_yes a1; omega⟩
        have hzn : z < n := by have := inN_yes a1; omega
        have HZz : Hid (Z k = (z : Int)) := hz
        rw [hz] at d0
        rw [hz, Int.toNat_natCast] at a2
        clear a1 hz
        have t0 : ¬ (z : Int) < 0 := by omega
        have t1 : 0 ≤ (z : Int) := by omega
        have t2 : (z : Int) < n := by omega
        have t3 : ¬ (z : Int) ≥ n := by omega
        obtain ⟨g, rfl, r1⟩ := HR.out.resolve_left (by omega)
        have hgV := Nat.lt_of_lt_of_le r1.1 hzV
        obtain ⟨_, _, _, c3⟩ := (r1.below r1.1 hqV).2 z hzn
        rw [Nat.zero_add, a2] at c3
        clear r1 a2
        change V.cell? _ = some (.bool true) at c3
        have zfV : w.heap.size < V.heap.size := (hown.lt w.heap.size rfl).2
        have f0 := hown.cellAt z (by omega)
        rw [cellsB_at _ hzn, mk_dup HN.out, ← HZz.out, a3] at f0
        have f1 := hown.frozenAt z
        clear a3
        have HS : Hid ((V.setCell ⟨w.heap.size, z, none⟩ (.bool true)).ownsRow w.heap.size 4 1 (.slice (some ⟨w.heap.size, 0, none⟩) n n) n (cellsB (mkG (fun _ => false) Z (k + 1)) n)) := by
          unfold Hid
          show World.ownsRow _ _ _ _ _ _ (cellsB (setB (mkG (fun _ => false) Z k) (Z k).toNat) n)
          rw [HZz.out, Int.toNat_natCast, ← cellsB_set _ hzn]
          exact (hown.stored z _).1
        have hqS : Below w.heap.size w (V.setCell ⟨w.heap.size, z, none⟩ (.bool true)) := hqV.setCell (Nat.le_refl _) _
        go_wp2_with fail
        go_roundw
        case rel => exact ⟨k + 1, by omega, by simp, HS.out, hqS⟩
        case measure => simp [intOf]; omega
    · have hlt' : ¬ (k : Int) < m := by omega
      obtain ⟨g1, rfl⟩ : t = m ∧ c = .nilIface := HC.out.resolve_right fun g => by omega
      go_wp2_with fail
      go_ret
      exact ⟨rfl, by repeat (first | (with_reducible exact Below.refl _ _) | (with_reducible assumption) | (with_reducible refine Below.setCell ?_ (by first | (simp; done) | (simp; omega) | omega) _) | (with_reducible refine Below.alloc ?_ (by first | (simp; done) | (simp; omega) | omega) _) | (refine bl_call ?_ (by assumption) (by first | (simp; done) | (simp; omega) | omega)) | (with_reducible refine bl_drewN ?_) | (with_reducible refine Below.drew ?_) | (with_reducible refine bl_grow ?_ (by first | (simp; done) | (simp; omega) | omega)))⟩
theorem bgone_no (p n m dz : Nat) (sz : Option Addr) (u : Value) (K : Nat → Nat) (G : Nat → Bool) (Z : Nat → Int) (w : World) (hn : n ≤ 1000) (hm : m ≤ 9223372036854775807) (h : CoinsAt 98 w p u n K G) (hz : (m = 0 ∨ ∃ b o : Nat, sz = some ⟨b, o, none⟩ ∧ RowI w b o m Z)) (hq : (gnE n G Z m == 0) = false) : Calls Tryd.prog 65 #[.pointer (some ⟨p, 0, none⟩), .slice sz m dz] w fun e w' => e = .returned (errOf (gnE n G Z m)) ∧ Below w.heap.size w w' := by
  obtain ⟨t, t1, t2, t3, t4⟩ := gnE_first hq
  rw [t4]
  exact bgone p n m dz t sz u K G Z _ w hn hm h hz (by omega) t2 (Or.inr ⟨t1, t3, rfl⟩)
theorem bgone_yes (p n m dz : Nat) (sz : Option Addr) (u : Value) (K : Nat → Nat) (G : Nat → Bool) (Z : Nat → Int) (w : World) (hn : n ≤ 1000) (hm : m ≤ 9223372036854775807) (h : CoinsAt 98 w p u n K G) (hz : (m = 0 ∨ ∃ b o : Nat, sz = some ⟨b, o, none⟩ ∧ RowI w b o m Z)) (hok : ∀ i, i < m → goE n G Z i = 0) : Calls Tryd.prog 65 #[.pointer (some ⟨p, 0, none⟩), .slice sz m dz] w fun e w' => e = .returned (.nilIface) ∧ Below w.heap.size w w' :=
  bgone p n m dz m sz u K G Z _ w hn hm h hz (Nat.le_refl _) hok (Or.inl ⟨rfl, rfl⟩)
set_option maxRecDepth 100000 in
set_option maxHeartbeats 8000000 in
theorem banswered (a x c : Nat) (R : Sn) (w : World) (ha : ∀ w, Calls Tryd.prog 33 #[.agg #[.int .i64 ((tM a).1 : Int), .int .i64 ((tM a).2.1 : Int), .bool (tM a).2.2], .agg #[.int .i64 ((tM x).1 : Int), .int .i64 ((tM x).2.1 : Int), .bool (tM x).2.2]] w fun e w' => e = .returned (.tuple #[.int .i64 (c : Int), .nilIface]) ∧ Below w.heap.size w w') (he : tM (a + x * em (c : Int)) = R) : Calls Tryd.prog 90 #[.agg #[.int .i64 ((tM a).1 : Int), .int .i64 ((tM a).2.1 : Int), .bool (tM a).2.2], .agg #[.int .i64 ((tM x).1 : Int), .int .i64 ((tM x).2.1 : Int), .bool (tM x).2.2]] w fun e w' => e = .returned (.tuple #[.agg #[.int .i64 ((R).1 : Int), .int .i64 ((R).2.1 : Int), .bool (R).2.2], .nilIface]) ∧ Below w.heap.size w w' := by
  have HA : Hid (∀ w, Calls Tryd.prog 33 #[.agg #[.int .i64 ((tM a).1 : Int), .int .i64 ((tM a).2.1 : Int), .bool (tM a).2.2], .agg #[.int .i64 ((tM x).1 : Int), .int .i64 ((tM x).2.1 : Int), .bool (tM x).2.2]] w fun e w' => e = .returned (.tuple #[.int .i64 (c : Int), .nilIface]) ∧ Below w.heap.size w w') := ha
  have E : Hid (tM (a + x * em (c : Int)) = R) := he
  clear ha he
  have m1 : True := trivial; have m2 : True := trivial; have m3 : True := trivial
  go_enter Tryd.func90, Tryd.ntmps90
  go_wp2_with (first | (go_at_call 33; clear m1; refine (HA.out _).mono ?_; rintro e w1 ⟨rfl, hbw1⟩; have kaw1 : At w1 (w.heap.size) [.int .i64 ((tM a).1 : Int), .int .i64 ((tM a).2.1 : Int), .bool (tM a).2.2] := (by repeat (first | (with_reducible assumption) | ((with_reducible refine at_new' _ _ _ _ ?_); (first | rfl | (simp; done))) | (with_reducible refine At.alloc ?_ _) | (with_reducible refine At.drew ?_) | (with_reducible refine At.drewN ?_) | (with_reducible refine At.set ?_ (by omega)) | (with_reducible apply At.store4) | (with_reducible apply At.store3) | (with_reducible apply At.store2) | (with_reducible apply At.put43) | (refine At.below ?_ (by with_reducible assumption)))); have kxw1 : At w1 (w.heap.size + 1) [.int .i64 ((tM x).1 : Int), .int .i64 ((tM x).2.1 : Int), .bool (tM x).2.2] := (by repeat (first | (with_reducible assumption) | ((with_reducible refine at_new' _ _ _ _ ?_); (first | rfl | (simp; done))) | (with_reducible refine At.alloc ?_ _) | (with_reducible refine At.drew ?_) | (with_reducible refine At.drewN ?_) | (with_reducible refine At.set ?_ (by omega)) | (with_reducible apply At.store4) | (with_reducible apply At.store3) | (with_reducible apply At.store2) | (with_reducible apply At.put43) | (refine At.below ?_ (by with_reducible assumption)))); have kzw1 : At w1 (w.heap.size + 2) [.int .i64 0, .int .i64 0, .bool false] := (by repeat (first | (with_reducible assumption) | ((with_reducible refine at_new' _ _ _ _ ?_); (first | rfl | (simp; done))) | (with_reducible refine At.alloc ?_ _) | (with_reducible refine At.drew ?_) | (with_reducible refine At.drewN ?_) | (with_reducible refine At.set ?_ (by omega)) | (with_reducible apply At.store4) | (with_reducible apply At.store3) | (with_reducible apply At.store2) | (with_reducible apply At.put43) | (refine At.below ?_ (by with_reducible assumption)))); have hqw1 : Below w.heap.size w w1 := (by repeat (first | (with_reducible exact Below.refl _ _) | (with_reducible assumption) | (with_reducible refine Below.setCell ?_ (by first | (simp; done) | (simp; omega) | omega) _) | (with_reducible refine Below.alloc ?_ (by first | (simp; done) | (simp; omega) | omega) _) | (refine bl_call ?_ (by assumption) (by first | (simp; done) | (simp; omega) | omega)) | (with_reducible refine bl_drewN ?_) | (with_reducible refine Below.drew ?_) | (with_reducible refine bl_grow ?_ (by first | (simp; done) | (simp; omega) | omega)))); have hzw1 := hqw1.size; obtain ⟨zaw1, ca0w1, ca1w1, ca2w1, fa0w1, fa1w1, fa2w1⟩ := kaw1.three; obtain ⟨zxw1, cx0w1, cx1w1, cx2w1, fx0w1, fx1w1, fx2w1⟩ := kxw1.three; obtain ⟨zzw1, cz0w1, cz1w1, cz2w1, fz0w1, fz1w1, fz2w1⟩ := kzw1.three; clear hbw1) | (go_at_call 36; clear m2; refine (times_tM x (c : Int) _).mono ?_; rintro e w2 ⟨rfl, hbw2⟩; have kaw2 : At w2 (w.heap.size) [.int .i64 ((tM a).1 : Int), .int .i64 ((tM a).2.1 : Int), .bool (tM a).2.2] := (by repeat (first | (with_reducible assumption) | ((with_reducible refine at_new' _ _ _ _ ?_); (first | rfl | (simp; done))) | (with_reducible refine At.alloc ?_ _) | (with_reducible refine At.drew ?_) | (with_reducible refine At.drewN ?_) | (with_reducible refine At.set ?_ (by omega)) | (with_reducible apply At.store4) | (with_reducible apply At.store3) | (with_reducible apply At.store2) | (with_reducible apply At.put43) | (refine At.below ?_ (by with_reducible assumption)))); have kxw2 : At w2 (w.heap.size + 1) [.int .i64 ((tM x).1 : Int), .int .i64 ((tM x).2.1 : Int), .bool (tM x).2.2] := (by repeat (first | (with_reducible assumption) | ((with_reducible refine at_new' _ _ _ _ ?_); (first | rfl | (simp; done))) | (with_reducible refine At.alloc ?_ _) | (with_reducible refine At.drew ?_) | (with_reducible refine At.drewN ?_) | (with_reducible refine At.set ?_ (by omega)) | (with_reducible apply At.store4) | (with_reducible apply At.store3) | (with_reducible apply At.store2) | (with_reducible apply At.put43) | (refine At.below ?_ (by with_reducible assumption)))); have kzw2 : At w2 (w.heap.size + 2) [.int .i64 0, .int .i64 0, .bool false] := (by repeat (first | (with_reducible assumption) | ((with_reducible refine at_new' _ _ _ _ ?_); (first | rfl | (simp; done))) | (with_reducible refine At.alloc ?_ _) | (with_reducible refine At.drew ?_) | (with_reducible refine At.drewN ?_) | (with_reducible refine At.set ?_ (by omega)) | (with_reducible apply At.store4) | (with_reducible apply At.store3) | (with_reducible apply At.store2) | (with_reducible apply At.put43) | (refine At.below ?_ (by with_reducible assumption)))); have hqw2 : Below w.heap.size w w2 := (by repeat (first | (with_reducible exact Below.refl _ _) | (with_reducible assumption) | (with_reducible refine Below.setCell ?_ (by first | (simp; done) | (simp; omega) | omega) _) | (with_reducible refine Below.alloc ?_ (by first | (simp; done) | (simp; omega) | omega) _) | (refine bl_call ?_ (by assumption) (by first | (simp; done) | (simp; omega) | omega)) | (with_reducible refine bl_drewN ?_) | (with_reducible refine Below.drew ?_) | (with_reducible refine bl_grow ?_ (by first | (simp; done) | (simp; omega) | omega)))); have hzw2 := hqw2.size; obtain ⟨zaw2, ca0w2, ca1w2, ca2w2, fa0w2, fa1w2, fa2w2⟩ := kaw2.three; obtain ⟨zxw2, cx0w2, cx1w2, cx2w2, fx0w2, fx1w2, fx2w2⟩ := kxw2.three; obtain ⟨zzw2, cz0w2, cz1w2, cz2w2, fz0w2, fz1w2, fz2w2⟩ := kzw2.three; clear kaw1 ca0w1 fa0w1 ca1w1 fa1w1 ca2w1 fa2w1 kxw1 cx0w1 fx0w1 cx1w1 fx1w1 cx2w1 fx2w1 kzw1 cz0w1 fz0w1 cz1w1 fz1w1 cz2w1 fz2w1 hqw1; clear hbw2) | (go_at_call 34; clear m3; refine (cadd_eq E.out _).mono ?_; rintro e w3 ⟨rfl, hbw3⟩; have kaw3 : At w3 (w.heap.size) [.int .i64 ((tM a).1 : Int), .int .i64 ((tM a).2.1 : Int), .bool (tM a).2.2] := (by repeat (first | (with_reducible assumption) | ((with_reducible refine at_new' _ _ _ _ ?_); (first | rfl | (simp; done))) | (with_reducible refine At.alloc ?_ _) | (with_reducible refine At.drew ?_) | (with_reducible refine At.drewN ?_) | (with_reducible refine At.set ?_ (by omega)) | (with_reducible apply At.store4) | (with_reducible apply At.store3) | (with_reducible apply At.store2) | (with_reducible apply At.put43) | (refine At.below ?_ (by with_reducible assumption)))); have kxw3 : At w3 (w.heap.size + 1) [.int .i64 ((tM x).1 : Int), .int .i64 ((tM x).2.1 : Int), .bool (tM x).2.2] := (by repeat (first | (with_reducible assumption) | ((with_reducible refine at_new' _ _ _ _ ?_); (first | rfl | (simp; done))) | (with_reducible refine At.alloc ?_ _) | (with_reducible refine At.drew ?_) | (with_reducible refine At.drewN ?_) | (with_reducible refine At.set ?_ (by omega)) | (with_reducible apply At.store4) | (with_reducible apply At.store3) | (with_reducible apply At.store2) | (with_reducible apply At.put43) | (refine At.below ?_ (by with_reducible assumption)))); have kzw3 : At w3 (w.heap.size + 2) [.int .i64 0, .int .i64 0, .bool false] := (by repeat (first | (with_reducible assumption) | ((with_reducible refine at_new' _ _ _ _ ?_); (first | rfl | (simp; done))) | (with_reducible refine At.alloc ?_ _) | (with_reducible refine At.drew ?_) | (with_reducible refine At.drewN ?_) | (with_reducible refine At.set ?_ (by omega)) | (with_reducible apply At.store4) | (with_reducible apply At.store3) | (with_reducible apply At.store2) | (with_reducible apply At.put43) | (refine At.below ?_ (by with_reducible assumption)))); have ktw3 : At w3 (w2.heap.size) [.int .i64 ((tM (x * em (c : Int))).1 : Int), .int .i64 ((tM (x * em (c : Int))).2.1 : Int), .bool (tM (x * em (c : Int))).2.2] := (by repeat (first | (with_reducible assumption) | ((with_reducible refine at_new' _ _ _ _ ?_); (first | rfl | (simp; done))) | (with_reducible refine At.alloc ?_ _) | (with_reducible refine At.drew ?_) | (with_reducible refine At.drewN ?_) | (with_reducible refine At.set ?_ (by omega)) | (with_reducible apply At.store4) | (with_reducible apply At.store3) | (with_reducible apply At.store2) | (with_reducible apply At.put43) | (refine At.below ?_ (by with_reducible assumption)))); have hqw3 : Below w.heap.size w w3 := (by repeat (first | (with_reducible exact Below.refl _ _) | (with_reducible assumption) | (with_reducible refine Below.setCell ?_ (by first | (simp; done) | (simp; omega) | omega) _) | (with_reducible refine Below.alloc ?_ (by first | (simp; done) | (simp; omega) | omega) _) | (refine bl_call ?_ (by assumption) (by first | (simp; done) | (simp; omega) | omega)) | (with_reducible refine bl_drewN ?_) | (with_reducible refine Below.drew ?_) | (with_reducible refine bl_grow ?_ (by first | (simp; done) | (simp; omega) | omega)))); have hzw3 := hqw3.size; obtain ⟨zaw3, ca0w3, ca1w3, ca2w3, fa0w3, fa1w3, fa2w3⟩ := kaw3.three; obtain ⟨zxw3, cx0w3, cx1w3, cx2w3, fx0w3, fx1w3, fx2w3⟩ := kxw3.three; obtain ⟨zzw3, cz0w3, cz1w3, cz2w3, fz0w3, fz1w3, fz2w3⟩ := kzw3.three; obtain ⟨ztw3, ct0w3, ct1w3, ct2w3, ft0w3, ft1w3, ft2w3⟩ := ktw3.three; clear kaw2 ca0w2 fa0w2 ca1w2 fa1w2 ca2w2 fa2w2 kxw2 cx0w2 fx0w2 cx1w2 fx1w2 cx2w2 fx2w2 kzw2 cz0w2 fz0w2 cz1w2 fz1w2 cz2w2 fz2w2 hqw2; clear hbw3))
  exact bodyPost_ret (v := .tuple #[.agg #[.int .i64 ((R).1 : Int), .int .i64 ((R).2.1 : Int), .bool (R).2.2], .nilIface]) (by simp [results, Tryd.results90, go_sem, *]) rfl ⟨rfl, by repeat (first | (with_reducible exact Below.refl _ _) | (with_reducible assumption) | (with_reducible refine Below.setCell ?_ (by first | (simp; done) | (simp; omega) | omega) _) | (with_reducible refine Below.alloc ?_ (by first | (simp; done) | (simp; omega) | omega) _) | (refine bl_call ?_ (by assumption) (by first | (simp; done) | (simp; omega) | omega)) | (with_reducible refine bl_drewN ?_) | (with_reducible refine Below.drew ?_) | (with_reducible refine bl_grow ?_ (by first | (simp; done) | (simp; omega) | omega)))⟩
set_option maxRecDepth 100000 in
set_option maxHeartbeats 8000000 in
theorem bcs_s (x : Nat) (x1 y1 S : Int) (f1 : Bool) (w : World) (h : resB S = false) : Calls Tryd.prog 63 #[.agg #[.int .i64 x1, .int .i64 y1, .bool f1, .int .i64 S], .agg #[.int .i64 ((tM x).1 : Int), .int .i64 ((tM x).2.1 : Int), .bool (tM x).2.2]] w fun e w' => e = .returned (errOf 1) ∧ Below w.heap.size w w' := by
  have H : Hid (∀ w, Calls Tryd.prog 61 #[.int .i64 S] w fun e w' => e = .returned (.bool false) ∧ w' = w) := bisnum h
  clear h
  go_enter Tryd.func63, Tryd.ntmps63
  go_wp2_with (go_at_call 61; refine (H.out _).mono ?_; rintro e v1 ⟨rfl, hv1⟩; subst v1)
  go_ret
  exact ⟨rfl, by repeat (first | (with_reducible exact Below.refl _ _) | (with_reducible assumption) | (with_reducible refine Below.setCell ?_ (by first | (simp; done) | (simp; omega) | omega) _) | (with_reducible refine Below.alloc ?_ (by first | (simp; done) | (simp; omega) | omega) _) | (refine bl_call ?_ (by assumption) (by first | (simp; done) | (simp; omega) | omega)) | (with_reducible refine bl_drewN ?_) | (with_reducible refine Below.drew ?_) | (with_reducible refine bl_grow ?_ (by first | (simp; done) | (simp; omega) | omega)))⟩
set_option maxRecDepth 100000 in
set_option maxHeartbeats 8000000 in
theorem bcs_r (x : Nat) (x1 y1 S : Int) (f1 : Bool) (w : World) (h : resB S = true) (hr : (ckI x1 y1 f1 == 0) = false) : Calls Tryd.prog 63 #[.agg #[.int .i64 x1, .int .i64 y1, .bool f1, .int .i64 S], .agg #[.int .i64 ((tM x).1 : Int), .int .i64 ((tM x).2.1 : Int), .bool (tM x).2.2]] w fun e w' => e = .returned (errOf (ckI x1 y1 f1)) ∧ Below w.heap.size w w' := by
  have H : Hid (∀ w, Calls Tryd.prog 61 #[.int .i64 S] w fun e w' => e = .returned (.bool true) ∧ w' = w) := bisnum h
  clear h
  have m1 : True := trivial
  go_enter Tryd.func63, Tryd.ntmps63
  go_wp2_with (first | (go_at_call 61; refine (H.out _).mono ?_; rintro e v1 ⟨rfl, hv1⟩; subst v1) | (go_at_call 53; clear m1; refine (check_no _ _ _ _ hr).mono ?_; rintro e w1 ⟨rfl, hbw1⟩; have ksw1 : At w1 (w.heap.size) [.int .i64 x1, .int .i64 y1, .bool f1, .int .i64 S] := (by repeat (first | (with_reducible assumption) | ((with_reducible refine at_new' _ _ _ _ ?_); (first | rfl | (simp; done))) | (with_reducible refine At.alloc ?_ _) | (with_reducible refine At.drew ?_) | (with_reducible refine At.drewN ?_) | (with_reducible refine At.set ?_ (by omega)) | (with_reducible apply At.store4) | (with_reducible apply At.store3) | (with_reducible apply At.store2) | (with_reducible apply At.put43) | (refine At.below ?_ (by with_reducible assumption)))); have kew1 : At w1 (w.heap.size + 1) [.int .i64 ((tM x).1 : Int), .int .i64 ((tM x).2.1 : Int), .bool (tM x).2.2] := (by repeat (first | (with_reducible assumption) | ((with_reducible refine at_new' _ _ _ _ ?_); (first | rfl | (simp; done))) | (with_reducible refine At.alloc ?_ _) | (with_reducible refine At.drew ?_) | (with_reducible refine At.drewN ?_) | (with_reducible refine At.set ?_ (by omega)) | (with_reducible apply At.store4) | (with_reducible apply At.store3) | (with_reducible apply At.store2) | (with_reducible apply At.put43) | (refine At.below ?_ (by with_reducible assumption)))); have hqw1 : Below w.heap.size w w1 := (by repeat (first | (with_reducible exact Below.refl _ _) | (with_reducible assumption) | (with_reducible refine Below.setCell ?_ (by first | (simp; done) | (simp; omega) | omega) _) | (with_reducible refine Below.alloc ?_ (by first | (simp; done) | (simp; omega) | omega) _) | (refine bl_call ?_ (by assumption) (by first | (simp; done) | (simp; omega) | omega)) | (with_reducible refine bl_drewN ?_) | (with_reducible refine Below.drew ?_) | (with_reducible refine bl_grow ?_ (by first | (simp; done) | (simp; omega) | omega)))); have hzw1 := hqw1.size; obtain ⟨zsw1, cs0w1, cs1w1, cs2w1, cs3w1, fs0w1, fs1w1, fs2w1, fs3w1⟩ := ksw1.four; obtain ⟨zew1, ce0w1, ce1w1, ce2w1, fe0w1, fe1w1, fe2w1⟩ := kew1.three; clear hbw1))
  go_ret
  exact ⟨rfl, by repeat (first | (with_reducible exact Below.refl _ _) | (with_reducible assumption) | (with_reducible refine Below.setCell ?_ (by first | (simp; done) | (simp; omega) | omega) _) | (with_reducible refine Below.alloc ?_ (by first | (simp; done) | (simp; omega) | omega) _) | (refine bl_call ?_ (by assumption) (by first | (simp; done) | (simp; omega) | omega)) | (with_reducible refine bl_drewN ?_) | (with_reducible refine Below.drew ?_) | (with_reducible refine bl_grow ?_ (by first | (simp; done) | (simp; omega) | omega)))⟩
set_option maxRecDepth 100000 in
set_option maxHeartbeats 8000000 in
theorem bcs_any (a x s h : Nat) (L R : Sn) (t1 t2 t3 : Bool) (w : World) (hs : s < 1013) (hsc : ∀ w, Calls Tryd.prog 62 #[] w fun e w' => e = .returned (.agg #[.int .i64 ((tM (4 * h)).1 : Int), .int .i64 ((tM (4 * h)).2.1 : Int), .bool (tM (4 * h)).2.2]) ∧ Below w.heap.size w w') (hl : tM (4 * h * em (s : Int)) = L) (ha : ∀ w, Calls Tryd.prog 90 #[.agg #[.int .i64 ((tM a).1 : Int), .int .i64 ((tM a).2.1 : Int), .bool (tM a).2.2], .agg #[.int .i64 ((tM x).1 : Int), .int .i64 ((tM x).2.1 : Int), .bool (tM x).2.2]] w fun e w' => e = .returned (.tuple #[.agg #[.int .i64 ((R).1 : Int), .int .i64 ((R).2.1 : Int), .bool (R).2.2], .nilIface]) ∧ Below w.heap.size w w') (e1 : ((L.1 : Int) == (R.1 : Int)) = t1) (e2 : ((L.2.1 : Int) == (R.2.1 : Int)) = t2) (e3 : (L.2.2 == R.2.2) = t3) : Calls Tryd.prog 63 #[.agg #[.int .i64 ((tM a).1 : Int), .int .i64 ((tM a).2.1 : Int), .bool (tM a).2.2, .int .i64 (s : Int)], .agg #[.int .i64 ((tM x).1 : Int), .int .i64 ((tM x).2.1 : Int), .bool (tM x).2.2]] w fun e w' => e = .returned (bif (t1 && t2 && t3) then .nilIface else errOf 8) ∧ Below w.heap.size w w' := by
  have H : Hid (∀ w, Calls Tryd.prog 61 #[.int .i64 (s : Int)] w fun e w' => e = .returned (.bool true) ∧ w' = w) := bisnum (decide_eq_true ⟨by omega, by omega⟩)
  have HSC : Hid (∀ w, Calls Tryd.prog 62 #[] w fun e w' => e = .returned (.agg #[.int .i64 ((tM (4 * h)).1 : Int), .int .i64 ((tM (4 * h)).2.1 : Int), .bool (tM (4 * h)).2.2]) ∧ Below w.heap.size w w') := hsc
  have EL : Hid (tM (4 * h * em (s : Int)) = L) := hl
  have HA : Hid (∀ w, Calls Tryd.prog 90 #[.agg #[.int .i64 ((tM a).1 : Int), .int .i64 ((tM a).2.1 : Int), .bool (tM a).2.2], .agg #[.int .i64 ((tM x).1 : Int), .int .i64 ((tM x).2.1 : Int), .bool (tM x).2.2]] w fun e w' => e = .returned (.tuple #[.agg #[.int .i64 ((R).1 : Int), .int .i64 ((R).2.1 : Int), .bool (R).2.2], .nilIface]) ∧ Below w.heap.size w w') := ha
  clear hsc hl ha
  have m1 : True := trivial
  go_enter Tryd.func63, Tryd.ntmps63
  go_upto_region 6 with (first | (go_at_call 61; refine (H.out _).mono ?_; rintro e v1 ⟨rfl, hv1⟩; subst v1) | (go_at_call 53; clear m1; refine (check_tM _ _).mono ?_; rintro e w1 ⟨rfl, hbw1⟩; have ksw1 : At w1 (w.heap.size) [.int .i64 ((tM a).1 : Int), .int .i64 ((tM a).2.1 : Int), .bool (tM a).2.2, .int .i64 (s : Int)] := (by repeat (first | (with_reducible assumption) | ((with_reducible refine at_new' _ _ _ _ ?_); (first | rfl | (simp; done))) | (with_reducible refine At.alloc ?_ _) | (with_reducible refine At.drew ?_) | (with_reducible refine At.drewN ?_) | (with_reducible refine At.set ?_ (by omega)) | (with_reducible apply At.store4) | (with_reducible apply At.store3) | (with_reducible apply At.store2) | (with_reducible apply At.put43) | (refine At.below ?_ (by with_reducible assumption)))); have kew1 : At w1 (w.heap.size + 1) [.int .i64 ((tM x).1 : Int), .int .i64 ((tM x).2.1 : Int), .bool (tM x).2.2] := (by repeat (first | (with_reducible assumption) | ((with_reducible refine at_new' _ _ _ _ ?_); (first | rfl | (simp; done))) | (with_reducible refine At.alloc ?_ _) | (with_reducible refine At.drew ?_) | (with_reducible refine At.drewN ?_) | (with_reducible refine At.set ?_ (by omega)) | (with_reducible apply At.store4) | (with_reducible apply At.store3) | (with_reducible apply At.store2) | (with_reducible apply At.put43) | (refine At.below ?_ (by with_reducible assumption)))); have hqw1 : Below w.heap.size w w1 := (by repeat (first | (with_reducible exact Below.refl _ _) | (with_reducible assumption) | (with_reducible refine Below.setCell ?_ (by first | (simp; done) | (simp; omega) | omega) _) | (with_reducible refine Below.alloc ?_ (by first | (simp; done) | (simp; omega) | omega) _) | (refine bl_call ?_ (by assumption) (by first | (simp; done) | (simp; omega) | omega)) | (with_reducible refine bl_drewN ?_) | (with_reducible refine Below.drew ?_) | (with_reducible refine bl_grow ?_ (by first | (simp; done) | (simp; omega) | omega)))); have hzw1 := hqw1.size; obtain ⟨zsw1, cs0w1, cs1w1, cs2w1, cs3w1, fs0w1, fs1w1, fs2w1, fs3w1⟩ := ksw1.four; obtain ⟨zew1, ce0w1, ce1w1, ce2w1, fe0w1, fe1w1, fe2w1⟩ := kew1.three; clear hbw1))
  go_cut [6, 7] from 9 to 43 (fun t6 t7 wx => ∃ bl : Nat, t6 = .pointer (some ⟨bl, 0, none⟩) ∧ t7 = .nilIface ∧ At wx (w.heap.size) [.int .i64 ((tM a).1 : Int), .int .i64 ((tM a).2.1 : Int), .bool (tM a).2.2, .int .i64 (s : Int)] ∧ At wx (w.heap.size + 1) [.int .i64 ((tM x).1 : Int), .int .i64 ((tM x).2.1 : Int), .bool (tM x).2.2] ∧ At wx bl [.int .i64 ((L).1 : Int), .int .i64 ((L).2.1 : Int), .bool (L).2.2] ∧ w.heap.size + 1 < bl ∧ Below w.heap.size w wx)
  case first =>
    go_region_held3 (fun W => ((w.heap.size) < W.heap.size ∧ W.cell? ⟨w.heap.size, 0, none⟩ = some (.int .i64 ((tM a).1 : Int)) ∧ W.cell? ⟨w.heap.size, 1, none⟩ = some (.int .i64 ((tM a).2.1 : Int)) ∧ W.cell? ⟨w.heap.size, 2, none⟩ = some (.bool (tM a).2.2) ∧ W.cell? ⟨w.heap.size, 3, none⟩ = some (.int .i64 (s : Int)) ∧ W.frozen? ⟨w.heap.size, 0, none⟩ = false ∧ W.frozen? ⟨w.heap.size, 1, none⟩ = false ∧ W.frozen? ⟨w.heap.size, 2, none⟩ = false ∧ W.frozen? ⟨w.heap.size, 3, none⟩ = false)) (exact At.four (by repeat (first | (with_reducible assumption) | ((with_reducible refine at_new' _ _ _ _ ?_); (first | rfl | (simp; done))) | (with_reducible refine At.alloc ?_ _) | (with_reducible refine At.drew ?_) | (with_reducible refine At.drewN ?_) | (with_reducible refine At.set ?_ (by omega)) | (with_reducible apply At.store4) | (with_reducible apply At.store3) | (with_reducible apply At.store2) | (with_reducible apply At.put43) | (refine At.below ?_ (by with_reducible assumption))))) (first | (go_at_call 62; refine (HSC.out _).mono ?_; rintro e w5 ⟨rfl, hb5⟩; obtain ⟨hc5, hf5⟩ := bcell hb5; have hl5 := bb_lt hb5; have hn5 := bb_ne hb5; have hm5 := bb_ne2 hb5; have hs5 := hb5.size; (try simp at hs5)) | (go_at_call 36; refine (times_eq EL.out _).mono ?_; rintro e w6 ⟨rfl, hb6⟩; obtain ⟨hc6, hf6⟩ := bcell hb6; have hl6 := bb_lt hb6; have hn6 := bb_ne hb6; have hm6 := bb_ne2 hb6; have hs6 := hb6.size; (try simp at hs6)))
    all_goals (go_wp2_with fail)
    all_goals go_meet
    all_goals (case rel => exact ⟨_, rfl, rfl, by repeat (first | (with_reducible assumption) | ((with_reducible refine at_new' _ _ _ _ ?_); (first | rfl | (simp; done))) | (with_reducible refine At.alloc ?_ _) | (with_reducible refine At.drew ?_) | (with_reducible refine At.drewN ?_) | (with_reducible refine At.set ?_ (by omega)) | (with_reducible apply At.store4) | (with_reducible apply At.store3) | (with_reducible apply At.store2) | (with_reducible apply At.put43) | (refine At.below ?_ (by with_reducible assumption))), by repeat (first | (with_reducible assumption) | ((with_reducible refine at_new' _ _ _ _ ?_); (first | rfl | (simp; done))) | (with_reducible refine At.alloc ?_ _) | (with_reducible refine At.drew ?_) | (with_reducible refine At.drewN ?_) | (with_reducible refine At.set ?_ (by omega)) | (with_reducible apply At.store4) | (with_reducible apply At.store3) | (with_reducible apply At.store2) | (with_reducible apply At.put43) | (refine At.below ?_ (by with_reducible assumption))), by repeat (first | (with_reducible assumption) | ((with_reducible refine at_new' _ _ _ _ ?_); (first | rfl | (simp; done))) | (with_reducible refine At.alloc ?_ _) | (with_reducible refine At.drew ?_) | (with_reducible refine At.drewN ?_) | (with_reducible refine At.set ?_ (by omega)) | (with_reducible apply At.store4) | (with_reducible apply At.store3) | (with_reducible apply At.store2) | (with_reducible apply At.put43) | (refine At.below ?_ (by with_reducible assumption))), by omega, by repeat (first | (with_reducible exact Below.refl _ _) | (with_reducible assumption) | (with_reducible refine Below.setCell ?_ (by first | (simp; done) | (simp; omega) | omega) _) | (with_reducible refine Below.alloc ?_ (by first | (simp; done) | (simp; omega) | omega) _) | (refine bl_call ?_ (by assumption) (by first | (simp; done) | (simp; omega) | omega)) | (with_reducible refine bl_drewN ?_) | (with_reducible refine Below.drew ?_) | (with_reducible refine bl_grow ?_ (by first | (simp; done) | (simp; omega) | omega)))⟩)
  case rest =>
    clear ksw1 cs0w1 fs0w1 cs1w1 fs1w1 cs2w1 fs2w1 cs3w1 fs3w1 kew1 ce0w1 fe0w1 ce1w1 fe1w1 ce2w1 fe2w1 hqw1
    obtain ⟨bl, rfl, rfl, kswc, kewc, klwc, hbl, hqwc⟩ := hcut
    have hzwc := hqwc.size
    obtain ⟨zswc, cs0wc, cs1wc, cs2wc, cs3wc, fs0wc, fs1wc, fs2wc, fs3wc⟩ := kswc.four
    obtain ⟨zewc, ce0wc, ce1wc, ce2wc, fe0wc, fe1wc, fe2wc⟩ := kewc.three
    obtain ⟨zlwc, cl0wc, cl1wc, cl2wc, fl0wc, fl1wc, fl2wc⟩ := klwc.three
    cases t1 <;> cases t2 <;> cases t3
    all_goals (
    have m1 : True := trivial
    go_wp2_with (go_at_call 90; clear m1; refine (HA.out _).mono ?_; rintro e w7 ⟨rfl, hbw7⟩; have ksw7 : At w7 (w.heap.size) [.int .i64 ((tM a).1 : Int), .int .i64 ((tM a).2.1 : Int), .bool (tM a).2.2, .int .i64 (s : Int)] := (by repeat (first | (with_reducible assumption) | ((with_reducible refine at_new' _ _ _ _ ?_); (first | rfl | (simp; done))) | (with_reducible refine At.alloc ?_ _) | (with_reducible refine At.drew ?_) | (with_reducible refine At.drewN ?_) | (with_reducible refine At.set ?_ (by omega)) | (with_reducible apply At.store4) | (with_reducible apply At.store3) | (with_reducible apply At.store2) | (with_reducible apply At.put43) | (refine At.below ?_ (by with_reducible assumption)))); have kew7 : At w7 (w.heap.size + 1) [.int .i64 ((tM x).1 : Int), .int .i64 ((tM x).2.1 : Int), .bool (tM x).2.2] := (by repeat (first | (with_reducible assumption) | ((with_reducible refine at_new' _ _ _ _ ?_); (first | rfl | (simp; done))) | (with_reducible refine At.alloc ?_ _) | (with_reducible refine At.drew ?_) | (with_reducible refine At.drewN ?_) | (with_reducible refine At.set ?_ (by omega)) | (with_reducible apply At.store4) | (with_reducible apply At.store3) | (with_reducible apply At.store2) | (with_reducible apply At.put43) | (refine At.below ?_ (by with_reducible assumption)))); have klw7 : At w7 (bl) [.int .i64 ((L).1 : Int), .int .i64 ((L).2.1 : Int), .bool (L).2.2] := (by repeat (first | (with_reducible assumption) | ((with_reducible refine at_new' _ _ _ _ ?_); (first | rfl | (simp; done))) | (with_reducible refine At.alloc ?_ _) | (with_reducible refine At.drew ?_) | (with_reducible refine At.drewN ?_) | (with_reducible refine At.set ?_ (by omega)) | (with_reducible apply At.store4) | (with_reducible apply At.store3) | (with_reducible apply At.store2) | (with_reducible apply At.put43) | (refine At.below ?_ (by with_reducible assumption)))); have hqw7 : Below w.heap.size w w7 := (by repeat (first | (with_reducible exact Below.refl _ _) | (with_reducible assumption) | (with_reducible refine Below.setCell ?_ (by first | (simp; done) | (simp; omega) | omega) _) | (with_reducible refine Below.alloc ?_ (by first | (simp; done) | (simp; omega) | omega) _) | (refine bl_call ?_ (by assumption) (by first | (simp; done) | (simp; omega) | omega)) | (with_reducible refine bl_drewN ?_) | (with_reducible refine Below.drew ?_) | (with_reducible refine bl_grow ?_ (by first | (simp; done) | (simp; omega) | omega)))); have hzw7 := hqw7.size; obtain ⟨zsw7, cs0w7, cs1w7, cs2w7, cs3w7, fs0w7, fs1w7, fs2w7, fs3w7⟩ := ksw7.four; obtain ⟨zew7, ce0w7, ce1w7, ce2w7, fe0w7, fe1w7, fe2w7⟩ := kew7.three; obtain ⟨zlw7, cl0w7, cl1w7, cl2w7, fl0w7, fl1w7, fl2w7⟩ := klw7.three; clear kswc cs0wc fs0wc cs1wc fs1wc cs2wc fs2wc cs3wc fs3wc kewc ce0wc fe0wc ce1wc fe1wc ce2wc fe2wc klwc cl0wc fl0wc cl1wc fl1wc cl2wc fl2wc hqwc; clear hbw7)
    go_ret
    exact ⟨rfl, by repeat (first | (with_reducible exact Below.refl _ _) | (with_reducible assumption) | (with_reducible refine Below.setCell ?_ (by first | (simp; done) | (simp; omega) | omega) _) | (with_reducible refine Below.alloc ?_ (by first | (simp; done) | (simp; omega) | omega) _) | (refine bl_call ?_ (by assumption) (by first | (simp; done) | (simp; omega) | omega)) | (with_reducible refine bl_drewN ?_) | (with_reducible refine Below.drew ?_) | (with_reducible refine bl_grow ?_ (by first | (simp; done) | (simp; omega) | omega)))⟩)
theorem bcs_same (a x s : Nat) (w : World) (hs : s < 1013) : Calls Tryd.prog 63 #[.agg #[.int .i64 ((tM a).1 : Int), .int .i64 ((tM a).2.1 : Int), .bool (tM a).2.2, .int .i64 (s : Int)], .agg #[.int .i64 ((tM (4 * x)).1 : Int), .int .i64 ((tM (4 * x)).2.1 : Int), .bool (tM (4 * x)).2.2]] w fun e w' => e = .returned (bif closeB a x s then .nilIface else errOf 8) ∧ Below w.heap.size w w' := by
  have hb := baN_lt a (4 * x)
  have := bcs_any a (4 * x) s h2N (tM (4 * clR s)) (tM (a + 4 * x * baN a (4 * x))) _ _ _ w hs second_w (cl_em hs) (fun w => banswered a (4 * x) (baN a (4 * x)) _ w (fun w => bask_ok a (4 * x) w) (by rw [em_nat hb])) rfl rfl rfl
  have e : closeB a x s = ((((tM (4 * clR s)).1 : Int) == ((tM (a + 4 * x * baN a (4 * x))).1 : Int)) && (((tM (4 * clR s)).2.1 : Int) == ((tM (a + 4 * x * baN a (4 * x))).2.1 : Int)) && ((tM (4 * clR s)).2.2 == (tM (a + 4 * x * baN a (4 * x))).2.2)) := by
    cases hc : closeB a x s with
    | true =>
      rw [close_iff] at hc
      rw [hc]; simp
    | false =>
      symm
      rw [Bool.eq_false_iff]
      intro k
      rw [Bool.and_eq_true, Bool.and_eq_true, beq_iff_eq, beq_iff_eq, beq_iff_eq] at k
      obtain ⟨⟨k1, k2⟩, k3⟩ := k
      have : closeB a x s = true := (close_iff a x s).2 (Prod.ext (by omega) (Prod.ext (by omega) k3))
      rw [hc] at this
      cases this
  rw [e]
  exact this
end Go.Proofs.YtlbdcgnhmkjfiaiDoor
/- BookB -/
namespace Go.Proofs.YtlbdcgnhmkjfiaiDoor
open Go.RowKit Go.Sort
set_option linter.unusedVariables false
set_option linter.unusedSimpArgs false
theorem ethen_gen3 {K : Act → World → Prop} {Q : Exit → Act → World → Prop} {x : Exit} {a : Act} {w : World} (S : World → Prop) (h : S w) (k : ∀ W, S W → Exit.then K Q x a W) : Exit.then K Q x a w := k w h
/-- What a new book is. -/
def NewAt (e : TypeId) (w w' : World) (p n : Nat) (K : Nat → Nat) : Prop := ∃ u, CoinsAt e w' p u n K (fun _ => false) ∧ (∀ i, fc p u i → w.heap.size ≤ i) ∧ Below w.heap.size w w'
set_option maxRecDepth 100000 in
set_option maxHeartbeats 8000000 in
theorem bnew_no (sl : Option Addr) (n d : Nat) (q : Int) (w : World) (h : ∀ W, Below w.heap.size w W → Calls Tryd.prog 57 #[.slice sl n d] W fun e w' => e = .returned (errOf q) ∧ Below W.heap.size W w') : Calls Tryd.prog 26 #[.slice sl n d] w fun e w' => e = .returned (.tuple #[.pointer none, errOf q]) ∧ Below w.heap.size w w' := by
  have H : Hid (∀ W, Below w.heap.size w W → Calls Tryd.prog 57 #[.slice sl n d] W fun e w' => e = .returned (errOf q) ∧ Below W.heap.size W w') := h
  clear h
  have m1 : True := trivial
  go_enter Tryd.func26, Tryd.ntmps26
  go_wp2_with (go_at_call 57; clear m1; refine (H.out _ (by repeat (first | (with_reducible exact Below.refl _ _) | (with_reducible assumption) | (with_reducible refine Below.setCell ?_ (by first | (simp; done) | (simp; omega) | omega) _) | (with_reducible refine Below.alloc ?_ (by first | (simp; done) | (simp; omega) | omega) _) | (refine bl_call ?_ (by assumption) (by first | (simp; done) | (simp; omega) | omega)) | (with_reducible refine bl_drewN ?_) | (with_reducible refine Below.drew ?_) | (with_reducible refine bl_grow ?_ (by first | (simp; done) | (simp; omega) | omega))))).mono ?_; rintro e w1 ⟨rfl, hbw1⟩; have hqw1 : Below w.heap.size w w1 := (by repeat (first | (with_reducible exact Below.refl _ _) | (with_reducible assumption) | (with_reducible refine Below.setCell ?_ (by first | (simp; done) | (simp; omega) | omega) _) | (with_reducible refine Below.alloc ?_ (by first | (simp; done) | (simp; omega) | omega) _) | (refine bl_call ?_ (by assumption) (by first | (simp; done) | (simp; omega) | omega)) | (with_reducible refine bl_drewN ?_) | (with_reducible refine Below.drew ?_) | (with_reducible refine bl_grow ?_ (by first | (simp; done) | (simp; omega) | omega)))); have hzw1 := hqw1.size; clear hbw1)
  exact bodyPost_ret (v := .tuple #[.pointer none, errOf q]) (by simp [results, Tryd.results26, go_sem, *]) rfl ⟨rfl, by repeat (first | (with_reducible exact Below.refl _ _) | (with_reducible assumption) | (with_reducible refine Below.setCell ?_ (by first | (simp; done) | (simp; omega) | omega) _) | (with_reducible refine Below.alloc ?_ (by first | (simp; done) | (simp; omega) | omega) _) | (refine bl_call ?_ (by assumption) (by first | (simp; done) | (simp; omega) | omega)) | (with_reducible refine bl_drewN ?_) | (with_reducible refine Below.drew ?_) | (with_reducible refine bl_grow ?_ (by first | (simp; done) | (simp; omega) | omega)))⟩
set_option maxRecDepth 100000 in
set_option maxHeartbeats 8000000 in
theorem bnew_ok (sl : Option Addr) (n d : Nat) (K : Nat → Nat) (w : World) (h : ∀ W, Below w.heap.size w W → Calls Tryd.prog 57 #[.slice sl n d] W fun e w' => e = .returned (.nilIface) ∧ Below W.heap.size W w') (hm : ∀ W, Below w.heap.size w W → Calls Tryd.prog 58 #[.slice sl n d] W fun ex w' => ∃ q, ex = .returned q ∧ w'.ownsRow W.heap.size 98 4 q n (cellsC K (fun _ => false) n) ∧ Below W.heap.size W w') : Calls Tryd.prog 26 #[.slice sl n d] w fun ex w' => ∃ p, ex = .returned (.tuple #[.pointer (some ⟨p, 0, none⟩), .nilIface]) ∧ NewAt 98 w w' p n K := by
  have H : Hid (∀ W, Below w.heap.size w W → Calls Tryd.prog 57 #[.slice sl n d] W fun e w' => e = .returned (.nilIface) ∧ Below W.heap.size W w') := h
  have HM : Hid (∀ W, Below w.heap.size w W → Calls Tryd.prog 58 #[.slice sl n d] W fun ex w' => ∃ q, ex = .returned q ∧ w'.ownsRow W.heap.size 98 4 q n (cellsC K (fun _ => false) n) ∧ Below W.heap.size W w') := hm
  clear h hm
  have m1 : True := trivial; have m2 : True := trivial
  go_enter Tryd.func26, Tryd.ntmps26
  go_wp2_with (first | (go_at_call 57; clear m1; refine (H.out _ (by repeat (first | (with_reducible exact Below.refl _ _) | (with_reducible assumption) | (with_reducible refine Below.setCell ?_ (by first | (simp; done) | (simp; omega) | omega) _) | (with_reducible refine Below.alloc ?_ (by first | (simp; done) | (simp; omega) | omega) _) | (refine bl_call ?_ (by assumption) (by first | (simp; done) | (simp; omega) | omega)) | (with_reducible refine bl_drewN ?_) | (with_reducible refine Below.drew ?_) | (with_reducible refine bl_grow ?_ (by first | (simp; done) | (simp; omega) | omega))))).mono ?_; rintro e w1 ⟨rfl, hbw1⟩; have hqw1 : Below w.heap.size w w1 := (by repeat (first | (with_reducible exact Below.refl _ _) | (with_reducible assumption) | (with_reducible refine Below.setCell ?_ (by first | (simp; done) | (simp; omega) | omega) _) | (with_reducible refine Below.alloc ?_ (by first | (simp; done) | (simp; omega) | omega) _) | (refine bl_call ?_ (by assumption) (by first | (simp; done) | (simp; omega) | omega)) | (with_reducible refine bl_drewN ?_) | (with_reducible refine Below.drew ?_) | (with_reducible refine bl_grow ?_ (by first | (simp; done) | (simp; omega) | omega)))); have hzw1 := hqw1.size; clear hbw1) | (go_at_call 58; clear m2; refine (HM.out _ (by repeat (first | (with_reducible exact Below.refl _ _) | (with_reducible assumption) | (with_reducible refine Below.setCell ?_ (by first | (simp; done) | (simp; omega) | omega) _) | (with_reducible refine Below.alloc ?_ (by first | (simp; done) | (simp; omega) | omega) _) | (refine bl_call ?_ (by assumption) (by first | (simp; done) | (simp; omega) | omega)) | (with_reducible refine bl_drewN ?_) | (with_reducible refine Below.drew ?_) | (with_reducible refine bl_grow ?_ (by first | (simp; done) | (simp; omega) | omega))))).mono ?_; rintro e w2 ⟨q, rfl, how2, hbw2⟩; obtain ⟨saw2, ccw2, rfl, _⟩ := own_slice how2; have HOw2 := (show Hid _ from how2); clear how2; have hqw2 : Below w.heap.size w w2 := (by repeat (first | (with_reducible exact Below.refl _ _) | (with_reducible assumption) | (with_reducible refine Below.setCell ?_ (by first | (simp; done) | (simp; omega) | omega) _) | (with_reducible refine Below.alloc ?_ (by first | (simp; done) | (simp; omega) | omega) _) | (refine bl_call ?_ (by assumption) (by first | (simp; done) | (simp; omega) | omega)) | (with_reducible refine bl_drewN ?_) | (with_reducible refine Below.drew ?_) | (with_reducible refine bl_grow ?_ (by first | (simp; done) | (simp; omega) | omega)))); have hzw2 := hqw2.size; clear hbw2))
  have hO : w2.ownsRow _ 98 4 (.slice saw2 n ccw2) n (cellsC K (fun _ => false) n) := HOw2.out
  have hA : NewAt 98 w (w2.alloc (.cells #[.slice saw2 n ccw2] 94)) w2.heap.size n K := by
    refine ⟨.slice saw2 n ccw2, ⟨at_new w2 [.slice saw2 n ccw2] 94, own_base (own_stay hO ((Below.refl _ _).alloc (Nat.le_refl _) _)) (Nat.zero_le _), fun e => ?_⟩, fun i hi => ?_, hqw2.alloc hzw2 _⟩
    · have := (hO.lt _ e).2; omega
    · rcases hi with rfl | hi
      · exact hzw2
      · exact Nat.le_trans hzw1 (hO.lt i hi).1
  exact bodyPost_ret (v := .tuple #[.pointer (some ⟨w2.heap.size, 0, none⟩), .nilIface]) (by simp [results, Tryd.results26, go_sem]) rfl ⟨_, rfl, hA⟩
/-- What the landed book is. -/
def bookP : World → Value → (Nat → Prop) → Nat → (Nat → Nat) → (Nat → Bool) → Prop := bookW 98
theorem bookP_ok : PBok bookP := by
  refine ⟨fun h i hi => ?_, fun h k hF => ?_⟩
  · obtain ⟨p, u, rfl, rfl, h⟩ := h
    exact h.lt hi
  · obtain ⟨p, u, rfl, rfl, h⟩ := h
    exact ⟨p, u, rfl, rfl, h.but k hF⟩
theorem bnew_is : BNewIs bookP := by
  refine ⟨fun sl n d X Y F q w hd _ hr hc hq => bnew_no sl n d q w (fun W hW => bcc_no sl n d X Y F q W (brow_up hr hW) hc hq), fun sl n d X Y F K w hn hd _ hr hK => ?_⟩
  refine (bnew_ok sl n d K w (fun W hW => bcc_yes sl n d X Y F K W hn (brow_up hr hW) hK) (fun W hW => bminted sl n d X Y F K W hn (brow_up hr hW) hK)).mono ?_
  rintro e w' ⟨p, rfl, u, h1, h2, h3⟩
  exact ⟨_, _, rfl, ⟨p, u, rfl, rfl, h1⟩, h2, h3⟩
theorem bneg_4 (k : Nat) (w : World) : Calls Tryd.prog 66 #[.agg #[.int .i64 ((tM (4 * k)).1 : Int), .int .i64 ((tM (4 * k)).2.1 : Int), .bool (tM (4 * k)).2.2]] w fun e w' => e = .returned (.tuple #[.agg #[.int .i64 ((tM (4 * (1012 * k))).1 : Int), .int .i64 ((tM (4 * (1012 * k))).2.1 : Int), .bool (tM (4 * (1012 * k))).2.2], .nilIface]) ∧ Below w.heap.size w w' := by
  have := cneg_tM (4 * k) w
  rwa [show tM (4052 - 4 * k % 4052) = tM (4 * (1012 * k)) from tM_congr (by omega)] at this
set_option maxRecDepth 100000 in
set_option maxHeartbeats 8000000 in
theorem bexc_gone (p m c d dz : Nat) (sz sl : Option Addr) (q : Int) (w : World) (h : ∀ W, Below w.heap.size w W → Calls Tryd.prog 65 #[.pointer (some ⟨p, 0, none⟩), .slice sz m dz] W fun e w' => e = .returned (errOf q) ∧ Below W.heap.size W w') : Calls Tryd.prog 32 #[.pointer (some ⟨p, 0, none⟩), .slice sz m dz, .slice sl c d] w fun e w' => e = .returned (.tuple #[.agg #[.int .i64 0, .int .i64 0, .bool false], errOf q]) ∧ Below w.heap.size w w' := by
  have H : Hid (∀ W, Below w.heap.size w W → Calls Tryd.prog 65 #[.pointer (some ⟨p, 0, none⟩), .slice sz m dz] W fun e w' => e = .returned (errOf q) ∧ Below W.heap.size W w') := h
  clear h
  have m1 : True := trivial
  go_enter Tryd.func32, Tryd.ntmps32
  go_wp2_with (go_at_call 65; clear m1; refine (H.out _ (by repeat (first | (with_reducible exact Below.refl _ _) | (with_reducible assumption) | (with_reducible refine Below.setCell ?_ (by first | (simp; done) | (simp; omega) | omega) _) | (with_reducible refine Below.alloc ?_ (by first | (simp; done) | (simp; omega) | omega) _) | (refine bl_call ?_ (by assumption) (by first | (simp; done) | (simp; omega) | omega)) | (with_reducible refine bl_drewN ?_) | (with_reducible refine Below.drew ?_) | (with_reducible refine bl_grow ?_ (by first | (simp; done) | (simp; omega) | omega))))).mono ?_; rintro e w1 ⟨rfl, hbw1⟩; have krw1 : At w1 (w.heap.size) [.int .i64 0, .int .i64 0, .bool false] := (by repeat (first | (with_reducible assumption) | ((with_reducible refine at_new' _ _ _ _ ?_); (first | rfl | (simp; done))) | (with_reducible refine At.alloc ?_ _) | (with_reducible refine At.drew ?_) | (with_reducible refine At.drewN ?_) | (with_reducible refine At.set ?_ (by omega)) | (with_reducible apply At.store4) | (with_reducible apply At.store3) | (with_reducible apply At.store2) | (with_reducible apply At.put43) | (refine At.below ?_ (by with_reducible assumption)))); have hqw1 : Below w.heap.size w w1 := (by repeat (first | (with_reducible exact Below.refl _ _) | (with_reducible assumption) | (with_reducible refine Below.setCell ?_ (by first | (simp; done) | (simp; omega) | omega) _) | (with_reducible refine Below.alloc ?_ (by first | (simp; done) | (simp; omega) | omega) _) | (refine bl_call ?_ (by assumption) (by first | (simp; done) | (simp; omega) | omega)) | (with_reducible refine bl_drewN ?_) | (with_reducible refine Below.drew ?_) | (with_reducible refine bl_grow ?_ (by first | (simp; done) | (simp; omega) | omega)))); have hzw1 := hqw1.size; obtain ⟨zrw1, cr0w1, cr1w1, cr2w1, fr0w1, fr1w1, fr2w1⟩ := krw1.three; clear hbw1)
  exact bodyPost_ret (v := .tuple #[.agg #[.int .i64 0, .int .i64 0, .bool false], errOf q]) (by simp [results, Tryd.results32, go_sem, *]) rfl ⟨rfl, by repeat (first | (with_reducible exact Below.refl _ _) | (with_reducible assumption) | (with_reducible refine Below.setCell ?_ (by first | (simp; done) | (simp; omega) | omega) _) | (with_reducible refine Below.alloc ?_ (by first | (simp; done) | (simp; omega) | omega) _) | (refine bl_call ?_ (by assumption) (by first | (simp; done) | (simp; omega) | omega)) | (with_reducible refine bl_drewN ?_) | (with_reducible refine Below.drew ?_) | (with_reducible refine bl_grow ?_ (by first | (simp; done) | (simp; omega) | omega)))⟩
set_option maxRecDepth 100000 in
set_option maxHeartbeats 8000000 in
theorem bexc_come (p m c d dz : Nat) (sz sl : Option Addr) (q : Int) (w : World) (h : ∀ W, Below w.heap.size w W → Calls Tryd.prog 65 #[.pointer (some ⟨p, 0, none⟩), .slice sz m dz] W fun e w' => e = .returned (.nilIface) ∧ Below W.heap.size W w') (hc : ∀ W, Below w.heap.size w W → Calls Tryd.prog 57 #[.slice sl c d] W fun e w' => e = .returned (errOf q) ∧ Below W.heap.size W w') : Calls Tryd.prog 32 #[.pointer (some ⟨p, 0, none⟩), .slice sz m dz, .slice sl c d] w fun e w' => e = .returned (.tuple #[.agg #[.int .i64 0, .int .i64 0, .bool false], errOf q]) ∧ Below w.heap.size w w' := by
  have H : Hid (∀ W, Below w.heap.size w W → Calls Tryd.prog 65 #[.pointer (some ⟨p, 0, none⟩), .slice sz m dz] W fun e w' => e = .returned (.nilIface) ∧ Below W.heap.size W w') := h
  have HC : Hid (∀ W, Below w.heap.size w W → Calls Tryd.prog 57 #[.slice sl c d] W fun e w' => e = .returned (errOf q) ∧ Below W.heap.size W w') := hc
  clear h hc
  have m1 : True := trivial; have m2 : True := trivial
  go_enter Tryd.func32, Tryd.ntmps32
  go_wp2_with (first | (go_at_call 65; clear m1; refine (H.out _ (by repeat (first | (with_reducible exact Below.refl _ _) | (with_reducible assumption) | (with_reducible refine Below.setCell ?_ (by first | (simp; done) | (simp; omega) | omega) _) | (with_reducible refine Below.alloc ?_ (by first | (simp; done) | (simp; omega) | omega) _) | (refine bl_call ?_ (by assumption) (by first | (simp; done) | (simp; omega) | omega)) | (with_reducible refine bl_drewN ?_) | (with_reducible refine Below.drew ?_) | (with_reducible refine bl_grow ?_ (by first | (simp; done) | (simp; omega) | omega))))).mono ?_; rintro e w1 ⟨rfl, hbw1⟩; have krw1 : At w1 (w.heap.size) [.int .i64 0, .int .i64 0, .bool false] := (by repeat (first | (with_reducible assumption) | ((with_reducible refine at_new' _ _ _ _ ?_); (first | rfl | (simp; done))) | (with_reducible refine At.alloc ?_ _) | (with_reducible refine At.drew ?_) | (with_reducible refine At.drewN ?_) | (with_reducible refine At.set ?_ (by omega)) | (with_reducible apply At.store4) | (with_reducible apply At.store3) | (with_reducible apply At.store2) | (with_reducible apply At.put43) | (refine At.below ?_ (by with_reducible assumption)))); have hqw1 : Below w.heap.size w w1 := (by repeat (first | (with_reducible exact Below.refl _ _) | (with_reducible assumption) | (with_reducible refine Below.setCell ?_ (by first | (simp; done) | (simp; omega) | omega) _) | (with_reducible refine Below.alloc ?_ (by first | (simp; done) | (simp; omega) | omega) _) | (refine bl_call ?_ (by assumption) (by first | (simp; done) | (simp; omega) | omega)) | (with_reducible refine bl_drewN ?_) | (with_reducible refine Below.drew ?_) | (with_reducible refine bl_grow ?_ (by first | (simp; done) | (simp; omega) | omega)))); have hzw1 := hqw1.size; obtain ⟨zrw1, cr0w1, cr1w1, cr2w1, fr0w1, fr1w1, fr2w1⟩ := krw1.three; clear hbw1) | (go_at_call 57; clear m2; refine (HC.out _ (by repeat (first | (with_reducible exact Below.refl _ _) | (with_reducible assumption) | (with_reducible refine Below.setCell ?_ (by first | (simp; done) | (simp; omega) | omega) _) | (with_reducible refine Below.alloc ?_ (by first | (simp; done) | (simp; omega) | omega) _) | (refine bl_call ?_ (by assumption) (by first | (simp; done) | (simp; omega) | omega)) | (with_reducible refine bl_drewN ?_) | (with_reducible refine Below.drew ?_) | (with_reducible refine bl_grow ?_ (by first | (simp; done) | (simp; omega) | omega))))).mono ?_; rintro e w2 ⟨rfl, hbw2⟩; have krw2 : At w2 (w.heap.size) [.int .i64 0, .int .i64 0, .bool false] := (by repeat (first | (with_reducible assumption) | ((with_reducible refine at_new' _ _ _ _ ?_); (first | rfl | (simp; done))) | (with_reducible refine At.alloc ?_ _) | (with_reducible refine At.drew ?_) | (with_reducible refine At.drewN ?_) | (with_reducible refine At.set ?_ (by omega)) | (with_reducible apply At.store4) | (with_reducible apply At.store3) | (with_reducible apply At.store2) | (with_reducible apply At.put43) | (refine At.below ?_ (by with_reducible assumption)))); have hqw2 : Below w.heap.size w w2 := (by repeat (first | (with_reducible exact Below.refl _ _) | (with_reducible assumption) | (with_reducible refine Below.setCell ?_ (by first | (simp; done) | (simp; omega) | omega) _) | (with_reducible refine Below.alloc ?_ (by first | (simp; done) | (simp; omega) | omega) _) | (refine bl_call ?_ (by assumption) (by first | (simp; done) | (simp; omega) | omega)) | (with_reducible refine bl_drewN ?_) | (with_reducible refine Below.drew ?_) | (with_reducible refine bl_grow ?_ (by first | (simp; done) | (simp; omega) | omega)))); have hzw2 := hqw2.size; obtain ⟨zrw2, cr0w2, cr1w2, cr2w2, fr0w2, fr1w2, fr2w2⟩ := krw2.three; clear krw1 cr0w1 fr0w1 cr1w1 fr1w1 cr2w1 fr2w1 hqw1; clear hbw2))
  exact bodyPost_ret (v := .tuple #[.agg #[.int .i64 0, .int .i64 0, .bool false], errOf q]) (by simp [results, Tryd.results32, go_sem, *]) rfl ⟨rfl, by repeat (first | (with_reducible exact Below.refl _ _) | (with_reducible assumption) | (with_reducible refine Below.setCell ?_ (by first | (simp; done) | (simp; omega) | omega) _) | (with_reducible refine Below.alloc ?_ (by first | (simp; done) | (simp; omega) | omega) _) | (refine bl_call ?_ (by assumption) (by first | (simp; done) | (simp; omega) | omega)) | (with_reducible refine bl_drewN ?_) | (with_reducible refine Below.drew ?_) | (with_reducible refine bl_grow ?_ (by first | (simp; done) | (simp; omega) | omega)))⟩
set_option maxRecDepth 100000 in
set_option maxHeartbeats 8000000 in
theorem bexc_ok (p m c d dz : Nat) (sz sl : Option Addr) (K J : Nat → Nat) (Z : Nat → Int) (w : World) (h : ∀ W, Below w.heap.size w W → Calls Tryd.prog 65 #[.pointer (some ⟨p, 0, none⟩), .slice sz m dz] W fun e w' => e = .returned (.nilIface) ∧ Below W.heap.size W w') (hc : ∀ W, Below w.heap.size w W → Calls Tryd.prog 57 #[.slice sl c d] W fun e w' => e = .returned (.nilIface) ∧ Below W.heap.size W w') (hs : ∀ W, Below w.heap.size w W → Calls Tryd.prog 59 #[.slice sl c d] W fun e w' => e = .returned (.tuple #[.agg #[.int .i64 ((tM (4 * jsN J c)).1 : Int), .int .i64 ((tM (4 * jsN J c)).2.1 : Int), .bool (tM (4 * jsN J c)).2.2], .nilIface]) ∧ Below W.heap.size W w') (ha : ∀ W, Below w.heap.size w W → Calls Tryd.prog 60 #[.pointer (some ⟨p, 0, none⟩), .slice sz m dz] W fun ex w' => ∃ q, ex = .returned q ∧ w'.ownsRow W.heap.size 23 3 q m (cellsK (fun i => K (Z i).toNat) m) ∧ Below W.heap.size W w') (hsl : ∀ W sa cc, Below w.heap.size w W → (∃ B, W.ownsRow B 23 3 (.slice sa m cc) m (cellsK (fun i => K (Z i).toNat) m)) → Calls Tryd.prog 59 #[.slice sa m cc] W fun e w' => e = .returned (.tuple #[.agg #[.int .i64 ((tM (4 * jsN (fun i => K (Z i).toNat) m)).1 : Int), .int .i64 ((tM (4 * jsN (fun i => K (Z i).toNat) m)).2.1 : Int), .bool (tM (4 * jsN (fun i => K (Z i).toNat) m)).2.2], .nilIface]) ∧ Below W.heap.size W w') : Calls Tryd.prog 32 #[.pointer (some ⟨p, 0, none⟩), .slice sz m dz, .slice sl c d] w fun e w' => e = .returned (.tuple #[.agg #[.int .i64 ((tM (4 * exN K Z m J c)).1 : Int), .int .i64 ((tM (4 * exN K Z m J c)).2.1 : Int), .bool (tM (4 * exN K Z m J c)).2.2], .nilIface]) ∧ Below w.heap.size w w' := by
  have H : Hid (∀ W, Below w.heap.size w W → Calls Tryd.prog 65 #[.pointer (some ⟨p, 0, none⟩), .slice sz m dz] W fun e w' => e = .returned (.nilIface) ∧ Below W.heap.size W w') := h
  have HC : Hid (∀ W, Below w.heap.size w W → Calls Tryd.prog 57 #[.slice sl c d] W fun e w' => e = .returned (.nilIface) ∧ Below W.heap.size W w') := hc
  have HS : Hid (∀ W, Below w.heap.size w W → Calls Tryd.prog 59 #[.slice sl c d] W fun e w' => e = .returned (.tuple #[.agg #[.int .i64 ((tM (4 * jsN J c)).1 : Int), .int .i64 ((tM (4 * jsN J c)).2.1 : Int), .bool (tM (4 * jsN J c)).2.2], .nilIface]) ∧ Below W.heap.size W w') := hs
  have HA : Hid (∀ W, Below w.heap.size w W → Calls Tryd.prog 60 #[.pointer (some ⟨p, 0, none⟩), .slice sz m dz] W fun ex w' => ∃ q, ex = .returned q ∧ w'.ownsRow W.heap.size 23 3 q m (cellsK (fun i => K (Z i).toNat) m) ∧ Below W.heap.size W w') := ha
  have HSL : Hid (∀ W sa cc, Below w.heap.size w W → (∃ B, W.ownsRow B 23 3 (.slice sa m cc) m (cellsK (fun i => K (Z i).toNat) m)) → Calls Tryd.prog 59 #[.slice sa m cc] W fun e w' => e = .returned (.tuple #[.agg #[.int .i64 ((tM (4 * jsN (fun i => K (Z i).toNat) m)).1 : Int), .int .i64 ((tM (4 * jsN (fun i => K (Z i).toNat) m)).2.1 : Int), .bool (tM (4 * jsN (fun i => K (Z i).toNat) m)).2.2], .nilIface]) ∧ Below W.heap.size W w') := hsl
  have E : Hid (tM (4 * jsN J c + 4 * (1012 * jsN (fun i => K (Z i).toNat) m)) = tM (4 * exN K Z m J c)) := ex_neg K Z m J c
  clear h hc hs ha hsl
  have m1 : True := trivial; have m2 : True := trivial; have m3 : True := trivial; have m4 : True := trivial; have m5 : True := trivial; have m6 : True := trivial; have m7 : True := trivial
  go_enter Tryd.func32, Tryd.ntmps32
  go_wp2_with (first | (go_at_call 65; clear m1; refine (H.out _ (by repeat (first | (with_reducible exact Below.refl _ _) | (with_reducible assumption) | (with_reducible refine Below.setCell ?_ (by first | (simp; done) | (simp; omega) | omega) _) | (with_reducible refine Below.alloc ?_ (by first | (simp; done) | (simp; omega) | omega) _) | (refine bl_call ?_ (by assumption) (by first | (simp; done) | (simp; omega) | omega)) | (with_reducible refine bl_drewN ?_) | (with_reducible refine Below.drew ?_) | (with_reducible refine bl_grow ?_ (by first | (simp; done) | (simp; omega) | omega))))).mono ?_; rintro e w1 ⟨rfl, hbw1⟩; have krw1 : At w1 (w.heap.size) [.int .i64 0, .int .i64 0, .bool false] := (by repeat (first | (with_reducible assumption) | ((with_reducible refine at_new' _ _ _ _ ?_); (first | rfl | (simp; done))) | (with_reducible refine At.alloc ?_ _) | (with_reducible refine At.drew ?_) | (with_reducible refine At.drewN ?_) | (with_reducible refine At.set ?_ (by omega)) | (with_reducible apply At.store4) | (with_reducible apply At.store3) | (with_reducible apply At.store2) | (with_reducible apply At.put43) | (refine At.below ?_ (by with_reducible assumption)))); have hqw1 : Below w.heap.size w w1 := (by repeat (first | (with_reducible exact Below.refl _ _) | (with_reducible assumption) | (with_reducible refine Below.setCell ?_ (by first | (simp; done) | (simp; omega) | omega) _) | (with_reducible refine Below.alloc ?_ (by first | (simp; done) | (simp; omega) | omega) _) | (refine bl_call ?_ (by assumption) (by first | (simp; done) | (simp; omega) | omega)) | (with_reducible refine bl_drewN ?_) | (with_reducible refine Below.drew ?_) | (with_reducible refine bl_grow ?_ (by first | (simp; done) | (simp; omega) | omega)))); have hzw1 := hqw1.size; obtain ⟨zrw1, cr0w1, cr1w1, cr2w1, fr0w1, fr1w1, fr2w1⟩ := krw1.three; clear hbw1) | (go_at_call 57; clear m2; refine (HC.out _ (by repeat (first | (with_reducible exact Below.refl _ _) | (with_reducible assumption) | (with_reducible refine Below.setCell ?_ (by first | (simp; done) | (simp; omega) | omega) _) | (with_reducible refine Below.alloc ?_ (by first | (simp; done) | (simp; omega) | omega) _) | (refine bl_call ?_ (by assumption) (by first | (simp; done) | (simp; omega) | omega)) | (with_reducible refine bl_drewN ?_) | (with_reducible refine Below.drew ?_) | (with_reducible refine bl_grow ?_ (by first | (simp; done) | (simp; omega) | omega))))).mono ?_; rintro e w2 ⟨rfl, hbw2⟩; have krw2 : At w2 (w.heap.size) [.int .i64 0, .int .i64 0, .bool false] := (by repeat (first | (with_reducible assumption) | ((with_reducible refine at_new' _ _ _ _ ?_); (first | rfl | (simp; done))) | (with_reducible refine At.alloc ?_ _) | (with_reducible refine At.drew ?_) | (with_reducible refine At.drewN ?_) | (with_reducible refine At.set ?_ (by omega)) | (with_reducible apply At.store4) | (with_reducible apply At.store3) | (with_reducible apply At.store2) | (with_reducible apply At.put43) | (refine At.below ?_ (by with_reducible assumption)))); have hqw2 : Below w.heap.size w w2 := (by repeat (first | (with_reducible exact Below.refl _ _) | (with_reducible assumption) | (with_reducible refine Below.setCell ?_ (by first | (simp; done) | (simp; omega) | omega) _) | (with_reducible refine Below.alloc ?_ (by first | (simp; done) | (simp; omega) | omega) _) | (refine bl_call ?_ (by assumption) (by first | (simp; done) | (simp; omega) | omega)) | (with_reducible refine bl_drewN ?_) | (with_reducible refine Below.drew ?_) | (with_reducible refine bl_grow ?_ (by first | (simp; done) | (simp; omega) | omega)))); have hzw2 := hqw2.size; obtain ⟨zrw2, cr0w2, cr1w2, cr2w2, fr0w2, fr1w2, fr2w2⟩ := krw2.three; clear krw1 cr0w1 fr0w1 cr1w1 fr1w1 cr2w1 fr2w1 hqw1; clear hbw2) | (go_at_call 59; clear m3; refine (HS.out _ (by repeat (first | (with_reducible exact Below.refl _ _) | (with_reducible assumption) | (with_reducible refine Below.setCell ?_ (by first | (simp; done) | (simp; omega) | omega) _) | (with_reducible refine Below.alloc ?_ (by first | (simp; done) | (simp; omega) | omega) _) | (refine bl_call ?_ (by assumption) (by first | (simp; done) | (simp; omega) | omega)) | (with_reducible refine bl_drewN ?_) | (with_reducible refine Below.drew ?_) | (with_reducible refine bl_grow ?_ (by first | (simp; done) | (simp; omega) | omega))))).mono ?_; rintro e w3 ⟨rfl, hbw3⟩; have krw3 : At w3 (w.heap.size) [.int .i64 0, .int .i64 0, .bool false] := (by repeat (first | (with_reducible assumption) | ((with_reducible refine at_new' _ _ _ _ ?_); (first | rfl | (simp; done))) | (with_reducible refine At.alloc ?_ _) | (with_reducible refine At.drew ?_) | (with_reducible refine At.drewN ?_) | (with_reducible refine At.set ?_ (by omega)) | (with_reducible apply At.store4) | (with_reducible apply At.store3) | (with_reducible apply At.store2) | (with_reducible apply At.put43) | (refine At.below ?_ (by with_reducible assumption)))); have hqw3 : Below w.heap.size w w3 := (by repeat (first | (with_reducible exact Below.refl _ _) | (with_reducible assumption) | (with_reducible refine Below.setCell ?_ (by first | (simp; done) | (simp; omega) | omega) _) | (with_reducible refine Below.alloc ?_ (by first | (simp; done) | (simp; omega) | omega) _) | (refine bl_call ?_ (by assumption) (by first | (simp; done) | (simp; omega) | omega)) | (with_reducible refine bl_drewN ?_) | (with_reducible refine Below.drew ?_) | (with_reducible refine bl_grow ?_ (by first | (simp; done) | (simp; omega) | omega)))); have hzw3 := hqw3.size; obtain ⟨zrw3, cr0w3, cr1w3, cr2w3, fr0w3, fr1w3, fr2w3⟩ := krw3.three; clear krw2 cr0w2 fr0w2 cr1w2 fr1w2 cr2w2 fr2w2 hqw2; clear hbw3) | (go_at_call 60; clear m4; refine (HA.out _ (by repeat (first | (with_reducible exact Below.refl _ _) | (with_reducible assumption) | (with_reducible refine Below.setCell ?_ (by first | (simp; done) | (simp; omega) | omega) _) | (with_reducible refine Below.alloc ?_ (by first | (simp; done) | (simp; omega) | omega) _) | (refine bl_call ?_ (by assumption) (by first | (simp; done) | (simp; omega) | omega)) | (with_reducible refine bl_drewN ?_) | (with_reducible refine Below.drew ?_) | (with_reducible refine bl_grow ?_ (by first | (simp; done) | (simp; omega) | omega))))).mono ?_; rintro e w4 ⟨q, rfl, how4, hbw4⟩; obtain ⟨saw4, ccw4, rfl, _⟩ := own_slice how4; have HOw4 := (show Hid _ from how4); clear how4; have krw4 : At w4 (w.heap.size) [.int .i64 0, .int .i64 0, .bool false] := (by repeat (first | (with_reducible assumption) | ((with_reducible refine at_new' _ _ _ _ ?_); (first | rfl | (simp; done))) | (with_reducible refine At.alloc ?_ _) | (with_reducible refine At.drew ?_) | (with_reducible refine At.drewN ?_) | (with_reducible refine At.set ?_ (by omega)) | (with_reducible apply At.store4) | (with_reducible apply At.store3) | (with_reducible apply At.store2) | (with_reducible apply At.put43) | (refine At.below ?_ (by with_reducible assumption)))); have kmw4 : At w4 (w3.heap.size) [.int .i64 ((tM (4 * jsN J c)).1 : Int), .int .i64 ((tM (4 * jsN J c)).2.1 : Int), .bool (tM (4 * jsN J c)).2.2] := (by repeat (first | (with_reducible assumption) | ((with_reducible refine at_new' _ _ _ _ ?_); (first | rfl | (simp; done))) | (with_reducible refine At.alloc ?_ _) | (with_reducible refine At.drew ?_) | (with_reducible refine At.drewN ?_) | (with_reducible refine At.set ?_ (by omega)) | (with_reducible apply At.store4) | (with_reducible apply At.store3) | (with_reducible apply At.store2) | (with_reducible apply At.put43) | (refine At.below ?_ (by with_reducible assumption)))); have hqw4 : Below w.heap.size w w4 := (by repeat (first | (with_reducible exact Below.refl _ _) | (with_reducible assumption) | (with_reducible refine Below.setCell ?_ (by first | (simp; done) | (simp; omega) | omega) _) | (with_reducible refine Below.alloc ?_ (by first | (simp; done) | (simp; omega) | omega) _) | (refine bl_call ?_ (by assumption) (by first | (simp; done) | (simp; omega) | omega)) | (with_reducible refine bl_drewN ?_) | (with_reducible refine Below.drew ?_) | (with_reducible refine bl_grow ?_ (by first | (simp; done) | (simp; omega) | omega)))); have hzw4 := hqw4.size; obtain ⟨zrw4, cr0w4, cr1w4, cr2w4, fr0w4, fr1w4, fr2w4⟩ := krw4.three; obtain ⟨zmw4, cm0w4, cm1w4, cm2w4, fm0w4, fm1w4, fm2w4⟩ := kmw4.three; clear krw3 cr0w3 fr0w3 cr1w3 fr1w3 cr2w3 fr2w3 hqw3; clear hbw4) | (go_at_call 59; clear m5; refine (HSL.out _ _ _ (by repeat (first | (with_reducible exact Below.refl _ _) | (with_reducible assumption) | (with_reducible refine Below.setCell ?_ (by first | (simp; done) | (simp; omega) | omega) _) | (with_reducible refine Below.alloc ?_ (by first | (simp; done) | (simp; omega) | omega) _) | (refine bl_call ?_ (by assumption) (by first | (simp; done) | (simp; omega) | omega)) | (with_reducible refine bl_drewN ?_) | (with_reducible refine Below.drew ?_) | (with_reducible refine bl_grow ?_ (by first | (simp; done) | (simp; omega) | omega)))) ⟨_, HOw4.out⟩).mono ?_; rintro e w5 ⟨rfl, hbw5⟩; have krw5 : At w5 (w.heap.size) [.int .i64 0, .int .i64 0, .bool false] := (by repeat (first | (with_reducible assumption) | ((with_reducible refine at_new' _ _ _ _ ?_); (first | rfl | (simp; done))) | (with_reducible refine At.alloc ?_ _) | (with_reducible refine At.drew ?_) | (with_reducible refine At.drewN ?_) | (with_reducible refine At.set ?_ (by omega)) | (with_reducible apply At.store4) | (with_reducible apply At.store3) | (with_reducible apply At.store2) | (with_reducible apply At.put43) | (refine At.below ?_ (by with_reducible assumption)))); have kmw5 : At w5 (w3.heap.size) [.int .i64 ((tM (4 * jsN J c)).1 : Int), .int .i64 ((tM (4 * jsN J c)).2.1 : Int), .bool (tM (4 * jsN J c)).2.2] := (by repeat (first | (with_reducible assumption) | ((with_reducible refine at_new' _ _ _ _ ?_); (first | rfl | (simp; done))) | (with_reducible refine At.alloc ?_ _) | (with_reducible refine At.drew ?_) | (with_reducible refine At.drewN ?_) | (with_reducible refine At.set ?_ (by omega)) | (with_reducible apply At.store4) | (with_reducible apply At.store3) | (with_reducible apply At.store2) | (with_reducible apply At.put43) | (refine At.below ?_ (by with_reducible assumption)))); have hqw5 : Below w.heap.size w w5 := (by repeat (first | (with_reducible exact Below.refl _ _) | (with_reducible assumption) | (with_reducible refine Below.setCell ?_ (by first | (simp; done) | (simp; omega) | omega) _) | (with_reducible refine Below.alloc ?_ (by first | (simp; done) | (simp; omega) | omega) _) | (refine bl_call ?_ (by assumption) (by first | (simp; done) | (simp; omega) | omega)) | (with_reducible refine bl_drewN ?_) | (with_reducible refine Below.drew ?_) | (with_reducible refine bl_grow ?_ (by first | (simp; done) | (simp; omega) | omega)))); have hzw5 := hqw5.size; obtain ⟨zrw5, cr0w5, cr1w5, cr2w5, fr0w5, fr1w5, fr2w5⟩ := krw5.three; obtain ⟨zmw5, cm0w5, cm1w5, cm2w5, fm0w5, fm1w5, fm2w5⟩ := kmw5.three; clear krw4 cr0w4 fr0w4 cr1w4 fr1w4 cr2w4 fr2w4 kmw4 cm0w4 fm0w4 cm1w4 fm1w4 cm2w4 fm2w4 hqw4; clear hbw5) | (go_at_call 66; clear m6; refine (bneg_4 _ _).mono ?_; rintro e w6 ⟨rfl, hbw6⟩; have krw6 : At w6 (w.heap.size) [.int .i64 0, .int .i64 0, .bool false] := (by repeat (first | (with_reducible assumption) | ((with_reducible refine at_new' _ _ _ _ ?_); (first | rfl | (simp; done))) | (with_reducible refine At.alloc ?_ _) | (with_reducible refine At.drew ?_) | (with_reducible refine At.drewN ?_) | (with_reducible refine At.set ?_ (by omega)) | (with_reducible apply At.store4) | (with_reducible apply At.store3) | (with_reducible apply At.store2) | (with_reducible apply At.put43) | (refine At.below ?_ (by with_reducible assumption)))); have kmw6 : At w6 (w3.heap.size) [.int .i64 ((tM (4 * jsN J c)).1 : Int), .int .i64 ((tM (4 * jsN J c)).2.1 : Int), .bool (tM (4 * jsN J c)).2.2] := (by repeat (first | (with_reducible assumption) | ((with_reducible refine at_new' _ _ _ _ ?_); (first | rfl | (simp; done))) | (with_reducible refine At.alloc ?_ _) | (with_reducible refine At.drew ?_) | (with_reducible refine At.drewN ?_) | (with_reducible refine At.set ?_ (by omega)) | (with_reducible apply At.store4) | (with_reducible apply At.store3) | (with_reducible apply At.store2) | (with_reducible apply At.put43) | (refine At.below ?_ (by with_reducible assumption)))); have klw6 : At w6 (w5.heap.size) [.int .i64 ((tM (4 * jsN (fun i => K (Z i).toNat) m)).1 : Int), .int .i64 ((tM (4 * jsN (fun i => K (Z i).toNat) m)).2.1 : Int), .bool (tM (4 * jsN (fun i => K (Z i).toNat) m)).2.2] := (by repeat (first | (with_reducible assumption) | ((with_reducible refine at_new' _ _ _ _ ?_); (first | rfl | (simp; done))) | (with_reducible refine At.alloc ?_ _) | (with_reducible refine At.drew ?_) | (with_reducible refine At.drewN ?_) | (with_reducible refine At.set ?_ (by omega)) | (with_reducible apply At.store4) | (with_reducible apply At.store3) | (with_reducible apply At.store2) | (with_reducible apply At.put43) | (refine At.below ?_ (by with_reducible assumption)))); have hqw6 : Below w.heap.size w w6 := (by repeat (first | (with_reducible exact Below.refl _ _) | (with_reducible assumption) | (with_reducible refine Below.setCell ?_ (by first | (simp; done) | (simp; omega) | omega) _) | (with_reducible refine Below.alloc ?_ (by first | (simp; done) | (simp; omega) | omega) _) | (refine bl_call ?_ (by assumption) (by first | (simp; done) | (simp; omega) | omega)) | (with_reducible refine bl_drewN ?_) | (with_reducible refine Below.drew ?_) | (with_reducible refine bl_grow ?_ (by first | (simp; done) | (simp; omega) | omega)))); have hzw6 := hqw6.size; obtain ⟨zrw6, cr0w6, cr1w6, cr2w6, fr0w6, fr1w6, fr2w6⟩ := krw6.three; obtain ⟨zmw6, cm0w6, cm1w6, cm2w6, fm0w6, fm1w6, fm2w6⟩ := kmw6.three; obtain ⟨zlw6, cl0w6, cl1w6, cl2w6, fl0w6, fl1w6, fl2w6⟩ := klw6.three; clear krw5 cr0w5 fr0w5 cr1w5 fr1w5 cr2w5 fr2w5 kmw5 cm0w5 fm0w5 cm1w5 fm1w5 cm2w5 fm2w5 hqw5; clear hbw6) | (go_at_call 34; clear m7; refine (cadd_eq E.out _).mono ?_; rintro e w7 ⟨rfl, hbw7⟩; have krw7 : At w7 (w.heap.size) [.int .i64 0, .int .i64 0, .bool false] := (by repeat (first | (with_reducible assumption) | ((with_reducible refine at_new' _ _ _ _ ?_); (first | rfl | (simp; done))) | (with_reducible refine At.alloc ?_ _) | (with_reducible refine At.drew ?_) | (with_reducible refine At.drewN ?_) | (with_reducible refine At.set ?_ (by omega)) | (with_reducible apply At.store4) | (with_reducible apply At.store3) | (with_reducible apply At.store2) | (with_reducible apply At.put43) | (refine At.below ?_ (by with_reducible assumption)))); have hqw7 : Below w.heap.size w w7 := (by repeat (first | (with_reducible exact Below.refl _ _) | (with_reducible assumption) | (with_reducible refine Below.setCell ?_ (by first | (simp; done) | (simp; omega) | omega) _) | (with_reducible refine Below.alloc ?_ (by first | (simp; done) | (simp; omega) | omega) _) | (refine bl_call ?_ (by assumption) (by first | (simp; done) | (simp; omega) | omega)) | (with_reducible refine bl_drewN ?_) | (with_reducible refine Below.drew ?_) | (with_reducible refine bl_grow ?_ (by first | (simp; done) | (simp; omega) | omega)))); have hzw7 := hqw7.size; obtain ⟨zrw7, cr0w7, cr1w7, cr2w7, fr0w7, fr1w7, fr2w7⟩ := krw7.three; clear krw6 cr0w6 fr0w6 cr1w6 fr1w6 cr2w6 fr2w6 kmw6 cm0w6 fm0w6 cm1w6 fm1w6 cm2w6 fm2w6 klw6 cl0w6 fl0w6 cl1w6 fl1w6 cl2w6 fl2w6 hqw6; clear hbw7))
  exact bodyPost_ret (v := .tuple #[.agg #[.int .i64 ((tM (4 * exN K Z m J c)).1 : Int), .int .i64 ((tM (4 * exN K Z m J c)).2.1 : Int), .bool (tM (4 * exN K Z m J c)).2.2], .nilIface]) (by simp [results, Tryd.results32, go_sem, *]) rfl ⟨rfl, by repeat (first | (with_reducible exact Below.refl _ _) | (with_reducible assumption) | (with_reducible refine Below.setCell ?_ (by first | (simp; done) | (simp; omega) | omega) _) | (with_reducible refine Below.alloc ?_ (by first | (simp; done) | (simp; omega) | omega) _) | (refine bl_call ?_ (by assumption) (by first | (simp; done) | (simp; omega) | omega)) | (with_reducible refine bl_drewN ?_) | (with_reducible refine Below.drew ?_) | (with_reducible refine bl_grow ?_ (by first | (simp; done) | (simp; omega) | omega)))⟩
theorem bexc_yes (p n m c d dz : Nat) (sz sl : Option Addr) (u : Value) (K : Nat → Nat) (G : Nat → Bool) (Z : Nat → Int) (X Y : Nat → Int) (F : Nat → Bool) (J : Nat → Nat) (w : World) (hn : n ≤ 1000) (h : CoinsAt 98 w p u n K G) (hz : (m = 0 ∨ ∃ b o : Nat, sz = some ⟨b, o, none⟩ ∧ RowI w b o m Z)) (hr : (c = 0 ∨ ∃ b o : Nat, sl = some ⟨b, o, none⟩ ∧ RowO w b o c X Y F)) (hg : ∀ i, i < m → goE n G Z i = 0) (hc : c ≤ 12) (hJ : isC X Y F J c) : Calls Tryd.prog 32 #[.pointer (some ⟨p, 0, none⟩), .slice sz m dz, .slice sl c d] w fun e w' => e = .returned (.tuple #[.agg #[.int .i64 ((tM (4 * exN K Z m J c)).1 : Int), .int .i64 ((tM (4 * exN K Z m J c)).2.1 : Int), .bool (tM (4 * exN K Z m J c)).2.2], .nilIface]) ∧ Below w.heap.size w w' := by
  have hm : m ≤ 1000 := Nat.le_trans (go_many hg) hn
  exact bexc_ok p m c d dz sz sl K J Z w (fun W hW => bgone_yes p n m dz sz u K G Z W hn (by omega) (h.below hW) (brz_up hz hW) hg) (fun W hW => bcc_yes sl c d X Y F J W hc (brow_up hr hW) hJ) (fun W hW => bsum sl c d X Y F J W (by omega) (brow_up hr hW) hJ)
    (fun W hW => bat p n m dz sz u K G Z W hn hm (h.below hW) (brz_up hz hW) fun i hi => inN_yes (goE_ok (hg i hi)).1)
    (fun W sa cc hW ⟨B, ho⟩ => by
      obtain ⟨sa', cc', e, r⟩ := own_isC ho
      injection e with e1 e2 e3
      subst e1 e3
      exact bsum sa m cc _ _ _ _ W (by omega) r (fun i hi => ⟨rfl, rfl, rfl⟩))
theorem bexc_is : BExcIs bookP := by
  refine ⟨fun v Q n m c d dz sz sl K G Z X Y F q w hn hm hdz hcd _ h hz hr hc he => ?_, fun v Q n m c d dz sz sl K G Z X Y F J w hn hm hdz hcd _ h hz hr hg hc hJ => ?_⟩
  · obtain ⟨p, u, rfl, rfl, h⟩ := h
    unfold exE at he ⊢
    cases h1 : gnE n G Z m == 0 with
    | false =>
      rw [h1] at he
      exact bexc_gone p m c d dz sz sl _ w (fun W hW => bgone_no p n m dz sz u K G Z W hn hm (h.below hW) (brz_up hz hW) h1)
    | true =>
      rw [h1] at he
      exact bexc_come p m c d dz sz sl _ w (fun W hW => bgone_yes p n m dz sz u K G Z W hn hm (h.below hW) (brz_up hz hW) (gnE_zero (by simpa using h1))) (fun W hW => bcc_no sl c d X Y F q W (brow_up hr hW) hc he)
  · obtain ⟨p, u, rfl, rfl, h⟩ := h
    exact bexc_yes p n m c d dz sz sl u K G Z X Y F J w hn h hz hr hg hc hJ
theorem bliinfo : (Tryd.prog.info? 3).map (fun i => (i.zero, i.size, i.bytes)) = some (some (.int .i64 0), 1, 8) := by kernel_rfl
set_option maxRecDepth 100000 in
set_option maxHeartbeats 8000000 in
theorem blive (p n : Nat) (u : Value) (K : Nat → Nat) (G : Nat → Bool) (w : World) (hn : n ≤ 1000) (h : CoinsAt 98 w p u n K G) : Calls Tryd.prog 28 #[.pointer (some ⟨p, 0, none⟩)] w fun ex w' => ∃ q, ex = .returned q ∧ w'.ownsRow w.heap.size 3 1 q (lvL G n).length (lvC G n) ∧ Below w.heap.size w w' := by
  obtain ⟨su, cu, rfl, hrow⟩ := h.slice
  have HP : Hid (At w p [.slice su n cu]) := h.cells
  have HR : Hid (n = 0 ∨ ∃ g, su = some ⟨g, 0, none⟩ ∧ RowC w g 0 n K G) := hrow
  have hpw := h.cells.1
  clear hrow h
  have kpw := HP.out
  obtain ⟨zpw, cp0w, fp0w⟩ := kpw.one
  obtain ⟨i0, hi, hv0, hv1, hv2⟩ := info_parts bliinfo
  go_enter Tryd.func28, Tryd.ntmps28
  go_wp2_with fail
  clear kpw cp0w fp0w
  go_loopw [3, 11] (fun tv ti wl => ∃ k : Nat, k ≤ n ∧ ti = .int .i64 k ∧ wl.ownsRow w.heap.size 3 1 tv (lvL G k).length (lvC G k) ∧ Below w.heap.size w wl) (fun _ ti _ => n - (intOf ti).toNat)
  case atStart => exact ⟨0, by omega, rfl, by show World.ownsRow _ _ _ _ _ 0 []; exact World.ownsRow_nil _ _ _ _, by repeat (first | (with_reducible exact Below.refl _ _) | (with_reducible assumption) | (with_reducible refine Below.setCell ?_ (by first | (simp; done) | (simp; omega) | omega) _) | (with_reducible refine Below.alloc ?_ (by first | (simp; done) | (simp; omega) | omega) _) | (refine bl_call ?_ (by assumption) (by first | (simp; done) | (simp; omega) | omega)) | (with_reducible refine bl_drewN ?_) | (with_reducible refine Below.drew ?_) | (with_reducible refine bl_grow ?_ (by first | (simp; done) | (simp; omega) | omega)))⟩
  case round =>
    obtain ⟨k, hk, rfl, hown, hqV⟩ := hrel
    rename World => V
    have hzV := hqV.size
    by_cases hlt : k < n
    · have hlt' : (k : Int) < n := by omega
      obtain ⟨g, rfl, r1⟩ := HR.out.resolve_left (by omega)
      have hgV := Nat.lt_of_lt_of_le r1.1 hzV
      obtain ⟨c0, c1, c2, c3⟩ := (r1.below r1.1 hqV).2 k hlt
      rw [Nat.zero_add] at c0 c1 c2 c3
      clear r1
      have hle := lvL_len G k
      cases hG : G k with
      | true =>
        rw [hG] at c3
        change V.cell? _ = some (.bool false) at c3
        have HE : Hid (lvC G (k + 1) = lvC G k) := lvC_gone hG
        have HE3 : Hid ((lvL G (k + 1)).length = (lvL G k).length) := congrArg List.length (lvL_gone hG)
        clear hG
        go_wp2_with fail
        go_roundw
        case rel => exact ⟨k + 1, by omega, by simp, by rw [HE.out, HE3.out]; exact own_stay hown (by repeat (first | (with_reducible exact Below.refl _ _) | (with_reducible assumption) | (with_reducible refine Below.setCell ?_ (by first | (simp; done) | (simp; omega) | omega) _) | (with_reducible refine Below.alloc ?_ (by first | (simp; done) | (simp; omega) | omega) _) | (refine bl_call ?_ (by assumption) (by first | (simp; done) | (simp; omega) | omega)) | (with_reducible refine bl_drewN ?_) | (with_reducible refine Below.drew ?_) | (with_reducible refine bl_grow ?_ (by first | (simp; done) | (simp; omega) | omega)))), by repeat (first | (with_reducible exact Below.refl _ _) | (with_reducible assumption) | (with_reducible refine Below.setCell ?_ (by first | (simp; done) | (simp; omega) | omega) _) | (with_reducible refine Below.alloc ?_ (by first | (simp; done) | (simp; omega) | omega) _) | (refine bl_call ?_ (by assumption) (by first | (simp; done) | (simp; omega) | omega)) | (with_reducible refine bl_drewN ?_) | (with_reducible refine Below.drew ?_) | (with_reducible refine bl_grow ?_ (by first | (simp; done) | (simp; omega) | omega)))⟩
        case measure => simp [intOf]; omega
      | false =>
        rw [hG] at c3
        change V.cell? _ = some (.bool true) at c3
        have HE : Hid (lvC G (k + 1) = lvC G k ++ [.int .i64 (k : Int)]) := lvC_live hG
        have HE3 : Hid ((lvL G (k + 1)).length = (lvL G k).length + 1) := by unfold Hid; rw [lvL_live hG]; simp
        clear hG
        go_wp2_with (at_builtin; refine wpList_append_own_at _ rfl _ _ 30 rfl w.heap.size 3 i0 (.int .i64 0) 1 8 Tryd.underlying30 hi hv0 hv1 hv2 rfl (by decide) _ _ _ rfl (own_stay hown (by repeat (first | (with_reducible exact Below.refl _ _) | (with_reducible assumption) | (with_reducible refine Below.setCell ?_ (by first | (simp; done) | (simp; omega) | omega) _) | (with_reducible refine Below.alloc ?_ (by first | (simp; done) | (simp; omega) | omega) _) | (refine bl_call ?_ (by assumption) (by first | (simp; done) | (simp; omega) | omega)) | (with_reducible refine bl_drewN ?_) | (with_reducible refine Below.drew ?_) | (with_reducible refine bl_grow ?_ (by first | (simp; done) | (simp; omega) | omega))))) ⟨_, 0, none⟩ 1 1 [.int .i64 (k : Int)] rfl rfl ?c1 ?c2 ?c3 ?c4 ?c5 ?_)
        case c1 => exact bone_at (by simp) _ _
        case c2 => intro u hu; simp at hu; subst hu; rfl
        case c3 => unfold maxLen; omega
        case c4 => omega
        case c5 => simp; omega
        · intro v' w13 hown' hgrow _ hat
          have hq13 : Below w.heap.size w w13 := grown_under (B := w.heap.size) (by repeat (first | (with_reducible exact Below.refl _ _) | (with_reducible assumption) | (with_reducible refine Below.setCell ?_ (by first | (simp; done) | (simp; omega) | omega) _) | (with_reducible refine Below.alloc ?_ (by first | (simp; done) | (simp; omega) | omega) _) | (refine bl_call ?_ (by assumption) (by first | (simp; done) | (simp; omega) | omega)) | (with_reducible refine bl_drewN ?_) | (with_reducible refine Below.drew ?_) | (with_reducible refine bl_grow ?_ (by first | (simp; done) | (simp; omega) | omega)))) (own_stay hown (by repeat (first | (with_reducible exact Below.refl _ _) | (with_reducible assumption) | (with_reducible refine Below.setCell ?_ (by first | (simp; done) | (simp; omega) | omega) _) | (with_reducible refine Below.alloc ?_ (by first | (simp; done) | (simp; omega) | omega) _) | (refine bl_call ?_ (by assumption) (by first | (simp; done) | (simp; omega) | omega)) | (with_reducible refine bl_drewN ?_) | (with_reducible refine Below.drew ?_) | (with_reducible refine bl_grow ?_ (by first | (simp; done) | (simp; omega) | omega))))) hgrow (by simp; omega) (Nat.le_refl _)
          rw [← HE.out, ← HE3.out] at hown'
          clear hgrow hat hown
          go_wp2_with fail
          go_roundw
          case rel => exact ⟨k + 1, by omega, by simp, hown', hq13⟩
          case measure => simp [intOf]; omega
    · have hlt' : ¬ (k : Int) < n := by omega
      obtain rfl : k = n := by omega
      go_wp2_with fail
      go_ret
      exact ⟨_, rfl, hown, by repeat (first | (with_reducible exact Below.refl _ _) | (with_reducible assumption) | (with_reducible refine Below.setCell ?_ (by first | (simp; done) | (simp; omega) | omega) _) | (with_reducible refine Below.alloc ?_ (by first | (simp; done) | (simp; omega) | omega) _) | (refine bl_call ?_ (by assumption) (by first | (simp; done) | (simp; omega) | omega)) | (with_reducible refine bl_drewN ?_) | (with_reducible refine Below.drew ?_) | (with_reducible refine bl_grow ?_ (by first | (simp; done) | (simp; omega) | omega)))⟩
theorem blive_is : BLiveIs bookP := fun v Q n K G w hn h => by
  obtain ⟨p, u, rfl, rfl, h⟩ := h
  exact blive p n u K G w hn h
set_option maxRecDepth 100000 in
set_option maxHeartbeats 8000000 in
theorem bcoins (p n : Nat) (u : Value) (K : Nat → Nat) (G : Nat → Bool) (w : World) (hn : n ≤ 1000) (h : CoinsAt 98 w p u n K G) : Calls Tryd.prog 35 #[.pointer (some ⟨p, 0, none⟩)] w fun ex w' => ∃ q, ex = .returned q ∧ w'.ownsRow w.heap.size 23 3 q n (cellsK K n) ∧ Below w.heap.size w w' := by
  obtain ⟨su, cu, rfl, hrow⟩ := h.slice
  have HP : Hid (At w p [.slice su n cu]) := h.cells
  have HR : Hid (n = 0 ∨ ∃ g, su = some ⟨g, 0, none⟩ ∧ RowC w g 0 n K G) := hrow
  have hpw := h.cells.1
  clear hrow h
  have kpw := HP.out
  obtain ⟨zpw, cp0w, fp0w⟩ := kpw.one
  obtain ⟨i0, hi, hv0, hv1, hv2⟩ := info_parts beinfo
  go_enter Tryd.func35, Tryd.ntmps35
  go_wp2_with (at_make; refine wpList_make_own _ rfl _ _ 36 rfl w.heap.size 23 i0 (.agg #[.int .i64 0, .int .i64 0, .bool false]) 3 Tryd.underlying36 hi hv0 hv1 _ _ _ n rfl rfl rfl ?b2 ?b3 ?b4 ?_)
  case b2 => rw [hv2]; omega
  case b3 => unfold maxLen; omega
  case b4 => omega
  intro w2 hown0 hgrow
  have hq2 : Below w.heap.size w w2 := (Below.refl _ _ : Below w.heap.size w _).grown hgrow (Nat.le_refl _) (fun k hk => by cases hk)
  have kp2 := HP.out.below hq2
  clear hgrow kpw cp0w fp0w
  obtain ⟨zp2, cp02, fp02⟩ := kp2.one
  go_wp2_with fail
  go_loopw [3, 17] (fun tv ti wl => ∃ k : Nat, k ≤ n ∧ ti = .int .i64 k ∧ wl.ownsRow w.heap.size 23 3 tv k (cellsK K k) ∧ Below w.heap.size w wl) (fun _ ti _ => n - (intOf ti).toNat)
  case atStart => exact ⟨0, by omega, rfl, hown0, hq2⟩
  case round =>
    clear hown0 hq2 kp2 cp02 fp02
    obtain ⟨k, hk, rfl, hown, hqV⟩ := hrel
    rename World => V
    have hzV := hqV.size
    by_cases hlt : k < n
    · have hlt' : (k : Int) < n := by omega
      obtain ⟨g, rfl, r1⟩ := HR.out.resolve_left (by omega)
      have hgV := Nat.lt_of_lt_of_le r1.1 hzV
      obtain ⟨c0, c1, c2, c3⟩ := (r1.below r1.1 hqV).2 k hlt
      rw [Nat.zero_add] at c0 c1 c2 c3
      clear r1
      generalize (!G k) = b3 at c3
      go_wp2_with (at_builtin; refine wpList_append_own_at _ rfl _ _ 36 rfl w.heap.size 23 i0 (.agg #[.int .i64 0, .int .i64 0, .bool false]) 3 24 Tryd.underlying36 hi hv0 hv1 hv2 rfl (by decide) _ _ _ rfl (own_stay hown (by repeat (first | (with_reducible exact Below.refl _ _) | (with_reducible assumption) | (with_reducible refine Below.setCell ?_ (by first | (simp; done) | (simp; omega) | omega) _) | (with_reducible refine Below.alloc ?_ (by first | (simp; done) | (simp; omega) | omega) _) | (refine bl_call ?_ (by assumption) (by first | (simp; done) | (simp; omega) | omega)) | (with_reducible refine bl_drewN ?_) | (with_reducible refine Below.drew ?_) | (with_reducible refine bl_grow ?_ (by first | (simp; done) | (simp; omega) | omega))))) ⟨_, 0, none⟩ 1 1 [.int .i64 ((tM (4 * K k)).1 : Int), .int .i64 ((tM (4 * K k)).2.1 : Int), .bool (tM (4 * K k)).2.2] rfl rfl ?c1 ?c2 ?c3 ?c4 ?c5 ?_)
      case c1 => exact three_at (by simp) _ _ _ _
      case c2 => intro u hu; simp at hu; rcases hu with rfl | rfl | rfl <;> rfl
      case c3 => unfold maxLen; omega
      case c4 => omega
      case c5 => simp; omega
      · intro v' w13 hown' hgrow _ hat
        have hq13 : Below w.heap.size w w13 := grown_under (B := w.heap.size) (by repeat (first | (with_reducible exact Below.refl _ _) | (with_reducible assumption) | (with_reducible refine Below.setCell ?_ (by first | (simp; done) | (simp; omega) | omega) _) | (with_reducible refine Below.alloc ?_ (by first | (simp; done) | (simp; omega) | omega) _) | (refine bl_call ?_ (by assumption) (by first | (simp; done) | (simp; omega) | omega)) | (with_reducible refine bl_drewN ?_) | (with_reducible refine Below.drew ?_) | (with_reducible refine bl_grow ?_ (by first | (simp; done) | (simp; omega) | omega)))) (own_stay hown (by repeat (first | (with_reducible exact Below.refl _ _) | (with_reducible assumption) | (with_reducible refine Below.setCell ?_ (by first | (simp; done) | (simp; omega) | omega) _) | (with_reducible refine Below.alloc ?_ (by first | (simp; done) | (simp; omega) | omega) _) | (refine bl_call ?_ (by assumption) (by first | (simp; done) | (simp; omega) | omega)) | (with_reducible refine bl_drewN ?_) | (with_reducible refine Below.drew ?_) | (with_reducible refine bl_grow ?_ (by first | (simp; done) | (simp; omega) | omega))))) hgrow (by simp; omega) (Nat.le_refl _)
        rw [← cellsK_succ] at hown'
        clear hgrow hat hown
        go_wp2_with fail
        go_roundw
        case rel => exact ⟨k + 1, by omega, by simp, hown', hq13⟩
        case measure => simp [intOf]; omega
    · have hlt' : ¬ (k : Int) < n := by omega
      obtain rfl : k = n := by omega
      go_wp2_with fail
      go_ret
      exact ⟨_, rfl, hown, by repeat (first | (with_reducible exact Below.refl _ _) | (with_reducible assumption) | (with_reducible refine Below.setCell ?_ (by first | (simp; done) | (simp; omega) | omega) _) | (with_reducible refine Below.alloc ?_ (by first | (simp; done) | (simp; omega) | omega) _) | (refine bl_call ?_ (by assumption) (by first | (simp; done) | (simp; omega) | omega)) | (with_reducible refine bl_drewN ?_) | (with_reducible refine Below.drew ?_) | (with_reducible refine bl_grow ?_ (by first | (simp; done) | (simp; omega) | omega)))⟩
theorem bcoins_is : BCoinsIs bookP := fun v Q n K G w hn h => by
  obtain ⟨p, u, rfl, rfl, h⟩ := h
  exact bcoins p n u K G w hn h
set_option maxRecDepth 100000 in
set_option maxHeartbeats 8000000 in
theorem btotal (p n l : Nat) (K : Nat → Nat) (G : Nat → Bool) (T : Sn) (w : World) (hl : ∀ W, Below w.heap.size w W → Calls Tryd.prog 28 #[.pointer (some ⟨p, 0, none⟩)] W fun ex w' => ∃ q, ex = .returned q ∧ w'.ownsRow W.heap.size 3 1 q l (lvC G n) ∧ Below W.heap.size W w') (ha : ∀ W sz dz, Below w.heap.size w W → (∃ B, W.ownsRow B 3 1 (.slice sz l dz) l (lvC G n)) → Calls Tryd.prog 60 #[.pointer (some ⟨p, 0, none⟩), .slice sz l dz] W fun ex w' => ∃ q, ex = .returned q ∧ w'.ownsRow W.heap.size 23 3 q l (cellsK (fun i => K (lvZ G n i).toNat) l) ∧ Below W.heap.size W w') (hs : ∀ W sa cc, Below w.heap.size w W → (∃ B, W.ownsRow B 23 3 (.slice sa l cc) l (cellsK (fun i => K (lvZ G n i).toNat) l)) → Calls Tryd.prog 59 #[.slice sa l cc] W fun e w' => e = .returned (.tuple #[.agg #[.int .i64 ((T).1 : Int), .int .i64 ((T).2.1 : Int), .bool (T).2.2], .nilIface]) ∧ Below W.heap.size W w') : Calls Tryd.prog 27 #[.pointer (some ⟨p, 0, none⟩)] w fun e w' => e = .returned (.agg #[.int .i64 ((T).1 : Int), .int .i64 ((T).2.1 : Int), .bool (T).2.2]) ∧ Below w.heap.size w w' := by
  have HL : Hid (∀ W, Below w.heap.size w W → Calls Tryd.prog 28 #[.pointer (some ⟨p, 0, none⟩)] W fun ex w' => ∃ q, ex = .returned q ∧ w'.ownsRow W.heap.size 3 1 q l (lvC G n) ∧ Below W.heap.size W w') := hl
  have HA : Hid (∀ W sz dz, Below w.heap.size w W → (∃ B, W.ownsRow B 3 1 (.slice sz l dz) l (lvC G n)) → Calls Tryd.prog 60 #[.pointer (some ⟨p, 0, none⟩), .slice sz l dz] W fun ex w' => ∃ q, ex = .returned q ∧ w'.ownsRow W.heap.size 23 3 q l (cellsK (fun i => K (lvZ G n i).toNat) l) ∧ Below W.heap.size W w') := ha
  have HS : Hid (∀ W sa cc, Below w.heap.size w W → (∃ B, W.ownsRow B 23 3 (.slice sa l cc) l (cellsK (fun i => K (lvZ G n i).toNat) l)) → Calls Tryd.prog 59 #[.slice sa l cc] W fun e w' => e = .returned (.tuple #[.agg #[.int .i64 ((T).1 : Int), .int .i64 ((T).2.1 : Int), .bool (T).2.2], .nilIface]) ∧ Below W.heap.size W w') := hs
  clear hl ha hs
  have m1 : True := trivial; have m2 : True := trivial; have m3 : True := trivial
  go_enter Tryd.func27, Tryd.ntmps27
  go_wp2_with (first | (go_at_call 28; clear m1; refine (HL.out _ (by repeat (first | (with_reducible exact Below.refl _ _) | (with_reducible assumption) | (with_reducible refine Below.setCell ?_ (by first | (simp; done) | (simp; omega) | omega) _) | (with_reducible refine Below.alloc ?_ (by first | (simp; done) | (simp; omega) | omega) _) | (refine bl_call ?_ (by assumption) (by first | (simp; done) | (simp; omega) | omega)) | (with_reducible refine bl_drewN ?_) | (with_reducible refine Below.drew ?_) | (with_reducible refine bl_grow ?_ (by first | (simp; done) | (simp; omega) | omega))))).mono ?_; rintro e w1 ⟨q, rfl, how1, hbw1⟩; obtain ⟨saw1, ccw1, rfl, _⟩ := own_slice how1; have HOw1 := (show Hid _ from how1); clear how1; have krw1 : At w1 (w.heap.size) [.int .i64 0, .int .i64 0, .bool false] := (by repeat (first | (with_reducible assumption) | ((with_reducible refine at_new' _ _ _ _ ?_); (first | rfl | (simp; done))) | (with_reducible refine At.alloc ?_ _) | (with_reducible refine At.drew ?_) | (with_reducible refine At.drewN ?_) | (with_reducible refine At.set ?_ (by omega)) | (with_reducible apply At.store4) | (with_reducible apply At.store3) | (with_reducible apply At.store2) | (with_reducible apply At.put43) | (refine At.below ?_ (by with_reducible assumption)))); have hqw1 : Below w.heap.size w w1 := (by repeat (first | (with_reducible exact Below.refl _ _) | (with_reducible assumption) | (with_reducible refine Below.setCell ?_ (by first | (simp; done) | (simp; omega) | omega) _) | (with_reducible refine Below.alloc ?_ (by first | (simp; done) | (simp; omega) | omega) _) | (refine bl_call ?_ (by assumption) (by first | (simp; done) | (simp; omega) | omega)) | (with_reducible refine bl_drewN ?_) | (with_reducible refine Below.drew ?_) | (with_reducible refine bl_grow ?_ (by first | (simp; done) | (simp; omega) | omega)))); have hzw1 := hqw1.size; obtain ⟨zrw1, cr0w1, cr1w1, cr2w1, fr0w1, fr1w1, fr2w1⟩ := krw1.three; clear hbw1) | (go_at_call 60; clear m2; refine (HA.out _ _ _ (by repeat (first | (with_reducible exact Below.refl _ _) | (with_reducible assumption) | (with_reducible refine Below.setCell ?_ (by first | (simp; done) | (simp; omega) | omega) _) | (with_reducible refine Below.alloc ?_ (by first | (simp; done) | (simp; omega) | omega) _) | (refine bl_call ?_ (by assumption) (by first | (simp; done) | (simp; omega) | omega)) | (with_reducible refine bl_drewN ?_) | (with_reducible refine Below.drew ?_) | (with_reducible refine bl_grow ?_ (by first | (simp; done) | (simp; omega) | omega)))) ⟨_, HOw1.out⟩).mono ?_; rintro e w2 ⟨q, rfl, how2, hbw2⟩; obtain ⟨saw2, ccw2, rfl, _⟩ := own_slice how2; have HOw2 := (show Hid _ from how2); clear how2; have krw2 : At w2 (w.heap.size) [.int .i64 0, .int .i64 0, .bool false] := (by repeat (first | (with_reducible assumption) | ((with_reducible refine at_new' _ _ _ _ ?_); (first | rfl | (simp; done))) | (with_reducible refine At.alloc ?_ _) | (with_reducible refine At.drew ?_) | (with_reducible refine At.drewN ?_) | (with_reducible refine At.set ?_ (by omega)) | (with_reducible apply At.store4) | (with_reducible apply At.store3) | (with_reducible apply At.store2) | (with_reducible apply At.put43) | (refine At.below ?_ (by with_reducible assumption)))); have hqw2 : Below w.heap.size w w2 := (by repeat (first | (with_reducible exact Below.refl _ _) | (with_reducible assumption) | (with_reducible refine Below.setCell ?_ (by first | (simp; done) | (simp; omega) | omega) _) | (with_reducible refine Below.alloc ?_ (by first | (simp; done) | (simp; omega) | omega) _) | (refine bl_call ?_ (by assumption) (by first | (simp; done) | (simp; omega) | omega)) | (with_reducible refine bl_drewN ?_) | (with_reducible refine Below.drew ?_) | (with_reducible refine bl_grow ?_ (by first | (simp; done) | (simp; omega) | omega)))); have hzw2 := hqw2.size; obtain ⟨zrw2, cr0w2, cr1w2, cr2w2, fr0w2, fr1w2, fr2w2⟩ := krw2.three; clear krw1 cr0w1 fr0w1 cr1w1 fr1w1 cr2w1 fr2w1 hqw1; clear hbw2) | (go_at_call 59; clear m3; refine (HS.out _ _ _ (by repeat (first | (with_reducible exact Below.refl _ _) | (with_reducible assumption) | (with_reducible refine Below.setCell ?_ (by first | (simp; done) | (simp; omega) | omega) _) | (with_reducible refine Below.alloc ?_ (by first | (simp; done) | (simp; omega) | omega) _) | (refine bl_call ?_ (by assumption) (by first | (simp; done) | (simp; omega) | omega)) | (with_reducible refine bl_drewN ?_) | (with_reducible refine Below.drew ?_) | (with_reducible refine bl_grow ?_ (by first | (simp; done) | (simp; omega) | omega)))) ⟨_, HOw2.out⟩).mono ?_; rintro e w3 ⟨rfl, hbw3⟩; have krw3 : At w3 (w.heap.size) [.int .i64 0, .int .i64 0, .bool false] := (by repeat (first | (with_reducible assumption) | ((with_reducible refine at_new' _ _ _ _ ?_); (first | rfl | (simp; done))) | (with_reducible refine At.alloc ?_ _) | (with_reducible refine At.drew ?_) | (with_reducible refine At.drewN ?_) | (with_reducible refine At.set ?_ (by omega)) | (with_reducible apply At.store4) | (with_reducible apply At.store3) | (with_reducible apply At.store2) | (with_reducible apply At.put43) | (refine At.below ?_ (by with_reducible assumption)))); have hqw3 : Below w.heap.size w w3 := (by repeat (first | (with_reducible exact Below.refl _ _) | (with_reducible assumption) | (with_reducible refine Below.setCell ?_ (by first | (simp; done) | (simp; omega) | omega) _) | (with_reducible refine Below.alloc ?_ (by first | (simp; done) | (simp; omega) | omega) _) | (refine bl_call ?_ (by assumption) (by first | (simp; done) | (simp; omega) | omega)) | (with_reducible refine bl_drewN ?_) | (with_reducible refine Below.drew ?_) | (with_reducible refine bl_grow ?_ (by first | (simp; done) | (simp; omega) | omega)))); have hzw3 := hqw3.size; obtain ⟨zrw3, cr0w3, cr1w3, cr2w3, fr0w3, fr1w3, fr2w3⟩ := krw3.three; clear krw2 cr0w2 fr0w2 cr1w2 fr1w2 cr2w2 fr2w2 hqw2; clear hbw3))
  exact bodyPost_ret (v := .agg #[.int .i64 ((T).1 : Int), .int .i64 ((T).2.1 : Int), .bool (T).2.2]) (by simp [results, Tryd.results27, go_sem, *]) rfl ⟨rfl, by repeat (first | (with_reducible exact Below.refl _ _) | (with_reducible assumption) | (with_reducible refine Below.setCell ?_ (by first | (simp; done) | (simp; omega) | omega) _) | (with_reducible refine Below.alloc ?_ (by first | (simp; done) | (simp; omega) | omega) _) | (refine bl_call ?_ (by assumption) (by first | (simp; done) | (simp; omega) | omega)) | (with_reducible refine bl_drewN ?_) | (with_reducible refine Below.drew ?_) | (with_reducible refine bl_grow ?_ (by first | (simp; done) | (simp; omega) | omega)))⟩
theorem btotal_is : BTotalIs bookP := fun v Q n K G w hn h => by
  obtain ⟨p, u, rfl, rfl, h⟩ := h
  have hl : (lvL G n).length ≤ 1000 := Nat.le_trans (lvL_len G n) hn
  refine btotal p n (lvL G n).length K G (tM (4 * ttN K G n)) w (fun W hW => blive p n u K G W hn (h.below hW)) (fun W sz dz hW ⟨B, ho⟩ => ?_) (fun W sa cc hW ⟨B, ho⟩ => ?_)
  · rw [lvC_cells] at ho
    obtain ⟨sa, cc, e, r⟩ := own_ints ho
    injection e with e1 e2 e3
    subst e1 e3
    refine bat p n _ dz sz u K G (lvZ G n) W hn hl (h.below hW) (r.imp_right fun ⟨g, a, _, _, r⟩ => ⟨g, 0, a, r⟩) (fun i hi => ?_)
    have := lv_lt G n i hi
    unfold lvZ
    omega
  · obtain ⟨sa', cc', e, r⟩ := own_isC ho
    injection e with e1 e2 e3
    subst e1 e3
    have := bsum sa _ cc _ _ _ (fun i => K (lvZ G n i).toNat) W (by omega) r (fun i hi => ⟨rfl, rfl, rfl⟩)
    rwa [show jsN (fun i => K (lvZ G n i).toNat) (lvL G n).length = ttN K G n from lv_total K G n] at this
end Go.Proofs.YtlbdcgnhmkjfiaiDoor
/- Book -/
namespace Go.Proofs.YtlbdcgnhmkjfiaiDoor
open Go.RowKit Go.Sort
set_option linter.unusedVariables false
set_option linter.unusedSimpArgs false
/-- What a deal that is done leaves of a book. -/
def CoinsDone (e : TypeId) (w w' : World) (p : Nat) (u : Value) (n : Nat) (K : Nat → Nat) (G : Nat → Bool) : Prop :=
  But (fc p u) w w' ∧ ∃ u', CoinsAt e w' p u' n K G ∧ ∀ i, fc p u' i → fc p u i ∨ w.heap.size ≤ i
theorem cellsC_one (K : Nat → Nat) (G : Nat → Bool) : ∀ n, ∀ u ∈ cellsC K G n, u.oneCell' = true
  | 0, u, h => by cases h
  | n + 1, u, h => by
    rw [cellsC_succ] at h
    rcases List.mem_append.1 h with h | h
    · exact cellsC_one K G n u h
    · unfold coinL at h
      simp at h
      rcases h with rfl | rfl | rfl | rfl <;> rfl
/-- Nothing is appended, in a region that draws. -/
theorem step_append_nought {P : Program} {w : World} {ops : Array Oper} {o : Oper} {a : Act} {K : Act → World → Prop} {Q : Exit → Act → World → Prop} {E : Prop} (hgd : o.guard = none) (s x : Operand) (t : TypeId)
    (ho : o.op = .call { callee := .builtin .append, args := #[s, x], argTypes := #[t, t] }) (e : TypeId) (i : TypeInfo) (ht : P.underlying t = some (.slice e)) (hi : P.info? e = some i)
    (sb so : Option Addr) (n k c : Nat) (hs : a.eval s = .slice sb n k) (hk : n ≤ k) (hx : a.eval x = .slice so 0 c) (h : K (a.put o.dst (.slice sb n k)) w) :
    if Region.wanted o (yielded ops a.tmps) = true then Oper.wp P o a w K Q else E := by
  have hw : Region.wanted o (yielded ops a.tmps) = true := by simp [Region.wanted, hgd]
  rw [if_pos hw]
  have hsrc : Src P i.size t (.slice so 0 c) 0 [] w := by
    cases so with
    | none => exact Src.ofNil w ht c
    | some ad => exact Src.ofSlice w ht ad 0 c [] (by simp) (fun j u hj => by simp at hj) (fun u hu => by simp at hu)
  have hr := run_append_nothing (P := P) w t t o.type e i ht hi sb n k hk (.slice so 0 c) hsrc
  unfold Oper.wp execOp
  simp only [ho, resolve, invoke, builtin, Sem.run_bind, Sem.run_pure, Result.andThen_ok, List.map_toArray, List.map_cons, List.map_nil, hs, hx, hr]
  exact h
theorem grown_same (w : World) (r : Option Nat) : w.grownBy w r := ⟨rfl, rfl, rfl, Nat.le_refl _, fun _ _ _ => rfl⟩
section
variable {e : TypeId} {w V w5 w7 : World} {p : Nat} {u u7 : Value} {n n7 : Nat} {K K7 : Nat → Nat} {G G7 : Nat → Bool} {H : Nat → Bool}
/-- A row that has grown behind all that, stored. -/
theorem coins_stored (hB : CoinsAt e V p u n K H) (hq : But (fc p u) w V) (h5 : Below V.drew.heap.size V.drew w5) (hg : w5.grownBy w7 u.ownBlock) (ho : w7.ownsRow 0 e 4 u7 n7 (cellsC K7 G7 n7)) (hat : u7.ownBlock = u.ownBlock ∨ u7.ownBlock = some w5.heap.size) :
    CoinsDone e w (w7.setCell ⟨p, 0, none⟩ u7) p u n7 K7 G7 := by
  have hV : Below V.heap.size V w5 := (Below.drew (Below.refl _ _)).trans h5
  have h0 := hq.size
  have h1 := hV.size
  refine ⟨((hq.call hV).grown hg fun k hk => Or.inl (Or.inr hk)).setCell (Or.inl (Or.inl rfl)) _, u7, hB.grow hV hg ho hat, fun i hi => ?_⟩
  rcases hi with rfl | hi
  · exact Or.inl (Or.inl rfl)
  · rcases hat with e | e
    · exact Or.inl (Or.inr (e.symm.trans hi))
    · rw [e] at hi
      injection hi with hi
      exact Or.inr (by omega)
end
set_option maxRecDepth 100000 in
set_option maxHeartbeats 8000000 in
theorem bdo_exc (p n m c d dz : Nat) (sz sl : Option Addr) (rx ry S q : Int) (rf : Bool) (w : World) (hx : ∀ W, Below w.heap.size w W → Calls Tryd.prog 32 #[.pointer (some ⟨p, 0, none⟩), .slice sz m dz, .slice sl c d] W fun e w' => e = .returned (.tuple #[.agg #[.int .i64 0, .int .i64 0, .bool false], errOf q]) ∧ Below W.heap.size W w') : Calls Tryd.prog 30 #[.pointer (some ⟨p, 0, none⟩), .agg #[.slice sz m dz, .slice sl c d, .int .i64 rx, .int .i64 ry, .bool rf, .int .i64 S]] w fun e w' => e = .returned (errOf q) ∧ Below w.heap.size w w' := by
  have HX : Hid (∀ W, Below w.heap.size w W → Calls Tryd.prog 32 #[.pointer (some ⟨p, 0, none⟩), .slice sz m dz, .slice sl c d] W fun e w' => e = .returned (.tuple #[.agg #[.int .i64 0, .int .i64 0, .bool false], errOf q]) ∧ Below W.heap.size W w') := hx
  clear hx
  have m1 : True := trivial
  go_enter Tryd.func30, Tryd.ntmps30
  go_wp2_with (go_at_call 32; clear m1; refine (HX.out _ (by repeat (first | (with_reducible exact Below.refl _ _) | (with_reducible assumption) | (with_reducible refine Below.setCell ?_ (by first | (simp; done) | (simp; omega) | omega) _) | (with_reducible refine Below.alloc ?_ (by first | (simp; done) | (simp; omega) | omega) _) | (refine bl_call ?_ (by assumption) (by first | (simp; done) | (simp; omega) | omega)) | (with_reducible refine bl_drewN ?_) | (with_reducible refine Below.drew ?_) | (with_reducible refine bl_grow ?_ (by first | (simp; done) | (simp; omega) | omega))))).mono ?_; rintro e w1 ⟨rfl, hbw1⟩; have kdw1 : At w1 (w.heap.size) [.slice sz m dz, .slice sl c d, .int .i64 rx, .int .i64 ry, .bool rf, .int .i64 S] := (by repeat (first | (with_reducible assumption) | ((with_reducible refine at_new' _ _ _ _ ?_); (first | rfl | (simp; done))) | (with_reducible refine At.alloc ?_ _) | (with_reducible refine At.drew ?_) | (with_reducible refine At.drewN ?_) | (with_reducible refine At.set ?_ (by omega)) | (with_reducible apply At.store4) | (with_reducible apply At.store3) | (with_reducible apply At.store2) | (with_reducible apply At.put43) | (refine At.below ?_ (by with_reducible assumption)))); have hqw1 : Below w.heap.size w w1 := (by repeat (first | (with_reducible exact Below.refl _ _) | (with_reducible assumption) | (with_reducible refine Below.setCell ?_ (by first | (simp; done) | (simp; omega) | omega) _) | (with_reducible refine Below.alloc ?_ (by first | (simp; done) | (simp; omega) | omega) _) | (refine bl_call ?_ (by assumption) (by first | (simp; done) | (simp; omega) | omega)) | (with_reducible refine bl_drewN ?_) | (with_reducible refine Below.drew ?_) | (with_reducible refine bl_grow ?_ (by first | (simp; done) | (simp; omega) | omega)))); have hzw1 := hqw1.size; obtain ⟨zdw1, cd0w1, cd1w1, cd2w1, cd3w1, cd4w1, cd5w1, fd0w1, fd1w1, fd2w1, fd3w1, fd4w1, fd5w1⟩ := kdw1.six; clear hbw1)
  go_ret
  exact ⟨rfl, by repeat (first | (with_reducible exact Below.refl _ _) | (with_reducible assumption) | (with_reducible refine Below.setCell ?_ (by first | (simp; done) | (simp; omega) | omega) _) | (with_reducible refine Below.alloc ?_ (by first | (simp; done) | (simp; omega) | omega) _) | (refine bl_call ?_ (by assumption) (by first | (simp; done) | (simp; omega) | omega)) | (with_reducible refine bl_drewN ?_) | (with_reducible refine Below.drew ?_) | (with_reducible refine bl_grow ?_ (by first | (simp; done) | (simp; omega) | omega)))⟩
set_option maxRecDepth 100000 in
set_option maxHeartbeats 8000000 in
theorem bdo_full (p n m c d dz : Nat) (sz sl : Option Addr) (u : Value) (K : Nat → Nat) (G : Nat → Bool) (x : Nat) (rx ry S : Int) (rf : Bool) (w : World) (hn : n ≤ 1000) (hc : c ≤ 12) (hf : 1000 < n + c) (h : CoinsAt 98 w p u n K G) (hx : ∀ W, Below w.heap.size w W → Calls Tryd.prog 32 #[.pointer (some ⟨p, 0, none⟩), .slice sz m dz, .slice sl c d] W fun e w' => e = .returned (.tuple #[.agg #[.int .i64 ((tM (4 * x)).1 : Int), .int .i64 ((tM (4 * x)).2.1 : Int), .bool (tM (4 * x)).2.2], .nilIface]) ∧ Below W.heap.size W w') : Calls Tryd.prog 30 #[.pointer (some ⟨p, 0, none⟩), .agg #[.slice sz m dz, .slice sl c d, .int .i64 rx, .int .i64 ry, .bool rf, .int .i64 S]] w fun e w' => e = .returned (errOf 4) ∧ Below w.heap.size w w' := by
  have hf1 : (n : Int) + (c : Int) > 1000 := by omega
  obtain ⟨su, cu, rfl, _⟩ := h.slice
  have HP : Hid (At w p [.slice su n cu]) := h.cells
  have HX : Hid (∀ W, Below w.heap.size w W → Calls Tryd.prog 32 #[.pointer (some ⟨p, 0, none⟩), .slice sz m dz, .slice sl c d] W fun e w' => e = .returned (.tuple #[.agg #[.int .i64 ((tM (4 * x)).1 : Int), .int .i64 ((tM (4 * x)).2.1 : Int), .bool (tM (4 * x)).2.2], .nilIface]) ∧ Below W.heap.size W w') := hx
  clear h hx
  have m1 : True := trivial; have m2 : True := trivial
  go_enter Tryd.func30, Tryd.ntmps30
  go_upto_region 4 with (go_at_call 32; clear m1; refine (HX.out _ (by repeat (first | (with_reducible exact Below.refl _ _) | (with_reducible assumption) | (with_reducible refine Below.setCell ?_ (by first | (simp; done) | (simp; omega) | omega) _) | (with_reducible refine Below.alloc ?_ (by first | (simp; done) | (simp; omega) | omega) _) | (refine bl_call ?_ (by assumption) (by first | (simp; done) | (simp; omega) | omega)) | (with_reducible refine bl_drewN ?_) | (with_reducible refine Below.drew ?_) | (with_reducible refine bl_grow ?_ (by first | (simp; done) | (simp; omega) | omega))))).mono ?_; rintro e w1 ⟨rfl, hbw1⟩; have kdw1 : At w1 (w.heap.size) [.slice sz m dz, .slice sl c d, .int .i64 rx, .int .i64 ry, .bool rf, .int .i64 S] := (by repeat (first | (with_reducible assumption) | ((with_reducible refine at_new' _ _ _ _ ?_); (first | rfl | (simp; done))) | (with_reducible refine At.alloc ?_ _) | (with_reducible refine At.drew ?_) | (with_reducible refine At.drewN ?_) | (with_reducible refine At.set ?_ (by omega)) | (with_reducible apply At.store4) | (with_reducible apply At.store3) | (with_reducible apply At.store2) | (with_reducible apply At.put43) | (refine At.below ?_ (by with_reducible assumption)))); have hqw1 : Below w.heap.size w w1 := (by repeat (first | (with_reducible exact Below.refl _ _) | (with_reducible assumption) | (with_reducible refine Below.setCell ?_ (by first | (simp; done) | (simp; omega) | omega) _) | (with_reducible refine Below.alloc ?_ (by first | (simp; done) | (simp; omega) | omega) _) | (refine bl_call ?_ (by assumption) (by first | (simp; done) | (simp; omega) | omega)) | (with_reducible refine bl_drewN ?_) | (with_reducible refine Below.drew ?_) | (with_reducible refine bl_grow ?_ (by first | (simp; done) | (simp; omega) | omega)))); have hzw1 := hqw1.size; obtain ⟨zdw1, cd0w1, cd1w1, cd2w1, cd3w1, cd4w1, cd5w1, fd0w1, fd1w1, fd2w1, fd3w1, fd4w1, fd5w1⟩ := kdw1.six; clear hbw1)
  refine wp_gen (fun V => At V (w.heap.size) [.slice sz m dz, .slice sl c d, .int .i64 rx, .int .i64 ry, .bool rf, .int .i64 S] ∧ At V (w1.heap.size) [.int .i64 ((tM (4 * x)).1 : Int), .int .i64 ((tM (4 * x)).2.1 : Int), .bool (tM (4 * x)).2.2] ∧ Below w.heap.size w V) ⟨by repeat (first | (with_reducible assumption) | ((with_reducible refine at_new' _ _ _ _ ?_); (first | rfl | (simp; done))) | (with_reducible refine At.alloc ?_ _) | (with_reducible refine At.drew ?_) | (with_reducible refine At.drewN ?_) | (with_reducible refine At.set ?_ (by omega)) | (with_reducible apply At.store4) | (with_reducible apply At.store3) | (with_reducible apply At.store2) | (with_reducible apply At.put43) | (refine At.below ?_ (by with_reducible assumption))), by repeat (first | (with_reducible assumption) | ((with_reducible refine at_new' _ _ _ _ ?_); (first | rfl | (simp; done))) | (with_reducible refine At.alloc ?_ _) | (with_reducible refine At.drew ?_) | (with_reducible refine At.drewN ?_) | (with_reducible refine At.set ?_ (by omega)) | (with_reducible apply At.store4) | (with_reducible apply At.store3) | (with_reducible apply At.store2) | (with_reducible apply At.put43) | (refine At.below ?_ (by with_reducible assumption))), by repeat (first | (with_reducible exact Below.refl _ _) | (with_reducible assumption) | (with_reducible refine Below.setCell ?_ (by first | (simp; done) | (simp; omega) | omega) _) | (with_reducible refine Below.alloc ?_ (by first | (simp; done) | (simp; omega) | omega) _) | (refine bl_call ?_ (by assumption) (by first | (simp; done) | (simp; omega) | omega)) | (with_reducible refine bl_drewN ?_) | (with_reducible refine Below.drew ?_) | (with_reducible refine bl_grow ?_ (by first | (simp; done) | (simp; omega) | omega)))⟩ ?_
  rintro V ⟨kdV, kxV, hqV⟩
  have hzV := hqV.size
  clear kdw1 cd0w1 fd0w1 cd1w1 fd1w1 cd2w1 fd2w1 cd3w1 fd3w1 cd4w1 fd4w1 cd5w1 fd5w1 hqw1
  obtain ⟨zdV, cd0V, cd1V, cd2V, cd3V, cd4V, cd5V, fd0V, fd1V, fd2V, fd3V, fd4V, fd5V⟩ := kdV.six
  obtain ⟨zxV, cx0V, cx1V, cx2V, fx0V, fx1V, fx2V⟩ := kxV.three
  have kpV := HP.out.below hqV
  obtain ⟨zpV, cp0V, fp0V⟩ := kpV.one
  refine wp_region_quiet_below (by kernel_rfl) (by kernel_rfl) ?_
  repeat (go_big_quiet_step (first | fail))
  refine wpQuiet_nil ?_
  intro U hw1
  have hrU := regrown_below hw1
  clear hw1
  have kdU := kdV.below hrU
  have kxU := kxV.below hrU
  have kpU := kpV.below hrU
  have hqU := bl_call hqV hrU (by omega)
  have hzU := hqU.size
  clear hrU kdV cd0V fd0V cd1V fd1V cd2V fd2V cd3V fd3V cd4V fd4V cd5V fd5V kxV cx0V fx0V cx1V fx1V cx2V fx2V kpV cp0V fp0V hqV
  obtain ⟨zdU, cd0U, cd1U, cd2U, cd3U, cd4U, cd5U, fd0U, fd1U, fd2U, fd3U, fd4U, fd5U⟩ := kdU.six
  obtain ⟨zxU, cx0U, cx1U, cx2U, fx0U, fx1U, fx2U⟩ := kxU.three
  obtain ⟨zpU, cp0U, fp0U⟩ := kpU.one
  go_wp2_with fail
  go_ret
  exact ⟨rfl, by repeat (first | (with_reducible exact Below.refl _ _) | (with_reducible assumption) | (with_reducible refine Below.setCell ?_ (by first | (simp; done) | (simp; omega) | omega) _) | (with_reducible refine Below.alloc ?_ (by first | (simp; done) | (simp; omega) | omega) _) | (refine bl_call ?_ (by assumption) (by first | (simp; done) | (simp; omega) | omega)) | (with_reducible refine bl_drewN ?_) | (with_reducible refine Below.drew ?_) | (with_reducible refine bl_grow ?_ (by first | (simp; done) | (simp; omega) | omega)))⟩
set_option maxRecDepth 100000 in
set_option maxHeartbeats 8000000 in
theorem bdo_seal (p n m c d dz : Nat) (sz sl : Option Addr) (u : Value) (K : Nat → Nat) (G : Nat → Bool) (x : Nat) (rx ry S q : Int) (rf : Bool) (w : World) (hn : n ≤ 1000) (hc : c ≤ 12) (hf : n + c ≤ 1000) (h : CoinsAt 98 w p u n K G) (hx : ∀ W, Below w.heap.size w W → Calls Tryd.prog 32 #[.pointer (some ⟨p, 0, none⟩), .slice sz m dz, .slice sl c d] W fun e w' => e = .returned (.tuple #[.agg #[.int .i64 ((tM (4 * x)).1 : Int), .int .i64 ((tM (4 * x)).2.1 : Int), .bool (tM (4 * x)).2.2], .nilIface]) ∧ Below W.heap.size W w') (hs : ∀ w, Calls Tryd.prog 63 #[.agg #[.int .i64 rx, .int .i64 ry, .bool rf, .int .i64 S], .agg #[.int .i64 ((tM (4 * x)).1 : Int), .int .i64 ((tM (4 * x)).2.1 : Int), .bool (tM (4 * x)).2.2]] w fun e w' => e = .returned (errOf q) ∧ Below w.heap.size w w') : Calls Tryd.prog 30 #[.pointer (some ⟨p, 0, none⟩), .agg #[.slice sz m dz, .slice sl c d, .int .i64 rx, .int .i64 ry, .bool rf, .int .i64 S]] w fun e w' => e = .returned (errOf q) ∧ Below w.heap.size w w' := by
  have hf1 : ¬ (n : Int) + (c : Int) > 1000 := by omega
  have HS : Hid (∀ w, Calls Tryd.prog 63 #[.agg #[.int .i64 rx, .int .i64 ry, .bool rf, .int .i64 S], .agg #[.int .i64 ((tM (4 * x)).1 : Int), .int .i64 ((tM (4 * x)).2.1 : Int), .bool (tM (4 * x)).2.2]] w fun e w' => e = .returned (errOf q) ∧ Below w.heap.size w w') := hs
  clear hs
  obtain ⟨su, cu, rfl, _⟩ := h.slice
  have HP : Hid (At w p [.slice su n cu]) := h.cells
  have HX : Hid (∀ W, Below w.heap.size w W → Calls Tryd.prog 32 #[.pointer (some ⟨p, 0, none⟩), .slice sz m dz, .slice sl c d] W fun e w' => e = .returned (.tuple #[.agg #[.int .i64 ((tM (4 * x)).1 : Int), .int .i64 ((tM (4 * x)).2.1 : Int), .bool (tM (4 * x)).2.2], .nilIface]) ∧ Below W.heap.size W w') := hx
  clear h hx
  have m1 : True := trivial; have m2 : True := trivial
  go_enter Tryd.func30, Tryd.ntmps30
  go_upto_region 4 with (go_at_call 32; clear m1; refine (HX.out _ (by repeat (first | (with_reducible exact Below.refl _ _) | (with_reducible assumption) | (with_reducible refine Below.setCell ?_ (by first | (simp; done) | (simp; omega) | omega) _) | (with_reducible refine Below.alloc ?_ (by first | (simp; done) | (simp; omega) | omega) _) | (refine bl_call ?_ (by assumption) (by first | (simp; done) | (simp; omega) | omega)) | (with_reducible refine bl_drewN ?_) | (with_reducible refine Below.drew ?_) | (with_reducible refine bl_grow ?_ (by first | (simp; done) | (simp; omega) | omega))))).mono ?_; rintro e w1 ⟨rfl, hbw1⟩; have kdw1 : At w1 (w.heap.size) [.slice sz m dz, .slice sl c d, .int .i64 rx, .int .i64 ry, .bool rf, .int .i64 S] := (by repeat (first | (with_reducible assumption) | ((with_reducible refine at_new' _ _ _ _ ?_); (first | rfl | (simp; done))) | (with_reducible refine At.alloc ?_ _) | (with_reducible refine At.drew ?_) | (with_reducible refine At.drewN ?_) | (with_reducible refine At.set ?_ (by omega)) | (with_reducible apply At.store4) | (with_reducible apply At.store3) | (with_reducible apply At.store2) | (with_reducible apply At.put43) | (refine At.below ?_ (by with_reducible assumption)))); have hqw1 : Below w.heap.size w w1 := (by repeat (first | (with_reducible exact Below.refl _ _) | (with_reducible assumption) | (with_reducible refine Below.setCell ?_ (by first | (simp; done) | (simp; omega) | omega) _) | (with_reducible refine Below.alloc ?_ (by first | (simp; done) | (simp; omega) | omega) _) | (refine bl_call ?_ (by assumption) (by first | (simp; done) | (simp; omega) | omega)) | (with_reducible refine bl_drewN ?_) | (with_reducible refine Below.drew ?_) | (with_reducible refine bl_grow ?_ (by first | (simp; done) | (simp; omega) | omega)))); have hzw1 := hqw1.size; obtain ⟨zdw1, cd0w1, cd1w1, cd2w1, cd3w1, cd4w1, cd5w1, fd0w1, fd1w1, fd2w1, fd3w1, fd4w1, fd5w1⟩ := kdw1.six; clear hbw1)
  refine wp_gen (fun V => At V (w.heap.size) [.slice sz m dz, .slice sl c d, .int .i64 rx, .int .i64 ry, .bool rf, .int .i64 S] ∧ At V (w1.heap.size) [.int .i64 ((tM (4 * x)).1 : Int), .int .i64 ((tM (4 * x)).2.1 : Int), .bool (tM (4 * x)).2.2] ∧ Below w.heap.size w V) ⟨by repeat (first | (with_reducible assumption) | ((with_reducible refine at_new' _ _ _ _ ?_); (first | rfl | (simp; done))) | (with_reducible refine At.alloc ?_ _) | (with_reducible refine At.drew ?_) | (with_reducible refine At.drewN ?_) | (with_reducible refine At.set ?_ (by omega)) | (with_reducible apply At.store4) | (with_reducible apply At.store3) | (with_reducible apply At.store2) | (with_reducible apply At.put43) | (refine At.below ?_ (by with_reducible assumption))), by repeat (first | (with_reducible assumption) | ((with_reducible refine at_new' _ _ _ _ ?_); (first | rfl | (simp; done))) | (with_reducible refine At.alloc ?_ _) | (with_reducible refine At.drew ?_) | (with_reducible refine At.drewN ?_) | (with_reducible refine At.set ?_ (by omega)) | (with_reducible apply At.store4) | (with_reducible apply At.store3) | (with_reducible apply At.store2) | (with_reducible apply At.put43) | (refine At.below ?_ (by with_reducible assumption))), by repeat (first | (with_reducible exact Below.refl _ _) | (with_reducible assumption) | (with_reducible refine Below.setCell ?_ (by first | (simp; done) | (simp; omega) | omega) _) | (with_reducible refine Below.alloc ?_ (by first | (simp; done) | (simp; omega) | omega) _) | (refine bl_call ?_ (by assumption) (by first | (simp; done) | (simp; omega) | omega)) | (with_reducible refine bl_drewN ?_) | (with_reducible refine Below.drew ?_) | (with_reducible refine bl_grow ?_ (by first | (simp; done) | (simp; omega) | omega)))⟩ ?_
  rintro V ⟨kdV, kxV, hqV⟩
  have hzV := hqV.size
  clear kdw1 cd0w1 fd0w1 cd1w1 fd1w1 cd2w1 fd2w1 cd3w1 fd3w1 cd4w1 fd4w1 cd5w1 fd5w1 hqw1
  obtain ⟨zdV, cd0V, cd1V, cd2V, cd3V, cd4V, cd5V, fd0V, fd1V, fd2V, fd3V, fd4V, fd5V⟩ := kdV.six
  obtain ⟨zxV, cx0V, cx1V, cx2V, fx0V, fx1V, fx2V⟩ := kxV.three
  have kpV := HP.out.below hqV
  obtain ⟨zpV, cp0V, fp0V⟩ := kpV.one
  refine wp_region_quiet_below (by kernel_rfl) (by kernel_rfl) ?_
  repeat (go_big_quiet_step (first | fail))
  refine wpQuiet_nil ?_
  intro U hw1
  have hrU := regrown_below hw1
  clear hw1
  have kdU := kdV.below hrU
  have kxU := kxV.below hrU
  have kpU := kpV.below hrU
  have hqU := bl_call hqV hrU (by omega)
  have hzU := hqU.size
  clear hrU kdV cd0V fd0V cd1V fd1V cd2V fd2V cd3V fd3V cd4V fd4V cd5V fd5V kxV cx0V fx0V cx1V fx1V cx2V fx2V kpV cp0V fp0V hqV
  obtain ⟨zdU, cd0U, cd1U, cd2U, cd3U, cd4U, cd5U, fd0U, fd1U, fd2U, fd3U, fd4U, fd5U⟩ := kdU.six
  obtain ⟨zxU, cx0U, cx1U, cx2U, fx0U, fx1U, fx2U⟩ := kxU.three
  obtain ⟨zpU, cp0U, fp0U⟩ := kpU.one
  go_wp2_with (go_at_call 63; clear m2; refine (HS.out _).mono ?_; rintro e w2 ⟨rfl, hbw2⟩; have kdw2 : At w2 (w.heap.size) [.slice sz m dz, .slice sl c d, .int .i64 rx, .int .i64 ry, .bool rf, .int .i64 S] := (by repeat (first | (with_reducible assumption) | ((with_reducible refine at_new' _ _ _ _ ?_); (first | rfl | (simp; done))) | (with_reducible refine At.alloc ?_ _) | (with_reducible refine At.drew ?_) | (with_reducible refine At.drewN ?_) | (with_reducible refine At.set ?_ (by omega)) | (with_reducible apply At.store4) | (with_reducible apply At.store3) | (with_reducible apply At.store2) | (with_reducible apply At.put43) | (refine At.below ?_ (by with_reducible assumption)))); have kxw2 : At w2 (w1.heap.size) [.int .i64 ((tM (4 * x)).1 : Int), .int .i64 ((tM (4 * x)).2.1 : Int), .bool (tM (4 * x)).2.2] := (by repeat (first | (with_reducible assumption) | ((with_reducible refine at_new' _ _ _ _ ?_); (first | rfl | (simp; done))) | (with_reducible refine At.alloc ?_ _) | (with_reducible refine At.drew ?_) | (with_reducible refine At.drewN ?_) | (with_reducible refine At.set ?_ (by omega)) | (with_reducible apply At.store4) | (with_reducible apply At.store3) | (with_reducible apply At.store2) | (with_reducible apply At.put43) | (refine At.below ?_ (by with_reducible assumption)))); have kpw2 : At w2 (p) [.slice su n cu] := (by repeat (first | (with_reducible assumption) | ((with_reducible refine at_new' _ _ _ _ ?_); (first | rfl | (simp; done))) | (with_reducible refine At.alloc ?_ _) | (with_reducible refine At.drew ?_) | (with_reducible refine At.drewN ?_) | (with_reducible refine At.set ?_ (by omega)) | (with_reducible apply At.store4) | (with_reducible apply At.store3) | (with_reducible apply At.store2) | (with_reducible apply At.put43) | (refine At.below ?_ (by with_reducible assumption)))); have hqw2 : Below w.heap.size w w2 := (by repeat (first | (with_reducible exact Below.refl _ _) | (with_reducible assumption) | (with_reducible refine Below.setCell ?_ (by first | (simp; done) | (simp; omega) | omega) _) | (with_reducible refine Below.alloc ?_ (by first | (simp; done) | (simp; omega) | omega) _) | (refine bl_call ?_ (by assumption) (by first | (simp; done) | (simp; omega) | omega)) | (with_reducible refine bl_drewN ?_) | (with_reducible refine Below.drew ?_) | (with_reducible refine bl_grow ?_ (by first | (simp; done) | (simp; omega) | omega)))); have hzw2 := hqw2.size; obtain ⟨zdw2, cd0w2, cd1w2, cd2w2, cd3w2, cd4w2, cd5w2, fd0w2, fd1w2, fd2w2, fd3w2, fd4w2, fd5w2⟩ := kdw2.six; obtain ⟨zxw2, cx0w2, cx1w2, cx2w2, fx0w2, fx1w2, fx2w2⟩ := kxw2.three; obtain ⟨zpw2, cp0w2, fp0w2⟩ := kpw2.one; clear kdU cd0U fd0U cd1U fd1U cd2U fd2U cd3U fd3U cd4U fd4U cd5U fd5U kxU cx0U fx0U cx1U fx1U cx2U fx2U kpU cp0U fp0U hqU; clear hbw2)
  go_ret
  exact ⟨rfl, by repeat (first | (with_reducible exact Below.refl _ _) | (with_reducible assumption) | (with_reducible refine Below.setCell ?_ (by first | (simp; done) | (simp; omega) | omega) _) | (with_reducible refine Below.alloc ?_ (by first | (simp; done) | (simp; omega) | omega) _) | (refine bl_call ?_ (by assumption) (by first | (simp; done) | (simp; omega) | omega)) | (with_reducible refine bl_drewN ?_) | (with_reducible refine Below.drew ?_) | (with_reducible refine bl_grow ?_ (by first | (simp; done) | (simp; omega) | omega)))⟩
set_option maxRecDepth 100000 in
set_option maxHeartbeats 8000000 in
theorem bdo_ok (p n m c d dz : Nat) (sz sl : Option Addr) (u : Value) (K : Nat → Nat) (G : Nat → Bool) (x a s : Nat) (J : Nat → Nat) (Z : Nat → Int) (X Y : Nat → Int) (F : Nat → Bool) (w : World) (hn : n ≤ 1000) (hc : c ≤ 12) (hf : n + c ≤ 1000) (hm : m ≤ 1000) (h : CoinsAt 98 w p u n K G) (hx : ∀ W, Below w.heap.size w W → Calls Tryd.prog 32 #[.pointer (some ⟨p, 0, none⟩), .slice sz m dz, .slice sl c d] W fun e w' => e = .returned (.tuple #[.agg #[.int .i64 ((tM (4 * x)).1 : Int), .int .i64 ((tM (4 * x)).2.1 : Int), .bool (tM (4 * x)).2.2], .nilIface]) ∧ Below W.heap.size W w') (hs : ∀ w, Calls Tryd.prog 63 #[.agg #[.int .i64 ((tM a).1 : Int), .int .i64 ((tM a).2.1 : Int), .bool (tM a).2.2, .int .i64 (s : Int)], .agg #[.int .i64 ((tM (4 * x)).1 : Int), .int .i64 ((tM (4 * x)).2.1 : Int), .bool (tM (4 * x)).2.2]] w fun e w' => e = .returned (.nilIface) ∧ Below w.heap.size w w') (hz : (m = 0 ∨ ∃ g o : Nat, sz = some ⟨g, o, none⟩ ∧ RowI w g o m Z ∧ ¬ fc p u g)) (hok : ∀ j, j < m → goE n G Z j = 0) (hr : (c = 0 ∨ ∃ g o : Nat, sl = some ⟨g, o, none⟩ ∧ RowO w g o c X Y F ∧ ¬ fc p u g)) (hK : isC X Y F J c) :
    Calls Tryd.prog 30 #[.pointer (some ⟨p, 0, none⟩), .agg #[.slice sz m dz, .slice sl c d, .int .i64 ((tM a).1 : Int), .int .i64 ((tM a).2.1 : Int), .bool (tM a).2.2, .int .i64 (s : Int)]] w fun e w' => e = .returned .nilIface ∧ CoinsDone 98 w w' p u (n + c) (appN K n J c) (appN (mkG G Z m) n (fun _ => false) c) := by
  have hf1 : ¬ (n : Int) + (c : Int) > 1000 := by omega
  have HBK : Hid (CoinsAt 98 w p u n K G) := h
  have HZ : Hid ((m = 0 ∨ ∃ g o : Nat, sz = some ⟨g, o, none⟩ ∧ RowI w g o m Z ∧ ¬ fc p u g)) := hz
  have HO : Hid (∀ j, j < m → goE n G Z j = 0) := hok
  have HR : Hid ((c = 0 ∨ ∃ g o : Nat, sl = some ⟨g, o, none⟩ ∧ RowO w g o c X Y F ∧ ¬ fc p u g)) := hr
  have HK : Hid (isC X Y F J c) := hK
  have HS : Hid (∀ w, Calls Tryd.prog 63 #[.agg #[.int .i64 ((tM a).1 : Int), .int .i64 ((tM a).2.1 : Int), .bool (tM a).2.2, .int .i64 (s : Int)], .agg #[.int .i64 ((tM (4 * x)).1 : Int), .int .i64 ((tM (4 * x)).2.1 : Int), .bool (tM (4 * x)).2.2]] w fun e w' => e = .returned (.nilIface) ∧ Below w.heap.size w w') := hs
  have hpw := h.cells.1
  clear hz hok hr hK hs
  obtain ⟨su, cu, rfl, _⟩ := h.slice
  have HP : Hid (At w p [.slice su n cu]) := h.cells
  have HX : Hid (∀ W, Below w.heap.size w W → Calls Tryd.prog 32 #[.pointer (some ⟨p, 0, none⟩), .slice sz m dz, .slice sl c d] W fun e w' => e = .returned (.tuple #[.agg #[.int .i64 ((tM (4 * x)).1 : Int), .int .i64 ((tM (4 * x)).2.1 : Int), .bool (tM (4 * x)).2.2], .nilIface]) ∧ Below W.heap.size W w') := hx
  clear h hx
  have m1 : True := trivial; have m2 : True := trivial
  go_enter Tryd.func30, Tryd.ntmps30
  go_upto_region 4 with (go_at_call 32; clear m1; refine (HX.out _ (by repeat (first | (with_reducible exact Below.refl _ _) | (with_reducible assumption) | (with_reducible refine Below.setCell ?_ (by first | (simp; done) | (simp; omega) | omega) _) | (with_reducible refine Below.alloc ?_ (by first | (simp; done) | (simp; omega) | omega) _) | (refine bl_call ?_ (by assumption) (by first | (simp; done) | (simp; omega) | omega)) | (with_reducible refine bl_drewN ?_) | (with_reducible refine Below.drew ?_) | (with_reducible refine bl_grow ?_ (by first | (simp; done) | (simp; omega) | omega))))).mono ?_; rintro e w1 ⟨rfl, hbw1⟩; have kdw1 : At w1 (w.heap.size) [.slice sz m dz, .slice sl c d, .int .i64 ((tM a).1 : Int), .int .i64 ((tM a).2.1 : Int), .bool (tM a).2.2, .int .i64 (s : Int)] := (by repeat (first | (with_reducible assumption) | ((with_reducible refine at_new' _ _ _ _ ?_); (first | rfl | (simp; done))) | (with_reducible refine At.alloc ?_ _) | (with_reducible refine At.drew ?_) | (with_reducible refine At.drewN ?_) | (with_reducible refine At.set ?_ (by omega)) | (with_reducible apply At.store4) | (with_reducible apply At.store3) | (with_reducible apply At.store2) | (with_reducible apply At.put43) | (refine At.below ?_ (by with_reducible assumption)))); have hqw1 : Below w.heap.size w w1 := (by repeat (first | (with_reducible exact Below.refl _ _) | (with_reducible assumption) | (with_reducible refine Below.setCell ?_ (by first | (simp; done) | (simp; omega) | omega) _) | (with_reducible refine Below.alloc ?_ (by first | (simp; done) | (simp; omega) | omega) _) | (refine bl_call ?_ (by assumption) (by first | (simp; done) | (simp; omega) | omega)) | (with_reducible refine bl_drewN ?_) | (with_reducible refine Below.drew ?_) | (with_reducible refine bl_grow ?_ (by first | (simp; done) | (simp; omega) | omega)))); have hzw1 := hqw1.size; obtain ⟨zdw1, cd0w1, cd1w1, cd2w1, cd3w1, cd4w1, cd5w1, fd0w1, fd1w1, fd2w1, fd3w1, fd4w1, fd5w1⟩ := kdw1.six; clear hbw1)
  refine wp_gen (fun V => At V (w.heap.size) [.slice sz m dz, .slice sl c d, .int .i64 ((tM a).1 : Int), .int .i64 ((tM a).2.1 : Int), .bool (tM a).2.2, .int .i64 (s : Int)] ∧ At V (w1.heap.size) [.int .i64 ((tM (4 * x)).1 : Int), .int .i64 ((tM (4 * x)).2.1 : Int), .bool (tM (4 * x)).2.2] ∧ Below w.heap.size w V) ⟨by repeat (first | (with_reducible assumption) | ((with_reducible refine at_new' _ _ _ _ ?_); (first | rfl | (simp; done))) | (with_reducible refine At.alloc ?_ _) | (with_reducible refine At.drew ?_) | (with_reducible refine At.drewN ?_) | (with_reducible refine At.set ?_ (by omega)) | (with_reducible apply At.store4) | (with_reducible apply At.store3) | (with_reducible apply At.store2) | (with_reducible apply At.put43) | (refine At.below ?_ (by with_reducible assumption))), by repeat (first | (with_reducible assumption) | ((with_reducible refine at_new' _ _ _ _ ?_); (first | rfl | (simp; done))) | (with_reducible refine At.alloc ?_ _) | (with_reducible refine At.drew ?_) | (with_reducible refine At.drewN ?_) | (with_reducible refine At.set ?_ (by omega)) | (with_reducible apply At.store4) | (with_reducible apply At.store3) | (with_reducible apply At.store2) | (with_reducible apply At.put43) | (refine At.below ?_ (by with_reducible assumption))), by repeat (first | (with_reducible exact Below.refl _ _) | (with_reducible assumption) | (with_reducible refine Below.setCell ?_ (by first | (simp; done) | (simp; omega) | omega) _) | (with_reducible refine Below.alloc ?_ (by first | (simp; done) | (simp; omega) | omega) _) | (refine bl_call ?_ (by assumption) (by first | (simp; done) | (simp; omega) | omega)) | (with_reducible refine bl_drewN ?_) | (with_reducible refine Below.drew ?_) | (with_reducible refine bl_grow ?_ (by first | (simp; done) | (simp; omega) | omega)))⟩ ?_
  rintro V ⟨kdV, kxV, hqV⟩
  have hzV := hqV.size
  clear kdw1 cd0w1 fd0w1 cd1w1 fd1w1 cd2w1 fd2w1 cd3w1 fd3w1 cd4w1 fd4w1 cd5w1 fd5w1 hqw1
  obtain ⟨zdV, cd0V, cd1V, cd2V, cd3V, cd4V, cd5V, fd0V, fd1V, fd2V, fd3V, fd4V, fd5V⟩ := kdV.six
  obtain ⟨zxV, cx0V, cx1V, cx2V, fx0V, fx1V, fx2V⟩ := kxV.three
  have kpV := HP.out.below hqV
  obtain ⟨zpV, cp0V, fp0V⟩ := kpV.one
  refine wp_region_quiet_below (by kernel_rfl) (by kernel_rfl) ?_
  repeat (go_big_quiet_step (first | fail))
  refine wpQuiet_nil ?_
  intro U hw1
  have hrU := regrown_below hw1
  clear hw1
  have kdU := kdV.below hrU
  have kxU := kxV.below hrU
  have kpU := kpV.below hrU
  have hqU := bl_call hqV hrU (by omega)
  have hzU := hqU.size
  clear hrU kdV cd0V fd0V cd1V fd1V cd2V fd2V cd3V fd3V cd4V fd4V cd5V fd5V kxV cx0V fx0V cx1V fx1V cx2V fx2V kpV cp0V fp0V hqV
  obtain ⟨zdU, cd0U, cd1U, cd2U, cd3U, cd4U, cd5U, fd0U, fd1U, fd2U, fd3U, fd4U, fd5U⟩ := kdU.six
  obtain ⟨zxU, cx0U, cx1U, cx2U, fx0U, fx1U, fx2U⟩ := kxU.three
  obtain ⟨zpU, cp0U, fp0U⟩ := kpU.one
  go_wp2_with (go_at_call 63; clear m2; refine (HS.out _).mono ?_; rintro e w2 ⟨rfl, hbw2⟩; have kdw2 : At w2 (w.heap.size) [.slice sz m dz, .slice sl c d, .int .i64 ((tM a).1 : Int), .int .i64 ((tM a).2.1 : Int), .bool (tM a).2.2, .int .i64 (s : Int)] := (by repeat (first | (with_reducible assumption) | ((with_reducible refine at_new' _ _ _ _ ?_); (first | rfl | (simp; done))) | (with_reducible refine At.alloc ?_ _) | (with_reducible refine At.drew ?_) | (with_reducible refine At.drewN ?_) | (with_reducible refine At.set ?_ (by omega)) | (with_reducible apply At.store4) | (with_reducible apply At.store3) | (with_reducible apply At.store2) | (with_reducible apply At.put43) | (refine At.below ?_ (by with_reducible assumption)))); have kxw2 : At w2 (w1.heap.size) [.int .i64 ((tM (4 * x)).1 : Int), .int .i64 ((tM (4 * x)).2.1 : Int), .bool (tM (4 * x)).2.2] := (by repeat (first | (with_reducible assumption) | ((with_reducible refine at_new' _ _ _ _ ?_); (first | rfl | (simp; done))) | (with_reducible refine At.alloc ?_ _) | (with_reducible refine At.drew ?_) | (with_reducible refine At.drewN ?_) | (with_reducible refine At.set ?_ (by omega)) | (with_reducible apply At.store4) | (with_reducible apply At.store3) | (with_reducible apply At.store2) | (with_reducible apply At.put43) | (refine At.below ?_ (by with_reducible assumption)))); have kpw2 : At w2 (p) [.slice su n cu] := (by repeat (first | (with_reducible assumption) | ((with_reducible refine at_new' _ _ _ _ ?_); (first | rfl | (simp; done))) | (with_reducible refine At.alloc ?_ _) | (with_reducible refine At.drew ?_) | (with_reducible refine At.drewN ?_) | (with_reducible refine At.set ?_ (by omega)) | (with_reducible apply At.store4) | (with_reducible apply At.store3) | (with_reducible apply At.store2) | (with_reducible apply At.put43) | (refine At.below ?_ (by with_reducible assumption)))); have hqw2 : Below w.heap.size w w2 := (by repeat (first | (with_reducible exact Below.refl _ _) | (with_reducible assumption) | (with_reducible refine Below.setCell ?_ (by first | (simp; done) | (simp; omega) | omega) _) | (with_reducible refine Below.alloc ?_ (by first | (simp; done) | (simp; omega) | omega) _) | (refine bl_call ?_ (by assumption) (by first | (simp; done) | (simp; omega) | omega)) | (with_reducible refine bl_drewN ?_) | (with_reducible refine Below.drew ?_) | (with_reducible refine bl_grow ?_ (by first | (simp; done) | (simp; omega) | omega)))); have hzw2 := hqw2.size; obtain ⟨zdw2, cd0w2, cd1w2, cd2w2, cd3w2, cd4w2, cd5w2, fd0w2, fd1w2, fd2w2, fd3w2, fd4w2, fd5w2⟩ := kdw2.six; obtain ⟨zxw2, cx0w2, cx1w2, cx2w2, fx0w2, fx1w2, fx2w2⟩ := kxw2.three; obtain ⟨zpw2, cp0w2, fp0w2⟩ := kpw2.one; clear kdU cd0U fd0U cd1U fd1U cd2U fd2U cd3U fd3U cd4U fd4U cd5U fd5U kxU cx0U fx0U cx1U fx1U cx2U fx2U kpU cp0U fp0U hqU; clear hbw2)
  go_loopw [43] (fun ti wl => ∃ k : Nat, k ≤ m ∧ ti = .int .i64 k ∧ CoinsAt 98 wl p (.slice su n cu) n K (mkG G Z k) ∧ At wl (w.heap.size) [.slice sz m dz, .slice sl c d, .int .i64 ((tM a).1 : Int), .int .i64 ((tM a).2.1 : Int), .bool (tM a).2.2, .int .i64 (s : Int)] ∧ But (fc p (.slice su n cu)) w wl) (fun ti _ => m - (intOf ti).toNat)
  case atStart => exact ⟨0, by omega, rfl, HBK.out.below hqw2, kdw2, But.of_below _ hqw2⟩
  case round =>
    clear kdw2 cd0w2 fd0w2 cd1w2 fd1w2 cd2w2 fd2w2 cd3w2 fd3w2 cd4w2 fd4w2 cd5w2 fd5w2 kxw2 cx0w2 fx0w2 cx1w2 fx1w2 cx2w2 fx2w2 kpw2 cp0w2 fp0w2 hqw2
    obtain ⟨k, hk, rfl, hBV, kdV, hqV⟩ := hrel
    rename World => V
    have hzV := hqV.size
    have kpV := hBV.cells
    obtain ⟨zdV, cd0V, cd1V, cd2V, cd3V, cd4V, cd5V, fd0V, fd1V, fd2V, fd3V, fd4V, fd5V⟩ := kdV.six
    obtain ⟨zpV, cp0V, fp0V⟩ := kpV.one
    by_cases hlt : k < m
    · have hlt' : (k : Int) < m := by omega
      obtain ⟨b1, o1, rfl, hzr, hnf⟩ := HZ.out.resolve_left (by omega)
      obtain ⟨a1, a2, a3⟩ := goE_ok (HO.out k hlt)
      obtain ⟨z, hz⟩ : ∃ z : Nat, Z k = (z : Int) := ⟨(Z k).toNat, by have := inN_yes a1; omega⟩
      have hzn : z < n := by have := inN_yes a1; omega
      have c0 := (hzr.but hqV hnf).2 k hlt
      have hb1 : b1 < V.heap.size := (hzr.but hqV hnf).1
      have HZz : Hid (Z k = (z : Int)) := hz
      rw [hz] at c0
      clear a1 a2 a3 hz hzr hnf
      have t1 : 0 ≤ (z : Int) := by omega
      have t2 : (z : Int) < n := by omega
      obtain ⟨su2, cu2, e5, hrow⟩ := hBV.slice
      obtain ⟨g2, e6, _⟩ := hrow.resolve_left (by omega)
      injection e5 with e5
      rw [← e5] at e6
      subst e6
      clear hrow e5
      have HBV : Hid (CoinsAt 98 V p (.slice (some ⟨g2, 0, none⟩) n cu) n K (mkG G Z k)) := hBV
      have zgV : g2 < V.heap.size := (hBV.coins.lt g2 rfl).2
      have czV := hBV.coins.cellAt (z * 4 + 3) (by omega)
      rw [cellsC_at K _ hzn (by omega)] at czV
      change V.cell? _ = some (.bool (!mkG G Z k z)) at czV
      generalize (!mkG G Z k z) = bz at czV
      have fzV := hBV.coins.frozenAt (z * 4 + 3)
      clear hBV
      go_wp2_with fail
      go_roundw
      case rel => exact ⟨k + 1, by omega, by simp, by
          show CoinsAt _ _ _ _ _ _ (setB (mkG G Z k) (Z k).toNat)
          rw [HZz.out, Int.toNat_natCast]
          exact HBV.out.gone hzn, At.set kdV (fun e => by have := (HBK.out.coins.lt g2 rfl).2; omega), hqV.setCell (Or.inl (Or.inr rfl)) _⟩
      case measure => simp [intOf]; omega
    · have hlt' : ¬ (k : Int) < m := by omega
      obtain rfl : k = m := by omega
      obtain ⟨i0, hi, hv0, hv1, hv2⟩ := info_parts bcinfo
      have HBV : Hid (CoinsAt 98 V p (.slice su n cu) n K (mkG G Z k)) := hBV
      have HCo : Hid (V.ownsRow 0 98 4 (.slice su n cu) n (cellsC K (mkG G Z k) n)) := hBV.coins
      have HAu : Hid ((Value.slice su n cu).ownBlock ≠ some p) := hBV.au
      have HAd : Hid ((Value.slice su n cu).ownBlock ≠ some w.heap.size) := fun e => by have := (HBK.out.coins.lt _ e).2; omega
      have HRm : Hid (n ≤ cu) := own_room hBV.coins
      have HM : Hid (∀ W, Below V.heap.size V W → Calls Tryd.prog 58 #[.slice sl c d] W fun ex w' => ∃ q, ex = .returned q ∧ w'.ownsRow W.heap.size 98 4 q c (cellsC J (fun _ => false) c) ∧ Below W.heap.size W w') := fun W hW => bminted sl c d X Y F J W hc (HR.out.imp_right fun ⟨g, o, e, r, hnf⟩ => ⟨g, o, e, (r.but hqV hnf).below (r.but hqV hnf).1 hW⟩) HK.out
      clear hBV
      rcases Nat.eq_zero_or_pos c with rfl | hc0
      · go_upto_region 14 with fail
        go_region_law (first | (refine step_append_nought (by rfl) _ _ 91 (by rfl) 98 i0 Tryd.underlying91 hi su _ n cu _ (by rfl) HRm.out (by rfl) ?_) | ((go_simp); (go_at_call 58; refine (HM.out _ (Below.drew (Below.refl _ _))).mono ?_; rintro e w5 ⟨q5, rfl, ho5, hb5⟩; obtain ⟨sa5, cc5, rfl, hg5⟩ := own_slice ho5; clear hg5; have HO5 : Hid (w5.ownsRow _ 98 4 _ 0 (cellsC J (fun _ => false) 0)) := ho5; clear ho5; have HB5 : Hid (Below V.drew.heap.size V.drew w5) := hb5; have kp5 : At w5 p [.slice su n cu] := (At.drew kpV).below hb5; have kd5 : At w5 (w.heap.size) [.slice sz k dz, .slice sl 0 d, .int .i64 ((tM a).1 : Int), .int .i64 ((tM a).2.1 : Int), .bool (tM a).2.2, .int .i64 (s : Int)] := (At.drew kdV).below hb5; obtain ⟨zp5, cp05, fp05⟩ := kp5.one; have hs5 := hb5.size; (try simp at hs5); clear hb5); (go_wp2_with fail)))
        
        all_goals (
        have hD := coins_stored HBV.out hqV HB5.out (grown_same w5 _) (own_stay (own_drew HCo.out) HB5.out) (Or.inl rfl)
        refine ethen_gen3 (fun O => CoinsDone 98 w O p (.slice su n cu) n K (mkG G Z k)) hD ?_
        intro O hO
        go_wp2_with fail
        go_ret
        exact ⟨rfl, hO⟩)
      · go_upto_region 14 with fail
        go_region_law (first | ((refine step_append_lies _ (by rfl) _ _ 91 (by rfl) 0 98 i0 (.agg #[.int .i64 0, .int .i64 0, .bool false, .bool false]) 4 32 Tryd.underlying91 hi hv0 hv1 hv2 (by rfl) (by decide) _ n _ (by rfl) (own_stay (own_drew HCo.out) HB5.out) ⟨g5, 0, none⟩ c cc5 (cellsC J (fun _ => false) c) (by rfl) (cellsC_len _ _ _) (HO5.out.cells rfl) (cellsC_one _ _ _) hc0 (by unfold maxLen; omega) (by omega) (Nat.zero_le _) w5.heap.size (by rfl) ?_); (intro g7 cap7 w7 hown7 hgrow7 hat7 hlt7); (have kp7 : At w7 p [.slice su n cu] := At.grown kp5 hgrow7 HAu.out); (have kd7 : At w7 (w.heap.size) [.slice sz k dz, .slice sl c d, .int .i64 ((tM a).1 : Int), .int .i64 ((tM a).2.1 : Int), .bool (tM a).2.2, .int .i64 (s : Int)] := At.grown kd5 hgrow7 HAd.out); (obtain ⟨zp7, cp07, fp07⟩ := kp7.one)) | ((go_simp); (go_at_call 58; refine (HM.out _ (Below.drew (Below.refl _ _))).mono ?_; rintro e w5 ⟨q5, rfl, ho5, hb5⟩; obtain ⟨sa5, cc5, rfl, hg5⟩ := own_slice ho5; obtain ⟨g5, rfl, _, _, _⟩ := hg5.resolve_left (by omega); have HO5 : Hid (w5.ownsRow _ 98 4 _ c (cellsC J (fun _ => false) c)) := ho5; clear ho5; have HB5 : Hid (Below V.drew.heap.size V.drew w5) := hb5; have kp5 : At w5 p [.slice su n cu] := (At.drew kpV).below hb5; have kd5 : At w5 (w.heap.size) [.slice sz k dz, .slice sl c d, .int .i64 ((tM a).1 : Int), .int .i64 ((tM a).2.1 : Int), .bool (tM a).2.2, .int .i64 (s : Int)] := (At.drew kdV).below hb5; obtain ⟨zp5, cp05, fp05⟩ := kp5.one; have hs5 := hb5.size; (try simp at hs5); clear hb5); (go_wp2_with fail)))
        
        all_goals (
        rw [← cellsC_app] at hown7
        have hat8 : (Value.slice (some ⟨g7, 0, none⟩) (n + c) cap7).ownBlock = (Value.slice su n cu).ownBlock ∨ (Value.slice (some ⟨g7, 0, none⟩) (n + c) cap7).ownBlock = some w5.heap.size := by
          rcases hat7 with e | e
          · exact Or.inl e.symm
          · exact Or.inr (by rw [e]; simp [Value.ownBlock])
        have hD := coins_stored HBV.out hqV HB5.out hgrow7 hown7 hat8
        refine ethen_gen3 (fun O => CoinsDone 98 w O p (.slice su n cu) (n + c) (appN K n J c) (appN (mkG G Z k) n (fun _ => false) c)) hD ?_
        intro O hO
        go_wp2_with fail
        go_ret
        exact ⟨rfl, hO⟩)
theorem bdo_is : BDoIs bookP := by
  refine ⟨fun v Q n m c d dz sz sl K G Z X Y F rx ry S q rf w hn hm hdz hcd h0 h hz hr hc he => ?_, fun v Q n m c d dz sz sl K G Z X Y F J rx ry S rf w hn hm hdz hcd h0 h hz hr hg hc hJ hf => ?_, fun v Q n m c d dz sz sl K G Z X Y F J rx ry S rf w hn hm hdz hcd h0 h hz hr hg hc hJ hf _ hS => ?_, fun v Q n m c d dz sz sl K G Z X Y F J rx ry S rf w hn hm hdz hcd h0 h hz hr hg hc hJ hf hS hR => ?_, fun v Q n m c d dz sz sl K G Z X Y F J a s w hn hm hdz hcd h0 h hz hr hg hc hJ hf hs hcl => ?_, fun v Q n m c d dz sz sl K G Z X Y F J a s w hn hm hdz hcd h0 h hz hr hzq hrq hg hc hJ hf hs hcl => ?_⟩
  · have hb := h
    obtain ⟨p, u, rfl, rfl, h⟩ := h
    exact bdo_exc p n m c d dz sz sl rx ry S _ rf w (fun W hW => bexc_is.1 _ _ n m c d dz sz sl K G Z X Y F q W hn hm hdz hcd h0 (bookP_ok.stay hb (But.of_below (fun _ => False) hW) fun _ _ e => e) (brz_up hz hW) (brow_up hr hW) hc he)
  all_goals obtain ⟨p, u, rfl, rfl, h⟩ := h
  · exact bdo_full p n m c d dz sz sl u K G _ rx ry S rf w hn hc hf h (fun W hW => bexc_yes p n m c d dz sz sl u K G Z X Y F J W hn (h.below hW) (brz_up hz hW) (brow_up hr hW) hg hc hJ)
  · exact bdo_seal p n m c d dz sz sl u K G _ rx ry S 1 rf w hn hc hf h (fun W hW => bexc_yes p n m c d dz sz sl u K G Z X Y F J W hn (h.below hW) (brz_up hz hW) (brow_up hr hW) hg hc hJ) (fun w => bcs_s _ rx ry S rf w hS)
  · exact bdo_seal p n m c d dz sz sl u K G _ rx ry S _ rf w hn hc hf h (fun W hW => bexc_yes p n m c d dz sz sl u K G Z X Y F J W hn (h.below hW) (brz_up hz hW) (brow_up hr hW) hg hc hJ) (fun w => bcs_r _ rx ry S rf w hS hR)
  · exact bdo_seal p n m c d dz sz sl u K G _ _ _ _ 8 _ w hn hc hf h (fun W hW => bexc_yes p n m c d dz sz sl u K G Z X Y F J W hn (h.below hW) (brz_up hz hW) (brow_up hr hW) hg hc hJ) (fun w => by have := bcs_same a (exN K Z m J c) s w hs; rwa [hcl] at this)
  · refine (bdo_ok p n m c d dz sz sl u K G (exN K Z m J c) a s J Z X Y F w hn hc hf (Nat.le_trans (go_many hg) hn) h (fun W hW => bexc_yes p n m c d dz sz sl u K G Z X Y F J W hn (h.below hW) (brz_up hz hW) (brow_up hr hW) hg hc hJ) (fun w => by have := bcs_same a (exN K Z m J c) s w hs; rwa [hcl] at this) ?_ hg ?_ hJ).mono ?_
    · rcases hz with h1 | ⟨b, o, e, r⟩
      · exact Or.inl h1
      · by_cases h1 : m = 0
        · exact Or.inl h1
        · exact Or.inr ⟨b, o, e, r, hzq h1 b o e⟩
    · rcases hr with h1 | ⟨b, o, e, r⟩
      · exact Or.inl h1
      · by_cases h1 : c = 0
        · exact Or.inl h1
        · exact Or.inr ⟨b, o, e, r, hrq h1 b o e⟩
    · rintro e w' ⟨rfl, h1, u', h2, h3⟩
      exact ⟨rfl, h1, fc p u', ⟨p, u', rfl, rfl, h2⟩, h3⟩
end Go.Proofs.YtlbdcgnhmkjfiaiDoor
/- BookKeepsWalk -/
namespace Go.Proofs.YtlbdcgnhmkjfiaiDoor
open Go.RowKit Go.Sort
set_option linter.unusedVariables false
theorem walkBookKeeps (w : World) (sv : Option Addr) (nv dv : Nat) (sr : Option Addr) (nr dr : Nat) (sg : Option Addr) (ng dg : Nat) (sc : Option Addr) (nc dc : Nat) (sb : Option Addr) (nb db : Nat) (k : Int) (mv : nv ≤ maxLen) (uv : (nv = 0 ∨ ∃ (b o : Nat) (X : Nat → Int), sv = some ⟨b, o, none⟩ ∧ RowI w b o nv X ∧ ∀ i, i < nv → (Lit.int .i64 (X i)).wf = true)) (mr : nr ≤ maxLen) (ur : (nr = 0 ∨ ∃ (b o : Nat) (X : Nat → Int), sr = some ⟨b, o, none⟩ ∧ RowI w b o nr X ∧ ∀ i, i < nr → (Lit.int .i64 (X i)).wf = true)) (mg : ng ≤ maxLen) (ug : (ng = 0 ∨ ∃ (b o : Nat) (X : Nat → Int), sg = some ⟨b, o, none⟩ ∧ RowI w b o ng X ∧ ∀ i, i < ng → (Lit.int .i64 (X i)).wf = true)) (mc : nc ≤ maxLen) (uc : (nc = 0 ∨ ∃ (b o : Nat) (X : Nat → Int), sc = some ⟨b, o, none⟩ ∧ RowI w b o nc X ∧ ∀ i, i < nc → (Lit.int .i64 (X i)).wf = true)) (mb : nb ≤ maxLen) (ub : (nb = 0 ∨ ∃ (b o : Nat) (X : Nat → Int), sb = some ⟨b, o, none⟩ ∧ RowI w b o nb X ∧ ∀ i, i < nb → (Lit.int .i64 (X i)).wf = true)) (wk : (Lit.int .i64 k).wf = true) (hd : Door w) :
    Calls Tryd.prog 6 #[.slice sv nv dv, .slice sr nr dr, .slice sg ng dg, .slice sc nc dc, .slice sb nb db, .int .i64 k] w fun e w' => e = .returned (.bool true) ∧ Below w.heap.size w w' :=
  bookKeeps_by bookP bookP_ok hide_is bask_is bclose_is bnew_is bexc_is bdo_is blive_is btotal_is w sv nv dv sr nr dr sg ng dg sc nc dc sb nb db k uv ur ug uc ub mg wk hd
end Go.Proofs.YtlbdcgnhmkjfiaiDoor
/- Open -/
namespace Go.Proofs.YtlbdcgnhmkjfiaiDoor
open Go.ChangeShapes Go.WideShapes Go.ChangeAt Go.RowKit Go.Joins Go.Deep Go.WideElems
set_option linter.unusedVariables false
set_option linter.unusedSimpArgs false

section
variable {H : Type} {enc : TypeId × Value → H} {P : Program} {w : World} {held : Bool}

theorem weights_in {e : TypeId} {d : DataW H} {x : Nat} : ∀ {l : List (DataW H)}, d ∈ l → x ∈ d.weights P e → x ∈ DataW.weightsAll P e l
  | [], h, _ => by cases h
  | c :: r, h, hx => by
    show x ∈ c.weights P e ++ DataW.weightsAll P e r
    rcases List.mem_cons.1 h with rfl | h
    · exact List.mem_append_left _ hx
    · exact List.mem_append_right _ (weights_in h hx)
/-- How long a slice is, by the form's own reach. -/
theorem len_slice {t e : TypeId} {sa : Option Addr} {n c : Nat} {d : DataW H} {p : List MemPlace} (ht : P.underlying t = some (.slice e))
    (h : DataW.Trod enc P w 0 (fun _ => true) held t (.slice sa n c) d p) (hw : ∀ x ∈ d.weights P t, x ≤ reachBytes) : n * P.bytesOf e ≤ reachBytes := by
  obtain ⟨fuel, hf⟩ := h
  rcases open_slice ht hf with ⟨hc, _⟩ | ⟨a, len, cap, m, k, D, Pl, hc, _, hl, hm, hmm, hx, hall⟩
  · simp [Value.cells] at hc
    obtain ⟨rfl, rfl, rfl⟩ := hc
    rw [Nat.zero_mul]; exact Nat.zero_le _
  · simp [Value.cells] at hc
    obtain ⟨rfl, rfl, rfl⟩ := hc
    simp only [if_true] at hmm
    subst hmm
    have hd : d = .slice ((List.range n).map D) ((List.range (m - n)).map fun j => D (n + j)) := congrArg Prod.fst hx
    have hmem : (n + (m - n)) * P.bytesOf e ∈ d.weights P t := by
      rw [hd]
      unfold DataW.weights
      rw [ht]
      simp
    have h1 := hw _ hmem
    have h2 : n * P.bytesOf e ≤ (n + (m - n)) * P.bytesOf e := Nat.mul_le_mul_right _ (by omega)
    exact Nat.le_trans h2 h1
/-- A slice has room for what it holds. -/
theorem room_slice {t e : TypeId} {sa : Option Addr} {n c : Nat} {d : DataW H} {p : List MemPlace} (ht : P.underlying t = some (.slice e))
    (h : DataW.Trod enc P w 0 (fun _ => true) held t (.slice sa n c) d p) : n ≤ c := by
  obtain ⟨fuel, hf⟩ := h
  rcases open_slice ht hf with ⟨hc, _⟩ | ⟨a, len, cap, m, k, D, Pl, hc, _, hl, hm, hmm, hx, hall⟩
  · simp [Value.cells] at hc
    obtain ⟨rfl, rfl, rfl⟩ := hc
    exact Nat.le_refl _
  · simp [Value.cells] at hc
    obtain ⟨rfl, rfl, rfl⟩ := hc
    exact hl
/-- A slice of texts: how long each one is, too. -/
theorem open_texts {r : Reach} {b0 : Nat} {t e : TypeId} {v : Value} {d : DataW H} {p : List MemPlace} (ht : P.underlying t = some (.slice e)) (he : P.underlying e = some .string) (ce : P.cellsOf e = 1)
    (hv : Value.okWide P w r b0 t v) (h : DataW.Trod enc P w 0 (fun _ => true) held t v d p) (hw : ∀ x ∈ d.weights P t, x ≤ reachBytes) :
    ∃ (sa : Option Addr) (n c : Nat), v = .slice sa n c ∧ n ≤ maxLen ∧ (n = 0 ∨ ∃ (b o : Nat) (T : Nat → ByteArray), sa = some ⟨b, o, none⟩ ∧ RowZ w b o n T ∧ ∀ i, i < n → (T i).size ≤ reachBytes) := by
  obtain ⟨sa, n, c, rfl⟩ := okWide_slice ht hv
  obtain ⟨fuel, hf⟩ := h
  rcases open_slice ht hf with ⟨hc, _⟩ | ⟨a, len, cap, m, k, D, Pl, hc, _, hl, hm, hmm, hx, hall⟩
  · simp [Value.cells] at hc
    obtain ⟨rfl, rfl, rfl⟩ := hc
    exact ⟨none, 0, 0, rfl, by decide, Or.inl rfl⟩
  · simp [Value.cells] at hc
    obtain ⟨rfl, rfl, rfl⟩ := hc
    simp only [if_true] at hmm
    subst hmm
    refine ⟨some a, n, m, rfl, by omega, ?_⟩
    rcases Nat.eq_zero_or_pos n with h0 | hn
    · exact Or.inl h0
    right
    have each : ∀ i, i < n → ∃ q : ByteArray, w.cell? (a.add i) = some (.string q) ∧ q.size ≤ reachBytes := by
      intro i hi
      obtain ⟨cs, h1, h2⟩ := hall i (by omega)
      rw [ce] at h1
      obtain ⟨_, hlen, hcell⟩ := World.cells?_some h1
      obtain ⟨s, rfl, hs, _⟩ := DataW.trod_string he h2
      have e0 := hcell 0 (by omega)
      refine ⟨s, by simpa [Addr.add, Nat.mul_one] using e0, ?_⟩
      have hd : d = .slice ((List.range n).map D) ((List.range (m - n)).map fun j => D (n + j)) := congrArg Prod.fst hx
      have hD : D i = .lit (.string s.data.toList) := congrArg Prod.fst hs
      have hmem : s.data.toList.length ∈ d.weights P t := by
        rw [hd]
        unfold DataW.weights
        rw [ht]
        refine List.mem_cons_of_mem _ (List.mem_append_left _ (weights_in (d := D i) (List.mem_map.2 ⟨i, List.mem_range.2 hi, rfl⟩) ?_))
        rw [hD]
        unfold DataW.weights
        simp
      have := hw _ hmem
      rw [Array.length_toList] at this
      exact this
    obtain ⟨q, hq⟩ := choose_lt (α := ByteArray) each
    obtain ⟨b, o, spot⟩ := a
    have hspot : spot = none := by simpa [Addr.add] using World.cell?_spot (hq 0 hn).1
    subst hspot
    refine ⟨b, o, q, rfl, ⟨?_, fun i hi => ?_⟩, fun i hi => (hq i hi).2⟩
    · have h1 := (hq 0 hn).1
      rw [Addr.add_lit] at h1; exact World.block_lt_of_cell? _ _ h1
    · have h1 := (hq i hi).1
      rwa [Addr.add_lit] at h1
/-- A slice of ints. -/
theorem open_nums {r : Reach} {b0 : Nat} {t e : TypeId} {v : Value} {d : DataW H} {p : List MemPlace} (ht : P.underlying t = some (.slice e)) (he : P.underlying e = some (.int .i64)) (ce : P.cellsOf e = 1)
    (hv : Value.okWide P w r b0 t v) (h : DataW.Trod enc P w 0 (fun _ => true) held t v d p) :
    ∃ (sa : Option Addr) (n c : Nat), v = .slice sa n c ∧ n ≤ maxLen ∧ (n = 0 ∨ ∃ (b o : Nat) (X : Nat → Int), sa = some ⟨b, o, none⟩ ∧ RowI w b o n X ∧ ∀ i, i < n → (Lit.int .i64 (X i)).wf = true) := by
  obtain ⟨sa, n, c, rfl⟩ := okWide_slice ht hv
  obtain ⟨fuel, hf⟩ := h
  rcases open_slice ht hf with ⟨hc, _⟩ | ⟨a, len, cap, m, k, D, Pl, hc, _, hl, hm, hmm, hx, hall⟩
  · simp [Value.cells] at hc
    obtain ⟨rfl, rfl, rfl⟩ := hc
    exact ⟨none, 0, 0, rfl, by decide, Or.inl rfl⟩
  · simp [Value.cells] at hc
    obtain ⟨rfl, rfl, rfl⟩ := hc
    simp only [if_true] at hmm
    subst hmm
    refine ⟨some a, n, m, rfl, by omega, ?_⟩
    rcases Nat.eq_zero_or_pos n with h0 | hn
    · exact Or.inl h0
    right
    have each : ∀ i, i < n → ∃ q : Int, w.cell? (a.add i) = some (.int .i64 q) ∧ (Lit.int .i64 q).wf = true := by
      intro i hi
      obtain ⟨cs, h1, h2⟩ := hall i (by omega)
      rw [ce] at h1
      obtain ⟨_, hlen, hcell⟩ := World.cells?_some h1
      obtain ⟨s, rfl, hs, ws⟩ := DataW.trod_int he h2
      have e0 := hcell 0 (by omega)
      exact ⟨s, by simpa [Addr.add, Nat.mul_one] using e0, ws⟩
    obtain ⟨q, hq⟩ := choose_lt (α := Int) each
    obtain ⟨b, o, spot⟩ := a
    have hspot : spot = none := by simpa [Addr.add] using World.cell?_spot (hq 0 hn).1
    subst hspot
    refine ⟨b, o, q, rfl, ⟨?_, fun i hi => ?_⟩, fun i hi => (hq i hi).2⟩
    · have h1 := (hq 0 hn).1
      rw [Addr.add_lit] at h1; exact World.block_lt_of_cell? _ _ h1
    · have h1 := (hq i hi).1
      rwa [Addr.add_lit] at h1
theorem cells_two {W : World} {base : Nat} {a : Addr} {cs : List Value} (h : W.cells? base a 2 = some cs) : ∃ v0 v1, cs = [v0, v1] ∧ W.cell? a = some v0 ∧ W.cell? (a.add 1) = some v1 := by
  obtain ⟨_, hlen, hcell⟩ := World.cells?_some h
  match cs, hlen with
  | [v0, v1], _ =>
    have e0 := hcell 0 (by omega)
    have e1 := hcell 1 (by omega)
    exact ⟨v0, v1, rfl, by simpa [Addr.add] using e0, by simpa using e1⟩
/-- A slice of structs of two ints. -/
theorem open_twos {r : Reach} {b0 : Nat} {t e : TypeId} {f0 f1 : Field} {v : Value} {d : DataW H} {p : List MemPlace} (ht : P.underlying t = some (.slice e)) (he : P.underlying e = some (.struct #[f0, f1])) (ce : P.cellsOf e = 2)
    (o0 : f0.offset = 0) (o1 : f1.offset = 1) (c0 : P.cellsOf f0.type = 1) (c1 : P.cellsOf f1.type = 1) (u0 : P.underlying f0.type = some (.int .i64)) (u1 : P.underlying f1.type = some (.int .i64))
    (hv : Value.okWide P w r b0 t v) (h : DataW.Trod enc P w 0 (fun _ => true) held t v d p) :
    ∃ (sa : Option Addr) (n c : Nat), v = .slice sa n c ∧ n ≤ maxLen ∧ (n = 0 ∨ ∃ (b o : Nat) (X Y : Nat → Int), sa = some ⟨b, o, none⟩ ∧ RowP w b o n X Y ∧ ∀ i, i < n → (Lit.int .i64 (X i)).wf = true ∧ (Lit.int .i64 (Y i)).wf = true) := by
  obtain ⟨sa, n, c, rfl⟩ := okWide_slice ht hv
  obtain ⟨fuel, hf⟩ := h
  rcases open_slice ht hf with ⟨hc, _⟩ | ⟨a, len, cap, m, k, D, Pl, hc, _, hl, hm, hmm, hx, hall⟩
  · simp [Value.cells] at hc
    obtain ⟨rfl, rfl, rfl⟩ := hc
    exact ⟨none, 0, 0, rfl, by decide, Or.inl rfl⟩
  · simp [Value.cells] at hc
    obtain ⟨rfl, rfl, rfl⟩ := hc
    simp only [if_true] at hmm
    subst hmm
    refine ⟨some a, n, m, rfl, by omega, ?_⟩
    rcases Nat.eq_zero_or_pos n with h0 | hn
    · exact Or.inl h0
    right
    have each : ∀ i, i < n → ∃ q : Int × Int, w.cell? (a.add (i * 2)) = some (.int .i64 q.1) ∧ w.cell? (a.add (i * 2 + 1)) = some (.int .i64 q.2) ∧ (Lit.int .i64 q.1).wf = true ∧ (Lit.int .i64 q.2).wf = true := by
      intro i hi
      obtain ⟨cs, h1, h2⟩ := hall i (by omega)
      rw [ce] at h1
      obtain ⟨v0, v1, rfl, g0, g1⟩ := cells_two h1
      rw [add_add] at g1
      obtain ⟨xs, k', hk, _, _, hxl, hfd⟩ := DataW.trod_struct he h2
      match xs, hxl with
      | [y0, y1], _ =>
        have q0 := hfd 0 f0 rfl
        have q1 := hfd 1 f1 rfl
        simp [o0, o1, c0, c1] at q0 q1
        obtain ⟨x, e0, _, wx⟩ := DataW.trod_int u0 q0
        obtain ⟨y, e1, _, wy⟩ := DataW.trod_int u1 q1
        simp at e0 e1
        subst e0 e1
        exact ⟨(x, y), g0, g1, wx, wy⟩
    obtain ⟨q, hq⟩ := choose_lt (α := Int × Int) each
    obtain ⟨b, o, spot⟩ := a
    have hspot : spot = none := by simpa [Addr.add] using World.cell?_spot (hq 0 hn).1
    subst hspot
    refine ⟨b, o, fun i => (q i).1, fun i => (q i).2, rfl, ⟨?_, fun i hi => ?_⟩, fun i hi => (hq i hi).2.2⟩
    · have h1 := (hq 0 hn).1
      rw [Addr.add_lit] at h1; exact World.block_lt_of_cell? _ _ h1
    · obtain ⟨h1, h2, _⟩ := hq i hi
      simp only [Addr.add_lit] at h1 h2
      exact ⟨h1, by rw [Nat.add_assoc]; exact h2⟩
end
end Go.Proofs.YtlbdcgnhmkjfiaiDoor
