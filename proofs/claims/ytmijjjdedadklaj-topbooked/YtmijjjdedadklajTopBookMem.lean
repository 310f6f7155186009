/- A book, a log and two rows of one's own beside each other: how they stay while one of them changes. Of whatever program: the book's and the log's states are letters. -/
import Derived.Test.YtmijjjdedadklajBookMem
import Derived.Test.YtmijjjdedadklajBookRows
namespace Go.Proofs.Ytmijjjdedadklaj
open Go.RowKit Go.Sort
set_option linter.unusedVariables false
set_option linter.unusedSimpArgs false

/-- What the states must keep to. -/
structure TBok (Sb : Nat → World → Value → (Nat → Prop) → Prop) (Sl : Nat → Nat → World → Value → (Nat → Prop) → Prop) : Prop where
  blt : ∀ {i W v Q}, Sb i W v Q → ∀ j, Q j → j < W.heap.size
  bst : ∀ {i W W' v Q Q'}, Sb i W v Q → But Q' W W' → (∀ j, Q j → ¬ Q' j) → Sb i W' v Q
  llt : ∀ {i a W v Q}, Sl i a W v Q → ∀ j, Q j → j < W.heap.size
  lst : ∀ {i a W W' v Q Q'}, Sl i a W v Q → But Q' W W' → (∀ j, Q j → ¬ Q' j) → Sl i a W' v Q
/-- The book behind ib deals, the log behind il of them, a of them safe; two rows of numbers. All from B on, and apart. -/
structure TB (Sb : Nat → World → Value → (Nat → Prop) → Prop) (Sl : Nat → Nat → World → Value → (Nat → Prop) → Prop) (eI : TypeId) (B c : Nat) (R S : Nat → Int) (W : World) (ib il a n : Nat) (vb vj t s : Value) (Qb Qj : Nat → Prop) : Prop where
  bb : Sb ib W vb Qb
  ll : Sl il a W vj Qj
  tt : W.ownsRow B eI 1 t c (cellsI R c)
  ss : W.ownsRow B eI 1 s n (cellsI S n)
  base : B ≤ W.heap.size
  gb : ∀ j, Qb j → B ≤ j
  gl : ∀ j, Qj j → B ≤ j
  bl : ∀ j, Qb j → ¬ Qj j
  bt : ∀ j, t.ownBlock = some j → ¬ Qb j
  lt : ∀ j, t.ownBlock = some j → ¬ Qj j
  bs : ∀ j, s.ownBlock = some j → ¬ Qb j
  ls : ∀ j, s.ownBlock = some j → ¬ Qj j
  ts : ∀ j, t.ownBlock = some j → ¬ s.ownBlock = some j
section
variable {Sb : Nat → World → Value → (Nat → Prop) → Prop} {Sl : Nat → Nat → World → Value → (Nat → Prop) → Prop} {eI : TypeId} {B c : Nat} {R S : Nat → Int} {W W' Wa : World} {ib il a n ib' il' a' : Nat} {vb vj t s s' : Value} {Qb Qj Qb' Qj' : Nat → Prop}
theorem TB.below (h : TB Sb Sl eI B c R S W ib il a n vb vj t s Qb Qj) (ok : TBok Sb Sl) (k : Below W.heap.size W W') : TB Sb Sl eI B c R S W' ib il a n vb vj t s Qb Qj :=
  ⟨ok.bst h.bb (But.of_below (fun _ => False) k) fun _ _ e => e, ok.lst h.ll (But.of_below (fun _ => False) k) fun _ _ e => e, own_stay h.tt k, own_stay h.ss k, Nat.le_trans h.base k.size, h.gb, h.gl, h.bl, h.bt, h.lt, h.bs, h.ls, h.ts⟩
/-- The book has changed. -/
theorem TB.deal (h : TB Sb Sl eI B c R S W ib il a n vb vj t s Qb Qj) (ok : TBok Sb Sl) (k : But Qb W W') (hs : Sb ib' W' vb Qb') (hQ : ∀ j, Qb' j → Qb j ∨ W.heap.size ≤ j) : TB Sb Sl eI B c R S W' ib' il a n vb vj t s Qb' Qj := by
  have hb := h.base
  refine ⟨hs, ok.lst h.ll k fun j hj e => h.bl j e hj, own_but h.tt k h.bt, own_but h.ss k h.bs, Nat.le_trans h.base k.size, fun j hj => ?_, h.gl, fun j hj e => ?_, fun j hj e => ?_, h.lt, fun j hj e => ?_, h.ls, h.ts⟩
  · rcases hQ j hj with e | e
    · exact h.gb j e
    · omega
  · rcases hQ j hj with x | x
    · exact h.bl j x e
    · have := ok.llt h.ll j e; omega
  · rcases hQ j e with x | x
    · exact h.bt j hj x
    · have := (h.tt.lt j hj).2; omega
  · rcases hQ j e with x | x
    · exact h.bs j hj x
    · have := (h.ss.lt j hj).2; omega
/-- The log has changed. -/
theorem TB.log (h : TB Sb Sl eI B c R S W ib il a n vb vj t s Qb Qj) (ok : TBok Sb Sl) (k : But Qj W W') (hs : Sl il' a' W' vj Qj') (hQ : ∀ j, Qj' j → Qj j ∨ W.heap.size ≤ j) : TB Sb Sl eI B c R S W' ib il' a' n vb vj t s Qb Qj' := by
  have hb := h.base
  refine ⟨ok.bst h.bb k fun j hj e => h.bl j hj e, hs, own_but h.tt k h.lt, own_but h.ss k h.ls, Nat.le_trans h.base k.size, h.gb, fun j hj => ?_, fun j hj e => ?_, h.bt, fun j hj e => ?_, h.bs, fun j hj e => ?_, h.ts⟩
  · rcases hQ j hj with e | e
    · exact h.gl j e
    · omega
  · rcases hQ j e with x | x
    · exact h.bl j hj x
    · have := ok.blt h.bb j hj; omega
  · rcases hQ j e with x | x
    · exact h.lt j hj x
    · have := (h.tt.lt j hj).2; omega
  · rcases hQ j e with x | x
    · exact h.ls j hj x
    · have := (h.ss.lt j hj).2; omega
/-- The second row has grown. -/
theorem TB.grow (h : TB Sb Sl eI B c R S W ib il a n vb vj t s Qb Qj) (ok : TBok Sb Sl) (k : Below W.heap.size W Wa) (g : Wa.grownBy W' s.ownBlock) (ho : W'.ownsRow B eI 1 s' (n + 1) (cellsI S (n + 1))) (hat : s'.ownBlock = s.ownBlock ∨ s'.ownBlock = some Wa.heap.size) : TB Sb Sl eI B c R S W' ib il a (n + 1) vb vj t s' Qb Qj := by
  have h1 := h.below ok k
  have kb := grown_but g
  have hz := k.size
  have nw : ∀ j, s'.ownBlock = some j → s.ownBlock = some j ∨ j = Wa.heap.size := fun j hj => by
    rcases hat with e | e
    · exact Or.inl (e.symm.trans hj)
    · rw [e] at hj; injection hj with hj; exact Or.inr hj.symm
  refine ⟨ok.bst h1.bb kb fun j hj e => h.bs j e hj, ok.lst h1.ll kb fun j hj e => h.ls j e hj, own_but h1.tt kb fun j hj e => h.ts j hj e, ho, Nat.le_trans h1.base g.size, h.gb, h.gl, h.bl, h.bt, h.lt, fun j hj e => ?_, fun j hj e => ?_, fun j hj e => ?_⟩
  · rcases nw j hj with x | x
    · exact h.bs j x e
    · have := ok.blt h.bb j e; omega
  · rcases nw j hj with x | x
    · exact h.ls j x e
    · have := ok.llt h.ll j e; omega
  · rcases nw j e with x | x
    · exact h.ts j hj x
    · have := (h.tt.lt j hj).2; omega
end
/-- A row of one, just laid. -/
theorem own_fresh (W : World) (e : TypeId) (x : Value) {B : Nat} (hB : B ≤ W.heap.size) : (W.alloc (.cells #[x] e)).ownsRow B e 1 (.slice (some ⟨W.heap.size, 0, none⟩) 1 1) 1 [x] :=
  ⟨rfl, .inr ⟨W.heap.size, 1, #[x], rfl, hB, heap_alloc_new W _, Nat.le_refl _, by unfold maxLen; omega, rfl, rfl⟩⟩
/-- How they begin. -/
theorem TB.start {Sb : Nat → World → Value → (Nat → Prop) → Prop} {Sl : Nat → Nat → World → Value → (Nat → Prop) → Prop} {eI : TypeId} {B c : Nat} {R S : Nat → Int} {U w2 w3 : World} {vb vj t : Value} {Qb Qj : Nat → Prop} (ok : TBok Sb Sl) (hU : B ≤ U.heap.size) (ht : U.ownsRow B eI 1 t c (cellsI R c)) (hb : Sb 0 w2 vb Qb) (hQb : ∀ j, Qb j → U.heap.size ≤ j) (h2 : Below U.heap.size U w2) (hl : Sl 0 0 w3 vj Qj) (hQj : ∀ j, Qj j → w2.heap.size ≤ j) (h3 : Below w2.heap.size w2 w3) :
    TB Sb Sl eI B c R S (w3.alloc (.cells #[.int .i64 (S 0)] eI)) 0 0 0 1 vb vj t (.slice (some ⟨w3.heap.size, 0, none⟩) 1 1) Qb Qj := by
  have z2 := h2.size
  have z3 := h3.size
  have k : Below w3.heap.size w3 (w3.alloc (.cells #[.int .i64 (S 0)] eI)) := (Below.refl _ _).alloc (Nat.le_refl _) _
  have e1 : ∀ j, Qb j → j < w2.heap.size := fun j hj => ok.blt hb j hj
  have e2 : ∀ j, Qj j → j < w3.heap.size := fun j hj => ok.llt hl j hj
  have e3 : ∀ j, t.ownBlock = some j → j < U.heap.size := fun j hj => (ht.lt j hj).2
  have e4 : ∀ j, (Value.slice (some ⟨w3.heap.size, 0, none⟩) 1 1).ownBlock = some j → j = w3.heap.size := fun j hj => by injection hj with hj; exact hj.symm
  refine ⟨ok.bst (ok.bst hb (But.of_below (fun _ => False) h3) fun _ _ e => e) (But.of_below (fun _ => False) k) fun _ _ e => e, ok.lst hl (But.of_below (fun _ => False) k) fun _ _ e => e, own_stay (own_stay (own_stay ht h2) h3) k, own_fresh w3 eI _ (by omega), Nat.le_trans (by omega) k.size, fun j hj => ?_, fun j hj => ?_, fun j hj e => ?_, fun j hj e => ?_, fun j hj e => ?_, fun j hj e => ?_, fun j hj e => ?_, fun j hj e => ?_⟩
  · have := hQb j hj; omega
  · have := hQj j hj; omega
  · have := e1 j hj; have := hQj j e; omega
  · have := e3 j hj; have := hQb j e; omega
  · have := e3 j hj; have := hQj j e; omega
  · have := e4 j hj; have := e1 j e; omega
  · have := e4 j hj; have := e2 j e; omega
  · have := e3 j hj; have := e4 j e; omega
/-- Between two deals. -/
def TL2 (Sb : Nat → World → Value → (Nat → Prop) → Prop) (Sl : Nat → Nat → World → Value → (Nat → Prop) → Prop) (eI : TypeId) (B c : Nat) (R S : Nat → Int) (vb vj t : Value) (W : World) (i a : Nat) (s : Value) : Prop :=
  a ≤ i ∧ ∃ Qb Qj, TB Sb Sl eI B c R S W i i a (i + 1) vb vj t s Qb Qj
/-- Two rows that grow: spots, and numbers. -/
structure TR (eP eI : TypeId) (B : Nat) (K : Nat → Nat) (R : Nat → Int) (W : World) (i : Nat) (u t : Value) : Prop where
  uu : W.ownsRow B eP 3 u i (cellsK K i)
  tt : W.ownsRow B eI 1 t i (cellsI R i)
  ap : Ap2 u t
section
variable {eP eI : TypeId} {B : Nat} {K : Nat → Nat} {R : Nat → Int} {W W' Wa W1 W2 : World} {i : Nat} {u t u' t' : Value}
theorem TR.nil (eP eI : TypeId) (B : Nat) (K : Nat → Nat) (R : Nat → Int) (W : World) : TR eP eI B K R W 0 (.slice none 0 0) (.slice none 0 0) := ⟨World.ownsRow_nil _ _ _ _, World.ownsRow_nil _ _ _ _, Or.inl rfl⟩
theorem TR.below (h : TR eP eI B K R W i u t) (k : Below W.heap.size W W') : TR eP eI B K R W' i u t := ⟨own_stay h.uu k, own_stay h.tt k, h.ap⟩
/-- A row beside one that grows. -/
theorem ap_grown {x y y' : Value} {e : TypeId} {z n : Nat} {xs : List Value} (hx : W.ownsRow B e z x n xs) (ha : Ap2 x y) (k : Below W.heap.size W Wa) (hat : y'.ownBlock = y.ownBlock ∨ y'.ownBlock = some Wa.heap.size) : Ap2 x y' := apart_rows (own_stay hx k) ha hat
end
end Go.Proofs.Ytmijjjdedadklaj
