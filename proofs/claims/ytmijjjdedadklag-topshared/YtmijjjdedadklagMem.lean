/- A block of the call's own: what lies in it, carried over calls that turn nothing that was there. Of whatever program. -/
import Derived.Test.YtmijjjdedadklagLast
namespace Go.Proofs.Ytmijjjdedadklag
open Go.RowKit Go.Sort

/-- In block b lie these cells, and they may be written. -/
def At (w : World) (b : Nat) (vs : List Value) : Prop :=
  b < w.heap.size ∧ (∀ i, i < vs.length → w.cell? ⟨b, i, none⟩ = vs[i]?) ∧ ∀ i, i < vs.length → w.frozen? ⟨b, i, none⟩ = false
theorem At.below {w w' : World} {b : Nat} {vs : List Value} (h : At w b vs) (k : Below w.heap.size w w') : At w' b vs :=
  ⟨Nat.lt_of_lt_of_le h.1 k.size, fun i hi => (k.cell (p := ⟨b, i, none⟩) h.1).trans (h.2.1 i hi), fun i hi => (k.frozen (p := ⟨b, i, none⟩) h.1).trans (h.2.2 i hi)⟩
theorem At.alloc {w : World} {b : Nat} {vs : List Value} (h : At w b vs) (o : Obj) : At (w.alloc o) b vs :=
  h.below ((Below.refl _ _).alloc (Nat.le_refl _) o)
theorem At.drewN {w : World} {b n : Nat} {vs : List Value} (h : At w b vs) : At (w.drewN n) b vs := h.below (bl_drewN (Below.refl _ _))
theorem At.grow {w : World} {b d : Nat} {os : Array Obj} {vs : List Value} (h : At w b vs) : At (grow (redrawn w d) os) b vs := h.below (below_regrown w d os)
theorem At.drew {w : World} {b : Nat} {vs : List Value} (h : At w b vs) : At w.drew b vs := h.below (Below.drew (Below.refl _ _))
theorem heap_new (w : World) (o : Obj) : (w.alloc o).heap[w.heap.size]? = some o := by
  show (w.heap.push o)[w.heap.size]? = some o
  simp
theorem at_new (w : World) (vs : List Value) (t : TypeId) : At (w.alloc (.cells vs.toArray t)) w.heap.size vs :=
  ⟨by simp, fun i _ => by unfold World.cell?; rw [heap_new]; simp, fun i _ => by unfold World.frozen?; rw [heap_new]; simp⟩
theorem at_new' (w : World) (vs : List Value) (t : TypeId) (n : Nat) (h : n = w.heap.size) : At (w.alloc (.cells vs.toArray t)) n vs := by subst h; exact at_new w vs t
theorem At.set {w : World} {b c o : Nat} {u : Value} {vs : List Value} (h : At w b vs) (hne : b ≠ c) : At (w.setCell ⟨c, o, none⟩ u) b vs := by
  have hb := Below.heap_setCell w ⟨c, o, none⟩ u b hne
  refine ⟨by simpa [World.setCell] using h.1, fun i hi => ?_, fun i hi => ?_⟩
  · rw [World.cell?_of_block (a := ⟨b, i, none⟩) hb]; exact h.2.1 i hi
  · rw [World.frozen?_of_block (a := ⟨b, i, none⟩) hb]; exact h.2.2 i hi
theorem At.store2 {w : World} {b : Nat} {u v u' v' : Value} (h : At w b [u, v]) : At ((w.setCell ⟨b, 0, none⟩ u').setCell ⟨b, 1, none⟩ v') b [u', v'] := by
  have a0 : w.cell? ⟨b, 0, none⟩ = some u := h.2.1 0 (by simp)
  have g0 : w.frozen? ⟨b, 0, none⟩ = false := h.2.2 0 (by simp)
  have a1 : w.cell? ⟨b, 1, none⟩ = some v := h.2.1 1 (by simp)
  have g1 : w.frozen? ⟨b, 1, none⟩ = false := h.2.2 1 (by simp)
  refine ⟨by simpa [World.setCell] using h.1, fun i hi => ?_, fun i hi => ?_⟩
  · rcases i with _ | _ | i
    · show _ = some u'; simp [a0, go_sem]
    · show _ = some v'; simp [a1, go_sem]
    · simp at hi; omega
  · rcases i with _ | _ | i
    · rw [World.frozen?_setCell, World.frozen?_setCell]; exact g0
    · rw [World.frozen?_setCell, World.frozen?_setCell]; exact g1
    · simp at hi; omega
theorem At.store3 {w : World} {b : Nat} {u v x u' v' x' : Value} (h : At w b [u, v, x]) : At (((w.setCell ⟨b, 0, none⟩ u').setCell ⟨b, 1, none⟩ v').setCell ⟨b, 2, none⟩ x') b [u', v', x'] := by
  have a0 : w.cell? ⟨b, 0, none⟩ = some u := h.2.1 0 (by simp)
  have g0 : w.frozen? ⟨b, 0, none⟩ = false := h.2.2 0 (by simp)
  have a1 : w.cell? ⟨b, 1, none⟩ = some v := h.2.1 1 (by simp)
  have g1 : w.frozen? ⟨b, 1, none⟩ = false := h.2.2 1 (by simp)
  have a2 : w.cell? ⟨b, 2, none⟩ = some x := h.2.1 2 (by simp)
  have g2 : w.frozen? ⟨b, 2, none⟩ = false := h.2.2 2 (by simp)
  refine ⟨by simpa [World.setCell] using h.1, fun i hi => ?_, fun i hi => ?_⟩
  · rcases i with _ | _ | _ | i
    · show _ = some u'; simp [a0, go_sem]
    · show _ = some v'; simp [a1, go_sem]
    · show _ = some x'; simp [a2, go_sem]
    · simp at hi; omega
  · rcases i with _ | _ | _ | i
    · rw [World.frozen?_setCell, World.frozen?_setCell, World.frozen?_setCell]; exact g0
    · rw [World.frozen?_setCell, World.frozen?_setCell, World.frozen?_setCell]; exact g1
    · rw [World.frozen?_setCell, World.frozen?_setCell, World.frozen?_setCell]; exact g2
    · simp at hi; omega
theorem At.store4 {w : World} {b : Nat} {u v x y u' v' x' y' : Value} (h : At w b [u, v, x, y]) : At ((((w.setCell ⟨b, 0, none⟩ u').setCell ⟨b, 1, none⟩ v').setCell ⟨b, 2, none⟩ x').setCell ⟨b, 3, none⟩ y') b [u', v', x', y'] := by
  have a0 : w.cell? ⟨b, 0, none⟩ = some u := h.2.1 0 (by simp)
  have g0 : w.frozen? ⟨b, 0, none⟩ = false := h.2.2 0 (by simp)
  have a1 : w.cell? ⟨b, 1, none⟩ = some v := h.2.1 1 (by simp)
  have g1 : w.frozen? ⟨b, 1, none⟩ = false := h.2.2 1 (by simp)
  have a2 : w.cell? ⟨b, 2, none⟩ = some x := h.2.1 2 (by simp)
  have g2 : w.frozen? ⟨b, 2, none⟩ = false := h.2.2 2 (by simp)
  have a3 : w.cell? ⟨b, 3, none⟩ = some y := h.2.1 3 (by simp)
  have g3 : w.frozen? ⟨b, 3, none⟩ = false := h.2.2 3 (by simp)
  refine ⟨by simpa [World.setCell] using h.1, fun i hi => ?_, fun i hi => ?_⟩
  · rcases i with _ | _ | _ | _ | i
    · show _ = some u'; simp [a0, go_sem]
    · show _ = some v'; simp [a1, go_sem]
    · show _ = some x'; simp [a2, go_sem]
    · show _ = some y'; simp [a3, go_sem]
    · simp at hi; omega
  · rcases i with _ | _ | _ | _ | i
    · rw [World.frozen?_setCell, World.frozen?_setCell, World.frozen?_setCell, World.frozen?_setCell]; exact g0
    · rw [World.frozen?_setCell, World.frozen?_setCell, World.frozen?_setCell, World.frozen?_setCell]; exact g1
    · rw [World.frozen?_setCell, World.frozen?_setCell, World.frozen?_setCell, World.frozen?_setCell]; exact g2
    · rw [World.frozen?_setCell, World.frozen?_setCell, World.frozen?_setCell, World.frozen?_setCell]; exact g3
    · simp at hi; omega
theorem At.put43 {w : World} {b : Nat} {u v x y y' : Value} (h : At w b [u, v, x, y]) : At (w.setCell ⟨b, 3, none⟩ y') b [u, v, x, y'] := by
  have a0 : w.cell? ⟨b, 0, none⟩ = some u := h.2.1 0 (by simp)
  have g0 : w.frozen? ⟨b, 0, none⟩ = false := h.2.2 0 (by simp)
  have a1 : w.cell? ⟨b, 1, none⟩ = some v := h.2.1 1 (by simp)
  have g1 : w.frozen? ⟨b, 1, none⟩ = false := h.2.2 1 (by simp)
  have a2 : w.cell? ⟨b, 2, none⟩ = some x := h.2.1 2 (by simp)
  have g2 : w.frozen? ⟨b, 2, none⟩ = false := h.2.2 2 (by simp)
  have a3 : w.cell? ⟨b, 3, none⟩ = some y := h.2.1 3 (by simp)
  have g3 : w.frozen? ⟨b, 3, none⟩ = false := h.2.2 3 (by simp)
  refine ⟨by simpa [World.setCell] using h.1, fun i hi => ?_, fun i hi => ?_⟩
  · rcases i with _ | _ | _ | _ | i
    · show _ = some u; simp [a0, go_sem]
    · show _ = some v; simp [a1, go_sem]
    · show _ = some x; simp [a2, go_sem]
    · show _ = some y'; simp [a3, go_sem]
    · simp at hi; omega
  · rcases i with _ | _ | _ | _ | i
    · rw [World.frozen?_setCell]; exact g0
    · rw [World.frozen?_setCell]; exact g1
    · rw [World.frozen?_setCell]; exact g2
    · rw [World.frozen?_setCell]; exact g3
    · simp at hi; omega
theorem At.four {w : World} {b : Nat} {u v x y : Value} (h : At w b [u, v, x, y]) : b < w.heap.size ∧ w.cell? ⟨b, 0, none⟩ = some u ∧ w.cell? ⟨b, 1, none⟩ = some v ∧ w.cell? ⟨b, 2, none⟩ = some x ∧ w.cell? ⟨b, 3, none⟩ = some y ∧ w.frozen? ⟨b, 0, none⟩ = false ∧ w.frozen? ⟨b, 1, none⟩ = false ∧ w.frozen? ⟨b, 2, none⟩ = false ∧ w.frozen? ⟨b, 3, none⟩ = false :=
  ⟨h.1, h.2.1 0 (by simp), h.2.1 1 (by simp), h.2.1 2 (by simp), h.2.1 3 (by simp), h.2.2 0 (by simp), h.2.2 1 (by simp), h.2.2 2 (by simp), h.2.2 3 (by simp)⟩
theorem At.one {w : World} {b : Nat} {u : Value} (h : At w b [u]) : b < w.heap.size ∧ w.cell? ⟨b, 0, none⟩ = some u ∧ w.frozen? ⟨b, 0, none⟩ = false :=
  ⟨h.1, h.2.1 0 (by simp), h.2.2 0 (by simp)⟩
theorem At.two {w : World} {b : Nat} {u v : Value} (h : At w b [u, v]) : b < w.heap.size ∧ w.cell? ⟨b, 0, none⟩ = some u ∧ w.cell? ⟨b, 1, none⟩ = some v ∧ w.frozen? ⟨b, 0, none⟩ = false ∧ w.frozen? ⟨b, 1, none⟩ = false :=
  ⟨h.1, h.2.1 0 (by simp), h.2.1 1 (by simp), h.2.2 0 (by simp), h.2.2 1 (by simp)⟩
theorem At.three {w : World} {b : Nat} {u v x : Value} (h : At w b [u, v, x]) : b < w.heap.size ∧ w.cell? ⟨b, 0, none⟩ = some u ∧ w.cell? ⟨b, 1, none⟩ = some v ∧ w.cell? ⟨b, 2, none⟩ = some x ∧ w.frozen? ⟨b, 0, none⟩ = false ∧ w.frozen? ⟨b, 1, none⟩ = false ∧ w.frozen? ⟨b, 2, none⟩ = false :=
  ⟨h.1, h.2.1 0 (by simp), h.2.1 1 (by simp), h.2.1 2 (by simp), h.2.2 0 (by simp), h.2.2 1 (by simp), h.2.2 2 (by simp)⟩
theorem regrown_below {w w' : World} (h : ∃ p : Regrown, w' = grow (redrawn w p.d) p.os) : Below w.heap.size w w' := by
  obtain ⟨p, rfl⟩ := h; exact below_regrown w p.d p.os
/-- From here on the world is a letter of which this is known. -/
theorem wp_gen {P : Program} {c : Code} {Q : Exit → Act → World → Prop} {a : Act} {w : World} (S : World → Prop) (h : S w) (k : ∀ W, S W → c.wp P Q a W) : c.wp P Q a w := k w h
theorem below_of_same {P : Program} {f : FuncId} {args : Array Value} {w : World} {v : Value} (h : Calls P f args w fun e w' => e = .returned v ∧ w' = w) :
    Calls P f args w fun e w' => e = .returned v ∧ Below w.heap.size w w' :=
  h.mono fun _ _ ⟨he, hw⟩ => ⟨he, by rw [hw]; exact Below.refl _ _⟩
end Go.Proofs.Ytmijjjdedadklag
