/- A thing of two rows of its own in one block: how it stays while one of them is written or grows. Of whatever program. -/
import Derived.Test.YtmijjjdedadklajBookMem
import Derived.Test.YtmijjjdedadklajBookMath
namespace Go.Proofs.Ytmijjjdedadklaj
open Go.RowKit Go.Sort
set_option linter.unusedVariables false
set_option linter.unusedSimpArgs false

theorem At.six {w : World} {b : Nat} {v0 v1 v2 v3 v4 v5 : Value} (h : At w b [v0, v1, v2, v3, v4, v5]) : b < w.heap.size ∧ w.cell? ⟨b, 0, none⟩ = some v0 ∧ w.cell? ⟨b, 1, none⟩ = some v1 ∧ w.cell? ⟨b, 2, none⟩ = some v2 ∧ w.cell? ⟨b, 3, none⟩ = some v3 ∧ w.cell? ⟨b, 4, none⟩ = some v4 ∧ w.cell? ⟨b, 5, none⟩ = some v5 ∧ w.frozen? ⟨b, 0, none⟩ = false ∧ w.frozen? ⟨b, 1, none⟩ = false ∧ w.frozen? ⟨b, 2, none⟩ = false ∧ w.frozen? ⟨b, 3, none⟩ = false ∧ w.frozen? ⟨b, 4, none⟩ = false ∧ w.frozen? ⟨b, 5, none⟩ = false :=
  ⟨h.1, h.2.1 0 (by simp), h.2.1 1 (by simp), h.2.1 2 (by simp), h.2.1 3 (by simp), h.2.1 4 (by simp), h.2.1 5 (by simp), h.2.2 0 (by simp), h.2.2 1 (by simp), h.2.2 2 (by simp), h.2.2 3 (by simp), h.2.2 4 (by simp), h.2.2 5 (by simp)⟩
theorem cellsB_set (G : Nat → Bool) {n z : Nat} (h : z < n) : (cellsB G n).set z (.bool true) = cellsB (setB G z) n := by
  refine List.ext_getElem? fun i => ?_
  rw [List.getElem?_set]
  by_cases hi : i < n
  · rw [cellsB_at (setB G z) hi]
    by_cases e : z = i
    · subst e
      rw [if_pos rfl, if_pos (by rw [cellsB_len]; exact h), setB_at]
    · rw [if_neg e, cellsB_at G hi, setB_ne G (fun k => e k.symm)]
  · have h1 : (cellsB G n)[i]? = none := List.getElem?_eq_none (by rw [cellsB_len]; omega)
    have h2 : (cellsB (setB G z) n)[i]? = none := List.getElem?_eq_none (by rw [cellsB_len]; omega)
    rw [h2, if_neg (by omega), h1]
theorem cellsK_app (K : Nat → Nat) (n : Nat) (J : Nat → Nat) (c : Nat) : cellsK (appN K n J (c + 1)) (n + c + 1) = cellsK (appN K n J c) (n + c) ++ [.int .i64 ((tM (4 * J c)).1 : Int), .int .i64 ((tM (4 * J c)).2.1 : Int), .bool (tM (4 * J c)).2.2] := by
  rw [cellsK_succ, appN_at, cellsK_congr (K := appN K n J (c + 1)) (J := appN K n J c) fun i hi => by rw [appN_step K n J c hi]]
theorem cellsB_app (G : Nat → Bool) (n : Nat) (H : Nat → Bool) (c : Nat) : cellsB (appN G n H (c + 1)) (n + c + 1) = cellsB (appN G n H c) (n + c) ++ [.bool (H c)] := by
  rw [cellsB_succ, appN_at, cellsB_congr (G := appN G n H (c + 1)) (H := appN G n H c) fun i hi => appN_step G n H c hi]

/-- In block p two rows of one's own. -/
structure Duo (e1 e2 : TypeId) (s1 s2 B : Nat) (W : World) (p : Nat) (u : Value) (n1 : Nat) (xs : List Value) (v : Value) (n2 : Nat) (ys : List Value) : Prop where
  cells : At W p [u, v]
  fst : W.ownsRow B e1 s1 u n1 xs
  snd : W.ownsRow B e2 s2 v n2 ys
  base : B ≤ p
  au : u.ownBlock ≠ some p
  av : v.ownBlock ≠ some p
  ap : Ap2 u v
section
variable {e1 e2 : TypeId} {s1 s2 B : Nat} {W Wa W1 : World} {p : Nat} {u v u' v' : Value} {n1 n2 m : Nat} {xs ys zs : List Value}
theorem BookAt.duo {n : Nat} {K : Nat → Nat} {G : Nat → Bool} (h : BookAt e1 e2 B W p u v n K G) : Duo e1 e2 3 1 B W p u n (cellsK K n) v n (cellsB G n) := ⟨h.cells, h.coins, h.flags, h.base, h.au, h.av, h.ap⟩
theorem Duo.book {n : Nat} {K : Nat → Nat} {G : Nat → Bool} (h : Duo e1 e2 3 1 B W p u n (cellsK K n) v n (cellsB G n)) : BookAt e1 e2 B W p u v n K G := ⟨h.cells, h.fst, h.snd, h.base, h.au, h.av, h.ap⟩
theorem Duo.but {F : Nat → Prop} (h : Duo e1 e2 s1 s2 B W p u n1 xs v n2 ys) (k : But F W W1) (hF : ∀ i, ft p u v i → ¬ F i) : Duo e1 e2 s1 s2 B W1 p u n1 xs v n2 ys :=
  ⟨h.cells.but k (hF p (Or.inl rfl)), own_but h.fst k fun g hg => hF g (Or.inr (Or.inl hg)), own_but h.snd k fun g hg => hF g (Or.inr (Or.inr hg)), h.base, h.au, h.av, h.ap⟩
theorem Duo.below (h : Duo e1 e2 s1 s2 B W p u n1 xs v n2 ys) (k : Below W.heap.size W W1) : Duo e1 e2 s1 s2 B W1 p u n1 xs v n2 ys := h.but (But.of_below (fun _ => False) k) fun _ _ e => e
theorem Duo.lt (h : Duo e1 e2 s1 s2 B W p u n1 xs v n2 ys) {i : Nat} (hi : ft p u v i) : i < W.heap.size := by
  rcases hi with rfl | hi | hi
  · exact h.cells.1
  · exact (h.fst.lt i hi).2
  · exact (h.snd.lt i hi).2
theorem Duo.ge (h : Duo e1 e2 s1 s2 B W p u n1 xs v n2 ys) {i : Nat} (hi : ft p u v i) : B ≤ i := by
  rcases hi with rfl | hi | hi
  · exact h.base
  · exact (h.fst.lt i hi).1
  · exact (h.snd.lt i hi).1
theorem grown_but {row : Option Nat} (hg : W.grownBy W1 row) : But (fun k => row = some k) W W1 := ⟨hg.os, hg.tape, hg.output, hg.size, fun k hk hn => hg.block k hk fun e => hn e.symm⟩
theorem ap_ne (h : Ap2 u v) {g : Nat} (hv : v.ownBlock = some g) : ¬ u.ownBlock = some g := fun e => by
  rcases h with h | h
  · rw [h] at e; cases e
  · exact h (e.trans hv.symm)
/-- The first row has grown, and is stored. -/
theorem Duo.growU (h : Duo e1 e2 s1 s2 B W p u n1 xs v n2 ys) (hW : Below W.heap.size W Wa) (hg : Wa.grownBy W1 u.ownBlock) (ho : W1.ownsRow B e1 s1 u' m zs) (hat : u'.ownBlock = u.ownBlock ∨ u'.ownBlock = some Wa.heap.size) :
    Duo e1 e2 s1 s2 B (W1.setCell ⟨p, 0, none⟩ u') p u' m zs v n2 ys := by
  have hp := h.cells.1
  have ha : u'.ownBlock ≠ some p := by
    rcases hat with e | e
    · rw [e]; exact h.au
    · rw [e]; intro k; injection k with k; have := hW.size; omega
  have k1 : At W1 p [u, v] := At.grown (h.cells.below hW) hg h.au
  have k2 : W1.ownsRow B e2 s2 v n2 ys := own_but (own_stay h.snd hW) (grown_but hg) fun g hv => ap_ne h.ap hv
  refine ⟨At.fst k1, own_set ho ha _, own_set k2 h.av _, h.base, ha, h.av, ?_⟩
  rcases hat with e | e
  · rcases h.ap with k | k
    · exact Or.inl (e.trans k)
    · exact Or.inr (by rw [e]; exact k)
  · refine Or.inr ?_
    rw [e]
    intro k
    have := ((own_stay h.snd hW).lt _ k.symm).2
    omega
/-- The second one likewise. -/
theorem Duo.growV (h : Duo e1 e2 s1 s2 B W p u n1 xs v n2 ys) (hW : Below W.heap.size W Wa) (hg : Wa.grownBy W1 v.ownBlock) (ho : W1.ownsRow B e2 s2 v' m zs) (hat : v'.ownBlock = v.ownBlock ∨ v'.ownBlock = some Wa.heap.size) :
    Duo e1 e2 s1 s2 B (W1.setCell ⟨p, 1, none⟩ v') p u n1 xs v' m zs := by
  have hp := h.cells.1
  have ha : v'.ownBlock ≠ some p := by
    rcases hat with e | e
    · rw [e]; exact h.av
    · rw [e]; intro k; injection k with k; have := hW.size; omega
  have k1 : At W1 p [u, v] := At.grown (h.cells.below hW) hg h.av
  have k2 : W1.ownsRow B e1 s1 u n1 xs := own_but (own_stay h.fst hW) (grown_but hg) fun g hu => ap_ne h.ap.symm hu
  refine ⟨At.snd k1, own_set k2 h.au _, own_set ho ha _, h.base, h.au, ha, ?_⟩
  rcases hat with e | e
  · rcases h.ap with k | k
    · exact Or.inl k
    · exact Or.inr (by rw [e]; exact k)
  · refine Or.inr ?_
    rw [e]
    intro k
    have := ((own_stay h.fst hW).lt _ k).2
    omega
/-- A cell of the second row is stored. -/
theorem Duo.setV {g c z : Nat} {x : Value} (h : Duo e1 e2 s1 s2 B W p u n1 xs (.slice (some ⟨g, 0, none⟩) n2 c) n2 ys) : Duo e1 e2 s1 s2 B (W.setCell ⟨g, z, none⟩ x) p u n1 xs (.slice (some ⟨g, 0, none⟩) n2 c) n2 (ys.set z x) :=
  ⟨At.set h.cells (fun e => h.av (by rw [e]; rfl)), own_set h.fst (ap_ne h.ap rfl) _, (h.snd.stored z x).1, h.base, h.au, h.av, h.ap⟩
theorem BookAt.flag {n g c z : Nat} {K : Nat → Nat} {G : Nat → Bool} (h : BookAt e1 e2 B W p u (.slice (some ⟨g, 0, none⟩) n c) n K G) (hz : z < n) : BookAt e1 e2 B (W.setCell ⟨g, z, none⟩ (.bool true)) p u (.slice (some ⟨g, 0, none⟩) n c) n K (setB G z) := by
  have := h.duo.setV (z := z) (x := .bool true)
  rw [cellsB_set G hz] at this
  exact this.book
/-- What else there is stays. -/
theorem but_growU {F : Nat → Prop} {a : World} (hb : But F a Wa) (hg : Wa.grownBy W1 u.ownBlock) (hu : ∀ k, u.ownBlock = some k → F k ∨ a.heap.size ≤ k) (hp : F p ∨ a.heap.size ≤ p) (o : Nat) (x : Value) : But F a (W1.setCell ⟨p, o, none⟩ x) :=
  (hb.grown hg hu).setCell hp x
end
theorem three_at {w : World} {b : Nat} (h : w.heap.size = b) (x y z : Value) (t : TypeId) : ∀ j u, [x, y, z][j]? = some u → (w.alloc (.cells #[x, y, z] t)).cell? ((⟨b, 0, none⟩ : Addr).add j) = some u := by
  subst h
  intro j u hj
  rw [addr_add]
  match j, hj with
  | 0, hj => simp at hj; subst hj; simp
  | 1, hj => simp at hj; subst hj; simp
  | 2, hj => simp at hj; subst hj; simp
theorem one_at {w : World} {b : Nat} (h : w.heap.size = b) (x : Value) (t : TypeId) : ∀ j u, [x][j]? = some u → (w.alloc (.cells #[x] t)).cell? ((⟨b, 0, none⟩ : Addr).add j) = some u := by
  subst h
  intro j u hj
  rw [addr_add]
  match j, hj with
  | 0, hj => simp at hj; subst hj; simp
/-- What a deal that is done leaves of a book. -/
def BookDone (eC eG : TypeId) (B : Nat) (w w' : World) (p : Nat) (u v : Value) (n : Nat) (K : Nat → Nat) (G : Nat → Bool) : Prop :=
  But (ft p u v) w w' ∧ ∃ u' v', BookAt eC eG B w' p u' v' n K G ∧ ∀ i, ft p u' v' i → ft p u v i ∨ w.heap.size ≤ i
/-- A book on its way: its rows, and where they lie. -/
def BookGrown (eC eG : TypeId) (B : Nat) (w w' : World) (p : Nat) (u v : Value) (n : Nat) (K : Nat → Nat) (G : Nat → Bool) : Prop :=
  ∃ u' v', BookAt eC eG B w' p u' v' n K G ∧ ∀ i, ft p u' v' i → ft p u v i ∨ w.heap.size < i
theorem BookGrown.done {eC eG : TypeId} {B : Nat} {w w' : World} {p : Nat} {u v : Value} {n : Nat} {K : Nat → Nat} {G : Nat → Bool} (h : BookGrown eC eG B w w' p u v n K G) (hb : But (ft p u v) w w') : BookDone eC eG B w w' p u v n K G := by
  obtain ⟨u', v', h1, h2⟩ := h
  exact ⟨hb, u', v', h1, fun i hi => (h2 i hi).imp_right Nat.le_of_lt⟩
section
variable {e1 e2 : TypeId} {B : Nat} {w U Wa w7 : World} {p : Nat} {u v u' v' : Value} {n1 n2 m : Nat} {xs ys zs D : List Value} {F : Nat → Prop}
theorem apart_q {q : Nat} (hft : ∀ i, ft p u v i → F i ∨ q < i) (hF : ∀ i, F i → i < q) : ¬ ft p u v q := fun h => by
  rcases hft q h with h | h
  · have := hF q h; omega
  · omega
/-- A coin more. -/
theorem grow_coin (h : Duo e1 e2 3 1 B U p u n1 xs v n2 ys) (hW : Below U.heap.size U Wa) (hg : Wa.grownBy w7 u.ownBlock) (ho : w7.ownsRow B e1 3 u' m zs) (hat : u'.ownBlock = u.ownBlock ∨ u'.ownBlock = some Wa.heap.size) (hft : ∀ i, ft p u v i → F i ∨ w.heap.size < i) (hF : ∀ i, F i → i < w.heap.size) (hp : F p) (hq : But F w U) (kd : At U w.heap.size D) :
    Duo e1 e2 3 1 B (w7.setCell ⟨p, 0, none⟩ u') p u' m zs v n2 ys ∧ At (w7.setCell ⟨p, 0, none⟩ u') w.heap.size D ∧ But F w (w7.setCell ⟨p, 0, none⟩ u') ∧ ∀ i, ft p u' v i → F i ∨ w.heap.size < i := by
  have hn := apart_q hft hF
  refine ⟨h.growU hW hg ho hat, At.set (At.grown (kd.below hW) hg fun e => hn (Or.inr (Or.inl e))) (fun e => by have := hF p hp; omega), but_growU (hq.call hW) hg (fun k hk => (hft k (Or.inr (Or.inl hk))).imp_right Nat.le_of_lt) (Or.inl hp) 0 _, fun i hi => ?_⟩
  rcases hi with rfl | hi | hi
  · exact Or.inl hp
  · rcases hat with e | e
    · exact hft i (Or.inr (Or.inl (e.symm.trans hi)))
    · rw [e] at hi
      injection hi with hi
      have h1 := kd.1
      have h2 := hW.size
      exact Or.inr (by omega)
  · exact hft i (Or.inr (Or.inr hi))
/-- A flag more. -/
theorem grow_flag (h : Duo e1 e2 3 1 B U p u n1 xs v n2 ys) (hW : Below U.heap.size U Wa) (hg : Wa.grownBy w7 v.ownBlock) (ho : w7.ownsRow B e2 1 v' m zs) (hat : v'.ownBlock = v.ownBlock ∨ v'.ownBlock = some Wa.heap.size) (hft : ∀ i, ft p u v i → F i ∨ w.heap.size < i) (hF : ∀ i, F i → i < w.heap.size) (hp : F p) (hq : But F w U) (kd : At U w.heap.size D) :
    Duo e1 e2 3 1 B (w7.setCell ⟨p, 1, none⟩ v') p u n1 xs v' m zs ∧ At (w7.setCell ⟨p, 1, none⟩ v') w.heap.size D ∧ But F w (w7.setCell ⟨p, 1, none⟩ v') ∧ ∀ i, ft p u v' i → F i ∨ w.heap.size < i := by
  have hn := apart_q hft hF
  refine ⟨h.growV hW hg ho hat, At.set (At.grown (kd.below hW) hg fun e => hn (Or.inr (Or.inr e))) (fun e => by have := hF p hp; omega), but_growU (hq.call hW) hg (fun k hk => (hft k (Or.inr (Or.inr hk))).imp_right Nat.le_of_lt) (Or.inl hp) 1 _, fun i hi => ?_⟩
  rcases hi with rfl | hi | hi
  · exact Or.inl hp
  · exact hft i (Or.inr (Or.inl hi))
  · rcases hat with e | e
    · exact hft i (Or.inr (Or.inr (e.symm.trans hi)))
    · rw [e] at hi
      injection hi with hi
      have h1 := kd.1
      have h2 := hW.size
      exact Or.inr (by omega)
end
end Go.Proofs.Ytmijjjdedadklaj
