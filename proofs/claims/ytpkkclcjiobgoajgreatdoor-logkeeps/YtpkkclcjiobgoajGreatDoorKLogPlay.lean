/- What package log replays: deals (a range over a function), replay. -/
import Derived.Test.YtpkkclcjiobgoajGreatDoorKL
import Derived.Test.YtpkkclcjiobgoajGreatDoorKBook
import Derived.RangeFuncBox
import Derived.RangeFuncLeaves
import Derived.RangeFuncCalls
import Derived.Shelf.Abstract
import Derived.WalkKit
import Derived.OwnWalkIn
import Derived.TacticsInMore
import Derived.LoopNIn
import Derived.LoopIn
namespace Go.Proofs.YtpkkclcjiobgoajGreatDoor
open Go.RowKit Go.Sort Go.Shelf
set_option linter.unusedVariables false
set_option linter.unusedSimpArgs false
attribute [local go_sem] Oper.semAt_some
/-- A block of cells. -/
def IsCells (W : World) (i : Nat) : Prop := ∃ o, W.heap[i]? = some o ∧ o.isCells = true
theorem cells_of_cell {W : World} {b i : Nat} {v : Value} (h : W.cell? ⟨b, i, none⟩ = some v) : IsCells W b := by
  unfold World.cell? at h
  unfold IsCells
  cases hb : W.heap[b]? with
  | none => simp only [hb] at h; cases h
  | some o =>
    refine ⟨o, rfl, ?_⟩
    cases o with
    | cells c t f => rfl
    | _ => simp only [hb] at h; cases h
theorem At.isCells {W : World} {b : Nat} {v : Value} {vs : List Value} (h : At W b (v :: vs)) : IsCells W b := cells_of_cell (i := 0) (v := v) (h.2.1 0 (by simp))
theorem own_isCells {W : World} {B : Nat} {e : TypeId} {size : Nat} {v : Value} {n : Nat} {xs : List Value} (h : W.ownsRow B e size v n xs) {g : Nat} (hg : v.ownBlock = some g) : IsCells W g := by
  rcases h.2 with ⟨rfl, _⟩ | ⟨g', cap, cur, rfl, _, h3, _⟩
  · cases hg
  · injection hg with hg
    rw [← hg]
    exact ⟨_, h3, rfl⟩
theorem IsCells.ne {W : World} {i l : Nat} {o : Obj} (h : IsCells W i) (hl : W.heap[l]? = some o) (ho : o.isCells = false) : i ≠ l := by
  rintro rfl
  obtain ⟨o', h1, h2⟩ := h
  rw [hl] at h1
  injection h1 with h1
  rw [← h1, ho] at h2
  cases h2
theorem but_put (W : World) (l : Nat) (o : Obj) : But (fun i => i = l) W (W.putObj l o) := (But.refl (fun i => i = l) W).put (Or.inl rfl) o
theorem keeps_but {F : Nat → Prop} {B : Nat} {A W : World} (h : But F A W) (hF : ∀ i, F i → i < A.heap.size → IsCells A i) : KeepsFrom B A W :=
  ⟨h.size, fun k o _ hk ho => (h.block k (Array.getElem?_eq_some_iff.1 hk).1 fun e => (hF k e (Array.getElem?_eq_some_iff.1 hk).1).ne hk ho rfl).trans hk⟩
theorem own_nil_cap {W : World} {B : Nat} {e : TypeId} {size q : Nat} {sa : Option Addr} {n c : Nat} {xs : List Value} (h : W.ownsRow B e size (.slice sa q c) n xs) (hs : sa = none) : c = 0 := by
  subst hs
  rcases h.2 with ⟨h1, _⟩ | ⟨g, cap, cur, h1, _⟩
  · injection h1
  · injection h1 with h1; cases h1
theorem wpIn_gen {F : Fence} {m : Nat} {P : Program} {c : Code} {Q : Exit → Act → World → Prop} {a : Act} {w : World} (S : World → Prop) (h : S w) (k : ∀ W, S W → c.wpIn F m P Q a W) : c.wpIn F m P Q a w := k w h
theorem book_cells {W : World} {v : Value} {Q : Nat → Prop} {n : Nat} {K : Nat → Nat} {G : Nat → Bool} (h : bookP W v Q n K G) {i : Nat} (hi : Q i) : IsCells W i := by
  obtain ⟨p, u, rfl, rfl, h⟩ := h
  rcases hi with rfl | hi
  · exact h.cells.isCells
  · exact own_isCells h.coins hi
/-- What is handed over: the place behind a record, its deal. -/
def dealR (d : Nat → Rec) (k h : Nat) (args : Array Value) (A : World) : Prop := ∃ (sz sl : Option Addr) (dz dl : Nat), args = #[.int .i64 ((catN d (k + 1) : Nat) : Int), .agg #[.slice sz (d k).m dz, .slice sl (d k).c dl, .int .i64 ((tM (d k).a).1 : Int), .int .i64 ((tM (d k).a).2.1 : Int), .bool (tM (d k).a).2.2, .int .i64 ((d k).s : Int)]] ∧ A.ownsRow h 3 1 (.slice sz (d k).m dz) (d k).m (cellsI (d k).Z (d k).m) ∧ A.ownsRow h 25 3 (.slice sl (d k).c dl) (d k).c (cellsK (d k).J (d k).c)
/-- The fence holds nothing out. -/
def WideF (F : Fence) : Prop := ∀ (n : Nat) (f : FuncId) (args : Array Value) (w : World) (R : Ending → World → Prop), Calls Tryz.prog f args w R → CallsIn F n Tryz.prog f args w R
set_option maxRecDepth 100000 in
set_option maxHeartbeats 4000000 in
theorem deals_seen (F : Fence) (n : Nat) (h1 : F.fn 108) (h2 : F.fn 109) (h3 : F.fn 110) (hro : F.round = none) (hn : 1 ≤ n) (hF : WideF F) (Bs n₀ cap r : Nat) (sa : Option Addr) (d : Nat → Rec) (L : List Nat) (w : World) (hBs : Bs < w.heap.size) (hn₀ : n₀ ≤ w.heap.size) (hc : w.cell? ⟨Bs, 0, none⟩ = some (.slice sa L.length cap)) (hcap : L.length ≤ cap) (hcm : cap ≤ maxLen) (hL : L.length ≤ 1000000000) (hrow : L = [] ∨ ∃ bL, sa = some ⟨bL, 0, none⟩ ∧ bL < n₀ ∧ RowU w bL 0 L) (hWh : Whole d r L) (hin : ∀ i, i < r → RecIn (d i)) :
    SeqSeen F n Tryz.prog 108 #[.pointer (some ⟨Bs, 0, none⟩)] (fun i => i < n₀ ∨ i = Bs) (dealR d) r w := by
  intro l J W hW hJb hY h0
  have HWh : Hid (Whole d r L) := hWh
  have HIn : Hid (∀ i, i < r → RecIn (d i)) := hin
  have HY : Hid (∀ k A0 A args, k < r → J k A0 → Below A0.heap.size A0 A → dealR d k A0.heap.size args A → YieldAt F (n - 1) Tryz.prog l args A fun e B => e = .returned (.bool true) ∧ J (k + 1) B ∧ But (fun i => ¬ (i < n₀ ∨ i = Bs)) A0 B) := hY
  have HJb : Hid (∀ k A B, J k A → Below A.heap.size A B → J k B) := hJb
  have HF : Hid (WideF F) := hF
  have hcW := (hW.cell (p := ⟨Bs, 0, none⟩) hBs).trans hc
  have HRW : Hid (L = [] ∨ ∃ bL, sa = some ⟨bL, 0, none⟩ ∧ bL < n₀ ∧ RowU W bL 0 L) := hrow.imp_right fun ⟨b, e, hb, hr⟩ => ⟨b, e, hb, hr.below hr.1 hW⟩
  have hzW := hW.size
  unfold maxLen at hcm
  clear hrow hWh hin hY hJb hF hc
  refine callsIn_of_wp Tryz.func108 rfl h1 ?_ hro
  simp only [Tryz.ntmps108, List.size_toArray, List.length_cons, List.length_nil, Nat.reduceAdd, Nat.reduceSub, Array.replicate_succ, Array.replicate_zero, List.push_toArray, List.append_toArray, List.nil_append, List.cons_append]
  gi_wp2
  gi_loopw [3] (fun ti wl => ∃ k : Nat, k ≤ r ∧ ti = .int .i64 ((catN d k : Nat) : Int) ∧ J k wl ∧ But (fun i => ¬ (i < n₀ ∨ i = Bs)) W wl) (fun ti _ => L.length + 1 - (intOf ti).toNat)
  case atStart => exact ⟨0, by omega, rfl, h0, But.refl _ _⟩
  case round =>
    obtain ⟨k, hk, rfl, hJk, hbk⟩ := hrel
    have hBx : wr.cell? ⟨Bs, 0, none⟩ = some (.slice sa L.length cap) := (World.cell?_of_block (a := ⟨Bs, 0, none⟩) (hbk.block Bs (by omega) (fun e => e (Or.inr rfl)))).trans hcW
    have HJk : Hid (J k wr) := hJk
    have hzk := hbk.size
    have HRk : Hid (∀ {bL o : Nat} {l : List Nat}, bL < n₀ → RowU W bL o l → RowU wr bL o l) := fun hb hr => hr.but hbk (fun e => e (Or.inl hb))
    clear hJk h0
    by_cases hlt : k < r
    · obtain ⟨post, hp⟩ := whole_part HWh.out hlt
      obtain ⟨t, ht⟩ : ∃ t, catN d k = t := ⟨_, rfl⟩
      obtain ⟨N, hN⟩ : ∃ N, (bodyL (d k)).length = N := ⟨_, rfl⟩
      have HS : catN d (k + 1) = t + 2 + N := by rw [catN_succ, ht, hN]
      have hNl : N ≤ 2045 := by rw [← hN]; exact bodyL_le (HIn.out k hlt)
      have hlen : t + 2 + N ≤ L.length := by rw [hp, ← HS]; unfold catN; show (catL d k ++ recL (d k)).length ≤ _; simp only [List.length_append]; omega
      obtain ⟨bL, rfl, hbL, hrW⟩ := HRW.out.resolve_left (by intro e; rw [e] at hlen; simp at hlen)
      have hr := HRk.out hbL hrW
      have hr1 : RowU wr bL (0 + t) (recL (d k)) := by
        rw [hp] at hr
        have := hr.part
        rwa [show (catL d k).length = t from ht] at this
      have hr2 : RowU wr bL (0 + t) (nbL N ++ bodyL (d k)) := by rw [← hN]; exact hr1
      have c0 : wr.cell? ⟨bL, 0 + t, none⟩ = some (.int .i8 0) ∨ True := Or.inr trivial
      have HN : Hid (Calls Tryz.prog 109 #[.slice (some ⟨bL, 0, none⟩) L.length cap, .int .i64 (t : Int)] wr fun e w' => e = .returned (.int .i64 (N : Int)) ∧ Below wr.heap.size wr w') := by
        have h1 := lnum_at bL 0 L.length cap t (N / 256) (N % 256) wr (by omega) hL (by omega) (by omega) (hr2.2 0 _ rfl) (hr2.2 1 _ rfl)
        rwa [show (((N / 256) * 256 + N % 256 : Nat) : Int) = (N : Int) by omega] at h1
      have HD : Hid (RowU wr bL (t + 2) (bodyL (d k))) := by
        have h1 := hr2.drop
        rw [nbL_len, Nat.zero_add] at h1
        exact h1
      have HI : Hid (RecIn (d k)) := HIn.out k hlt
      have HL2 : Hid ((bodyL (d k)).length = N) := hN
      have hbw := hr.1
      clear c0 hr hr1 hr2 hrW hp hN
      rw [ht]
      have hN6 : 6 ≤ N := by rw [← HL2.out, bodyL_len]; omega
      have hne : ¬ cap = t + 2 := by omega
      have hcd : (t : Int) + 2 ≤ (L.length : Int) := by omega
      have hce : ¬ (t : Int) + 2 + (N : Int) > (L.length : Int) := by omega
      gi_wp2_with (first | (gi_at_call 109; refine (HF.out _ _ _ _ _ HN.out).mono ?_; rintro e A ⟨rfl, hbA⟩; have hBA : A.cell? ⟨Bs, 0, none⟩ = some (.slice (some ⟨bL, 0, none⟩) L.length cap) := (hbA.cell (p := ⟨Bs, 0, none⟩) (by show Bs < _; omega)).trans hBx; have hzA := hbA.size) | (gi_at_call 110; go_loud ((try rw [if_neg hne]); refine (HF.out _ _ _ _ _ (lread bL (t + 2) N (cap - (t + 2)) (d k).m (d k).c (d k).a (d k).s (d k).Z (d k).J A HI.out HL2.out.symm (by omega) (HD.out.below hbw hbA))).mono ?_; rintro e E ⟨sz, sl, dz, dl, rfl, ho1, ho2, hbE⟩; have hY1 := HY.out k wr E #[.int .i64 ((t : Int) + 2 + (N : Int)), .agg #[.slice sz (d k).m dz, .slice sl (d k).c dl, .int .i64 ((tM (d k).a).1 : Int), .int .i64 ((tM (d k).a).2.1 : Int), .bool (tM (d k).a).2.2, .int .i64 ((d k).s : Int)]] hlt HJk.out (hbA.trans (hbE.mono hzA)) ⟨sz, sl, dz, dl, by rw [HS, show (((t + 2 + N : Nat) : Int)) = (t : Int) + 2 + (N : Int) by omega], own_base ho1 hzA, own_base ho2 hzA⟩; obtain ⟨fn, tmps, assign, body, hy, hR⟩ := hY1; (try dsimp only at hy); clear ho1 ho2)) | (refine hR.mono ?_; rintro e B ⟨rfl, hJB, hbB⟩) | ((with_reducible refine And.intro ?nf ?_); (case nf => (intro f hf; cases hf))))
      
      go_roundw
      case rel => exact ⟨k + 1, by omega, by rw [HS]; simp; try omega, hJB, hbk.trans hbB fun _ _ e => e⟩
      case measure => simp [intOf]; omega
    · obtain rfl : k = r := by omega
      have hwe := whole_end HWh.out
      obtain ⟨t, ht⟩ : ∃ t, catN d k = t := ⟨_, rfl⟩
      rw [ht] at hwe ⊢
      have hwl : t ≤ L.length := by rw [← ht]; exact (whole_len HWh.out).1
      rcases hwe with hs | ⟨N, post, hN6, hp, hlong⟩
      · have hcd : ¬ (t : Int) + 2 ≤ (L.length : Int) := by omega
        gi_wp2
        
        go_end0
        exact ⟨⟨_, rfl⟩, HJk.out⟩
      · have hlen : t + 2 ≤ L.length := by rw [hp, ← ht]; unfold catN; simp only [List.length_append, nbL_len]; omega
        obtain ⟨bL, rfl, hbL, hrW⟩ := HRW.out.resolve_left (by intro e; rw [e] at hlen; simp at hlen)
        have hr := HRk.out hbL hrW
        have hr2 : RowU wr bL (0 + t) (nbL N) := by
          rw [hp] at hr
          have := hr.part
          rwa [show (catL d k).length = t from ht] at this
        have HN : Hid (Calls Tryz.prog 109 #[.slice (some ⟨bL, 0, none⟩) L.length cap, .int .i64 (t : Int)] wr fun e w' => e = .returned (.int .i64 (N : Int)) ∧ Below wr.heap.size wr w') := by
          have h1 := lnum_at bL 0 L.length cap t (N / 256) (N % 256) wr (by omega) hL (by omega) (by omega) (hr2.2 0 _ rfl) (hr2.2 1 _ rfl)
          rwa [show (((N / 256) * 256 + N % 256 : Nat) : Int) = (N : Int) by omega] at h1
        clear hr hr2 hrW hp
        have hcd : (t : Int) + 2 ≤ (L.length : Int) := by omega
        have hce : (t : Int) + 2 + (N : Int) > (L.length : Int) := by omega
        gi_wp2_with (first | (gi_at_call 109; refine (HF.out _ _ _ _ _ HN.out).mono ?_; rintro e A ⟨rfl, hbA⟩; have hBA : A.cell? ⟨Bs, 0, none⟩ = some (.slice (some ⟨bL, 0, none⟩) L.length cap) := (hbA.cell (p := ⟨Bs, 0, none⟩) (by show Bs < _; omega)).trans hBx; have hzA := hbA.size) | ((with_reducible refine And.intro ?nf ?_); (case nf => (intro f hf; cases hf))))
        
        refine bodyPost_ret (results_none rfl _ _ _) rfl ?_
        exact ⟨⟨_, rfl⟩, HJb.out _ _ _ HJk.out hbA⟩
/-- A record that a book does. -/
structure RecOk (n : Nat) (K : Nat → Nat) (G : Nat → Bool) (e : Rec) (n' : Nat) (K' : Nat → Nat) (G' : Nat → Bool) : Prop where
  go : ∀ i, i < e.m → goE n G e.Z i = 0
  c : e.c ≤ 12
  le : n + e.c ≤ 1000
  s : e.s < 1013
  cl : closeB e.a (exN K e.Z e.m e.J e.c) e.s = true
  en : n' = n + e.c
  ek : K' = appN K n e.J e.c
  eg : G' = appN (mkG G e.Z e.m) n (fun _ => false) e.c
theorem RecOk.in {n : Nat} {K : Nat → Nat} {G : Nat → Bool} {e : Rec} {n' : Nat} {K' : Nat → Nat} {G' : Nat → Bool} (h : RecOk n K G e n' K' G') : RecIn e :=
  ⟨by have := go_many h.go; have := h.le; omega, fun i hi => by have := inN_yes (goE_ok (h.go i hi)).1; have := h.le; omega, h.c, h.s⟩
/-- What is replayed, behind k records: the boxes of the book and of the place, the book. -/
structure Play (n₀ q pb : Nat) (w : World) (d : Nat → Rec) (n : Nat → Nat) (K : Nat → Nat → Nat) (G : Nat → Nat → Bool) (k : Nat) (Q : Nat → Prop) (W : World) : Prop where
  b : At W q [.pointer (some ⟨pb, 0, none⟩)]
  e : At W (q + 1) [.int .i64 ((catN d k : Nat) : Int)]
  book : bookP W (.pointer (some ⟨pb, 0, none⟩)) Q (n k) (K k) (G k)
  apart : ∀ i, Q i → n₀ ≤ i ∧ i ≠ q ∧ i ≠ q + 1 ∧ i ≠ q + 2
  below : Below n₀ w W
  le : n₀ ≤ q
  size : q + 3 ≤ W.heap.size
section
variable {n₀ q pb k : Nat} {w A B : World} {d : Nat → Rec} {n : Nat → Nat} {K : Nat → Nat → Nat} {G : Nat → Nat → Bool} {Q : Nat → Prop}
theorem Play.stay (h : Play n₀ q pb w d n K G k Q A) {F : Nat → Prop} (hb : But F A B) (h1 : ¬ F q) (h2 : ¬ F (q + 1)) (h3 : ∀ i, Q i → ¬ F i) (h4 : ∀ i, F i → n₀ ≤ i) : Play n₀ q pb w d n K G k Q B :=
  ⟨h.b.but hb h1, h.e.but hb h2, bookP_ok.stay h.book hb h3, h.apart, But.under h.below hb h4 (by have := h.size; have := h.le; omega), h.le, Nat.le_trans h.size hb.size⟩
theorem Play.up (h : Play n₀ q pb w d n K G k Q A) (hb : Below A.heap.size A B) : Play n₀ q pb w d n K G k Q B :=
  h.stay (But.of_below (fun _ => False) hb) (fun e => e) (fun e => e) (fun _ _ e => e) (fun _ e => e.elim)
theorem Play.put (h : Play n₀ q pb w d n K G k Q A) {l : Nat} {o o' : Obj} (hl : n₀ ≤ l) (ho : A.heap[l]? = some o) (hc : o.isCells = false) : Play n₀ q pb w d n K G k Q (A.putObj l o') :=
  h.stay (but_put A l o') (h.b.isCells.ne ho hc) (h.e.isCells.ne ho hc) (fun i hi => (book_cells h.book hi).ne ho hc) (fun i e => by have : i = l := e; omega)
end
set_option maxRecDepth 100000 in
set_option maxHeartbeats 4000000 in
theorem ldeals (a : Option Addr) (len cap : Nat) (w : World) :
    Calls Tryz.prog 88 #[.slice a len cap] w fun e w' => e = .returned (.func (.func 108) #[] #[.pointer (some ⟨w.heap.size, 0, none⟩)]) ∧ w' = w.alloc (.cells #[.slice a len cap] 100) := by
  go_enter Tryz.func88, Tryz.ntmps88
  go_wp2_with fail
  go_ret
  exact ⟨rfl, rfl⟩
/-- What a round is handed, laid. -/
def PlayMid (n₀ q pb : Nat) (w : World) (d : Nat → Rec) (n : Nat → Nat) (K : Nat → Nat → Nat) (G : Nat → Nat → Bool) (T : Value → Nat → Value → Act) (k : Nat) (b : Act) (A : World) : Prop :=
  ∃ (Q : Nat → Prop) (h x : Nat) (sz sl : Option Addr) (dz dl : Nat), Play n₀ q pb w d n K G k Q A ∧ (∀ i, Q i → i < h) ∧ h ≤ x ∧ q + 3 ≤ h ∧ b = T (.int .i64 ((catN d (k + 1) : Nat) : Int)) x (.agg #[.slice sz (d k).m dz, .slice sl (d k).c dl, .int .i64 ((tM (d k).a).1 : Int), .int .i64 ((tM (d k).a).2.1 : Int), .bool (tM (d k).a).2.2, .int .i64 ((d k).s : Int)]) ∧ At A x [.slice sz (d k).m dz, .slice sl (d k).c dl, .int .i64 ((tM (d k).a).1 : Int), .int .i64 ((tM (d k).a).2.1 : Int), .bool (tM (d k).a).2.2, .int .i64 ((d k).s : Int)] ∧
    A.ownsRow h 3 1 (.slice sz (d k).m dz) (d k).m (cellsI (d k).Z (d k).m) ∧ A.ownsRow h 25 3 (.slice sl (d k).c dl) (d k).c (cellsK (d k).J (d k).c)
theorem PlayMid.put {n₀ q pb k l : Nat} {w A : World} {d : Nat → Rec} {n : Nat → Nat} {K : Nat → Nat → Nat} {G : Nat → Nat → Bool} {T : Value → Nat → Value → Act} {b : Act} {o o' : Obj} (h : PlayMid n₀ q pb w d n K G T k b A) (hl : n₀ ≤ l) (ho : A.heap[l]? = some o) (hc : o.isCells = false) : PlayMid n₀ q pb w d n K G T k b (A.putObj l o') := by
  obtain ⟨Q, h, x, sz, sl, dz, dl, h1, h2, h3, h4, h5, h6, h7, h8⟩ := h
  exact ⟨Q, h, x, sz, sl, dz, dl, h1.put hl ho hc, h2, h3, h4, h5, h6.but (but_put A l o') (h6.isCells.ne ho hc), own_but h7 (but_put A l o') (fun g hg => (own_isCells h7 hg).ne ho hc), own_but h8 (but_put A l o') (fun g hg => (own_isCells h8 hg).ne ho hc)⟩
/-- A deal that is read is done. -/
theorem play_do {n₀ q pb k h : Nat} {w A : World} {d : Nat → Rec} {n : Nat → Nat} {K : Nat → Nat → Nat} {G : Nat → Nat → Bool} {Q : Nat → Prop} {sz sl : Option Addr} {dz dl : Nat} (hP : Play n₀ q pb w d n K G k Q A) (hQ : ∀ i, Q i → i < h) (hr : RecOk (n k) (K k) (G k) (d k) (n (k + 1)) (K (k + 1)) (G (k + 1)))
    (h7 : A.ownsRow h 3 1 (.slice sz (d k).m dz) (d k).m (cellsI (d k).Z (d k).m)) (h8 : A.ownsRow h 25 3 (.slice sl (d k).c dl) (d k).c (cellsK (d k).J (d k).c)) :
    Calls Tryz.prog 21 #[.pointer (some ⟨pb, 0, none⟩), .agg #[.slice sz (d k).m dz, .slice sl (d k).c dl, .int .i64 ((tM (d k).a).1 : Int), .int .i64 ((tM (d k).a).2.1 : Int), .bool (tM (d k).a).2.2, .int .i64 ((d k).s : Int)]] A fun ex w' => ex = .returned .nilIface ∧ PBdone bookP A w' (.pointer (some ⟨pb, 0, none⟩)) Q (n (k + 1)) (K (k + 1)) (G (k + 1)) := by
  have hm := hr.in.m
  obtain ⟨sz', dz', e1, hz⟩ := own_ints h7
  injection e1 with e1 _ e3
  subst e1 e3
  obtain ⟨sl', dl', e1, hs⟩ := own_isC h8
  injection e1 with e1 _ e3
  subst e1 e3
  have hz2 : (d k).m = 0 ∨ ∃ b o : Nat, sz = some ⟨b, o, none⟩ ∧ RowI A b o (d k).m (d k).Z := hz.imp_right fun ⟨g, e, _, _, r⟩ => ⟨g, 0, e, r⟩
  have h9 := bdo_is.2.2.2.2.2 (.pointer (some ⟨pb, 0, none⟩)) Q (n k) (d k).m (d k).c dl dz sz sl (K k) (G k) (d k).Z _ _ _ (d k).J (d k).a (d k).s A (by have := hr.le; omega) (by omega) (own_room h7) (own_room h8) (own_nil_cap h8) hP.book hz2 hs ?_ ?_ hr.go hr.c (fun i hi => ⟨rfl, rfl, rfl⟩) hr.le hr.s hr.cl
  · rw [hr.en, hr.ek, hr.eg]; exact h9
  · intro h0 b o e hb
    obtain ⟨g, e2, e3, _⟩ := hz.resolve_left h0
    rw [e] at e2
    injection e2 with e2
    have := (h7.lt g e3).1
    have := hQ b hb
    injection e2 with e2
    omega
  · intro h0 b o e hb
    obtain ⟨sl2, dl2, e4, hs2⟩ := own_slice h8
    obtain ⟨g, e2, e3, _⟩ := hs2.resolve_left h0
    injection e4 with e4
    rw [← e4, e] at e2
    injection e2 with e2
    have := (h8.lt g e3).1
    have := hQ b hb
    injection e2 with e2
    omega
set_option maxRecDepth 100000 in
set_option maxHeartbeats 4000000 in
theorem lreplay_in (F : Fence) (N : Nat) (f1 : F.fn 64) (f2 : F.fn 16) (f3 : F.fn 88) (f4 : F.fn 108) (f5 : F.fn 109) (f6 : F.fn 110) (f7 : F.fn 21) (hro : F.round = none) (hN : 5 ≤ N) (hF : WideF F) (p r cap cc : Nat) (n : Nat → Nat) (K : Nat → Nat → Nat) (G : Nat → Nat → Bool) (d : Nat → Rec) (L : List Nat) (sc sa : Option Addr) (bv sv fv tv : Value) (w : World)
    (hp : At w p [.slice sc (n 0) cc, bv, .slice sa L.length cap, sv, fv, tv]) (hn0 : n 0 ≤ 12) (hG0 : G 0 = fun _ => false) (hco : w.ownsRow 0 25 3 (.slice sc (n 0) cc) (n 0) (cellsK (K 0) (n 0))) (hla : w.ownsRow 0 5 1 (.slice sa L.length cap) L.length (cellsU L)) (hL : L.length ≤ 1000000000) (hWh : Whole d r L) (hch : ∀ i, i < r → RecOk (n i) (K i) (G i) (d i) (n (i + 1)) (K (i + 1)) (G (i + 1))) :
    CallsIn F N Tryz.prog 64 #[.pointer (some ⟨p, 0, none⟩)] w fun e w' => ∃ v Q, e = .returned (.tuple #[v, .int .i64 ((catN d r : Nat) : Int)]) ∧ bookP w' v Q (n r) (K r) (G r) ∧ (∀ i, Q i → w.heap.size ≤ i) ∧ Below w.heap.size w w' := by
  have h1N : 1 ≤ N := by omega
  have HF : Hid (WideF F) := hF
  have HWh : Hid (Whole d r L) := hWh
  have HCh : Hid (∀ i, i < r → RecOk (n i) (K i) (G i) (d i) (n (i + 1)) (K (i + 1)) (G (i + 1))) := hch
  have HN : Hid (Calls Tryz.prog 16 #[.slice sc (n 0) cc] w fun ex w' => ∃ (pb : Nat) (Q : Nat → Prop), ex = .returned (.tuple #[.pointer (some ⟨pb, 0, none⟩), .nilIface]) ∧ bookP w' (.pointer (some ⟨pb, 0, none⟩)) Q (n 0) (K 0) (G 0) ∧ (∀ i, Q i → w.heap.size ≤ i) ∧ Below w.heap.size w w') := by
    obtain ⟨sc', cc', e1, hs⟩ := own_isC hco
    injection e1 with e1 _ e3
    subst e1 e3
    refine (bnew_is.2 sc (n 0) cc _ _ _ (K 0) w hn0 (own_room hco) (own_nil_cap hco) hs (fun i hi => ⟨rfl, rfl, rfl⟩)).mono ?_
    rintro e w' ⟨v, Q, rfl, h1, h2, h3⟩
    have h1' := h1
    obtain ⟨pb, u, rfl, _, _⟩ := h1'
    exact ⟨pb, Q, rfl, hG0 ▸ h1, h2, h3⟩
  obtain ⟨sa', cap', e1, _, hcap, hrow⟩ := own_bytes hla
  injection e1 with e1 _ e3
  subst e1 e3
  have HRow : Hid (L = [] ∨ ∃ bL, sa = some ⟨bL, 0, none⟩ ∧ bL < w.heap.size ∧ RowU w bL 0 L) := by
    rcases hrow with ⟨_, h2, _⟩ | ⟨g, h2, _, _, h5⟩
    · exact Or.inl (List.eq_nil_of_length_eq_zero h2)
    · exact Or.inr ⟨g, h2, h5.1, h5⟩
  have hcm : cap ≤ maxLen := by
    rcases hla.2 with ⟨h2, _⟩ | ⟨g, cap2, cur, h2, _, _, _, h3, _⟩
    · injection h2 with _ _ h2; rw [h2]; exact Nat.zero_le _
    · injection h2 with _ _ h2; rw [h2]; exact h3
  have HP : Hid (At w p [.slice sc (n 0) cc, bv, .slice sa L.length cap, sv, fv, tv]) := hp
  obtain ⟨zp, cp0, cp1, cp2, cp3, cp4, cp5, fp0, fp1, fp2, fp3, fp4, fp5⟩ := hp.six
  clear hF hWh hch hco hla hrow hp cp1 cp3 cp4 cp5 fp1 fp3 fp4 fp5
  refine callsIn_of_wp_marks Tryz.func64 rfl f1 ?_ hro
  simp only [Tryz.ntmps64, List.size_toArray, List.length_cons, List.length_nil, Nat.reduceAdd, Nat.reduceSub, Array.replicate_succ, Array.replicate_zero, List.push_toArray, List.append_toArray, List.nil_append, List.cons_append]
  gi_wp2_with (first | (gi_at_call 16; refine (HF.out _ _ _ _ _ HN.out).mono ?_; rintro e w1 ⟨pb, Q, rfl, hbk, hQ, hb1⟩; have HBk : Hid (bookP w1 (.pointer (some ⟨pb, 0, none⟩)) Q (n 0) (K 0) (G 0)) := hbk; have hp1 := HP.out.below hb1; obtain ⟨zp1, dp0, dp1, dp2, dp3, dp4, dp5, gp0, gp1, gp2, gp3, gp4, gp5⟩ := hp1.six; have hz1 := hb1.size; clear hbk cp0 cp2 fp0 fp2 dp1 dp3 dp4 dp5 gp1 gp3 gp4 gp5) | (gi_at_call 88; refine (HF.out _ _ _ _ _ (ldeals _ _ _ _)).mono ?_; rintro e w' ⟨rfl, rfl⟩))
  
  obtain ⟨q, hq⟩ : ∃ q, w1.heap.size = q := ⟨_, rfl⟩
  refine wpIn_gen (fun W => At W q [.pointer (some ⟨pb, 0, none⟩)] ∧ At W (q + 1) [.int .i64 0] ∧ At W (q + 2) [.slice sa L.length cap] ∧ Below q w1 W ∧ W.heap.size = q + 3) ⟨by subst hq; exact (by repeat (first | (with_reducible first | assumption | (refine at_new' _ _ _ _ ?_; first | rfl | (simp; done)) | refine At.alloc ?_ _ | refine At.drew ?_ | refine At.drewN ?_ | refine At.set ?_ (by omega) | apply At.store4 | apply At.store3 | apply At.store2 | apply At.put43) | refine At.below ?_ (by with_reducible assumption))), by subst hq; exact (by repeat (first | (with_reducible first | assumption | (refine at_new' _ _ _ _ ?_; first | rfl | (simp; done)) | refine At.alloc ?_ _ | refine At.drew ?_ | refine At.drewN ?_ | refine At.set ?_ (by omega) | apply At.store4 | apply At.store3 | apply At.store2 | apply At.put43) | refine At.below ?_ (by with_reducible assumption))), by subst hq; exact (by repeat (first | (with_reducible first | assumption | (refine at_new' _ _ _ _ ?_; first | rfl | (simp; done)) | refine At.alloc ?_ _ | refine At.drew ?_ | refine At.drewN ?_ | refine At.set ?_ (by omega) | apply At.store4 | apply At.store3 | apply At.store2 | apply At.put43) | refine At.below ?_ (by with_reducible assumption))), by subst hq; exact (by repeat (first | (with_reducible first | exact Below.refl _ _ | assumption | refine Below.setCell ?_ (by first | simp <;> omega | omega) _ | refine Below.alloc ?_ (by first | simp <;> omega | omega) _) | refine bl_call ?_ (by assumption) (by first | simp <;> omega | omega) | (with_reducible first | refine bl_drewN ?_ | refine Below.drew ?_ | refine bl_grow ?_ (by first | simp <;> omega | omega)))), by subst hq; simp⟩ ?_
  rintro W0 ⟨a1, a2, a3, hb0, hs0⟩
  simp only [hq, Nat.add_assoc, Nat.reduceAdd]
  have HPlay : Play w.heap.size q pb w d n K G 0 Q W0 := ⟨a1, a2, bookP_ok.stay HBk.out (But.of_below (fun _ => False) (hq ▸ hb0)) (fun _ _ e => e), fun i hi => by have := bookP_ok.lt HBk.out i hi; have := hQ i hi; omega, hb1.trans (hb0.mono (by omega)), by omega, by omega⟩
  refine wpIn_seen hro h1N (gf := 108) (lb := #[.pointer (some ⟨q + 2, 0, none⟩)]) rfl f4 (enters_of Tryz.func108 (by kernel_rfl) rfl) (G := fun i => i < w.heap.size ∨ i = q + 2) (R := dealR d) (r := r) (w0 := W0)
    (deals_seen F (N - 1) f4 f5 f6 hro (by omega) HF.out (q + 2) w.heap.size cap r sa d L W0 (by omega) (by omega) (a3.2.1 0 (by simp)) hcap hcm hL (HRow.out.imp_right fun ⟨b, e, hb, hr⟩ => ⟨b, e, hb, hr.below hb HPlay.below⟩) HWh.out (fun i hi => (HCh.out i hi).in)) (Below.refl _ _) ?hG ?hps
    (fun k W => ∃ Q, Play w.heap.size q pb w d n K G k Q W) ?hIb ?hIp ⟨Q, HPlay⟩
    (PlayMid w.heap.size q pb w d n K G (fun e x v => { tmps := #[.pointer (some ⟨p, 0, none⟩), undef, .pointer none, .int .i64 0, .pointer (some ⟨q, 0, none⟩), .nilIface, .pointer (some ⟨q + 1, 0, none⟩), e, .pointer (some ⟨x, 0, none⟩), .tuple #[.pointer (some ⟨pb, 0, none⟩), .nilIface], .pointer (some ⟨p, 0, none⟩), .pointer (some ⟨p, 0, none⟩), .pointer (some ⟨p, 0, none⟩), .slice sc (n 0) cc, .tuple #[.pointer (some ⟨pb, 0, none⟩), .nilIface], .pointer (some ⟨pb, 0, none⟩), .nilIface, .pointer (some ⟨p, 0, none⟩), .pointer (some ⟨p, 0, none⟩), .pointer (some ⟨p, 2, none⟩), .slice sa L.length cap, .func (.func 108) #[] #[.pointer (some ⟨q + 2, 0, none⟩)], e, v, undef, undef, undef, undef, undef, undef], defers := [] })) ?hMp ?hassign ?hbody ?hdone
  case hG =>
    rintro i (e | e)
    · omega
    · omega
  case hps => rintro k h args A ⟨sz, sl, dz, dl, rfl, _⟩; rfl
  case hIb => rintro k A B ⟨Q, h⟩ hb; exact ⟨Q, h.up hb⟩
  case hIp => rintro k A l o o' ⟨Q, h⟩ hl ho hc; exact ⟨Q, h.put (by omega) ho hc⟩
  case hMp => intro k b A l o o' h hl ho hc; exact h.put (by omega) ho hc
  case hassign =>
    rintro l k A0 A args X hk ⟨Q, hP⟩ hb ⟨sz, sl, dz, dl, rfl, h7, h8⟩ hX
    have hPA := hP.up hb
    have hzA := hb.size
    have hlt := fun i hi => bookP_ok.lt hP.book i hi
    have hsz := hP.size
    clear hP
    gi_wp2
    
    have hal : Below A.heap.size A (A.alloc (.cells #[.slice sz (d k).m dz, .slice sl (d k).c dl, .int .i64 ((tM (d k).a).1 : Int), .int .i64 ((tM (d k).a).2.1 : Int), .bool (tM (d k).a).2.2, .int .i64 ((d k).s : Int)] 50)) := (Below.refl _ _).alloc (Nat.le_refl _) _
    exact hX _ _ ⟨Q, A0.heap.size, A.heap.size, sz, sl, dz, dl, hPA.up hal, hlt, hzA, hsz, rfl, at_new A [.slice sz (d k).m dz, .slice sl (d k).c dl, .int .i64 ((tM (d k).a).1 : Int), .int .i64 ((tM (d k).a).2.1 : Int), .bool (tM (d k).a).2.2, .int .i64 ((d k).s : Int)] 50, own_stay h7 hal, own_stay h8 hal⟩ hal
  case hbody =>
    rintro l k b A hk ⟨Q, h, x, sz, sl, dz, dl, hP, hQh, hhx, hqh, rfl, kx, h7, h8⟩
    have HB : Hid (Calls Tryz.prog 21 #[.pointer (some ⟨pb, 0, none⟩), .agg #[.slice sz (d k).m dz, .slice sl (d k).c dl, .int .i64 ((tM (d k).a).1 : Int), .int .i64 ((tM (d k).a).2.1 : Int), .bool (tM (d k).a).2.2, .int .i64 ((d k).s : Int)]] A fun ex w' => ex = .returned .nilIface ∧ PBdone bookP A w' (.pointer (some ⟨pb, 0, none⟩)) Q (n (k + 1)) (K (k + 1)) (G (k + 1))) := play_do hP hQh (HCh.out k hk) h7 h8
    have HPl : Hid (Play w.heap.size q pb w d n K G k Q A) := hP
    obtain ⟨z1, c1, g1⟩ := hP.b.one
    obtain ⟨z2, c2, g2⟩ := hP.e.one
    obtain ⟨z3, c30, c31, c32, c33, c34, c35, g30, g31, g32, g33, g34, g35⟩ := kx.six
    have hNN : 1 ≤ N - 1 - 1 := by omega
    clear h7 h8 hP
    gi_wp2_with (gi_at_call 21; refine (CallsIn.inRound l (HF.out _ _ _ _ _ HB.out)).mono ?_; rintro e B ⟨rfl, hbB, Q2, hk2, hQ2⟩; have k2 : At B (q + 1) [.int .i64 ((catN d k : Nat) : Int)] := HPl.out.e.but hbB (fun e => (HPl.out.apart _ e).2.2.1 rfl); have k1 : At B q [.pointer (some ⟨pb, 0, none⟩)] := HPl.out.b.but hbB (fun e => (HPl.out.apart _ e).2.1 rfl); obtain ⟨y2, d2, e2⟩ := k2.one)
    
    have hpl := HPl.out
    have hzB := hbB.size
    have hs := hpl.size
    have hsB : But (fun i => i = q + 1) B (B.setCell ⟨q + 1, 0, none⟩ (.int .i64 ((catN d (k + 1) : Nat) : Int))) := (But.refl (fun i => i = q + 1) B).setCell (Or.inl rfl) _
    have hAll : But (fun i => Q i ∨ i = q + 1) A (B.setCell ⟨q + 1, 0, none⟩ (.int .i64 ((catN d (k + 1) : Nat) : Int))) := (hbB.mono (F' := fun i => Q i ∨ i = q + 1) fun i _ e => Or.inl e).trans hsB fun i _ e => Or.inr e
    have hQ3 : ∀ i, Q2 i → w.heap.size ≤ i ∧ i ≠ q ∧ i ≠ q + 1 ∧ i ≠ q + 2 := fun i hi => by
      rcases hQ2 i hi with e | e
      · exact hpl.apart i e
      · have := hpl.le; omega
    refine ⟨keeps_but hAll ?_, ⟨Q2, ⟨k1.but hsB (by show ¬ (_ = _); omega), At.only k2, bookP_ok.stay hk2 hsB (fun i hi => (hQ3 i hi).2.2.1), hQ3, But.under hpl.below hAll ?_ (by have := hpl.le; omega), hpl.le, by have := hAll.size; omega⟩⟩, hAll.mono ?_⟩
    · rintro i (e | e) _
      · exact book_cells hpl.book e
      · rw [e]; exact hpl.e.isCells
    · rintro i (e | e)
      · exact (hpl.apart i e).1
      · have := hpl.le; omega
    · rintro i _ (e | e) (e2 | e2)
      · have := (hpl.apart i e).1; omega
      · exact (hpl.apart i e).2.2.2 e2
      · have := hpl.le; omega
      · omega
  case hdone =>
    rintro D W hD ⟨Q, hP⟩ hK
    have HPl : Hid (Play w.heap.size q pb w d n K G r Q W) := hP
    obtain ⟨z1, c1, g1⟩ := hP.b.one
    obtain ⟨z2, c2, g2⟩ := hP.e.one
    clear hP
    
    gi_wp2
    gi_region
    
    all_goals (
    gi_wp2
    have hPd := HPl.out.up (Below.drew (Below.refl W.heap.size W))
    have hKd : W.drew.heap[D]? = some (.deferred (some [])) := hK
    have hPf := hPd.put (o' := .deferred none) (by omega : w.heap.size ≤ D) hKd rfl
    refine ⟨by simp, .inl ⟨_, _, rfl, run_takeDeferred hKd, ?_⟩⟩
    exact ⟨.tuple #[.pointer (some ⟨pb, 0, none⟩), .int .i64 ((catN d r : Nat) : Int)], by simp [results, Tryz.results64, go_sem], _, _, rfl, hPf.book, fun i hi => (hPf.apart i hi).1, hPf.below⟩)
theorem lreplay (p r cap cc : Nat) (n : Nat → Nat) (K : Nat → Nat → Nat) (G : Nat → Nat → Bool) (d : Nat → Rec) (L : List Nat) (sc sa : Option Addr) (bv sv fv tv : Value) (w : World)
    (hp : At w p [.slice sc (n 0) cc, bv, .slice sa L.length cap, sv, fv, tv]) (hn0 : n 0 ≤ 12) (hG0 : G 0 = fun _ => false) (hco : w.ownsRow 0 25 3 (.slice sc (n 0) cc) (n 0) (cellsK (K 0) (n 0))) (hla : w.ownsRow 0 5 1 (.slice sa L.length cap) L.length (cellsU L)) (hL : L.length ≤ 1000000000) (hWh : Whole d r L) (hch : ∀ i, i < r → RecOk (n i) (K i) (G i) (d i) (n (i + 1)) (K (i + 1)) (G (i + 1))) :
    Calls Tryz.prog 64 #[.pointer (some ⟨p, 0, none⟩)] w fun e w' => ∃ v Q, e = .returned (.tuple #[v, .int .i64 ((catN d r : Nat) : Int)]) ∧ bookP w' v Q (n r) (K r) (G r) ∧ (∀ i, Q i → w.heap.size ≤ i) ∧ Below w.heap.size w w' :=
  (callsIn_wide (n := 5)).1 (lreplay_in Fence.wide 5 trivial trivial trivial trivial trivial trivial trivial rfl (Nat.le_refl _) (fun _ _ _ _ _ h => callsIn_wide.2 h) p r cap cc n K G d L sc sa bv sv fv tv w hp hn0 hG0 hco hla hL hWh hch)
end Go.Proofs.YtpkkclcjiobgoajGreatDoor
