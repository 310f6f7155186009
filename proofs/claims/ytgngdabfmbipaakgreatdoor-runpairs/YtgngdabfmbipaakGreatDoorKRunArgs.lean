/- What package run reads of a line whose first word is a command's: command.read. -/
import Derived.Test.YtgngdabfmbipaakGreatDoorKRunRead
import Derived.Deep.CutRange
import Derived.Deep.CutBlock
namespace Go.Proofs.YtgngdabfmbipaakGreatDoor
open Go.RowKit Go.Sort Go.Shelf
set_option linter.unusedVariables false
set_option linter.unusedSimpArgs false
/-- What is read: so many numbers in a row of the call's own, and a text. -/
def GotN (w w' : World) (v : Value) (nb : Nat) (K : Nat → Nat) : Prop :=
  (nb = 0 ∧ v = .slice none 0 0) ∨ ∃ g c : Nat, nb ≠ 0 ∧ v = .slice (some ⟨g, 0, none⟩) nb c ∧ nb ≤ c ∧ w.heap.size ≤ g ∧ At w' g ((List.range nb).map fun j => .int .i64 (K j : Int))
theorem rpost_gen {P : Program} {f : Func} {R : Ending → World → Prop} {x : Exit} {a : Act} {w : World} (S : World → Prop) (h : S w) (k : ∀ W, S W → bodyPost P f R x a W) : bodyPost P f R x a w := k w h
theorem rput20 {w : World} {b : Nat} {u v u' : Value} (h : At w b [u, v]) : At (w.setCell ⟨b, 0, none⟩ u') b [u', v] := by
  have a0 : w.cell? ⟨b, 0, none⟩ = some u := h.2.1 0 (by simp)
  have g0 : w.frozen? ⟨b, 0, none⟩ = false := h.2.2 0 (by simp)
  have a1 : w.cell? ⟨b, 1, none⟩ = some v := h.2.1 1 (by simp)
  have g1 : w.frozen? ⟨b, 1, none⟩ = false := h.2.2 1 (by simp)
  refine ⟨by simpa [World.setCell] using h.1, fun i hi => ?_, fun i hi => ?_⟩
  · rcases i with _ | _ | i
    · show _ = some u'; simp [a0, go_sem]
    · show _ = some v; simp [a1, go_sem]
    · simp at hi; omega
  · rcases i with _ | _ | i
    · rw [World.frozen?_setCell]; exact g0
    · rw [World.frozen?_setCell]; exact g1
    · simp at hi; omega
theorem gotN_own {w X : World} {B nb : Nat} {v : Value} {K : Nat → Nat} (h : X.ownsRow B 3 1 v nb (cellsI (fun j => (K j : Int)) nb)) (hB : w.heap.size ≤ B) (h0 : nb = 0 → v = .slice none 0 0) : GotN w X v nb K := by
  by_cases hz : nb = 0
  · exact Or.inl ⟨hz, h0 hz⟩
  obtain ⟨sa, c, rfl, h1⟩ := own_slice h
  rcases h1 with h1 | ⟨g, rfl, h2, h3, h4⟩
  · exact absurd h1 hz
  · refine Or.inr ⟨g, c, hz, rfl, own_room h, by omega, ⟨h4, fun i hi => ?_, fun i _ => h.frozenAt i⟩⟩
    have hi' : i < nb := by simpa using hi
    have := h.cells h2 i (.int .i64 (K i : Int)) (cellsI_at _ hi')
    rw [addr_add] at this
    rw [this]
    simp [hi']
theorem splitn_at (a : Addr) (s : ByteArray) (n q : Nat) (k : Int) (L : List ByteArray) (w : World) (h : Lie a w) (hs : s.size ≤ 3000) (h1 : 1 ≤ n) (h2 : n ≤ 10) (hk : k = (n : Int)) (hL : splitW (n - 1) s = L) (hq : L.length = q) :
    Calls Tryz.prog 123 #[.string s, .string ⟨#[32]⟩, .int .i64 k] w fun e w' => ∃ b c : Nat, e = .returned (.slice (some ⟨b, 0, none⟩) q c) ∧ q ≤ c ∧ RowT w' b q L ∧ w.heap.size ≤ b ∧ Below w.heap.size w w' := by
  subst hk hL hq
  exact splitn_is a s n w h hs h1 h2
set_option maxRecDepth 100000 in
set_option maxHeartbeats 4000000 in
theorem read_short_t (a : Addr) (nb q : Nat) (fv : Value) (s : ByteArray) (L : List ByteArray) (w : World) (h : Lie a w) (hs : s.size ≤ 3000) (hn : nb ≤ 3) (hL : splitW (nb + 2 - 1) s = L) (hlq : L.length = q) (hl : q < nb + 2) :
    Calls Tryz.prog 87 #[.agg #[.int .i64 (nb : Int), .bool true, fv], .string s] w fun e w' => e = .returned (.tuple #[.agg #[.slice none 0 0, .string ⟨#[]⟩], badV a]) ∧ Below w.heap.size w w' := by
  have HL : Hid (Lie a w) := h
  have HSW : Hid (splitW (nb + 2 - 1) s = L) := hL
  have HQ : Hid (L.length = q) := hlq
  have hl' : (q : Int) < (nb : Int) + 2 := by omega
  clear h hL hlq
  go_enter Tryz.func87, Tryz.ntmps87
  go_upto_region 6 with (go_at_call 123; refine (splitn_at a s (nb + 2) q _ L _ (HL.out.below (show Below w.heap.size w _ from below_by)) hs (by omega) (by omega) (by omega) HSW.out HQ.out).mono ?_; rintro e w1 ⟨b, c, rfl, hbc, hrow, hwb, hb1⟩; have kc : At w1 (w.heap.size) [.int .i64 (nb : Int), .bool true, fv] := (at_red); have kr : At w1 (w.heap.size + 1) [.slice none 0 0, .string ⟨#[]⟩] := (at_red); have hq1 : Below w.heap.size w w1 := (below_by); have hz1 := hq1.size; have HROW : Hid (RowT w1 b q L) := hrow; have hgb := hrow.1; clear hrow hb1 hwb)
  obtain ⟨zc, cc0, cc1, cc2, fc0, fc1, fc2⟩ := kc.three
  obtain ⟨zr, cr0, cr1, fr0, fr1⟩ := kr.two
  have cbad := (HL.out.below hq1).bad
  have hlt := (HL.out.below hq1).lt
  go_region
  all_goals (go_wp2_with fail)
  all_goals (refine rpost_gen (fun X => At X (w.heap.size + 1) [.slice none 0 0, .string ⟨#[]⟩] ∧ Below w.heap.size w X) ⟨(At.store2 kr).drew, below_by⟩ ?_)
  all_goals (rintro X ⟨kX, hqX⟩)
  all_goals (obtain ⟨zX, cX0, cX1, fX0, fX1⟩ := kX.two)
  all_goals (exact bodyPost_ret (v := .tuple #[.agg #[.slice none 0 0, .string ⟨#[]⟩], badV a]) (by simp [results, Tryz.results87, go_sem, cX0, cX1]) rfl ⟨rfl, hqX⟩)
set_option maxRecDepth 100000 in
set_option maxHeartbeats 4000000 in
theorem read_short_n (a : Addr) (nb q : Nat) (fv : Value) (s : ByteArray) (L : List ByteArray) (w : World) (h : Lie a w) (hs : s.size ≤ 3000) (hn : nb ≤ 3) (hL : splitW (nb + 1 - 1) s = L) (hlq : L.length = q) (hl : q < nb + 1) :
    Calls Tryz.prog 87 #[.agg #[.int .i64 (nb : Int), .bool false, fv], .string s] w fun e w' => e = .returned (.tuple #[.agg #[.slice none 0 0, .string ⟨#[]⟩], badV a]) ∧ Below w.heap.size w w' := by
  have HL : Hid (Lie a w) := h
  have HSW : Hid (splitW (nb + 1 - 1) s = L) := hL
  have HQ : Hid (L.length = q) := hlq
  have hl' : (q : Int) < 1 + (nb : Int) := by omega
  clear h hL hlq
  go_enter Tryz.func87, Tryz.ntmps87
  go_upto_region 6 with (go_at_call 123; refine (splitn_at a s (nb + 1) q _ L _ (HL.out.below (show Below w.heap.size w _ from below_by)) hs (by omega) (by omega) (by omega) HSW.out HQ.out).mono ?_; rintro e w1 ⟨b, c, rfl, hbc, hrow, hwb, hb1⟩; have kc : At w1 (w.heap.size) [.int .i64 (nb : Int), .bool false, fv] := (at_red); have kr : At w1 (w.heap.size + 1) [.slice none 0 0, .string ⟨#[]⟩] := (at_red); have hq1 : Below w.heap.size w w1 := (below_by); have hz1 := hq1.size; have HROW : Hid (RowT w1 b q L) := hrow; have hgb := hrow.1; clear hrow hb1 hwb)
  obtain ⟨zc, cc0, cc1, cc2, fc0, fc1, fc2⟩ := kc.three
  obtain ⟨zr, cr0, cr1, fr0, fr1⟩ := kr.two
  have cbad := (HL.out.below hq1).bad
  have hlt := (HL.out.below hq1).lt
  go_region
  all_goals (go_wp2_with fail)
  all_goals (refine rpost_gen (fun X => At X (w.heap.size + 1) [.slice none 0 0, .string ⟨#[]⟩] ∧ Below w.heap.size w X) ⟨(At.store2 kr).drew, below_by⟩ ?_)
  all_goals (rintro X ⟨kX, hqX⟩)
  all_goals (obtain ⟨zX, cX0, cX1, fX0, fX1⟩ := kX.two)
  all_goals (exact bodyPost_ret (v := .tuple #[.agg #[.slice none 0 0, .string ⟨#[]⟩], badV a]) (by simp [results, Tryz.results87, go_sem, cX0, cX1]) rfl ⟨rfl, hqX⟩)
set_option maxRecDepth 100000 in
set_option maxHeartbeats 4000000 in
theorem read_full_t (a : Addr) (nb q J : Nat) (K : Nat → Nat) (fv : Value) (s : ByteArray) (L : List ByteArray) (T : ByteArray) (w : World) (h : Lie a w) (hs : s.size ≤ 3000) (hn : nb ≤ 3) (hL : splitW (nb + 2 - 1) s = L) (hlq : L.length = q) (hl : q = nb + 2) (hT : L.getD (nb + 1) ⟨#[]⟩ = T) (h1 : 1 ≤ nb ∨ nb = 0) (hJ : J ≤ nb) (hgood : ∀ j, j < J → numB (L.getD (1 + j) ⟨#[]⟩) = some (K j)) (hend : J = nb ∨ numB (L.getD (1 + J) ⟨#[]⟩) = none) :
    Calls Tryz.prog 87 #[.agg #[.int .i64 (nb : Int), .bool true, fv], .string s] w fun e w' => ((J < nb ∧ e = .returned (.tuple #[.agg #[.slice none 0 0, .string ⟨#[]⟩], badV a])) ∨ (J = nb ∧ ∃ v, e = .returned (.tuple #[.agg #[v, .string T], .nilIface]) ∧ GotN w w' v nb K)) ∧ Below w.heap.size w w' := by
  have HL : Hid (Lie a w) := h
  have HSW : Hid (splitW (nb + 2 - 1) s = L) := hL
  have HQ : Hid (L.length = q) := hlq
  have HG : Hid (∀ j, j < J → numB (L.getD (1 + j) ⟨#[]⟩) = some (K j)) := hgood
  have HE : Hid (J = nb ∨ numB (L.getD (1 + J) ⟨#[]⟩) = none) := hend
  have HSZ : Hid (∀ j, j < q → (L.getD j ⟨#[]⟩).size ≤ 3000) := fun j hj => by
    have := splitW_size (nb + 2 - 1) s (L.getD j ⟨#[]⟩) (by rw [hL, List.getD_eq_getElem?_getD, List.getElem?_eq_getElem (by omega)]; exact List.getElem_mem _)
    omega
  have hl' : ¬ (q : Int) < (nb : Int) + 2 := by omega
  have HTX : Hid (L.getD (nb + 1) ⟨#[]⟩ = T) := hT
  clear h hL hlq hgood hend hT
  go_enter Tryz.func87, Tryz.ntmps87
  go_upto_region 7 with (go_at_call 123; refine (splitn_at a s (nb + 2) q _ L _ (HL.out.below (show Below w.heap.size w _ from below_by)) hs (by omega) (by omega) (by omega) HSW.out HQ.out).mono ?_; rintro e w1 ⟨b, c, rfl, hbc, hrow, hwb, hb1⟩; have kc : At w1 (w.heap.size) [.int .i64 (nb : Int), .bool true, fv] := (at_red); have kr : At w1 (w.heap.size + 1) [.slice none 0 0, .string ⟨#[]⟩] := (at_red); have hq1 : Below w.heap.size w w1 := (below_by); have hz1 := hq1.size; have HROW : Hid (RowT w1 b q L) := hrow; have hgb := hrow.1; clear hrow hb1 hwb)
  obtain ⟨zc, cc0, cc1, cc2, fc0, fc1, fc2⟩ := kc.three
  obtain ⟨zr, cr0, cr1, fr0, fr1⟩ := kr.two
  have hcn : ¬ c = 1 := by omega
  have hc1 : (1 : Int) ≤ (c : Int) := by omega
  have hc2 : (1 : Int) + (nb : Int) ≤ (c : Int) := by omega
  have hc3 : (1 : Int) ≤ 1 + (nb : Int) := by omega
  go_upto_block 0 with fail
  have hsub : 1 + nb - 1 = nb := by omega
  simp only [hsub]
  obtain ⟨A, hA⟩ : ∃ A, w1.heap.size = A := ⟨_, rfl⟩
  have HA : Hid (w1.heap.size = A) := hA
  obtain ⟨i0, hi0, hv0, hv1, hv2⟩ := info_parts iinfo
  have hb2 : Below w1.heap.size w1 (w1.alloc (.cells #[.slice none 0 0, .string ⟨#[]⟩] 60)) := (Below.refl _ _).alloc (Nat.le_refl _) _
  have kA0 : At (w1.alloc (.cells #[.slice none 0 0, .string ⟨#[]⟩] 60)) w1.heap.size [.slice none 0 0, .string ⟨#[]⟩] := at_new w1 [.slice none 0 0, .string ⟨#[]⟩] 60
  have hq2 := bl_call hq1 hb2 (by omega)
  refine wp_gen (fun W => At W w1.heap.size [.slice none 0 0, .string ⟨#[]⟩] ∧ Below w1.heap.size w1 W ∧ Below w.heap.size w W ∧ w1.heap.size + 1 ≤ W.heap.size) ⟨kA0, hb2, hq2, by simp⟩ ?_
  clear kA0 hb2 hq2
  rintro W2 ⟨kA0, hb2, hq2, hz2⟩
  have HC : Hid (At w1 w.heap.size [.int .i64 (nb : Int), .bool true, fv]) := kc
  have HR : Hid (At w1 (w.heap.size + 1) [.slice none 0 0, .string ⟨#[]⟩]) := kr
  clear kc kr zc cc0 cc1 cc2 fc0 fc1 fc2 zr cr0 cr1 fr0 fr1
  simp only [hA] at kA0 hb2 hz2 ⊢
  go_wp2_with fail
  go_loopw [35] (fun ti wl => ∃ (i : Nat) (v : Value), i ≤ J ∧ (i = 0 → v = .slice none 0 0) ∧ ti = .int .i64 i ∧ At wl A [v, .string ⟨#[]⟩] ∧ wl.ownsRow (A + 1) 3 1 v i (cellsI (fun j => (K j : Int)) i) ∧ Below A w1 wl ∧ Below w.heap.size w wl ∧ A + 1 ≤ wl.heap.size) (fun ti _ => J + 1 - (intOf ti).toNat)
  case atStart => exact ⟨0, .slice none 0 0, by omega, fun _ => rfl, rfl, kA0, World.ownsRow_nil _ _ _ _, hb2, hq2, hz2⟩
  case round =>
    clear kA0 hb2 hq2 hz2
    obtain ⟨i, v, hi, hnil, rfl, kA, hown, hbV, hqV, hzA⟩ := hrel
    rename World => V
    have hzV := hqV.size
    have HAV : Hid (At V A [v, .string ⟨#[]⟩]) := kA
    have HOWN : Hid (V.ownsRow (A + 1) 3 1 v i (cellsI (fun j => (K j : Int)) i)) := hown
    have HBV : Hid (Below A w1 V) := hbV
    have HBW : Hid (Below w1.heap.size w1 V) := by unfold Hid; rw [HA.out]; exact hbV
    have hbVb : b < V.heap.size := by omega
    obtain ⟨zA, cA0, cA1, fA0, fA1⟩ := kA.two
    clear kA hown hbV
    by_cases hlt : i < J
    · have hi2 : (i : Int) < (nb : Int) := by omega
      have hnum := HG.out i hlt
      obtain ⟨hk9, hds⟩ := num_is hnum
      have c0 : V.cell? ⟨b, 1 + i, none⟩ = some (.string (digB (K i))) := by
        have := (HROW.out.below HBW.out).2 (1 + i) (by omega)
        rwa [hds] at this
      have HN : Hid (Calls Tryz.prog 124 #[.string (digB (K i))] V fun e w' => e = .returned (.tuple #[.int .i64 (K i : Int), .nilIface]) ∧ Below V.heap.size V w') := number_yes a (K i) V (HL.out.below hqV) hk9
      clear hnum hds hk9
      generalize digB (K i) = D at *
      go_wp2_with (first | (go_at_call 124; refine HN.out.mono ?_; rintro e w5 ⟨rfl, hb5⟩; have kA5 : At w5 A [v, .string ⟨#[]⟩] := HAV.out.below hb5; have own5 := own_stay HOWN.out hb5; have hq5 : Below w.heap.size w w5 := bl_call hqV hb5 hqV.size; have hz5 := hq5.size; have hzA5 : A + 1 ≤ w5.heap.size := Nat.le_trans hzA hb5.size; have hV5 : Below A w1 w5 := bl_call HBV.out hb5 (by omega); obtain ⟨zA5, cA05, cA15, fA05, fA15⟩ := kA5.two; clear hb5) | (at_builtin; refine wpList_append_own_at _ rfl _ _ 58 rfl (A + 1) 3 i0 (.int .i64 0) 1 8 Tryz.underlying58 hi0 hv0 hv1 hv2 rfl (by decide) _ _ _ rfl (own_stay own5 (below_by)) ⟨_, 0, none⟩ 1 1 [.int .i64 (K i : Int)] rfl rfl ?c1 ?c2 ?c3 ?c4 ?c5 ?_))
      case c1 => exact one_newC _ _ (by simp)
      case c2 => intro u hu; simp at hu; subst hu; rfl
      case c3 => unfold maxLen; omega
      case c4 => omega
      case c5 => simp; omega
      intro v' w13 hown' hgrow _ hat
      have kA13 : At w13 A [v, .string ⟨#[]⟩] := (kA5.alloc _).grown hgrow (apart_above own5 (by omega))
      have hq13 : Below w.heap.size w w13 := grown_under (B := A + 1) (hq5.alloc (by omega) _) (own_stay own5 ((Below.refl _ _).alloc (Nat.le_refl _) _)) hgrow (by simp; omega) (by omega)
      have hV13 : Below A w1 w13 := grown_under (B := A + 1) (hV5.alloc (by omega) _) (own_stay own5 ((Below.refl _ _).alloc (Nat.le_refl _) _)) hgrow (by simp; omega) (by omega)
      have hz13 : A + 1 ≤ w13.heap.size := by have := kA13.1; omega
      rw [← cellsI_succ (fun j => (K j : Int))] at hown'
      obtain ⟨sa', c', rfl, _⟩ := own_slice hown'
      obtain ⟨zA13, cA013, cA113, fA013, fA113⟩ := kA13.two
      clear hgrow hat cA05 cA15 fA05 fA15 cA0 cA1 fA0 fA1
      go_wp2_with fail
      go_roundw
      case rel => exact ⟨i + 1, _, by omega, fun h => absurd h (by omega), by simp, rput20 kA13, own_set hown' (apart_above hown' (by omega)) _, hV13.setCell (p := ⟨A, 0, none⟩) (Nat.le_refl _) _, hq13.setCell (p := ⟨A, 0, none⟩) (by show _ ≤ A; omega) _, by simpa [World.setCell] using hz13⟩
      case measure => simp [intOf]; omega
    · obtain rfl : i = J := by omega
      by_cases hJn : i < nb
      · have hi2 : (i : Int) < (nb : Int) := by omega
        have hnone := HE.out.resolve_left (by omega)
        have hs0 := HSZ.out (1 + i) (by omega)
        have c0 : V.cell? ⟨b, 1 + i, none⟩ = some (.string (L.getD (1 + i) ⟨#[]⟩)) := (HROW.out.below HBW.out).2 (1 + i) (by omega)
        generalize L.getD (1 + i) ⟨#[]⟩ = D at *
        have HN : Hid (Calls Tryz.prog 124 #[.string D] V fun e w' => e = .returned (.tuple #[.int .i64 0, .iface 214 (.pointer (some a))]) ∧ Below V.heap.size V w') := number_no a D V (HL.out.below hqV) hnone hs0
        have HRV : Hid (At V (w.heap.size + 1) [.slice none 0 0, .string ⟨#[]⟩]) := HR.out.below HBW.out
        clear hnone hs0 cA0 cA1 fA0 fA1
        go_wp2_with (go_at_call 124; refine HN.out.mono ?_; rintro e w5 ⟨rfl, hb5⟩; have kr5 : At w5 (w.heap.size + 1) [.slice none 0 0, .string ⟨#[]⟩] := HRV.out.below hb5; have hq5 : Below w.heap.size w w5 := bl_call hqV hb5 hqV.size; have hz5 := hq5.size; obtain ⟨zr5, cr05, cr15, fr05, fr15⟩ := kr5.two; clear hb5)
        refine rpost_gen (fun X => At X (w.heap.size + 1) [.slice none 0 0, .string ⟨#[]⟩] ∧ Below w.heap.size w X) ⟨At.store2 kr5, below_by⟩ ?_
        rintro X ⟨kX, hqX⟩
        obtain ⟨zX, cX0, cX1, fX0, fX1⟩ := kX.two
        exact bodyPost_ret (v := .tuple #[.agg #[.slice none 0 0, .string ⟨#[]⟩], .iface 214 (.pointer (some a))]) (by simp [results, Tryz.results87, go_sem, cX0, cX1]) rfl ⟨Or.inl ⟨hJn, rfl⟩, hqX⟩
      · have hi2 : ¬ (i : Int) < (nb : Int) := by omega
        have hzR : w.heap.size + 1 < A := by have := HR.out.1; rw [HA.out] at this; exact this
        have kcV := HC.out.below HBW.out
        have krV := HR.out.below HBW.out
        have HRV : Hid (At V (w.heap.size + 1) [.slice none 0 0, .string ⟨#[]⟩]) := krV
        have cT : V.cell? ⟨b, nb + 1, none⟩ = some (.string T) := by
          have := (HROW.out.below HBW.out).2 (nb + 1) (by omega)
          rwa [HTX.out] at this
        have cT2 : V.cell? ⟨b, 1 + nb, none⟩ = some (.string T) := by rw [Nat.add_comm]; exact cT
        have hix1 : (0 : Int) ≤ (nb : Int) + 1 := by omega
        have hix2 : (nb : Int) + 1 < (nb : Int) + 2 := by omega
        obtain ⟨zc, cc0, cc1, cc2, fc0, fc1, fc2⟩ := kcV.three
        obtain ⟨zr, cr0, cr1, fr0, fr1⟩ := krV.two
        obtain ⟨sa, cv, rfl, hsl⟩ := own_slice HOWN.out
        clear kcV krV hsl
        go_wp2_with fail
        refine rpost_gen (fun X => At X (w.heap.size + 1) [.slice sa i cv, .string (T)] ∧ X.ownsRow (A + 1) 3 1 (.slice sa i cv) i (cellsI (fun j => (K j : Int)) i) ∧ Below w.heap.size w X) ⟨At.store2 (HRV.out.set (by omega)), own_set (own_set (own_set HOWN.out (apart_above HOWN.out (by omega)) _) (apart_above HOWN.out (by omega)) _) (apart_above HOWN.out (by omega)) _, below_by⟩ ?_
        rintro X ⟨kX, hoX, hqX⟩
        obtain ⟨zX, cX0, cX1, fX0, fX1⟩ := kX.two
        have hJ2 : i = nb := by omega
        exact bodyPost_ret (v := .tuple #[.agg #[.slice sa i cv, .string (T)], .nilIface]) (by simp [results, Tryz.results87, go_sem, cX0, cX1]) rfl ⟨⟨hJ2, _, rfl, by rw [← hJ2]; exact gotN_own hoX (by omega) hnil⟩, hqX⟩
set_option maxRecDepth 100000 in
set_option maxHeartbeats 4000000 in
theorem read_full_n (a : Addr) (nb q J : Nat) (K : Nat → Nat) (fv : Value) (s : ByteArray) (L : List ByteArray) (T : ByteArray) (w : World) (h : Lie a w) (hs : s.size ≤ 3000) (hn : nb ≤ 3) (hL : splitW (nb + 1 - 1) s = L) (hlq : L.length = q) (hl : q = nb + 1) (hT : (⟨#[]⟩ : ByteArray) = T) (h1 : 1 ≤ nb) (hJ : J ≤ nb) (hgood : ∀ j, j < J → numB (L.getD (1 + j) ⟨#[]⟩) = some (K j)) (hend : J = nb ∨ numB (L.getD (1 + J) ⟨#[]⟩) = none) :
    Calls Tryz.prog 87 #[.agg #[.int .i64 (nb : Int), .bool false, fv], .string s] w fun e w' => ((J < nb ∧ e = .returned (.tuple #[.agg #[.slice none 0 0, .string ⟨#[]⟩], badV a])) ∨ (J = nb ∧ ∃ v, e = .returned (.tuple #[.agg #[v, .string ⟨#[]⟩], .nilIface]) ∧ GotN w w' v nb K)) ∧ Below w.heap.size w w' := by
  have HL : Hid (Lie a w) := h
  have HSW : Hid (splitW (nb + 1 - 1) s = L) := hL
  have HQ : Hid (L.length = q) := hlq
  have HG : Hid (∀ j, j < J → numB (L.getD (1 + j) ⟨#[]⟩) = some (K j)) := hgood
  have HE : Hid (J = nb ∨ numB (L.getD (1 + J) ⟨#[]⟩) = none) := hend
  have HSZ : Hid (∀ j, j < q → (L.getD j ⟨#[]⟩).size ≤ 3000) := fun j hj => by
    have := splitW_size (nb + 1 - 1) s (L.getD j ⟨#[]⟩) (by rw [hL, List.getD_eq_getElem?_getD, List.getElem?_eq_getElem (by omega)]; exact List.getElem_mem _)
    omega
  have hl' : ¬ (q : Int) < 1 + (nb : Int) := by omega
  have HTX : Hid ((⟨#[]⟩ : ByteArray) = T) := hT
  clear h hL hlq hgood hend hT
  go_enter Tryz.func87, Tryz.ntmps87
  go_upto_region 7 with (go_at_call 123; refine (splitn_at a s (nb + 1) q _ L _ (HL.out.below (show Below w.heap.size w _ from below_by)) hs (by omega) (by omega) (by omega) HSW.out HQ.out).mono ?_; rintro e w1 ⟨b, c, rfl, hbc, hrow, hwb, hb1⟩; have kc : At w1 (w.heap.size) [.int .i64 (nb : Int), .bool false, fv] := (at_red); have kr : At w1 (w.heap.size + 1) [.slice none 0 0, .string ⟨#[]⟩] := (at_red); have hq1 : Below w.heap.size w w1 := (below_by); have hz1 := hq1.size; have HROW : Hid (RowT w1 b q L) := hrow; have hgb := hrow.1; clear hrow hb1 hwb)
  obtain ⟨zc, cc0, cc1, cc2, fc0, fc1, fc2⟩ := kc.three
  obtain ⟨zr, cr0, cr1, fr0, fr1⟩ := kr.two
  have hcn : ¬ c = 1 := by omega
  have hc1 : (1 : Int) ≤ (c : Int) := by omega
  have hc2 : (1 : Int) + (nb : Int) ≤ (c : Int) := by omega
  have hc3 : (1 : Int) ≤ 1 + (nb : Int) := by omega
  go_upto_block 0 with fail
  have hsub : 1 + nb - 1 = nb := by omega
  simp only [hsub]
  obtain ⟨A, hA⟩ : ∃ A, w1.heap.size = A := ⟨_, rfl⟩
  have HA : Hid (w1.heap.size = A) := hA
  obtain ⟨i0, hi0, hv0, hv1, hv2⟩ := info_parts iinfo
  have hb2 : Below w1.heap.size w1 (w1.alloc (.cells #[.slice none 0 0, .string ⟨#[]⟩] 60)) := (Below.refl _ _).alloc (Nat.le_refl _) _
  have kA0 : At (w1.alloc (.cells #[.slice none 0 0, .string ⟨#[]⟩] 60)) w1.heap.size [.slice none 0 0, .string ⟨#[]⟩] := at_new w1 [.slice none 0 0, .string ⟨#[]⟩] 60
  have hq2 := bl_call hq1 hb2 (by omega)
  refine wp_gen (fun W => At W w1.heap.size [.slice none 0 0, .string ⟨#[]⟩] ∧ Below w1.heap.size w1 W ∧ Below w.heap.size w W ∧ w1.heap.size + 1 ≤ W.heap.size) ⟨kA0, hb2, hq2, by simp⟩ ?_
  clear kA0 hb2 hq2
  rintro W2 ⟨kA0, hb2, hq2, hz2⟩
  have HC : Hid (At w1 w.heap.size [.int .i64 (nb : Int), .bool false, fv]) := kc
  have HR : Hid (At w1 (w.heap.size + 1) [.slice none 0 0, .string ⟨#[]⟩]) := kr
  clear kc kr zc cc0 cc1 cc2 fc0 fc1 fc2 zr cr0 cr1 fr0 fr1
  simp only [hA] at kA0 hb2 hz2 ⊢
  go_wp2_with fail
  go_loopw [35] (fun ti wl => ∃ (i : Nat) (v : Value), i ≤ J ∧ (i = 0 → v = .slice none 0 0) ∧ ti = .int .i64 i ∧ At wl A [v, .string ⟨#[]⟩] ∧ wl.ownsRow (A + 1) 3 1 v i (cellsI (fun j => (K j : Int)) i) ∧ Below A w1 wl ∧ Below w.heap.size w wl ∧ A + 1 ≤ wl.heap.size) (fun ti _ => J + 1 - (intOf ti).toNat)
  case atStart => exact ⟨0, .slice none 0 0, by omega, fun _ => rfl, rfl, kA0, World.ownsRow_nil _ _ _ _, hb2, hq2, hz2⟩
  case round =>
    clear kA0 hb2 hq2 hz2
    obtain ⟨i, v, hi, hnil, rfl, kA, hown, hbV, hqV, hzA⟩ := hrel
    rename World => V
    have hzV := hqV.size
    have HAV : Hid (At V A [v, .string ⟨#[]⟩]) := kA
    have HOWN : Hid (V.ownsRow (A + 1) 3 1 v i (cellsI (fun j => (K j : Int)) i)) := hown
    have HBV : Hid (Below A w1 V) := hbV
    have HBW : Hid (Below w1.heap.size w1 V) := by unfold Hid; rw [HA.out]; exact hbV
    have hbVb : b < V.heap.size := by omega
    obtain ⟨zA, cA0, cA1, fA0, fA1⟩ := kA.two
    clear kA hown hbV
    by_cases hlt : i < J
    · have hi2 : (i : Int) < (nb : Int) := by omega
      have hnum := HG.out i hlt
      obtain ⟨hk9, hds⟩ := num_is hnum
      have c0 : V.cell? ⟨b, 1 + i, none⟩ = some (.string (digB (K i))) := by
        have := (HROW.out.below HBW.out).2 (1 + i) (by omega)
        rwa [hds] at this
      have HN : Hid (Calls Tryz.prog 124 #[.string (digB (K i))] V fun e w' => e = .returned (.tuple #[.int .i64 (K i : Int), .nilIface]) ∧ Below V.heap.size V w') := number_yes a (K i) V (HL.out.below hqV) hk9
      clear hnum hds hk9
      generalize digB (K i) = D at *
      go_wp2_with (first | (go_at_call 124; refine HN.out.mono ?_; rintro e w5 ⟨rfl, hb5⟩; have kA5 : At w5 A [v, .string ⟨#[]⟩] := HAV.out.below hb5; have own5 := own_stay HOWN.out hb5; have hq5 : Below w.heap.size w w5 := bl_call hqV hb5 hqV.size; have hz5 := hq5.size; have hzA5 : A + 1 ≤ w5.heap.size := Nat.le_trans hzA hb5.size; have hV5 : Below A w1 w5 := bl_call HBV.out hb5 (by omega); obtain ⟨zA5, cA05, cA15, fA05, fA15⟩ := kA5.two; clear hb5) | (at_builtin; refine wpList_append_own_at _ rfl _ _ 58 rfl (A + 1) 3 i0 (.int .i64 0) 1 8 Tryz.underlying58 hi0 hv0 hv1 hv2 rfl (by decide) _ _ _ rfl (own_stay own5 (below_by)) ⟨_, 0, none⟩ 1 1 [.int .i64 (K i : Int)] rfl rfl ?c1 ?c2 ?c3 ?c4 ?c5 ?_))
      case c1 => exact one_newC _ _ (by simp)
      case c2 => intro u hu; simp at hu; subst hu; rfl
      case c3 => unfold maxLen; omega
      case c4 => omega
      case c5 => simp; omega
      intro v' w13 hown' hgrow _ hat
      have kA13 : At w13 A [v, .string ⟨#[]⟩] := (kA5.alloc _).grown hgrow (apart_above own5 (by omega))
      have hq13 : Below w.heap.size w w13 := grown_under (B := A + 1) (hq5.alloc (by omega) _) (own_stay own5 ((Below.refl _ _).alloc (Nat.le_refl _) _)) hgrow (by simp; omega) (by omega)
      have hV13 : Below A w1 w13 := grown_under (B := A + 1) (hV5.alloc (by omega) _) (own_stay own5 ((Below.refl _ _).alloc (Nat.le_refl _) _)) hgrow (by simp; omega) (by omega)
      have hz13 : A + 1 ≤ w13.heap.size := by have := kA13.1; omega
      rw [← cellsI_succ (fun j => (K j : Int))] at hown'
      obtain ⟨sa', c', rfl, _⟩ := own_slice hown'
      obtain ⟨zA13, cA013, cA113, fA013, fA113⟩ := kA13.two
      clear hgrow hat cA05 cA15 fA05 fA15 cA0 cA1 fA0 fA1
      go_wp2_with fail
      go_roundw
      case rel => exact ⟨i + 1, _, by omega, fun h => absurd h (by omega), by simp, rput20 kA13, own_set hown' (apart_above hown' (by omega)) _, hV13.setCell (p := ⟨A, 0, none⟩) (Nat.le_refl _) _, hq13.setCell (p := ⟨A, 0, none⟩) (by show _ ≤ A; omega) _, by simpa [World.setCell] using hz13⟩
      case measure => simp [intOf]; omega
    · obtain rfl : i = J := by omega
      by_cases hJn : i < nb
      · have hi2 : (i : Int) < (nb : Int) := by omega
        have hnone := HE.out.resolve_left (by omega)
        have hs0 := HSZ.out (1 + i) (by omega)
        have c0 : V.cell? ⟨b, 1 + i, none⟩ = some (.string (L.getD (1 + i) ⟨#[]⟩)) := (HROW.out.below HBW.out).2 (1 + i) (by omega)
        generalize L.getD (1 + i) ⟨#[]⟩ = D at *
        have HN : Hid (Calls Tryz.prog 124 #[.string D] V fun e w' => e = .returned (.tuple #[.int .i64 0, .iface 214 (.pointer (some a))]) ∧ Below V.heap.size V w') := number_no a D V (HL.out.below hqV) hnone hs0
        have HRV : Hid (At V (w.heap.size + 1) [.slice none 0 0, .string ⟨#[]⟩]) := HR.out.below HBW.out
        clear hnone hs0 cA0 cA1 fA0 fA1
        go_wp2_with (go_at_call 124; refine HN.out.mono ?_; rintro e w5 ⟨rfl, hb5⟩; have kr5 : At w5 (w.heap.size + 1) [.slice none 0 0, .string ⟨#[]⟩] := HRV.out.below hb5; have hq5 : Below w.heap.size w w5 := bl_call hqV hb5 hqV.size; have hz5 := hq5.size; obtain ⟨zr5, cr05, cr15, fr05, fr15⟩ := kr5.two; clear hb5)
        refine rpost_gen (fun X => At X (w.heap.size + 1) [.slice none 0 0, .string ⟨#[]⟩] ∧ Below w.heap.size w X) ⟨At.store2 kr5, below_by⟩ ?_
        rintro X ⟨kX, hqX⟩
        obtain ⟨zX, cX0, cX1, fX0, fX1⟩ := kX.two
        exact bodyPost_ret (v := .tuple #[.agg #[.slice none 0 0, .string ⟨#[]⟩], .iface 214 (.pointer (some a))]) (by simp [results, Tryz.results87, go_sem, cX0, cX1]) rfl ⟨Or.inl ⟨hJn, rfl⟩, hqX⟩
      · have hi2 : ¬ (i : Int) < (nb : Int) := by omega
        have hzR : w.heap.size + 1 < A := by have := HR.out.1; rw [HA.out] at this; exact this
        have kcV := HC.out.below HBW.out
        have krV := HR.out.below HBW.out
        have HRV : Hid (At V (w.heap.size + 1) [.slice none 0 0, .string ⟨#[]⟩]) := krV
        obtain ⟨zc, cc0, cc1, cc2, fc0, fc1, fc2⟩ := kcV.three
        obtain ⟨zr, cr0, cr1, fr0, fr1⟩ := krV.two
        obtain ⟨sa, cv, rfl, hsl⟩ := own_slice HOWN.out
        clear kcV krV hsl
        go_wp2_with fail
        refine rpost_gen (fun X => At X (w.heap.size + 1) [.slice sa i cv, .string (⟨#[]⟩)] ∧ X.ownsRow (A + 1) 3 1 (.slice sa i cv) i (cellsI (fun j => (K j : Int)) i) ∧ Below w.heap.size w X) ⟨At.store2 HRV.out, own_set (own_set HOWN.out (apart_above HOWN.out (by omega)) _) (apart_above HOWN.out (by omega)) _, below_by⟩ ?_
        rintro X ⟨kX, hoX, hqX⟩
        obtain ⟨zX, cX0, cX1, fX0, fX1⟩ := kX.two
        have hJ2 : i = nb := by omega
        exact bodyPost_ret (v := .tuple #[.agg #[.slice sa i cv, .string (⟨#[]⟩)], .nilIface]) (by simp [results, Tryz.results87, go_sem, cX0, cX1]) rfl ⟨⟨hJ2, _, rfl, by rw [← hJ2]; exact gotN_own hoX (by omega) hnil⟩, hqX⟩
end Go.Proofs.YtgngdabfmbipaakGreatDoor
