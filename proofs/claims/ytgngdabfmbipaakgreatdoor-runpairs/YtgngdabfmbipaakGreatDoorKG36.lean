/- What package run tells: names of errors, numbers and spots in a row. -/
import Derived.Test.YtgngdabfmbipaakGreatDoorKRunLib
import Derived.Test.YtgngdabfmbipaakGreatDoorKG23
import Derived.Test.YtgngdabfmbipaakGreatDoorKG9
import Derived.Deep.RegionHeld3
import Derived.Test.YtgngdabfmbipaakGreatDoorKG19
import Derived.Test.YtgngdabfmbipaakGreatDoorKG0
namespace Go.Proofs.YtgngdabfmbipaakGreatDoor
open Go.RowKit Go.Sort Go.Shelf
set_option linter.unusedVariables false
set_option linter.unusedSimpArgs false
/-- The name of an error. -/
def nameB (n : Nat) : ByteArray := bif Nat.beq n 1 then rangeB else bif Nat.beq n 4 then fullB else noneB
set_option maxRecDepth 100000 in
set_option maxHeartbeats 4000000 in
theorem errno_is (n : Nat) (w : World) (hn : n = 1 ∨ n = 4 ∨ n = 5) : Calls Tryz.prog 89 #[.int .i64 (n : Int)] w fun e w' => e = .returned (.string (nameB n)) ∧ Below w.heap.size w w' := by
  rcases hn with rfl | rfl | rfl
  · go_enter Tryz.func89, Tryz.ntmps89
    go_wp2
    go_ret
    exact ⟨rfl, below_by⟩
  · go_enter Tryz.func89, Tryz.ntmps89
    go_wp2
    go_ret
    exact ⟨rfl, below_by⟩
  · go_enter Tryz.func89, Tryz.ntmps89
    go_wp2
    go_ret
    exact ⟨rfl, below_by⟩
theorem At.put1 {w : World} {b : Nat} {u v : Value} (h : At w b [u]) : At (w.setCell ⟨b, 0, none⟩ v) b [v] := by
  have a0 : w.cell? ⟨b, 0, none⟩ = some u := h.2.1 0 (by simp)
  have g0 : w.frozen? ⟨b, 0, none⟩ = false := h.2.2 0 (by simp)
  refine ⟨by simpa [World.setCell] using h.1, fun i hi => ?_, fun i hi => ?_⟩
  · rcases i with _ | i
    · show _ = some v; simp [a0, go_sem]
    · simp at hi
  · rcases i with _ | i
    · rw [World.frozen?_setCell]; exact g0
    · simp at hi
theorem as_line_at (n : Int) (b : Nat) (u : Value) (w : World) (hd : Door w) (h : At w b [u]) :
    Calls Tryz.prog 88 #[.iface 84 (.agg #[errOf n]), .iface 120 (.pointer (some ⟨b, 0, none⟩))] w fun e w' => e = .returned (.bool true) ∧ At w' b [.int .i64 n] ∧ Below b w w' := by
  have hb := h.1
  refine (as_line n ⟨b, 0, none⟩ u w hd (h.2.1 0 (by simp)) (h.2.2 0 (by simp))).mono ?_
  rintro e w' ⟨rfl, rfl⟩
  refine ⟨rfl, At.put1 (u := u) (((((h.alloc _).alloc _).alloc _).alloc _).alloc _), ?_⟩
  exact Below.setCell ((((((Below.refl b w).alloc (by omega) _).alloc (by simp; omega) _).alloc (by simp; omega) _).alloc (by simp; omega) _).alloc (by simp; omega) _) (Nat.le_refl _) _
theorem as_miss_at (p : Value) (b : Nat) (u : Value) (w : World) (hd : Door w) (h : At w b [u]) :
    Calls Tryz.prog 88 #[.iface 84 (.agg #[.iface 214 p]), .iface 120 (.pointer (some ⟨b, 0, none⟩))] w fun e w' => e = .returned (.bool false) ∧ Below w.heap.size w w' := by
  refine (as_miss p ⟨b, 0, none⟩ u w hd (h.2.1 0 (by simp)) (h.2.2 0 (by simp))).mono ?_
  rintro e w' ⟨rfl, rfl⟩
  exact ⟨rfl, ((((Below.refl _ w).alloc (Nat.le_refl _) _).alloc (by simp) _).alloc (by simp; omega) _).alloc (by simp; omega) _⟩
theorem Tryz.methodErrS (h : Value) (w : World) : (Go.method 353 214 h "Error").run Tryz.prog w = .ok (231, h) w := by kernel_rfl
set_option maxRecDepth 100000 in
set_option maxHeartbeats 4000000 in
theorem rline_no (a : Addr) (n : Nat) (w : World) (h : Lie a w) (hn : n = 1 ∨ n = 4 ∨ n = 5) : Calls Tryz.prog 48 #[.agg #[errOf (n : Int)]] w fun e w' => e = .returned (.string (nameB n)) ∧ Below w.heap.size w w' := by
  have HL : Hid (Lie a w) := h
  have HN : Hid (∀ w, Calls Tryz.prog 89 #[.int .i64 (n : Int)] w fun e w' => e = .returned (.string (nameB n)) ∧ Below w.heap.size w w') := fun w => errno_is n w hn
  clear h hn
  have m1 : True := trivial
  go_enter Tryz.func48, Tryz.ntmps48
  go_wp2_with (first | (go_at_call 88; clear m1; refine (as_line_at (n : Int) (w.heap.size + 1) (.int .i64 0) _ (HL.out.below (show Below w.heap.size w _ from below_by)).1 (at_red)).mono ?_; rintro e w1 ⟨rfl, k1, hb1⟩; have hq1 : Below w.heap.size w w1 := Below.trans (show Below w.heap.size w _ from below_by) (hb1.mono (by omega)); have hz1 := hq1.size; obtain ⟨z1, c1, f1⟩ := k1.one; clear hb1) | (go_at_call 89; refine (HN.out _).mono ?_; rintro e w2 ⟨rfl, hb2⟩; have hq2 : Below w.heap.size w w2 := (below_by); have hz2 := hq2.size; clear hb2))
  go_ret
  exact ⟨rfl, below_by⟩
set_option maxRecDepth 100000 in
set_option maxHeartbeats 4000000 in
theorem rline_bad (a : Addr) (w : World) (h : Lie a w) : Calls Tryz.prog 48 #[.agg #[badV a]] w fun e w' => e = .returned (.string badB) ∧ Below w.heap.size w w' := by
  have HL : Hid (Lie a w) := h
  have hm := Tryz.methodErrS
  have ha := cell_lt h.text
  have ht := h.text
  unfold badV
  clear h
  have m1 : True := trivial
  go_enter Tryz.func48, Tryz.ntmps48
  go_wp2_with (first | (go_at_call 88; clear m1; refine (as_miss_at _ (w.heap.size + 1) (.int .i64 0) _ (HL.out.below (show Below w.heap.size w _ from below_by)).1 (at_red)).mono ?_; rintro e w1 ⟨rfl, hb1⟩; have k0 : At w1 (w.heap.size) [.iface 214 (.pointer (some a))] := (at_red); have hq1 : Below w.heap.size w w1 := (below_by); have hz1 := hq1.size; obtain ⟨z1, c1, f1⟩ := k0.one; have ht1 := cell_stays ht hq1; clear hb1) | go_in)
  go_ret
  exact ⟨rfl, below_by⟩
end Go.Proofs.YtgngdabfmbipaakGreatDoor

/- Numbers and spots in a row, as package run tells them. -/
namespace Go.Proofs.YtgngdabfmbipaakGreatDoor
open Go.RowKit Go.Sort Go.Shelf
set_option linter.unusedVariables false
set_option linter.unusedSimpArgs false
/-- Texts, a blank between. -/
def joinB : List ByteArray → ByteArray
  | [] => ⟨#[]⟩
  | [x] => x
  | x :: y :: r => x ++ ⟨#[32]⟩ ++ joinB (y :: r)
theorem rjoin_is : ∀ l : List ByteArray, (⟨(Lib.join (l.map (·.data.toList)) [32]).toArray⟩ : ByteArray) = joinB l
  | [] => rfl
  | [x] => by
    show (⟨(Lib.join [x.data.toList] [32]).toArray⟩ : ByteArray) = x
    rw [Lib.join_one]
  | x :: y :: r => by
    have ih := rjoin_is (y :: r)
    show (⟨(Lib.join (x.data.toList :: y.data.toList :: r.map (·.data.toList)) [32]).toArray⟩ : ByteArray) = x ++ ⟨#[32]⟩ ++ joinB (y :: r)
    rw [← ih]
    show _ = x ++ ⟨#[32]⟩ ++ ⟨(Lib.join (y.data.toList :: r.map (·.data.toList)) [32]).toArray⟩
    rw [Lib.join_cons, Lib.join_cons]
    apply ByteArray.ext
    apply Array.ext'
    simp [Lib.joinTail]
theorem rjoin_more : ∀ (l : List ByteArray) (x : ByteArray), l ≠ [] → joinB (l ++ [x]) = joinB l ++ ⟨#[32]⟩ ++ x
  | [], x, h => absurd rfl h
  | [y], x, _ => rfl
  | y :: z :: r, x, _ => by
    have ih := rjoin_more (z :: r) x (by simp)
    show y ++ ⟨#[32]⟩ ++ joinB ((z :: r) ++ [x]) = y ++ ⟨#[32]⟩ ++ joinB (z :: r) ++ ⟨#[32]⟩ ++ x
    rw [ih]
    simp only [ba_assoc]
/-- So many numbers as digits. -/
def digsL (K : Nat → Nat) (n : Nat) : List ByteArray := (List.range n).map fun i => digB (K i)
theorem digsL_len (K : Nat → Nat) (n : Nat) : (digsL K n).length = n := by simp [digsL]
theorem digsL_more (K : Nat → Nat) (n : Nat) : digsL K (n + 1) = digsL K n ++ [digB (K n)] := by simp [digsL, List.range_succ]
theorem dig_sz : ∀ f n, (digF f n).length ≤ f + 1
  | 0, n => Nat.le_refl _
  | f + 1, n => by
    by_cases h : n < 10
    · rw [digF_low h]; exact Nat.succ_le_succ (Nat.zero_le _)
    · rw [digF_high h, List.length_append]; have := dig_sz f (n / 10); simp; omega
theorem digB_sz (n : Nat) : (digB n).size ≤ 100 := by
  have := dig_sz 20 n
  show (digF 20 n).toArray.size ≤ 100
  rw [List.size_toArray]; omega
theorem joinB_sz : ∀ l : List ByteArray, (∀ x, x ∈ l → x.size ≤ 100) → (joinB l).size ≤ l.length * 101
  | [], _ => Nat.zero_le _
  | [x], h => by have := h x (by simp); show x.size ≤ 1 * 101; omega
  | x :: y :: r, h => by
    have ih := joinB_sz (y :: r) fun z hz => h z (List.mem_cons_of_mem _ hz)
    have h1 := h x (by simp)
    show (x ++ ⟨#[32]⟩ ++ joinB (y :: r)).size ≤ (x :: y :: r).length * 101
    rw [ByteArray.size_append, ByteArray.size_append]
    show x.size + 1 + _ ≤ ((y :: r).length + 1) * 101
    omega
/-- Texts as cells. -/
def tL (l : List ByteArray) : List Value := l.map .string
theorem tL_more (l : List ByteArray) (x : ByteArray) : tL l ++ [.string x] = tL (l ++ [x]) := by unfold tL; rw [List.map_append]; rfl
theorem tinfo : (Tryz.prog.info? 9).map (fun i => (i.zero, i.size, i.bytes)) = some (some (.string ⟨#[]⟩), 1, 16) := by kernel_rfl
theorem own_tL {w : World} {B : Nat} {e : TypeId} {v : Value} {l : List ByteArray} (h : w.ownsRow B e 1 v l.length (tL l)) (hl : 0 < l.length) : ∃ g c, v = .slice (some ⟨g, 0, none⟩) l.length c ∧ g < w.heap.size ∧ B ≤ g ∧ l.length ≤ c ∧ ∀ (j : Nat) x, l[j]? = some x → w.cell? ⟨g, 0 + j, none⟩ = some (.string x) := by
  obtain ⟨sa, c, rfl, h1⟩ := own_slice h
  rcases h1 with h1 | ⟨g, rfl, h2, h3, h4⟩
  · omega
  · refine ⟨g, c, rfl, h4, h3, own_room h, fun j x hx => ?_⟩
    have := h.cells h2 j (.string x) (by unfold tL; rw [List.getElem?_map, hx]; rfl)
    rw [addr_add] at this
    simpa using this
set_option maxRecDepth 100000 in
set_option maxHeartbeats 4000000 in
theorem row_is (a : Addr) (b o n c : Nat) (K : Nat → Nat) (w : World) (h : Lie a w) (hr : RowI w b o n (fun i => (K i : Int))) (hn : n ≤ 12) (hK : ∀ i, i < n → K i < 1000000000000000000) :
    Calls Tryz.prog 30 #[.slice (some ⟨b, o, none⟩) n c] w fun e w' => e = .returned (.string (joinB (digsL K n))) ∧ Below w.heap.size w w' := by
  have HL : Hid (Lie a w) := h
  have HR : Hid (RowI w b o n (fun i => (K i : Int))) := hr
  have HK : Hid (∀ i, i < n → K i < 1000000000000000000) := hK
  have hb := hr.1
  clear h hr hK
  obtain ⟨i0, hi, hv0, hv1, hv2⟩ := info_parts tinfo
  go_enter Tryz.func30, Tryz.ntmps30
  go_wp2_with (at_make; refine wpList_make_own _ rfl _ _ 23 rfl w.heap.size 9 i0 (.string ⟨#[]⟩) 1 Tryz.underlying23 hi hv0 hv1 _ _ _ n rfl rfl rfl ?b2 ?b3 ?b4 ?_)
  case b2 => rw [hv2]; omega
  case b3 => unfold maxLen; omega
  case b4 => omega
  intro w2 hown0 hgrow
  have hq2 : Below w.heap.size w w2 := (Below.refl w.heap.size w).grown hgrow (by omega) (fun k hk => by cases hk)
  clear hgrow
  go_wp2_with fail
  go_loopw [3, 11] (fun tv ti wl => ∃ i : Nat, i ≤ n ∧ ti = .int .i64 i ∧ wl.ownsRow w.heap.size 9 1 tv (digsL K i).length (tL (digsL K i)) ∧ Below w.heap.size w wl) (fun _ ti _ => n - (intOf ti).toNat)
  case atStart => exact ⟨0, by omega, rfl, hown0, below_by⟩
  case round =>
    clear hown0
    obtain ⟨i, hin, rfl, hown, hqV⟩ := hrel
    rename World => wV
    have hzV := hqV.size
    by_cases hlt : i < n
    · have hlt' : (i : Int) < n := by omega
      have hbV := Nat.lt_of_lt_of_le hb hzV
      have c0 : wV.cell? ⟨b, o + i, none⟩ = some (.int .i64 (K i : Int)) := (hqV.cell (p := ⟨b, o + i, none⟩) hb).trans (HR.out.2 i hlt)
      have HIT : Hid (Calls Tryz.prog 71 #[.int .i64 (K i : Int)] wV fun e w' => e = .returned (.string (digB (K i))) ∧ Below wV.heap.size wV w') := itoa_is a (HK.out i hlt) wV (HL.out.below hqV)
      have hlen := digsL_len K i
      go_wp2_with (first | (go_at_call 71; refine HIT.out.mono ?_; rintro e w5 ⟨rfl, hb5⟩; have hq5 : Below w.heap.size w w5 := (below_by); have hz5 := hq5.size; have hown5 := own_stay hown hb5) | (at_builtin; refine wpList_append_own_at _ rfl _ _ 23 rfl w.heap.size 9 i0 (.string ⟨#[]⟩) 1 16 Tryz.underlying23 hi hv0 hv1 hv2 rfl (by decide) _ _ _ rfl (own_stay hown5 (below_by)) ⟨_, 0, none⟩ 1 1 [.string (digB (K i))] rfl rfl ?c1 ?c2 ?c3 ?c4 ?c5 ?_))
      case c1 => exact cell_one_new _ _ _
      case c2 => intro u hu; simp at hu; subst hu; rfl
      case c3 => unfold maxLen; omega
      case c4 => omega
      case c5 => simp; omega
      · intro v' w13 hown' hgrow _ hat
        have hq13 : Below w.heap.size w w13 := grown_under (B := w.heap.size) (below_by) (own_stay (by assumption) (below_by)) hgrow (by simp; omega) (Nat.le_refl _)
        rw [tL_more, ← digsL_more] at hown'
        clear hgrow hat hown hlen
        go_wp2_with fail
        go_roundw
        case rel => exact ⟨i + 1, by omega, by simp, by rw [digsL_len]; exact hown', hq13⟩
        case measure => simp [intOf]; omega
    · have hlt' : ¬ (i : Int) < n := by omega
      obtain rfl : i = n := by omega
      have HJ : Hid (∀ v, wV.ownsRow w.heap.size 9 1 v (digsL K i).length (tL (digsL K i)) → Calls Tryz.prog 72 #[v, .string ⟨#[32]⟩] wV fun e w' => e = .returned (.string (joinB (digsL K i))) ∧ Below wV.heap.size wV w') := fun v hv => by
        have hlen := digsL_len K i
        by_cases h0 : i = 0
        · obtain ⟨sa, c, rfl, _⟩ := own_slice hv
          rw [hlen, h0]
          refine (Any.strings_Join_none Tryz.lays156 Tryz.Builder_Extra_156 sa c ⟨#[32]⟩ wV).mono ?_
          rintro e w' ⟨rfl, rfl⟩
          exact ⟨rfl, Below.refl _ _⟩
        · obtain ⟨g, c, rfl, h1, h2, h3, h4⟩ := own_tL hv (by omega)
          have hs := joinB_sz (digsL K i) (fun x hx => by
            unfold digsL at hx
            obtain ⟨j, _, rfl⟩ := List.mem_map.1 hx
            exact digB_sz _)
          rw [hlen] at hs
          have hj := rjoin_is (digsL K i)
          have hsz : (Lib.join ((digsL K i).map (·.data.toList)) [32]).length ≤ 140737488355328 := by
            have : (⟨(Lib.join ((digsL K i).map (·.data.toList)) [32]).toArray⟩ : ByteArray).size ≤ 1212 := by rw [hj]; omega
            have e : (⟨(Lib.join ((digsL K i).map (·.data.toList)) [32]).toArray⟩ : ByteArray).size = (Lib.join ((digsL K i).map (·.data.toList)) [32]).length := List.size_toArray
            omega
          refine (Any.strings_Join Tryz.lays156 Tryz.Builder_Extra_156 g 0 c (digsL K i) ⟨#[32]⟩ wV h4 h1 (by omega) h3 hsz).mono ?_
          rintro e w' ⟨rfl, k⟩
          exact ⟨by rw [show (⟨#[32]⟩ : ByteArray).data.toList = [32] from rfl, hj], k⟩
      go_wp2_with (go_at_call 72; refine (HJ.out _ hown).mono ?_; rintro e w6 ⟨rfl, hb6⟩)
      go_ret
      exact ⟨rfl, below_by⟩
theorem row_one (a : Addr) (b c x : Nat) (w : World) (h : Lie a w) (hk : At w b [.int .i64 (x : Int)]) (hx : x ≤ 9999) : Calls Tryz.prog 30 #[.slice (some ⟨b, 0, none⟩) 1 c] w fun e w' => e = .returned (.string (digB x)) ∧ Below w.heap.size w w' :=
  row_is a b 0 1 c (fun _ => x) w h ⟨hk.1, fun i hi => by
    obtain rfl : i = 0 := by omega
    exact hk.2.1 0 (by simp)⟩ (by omega) (fun _ _ => by omega)
theorem row_two (a : Addr) (b c x y : Nat) (w : World) (h : Lie a w) (hk : At w b [.int .i64 (x : Int), .int .i64 (y : Int)]) (hx : x ≤ 9999) (hy : y ≤ 9999) : Calls Tryz.prog 30 #[.slice (some ⟨b, 0, none⟩) 2 c] w fun e w' => e = .returned (.string (pairB (digB x) (digB y))) ∧ Below w.heap.size w w' :=
  row_is a b 0 2 c (fun i => if i = 0 then x else y) w h ⟨hk.1, fun i hi => by
    rcases i with _ | _ | i
    · exact hk.2.1 0 (by simp)
    · exact hk.2.1 1 (by simp)
    · omega⟩ (by omega) (fun i _ => by show (if i = 0 then x else y) < _; split <;> omega)
set_option maxRecDepth 100000 in
set_option maxHeartbeats 4000000 in
theorem spot_is (a : Addr) (p : Sn) (w : World) (h : Lie a w) (h1 : p.1 ≤ 9999) (h2 : p.2.1 ≤ 9999) : Calls Tryz.prog 69 #[.agg #[.int .i64 ((p).1 : Int), .int .i64 ((p).2.1 : Int), .bool (p).2.2]] w fun e w' => e = .returned (.string (toldB p)) ∧ Below w.heap.size w w' := by
  have HL : Hid (Lie a w) := h
  obtain ⟨x, y, f⟩ := p
  dsimp only at h1 h2
  clear h
  cases f with
  | true =>
    have HT : Hid (toldB (x, y, true) = farB) := rfl
    go_enter Tryz.func69, Tryz.ntmps69
    go_wp2_with fail
    go_ret
    exact ⟨by rw [HT.out]; rfl, below_by⟩
  | false =>
    have HT : Hid (toldB (x, y, false) = pairB (digB x) (digB y)) := rfl
    have m1 : True := trivial
    go_enter Tryz.func69, Tryz.ntmps69
    go_wp2_with (go_at_call 30; clear m1; refine (row_two a _ _ x y _ (HL.out.below (show Below w.heap.size w _ from below_by)) (at_red) h1 h2).mono ?_; rintro e w1 ⟨rfl, hb1⟩)
    go_ret
    exact ⟨by rw [HT.out]; rfl, below_by⟩
set_option maxRecDepth 100000 in
set_option maxHeartbeats 4000000 in
theorem stold_ok (a : Addr) (p : Sn) (w : World) (h : Lie a w) (h1 : p.1 ≤ 9999) (h2 : p.2.1 ≤ 9999) : Calls Tryz.prog 25 #[.agg #[.int .i64 ((p).1 : Int), .int .i64 ((p).2.1 : Int), .bool (p).2.2], .nilIface] w fun e w' => e = .returned (.tuple #[.string (toldB p), .nilIface]) ∧ Below w.heap.size w w' := by
  have HL : Hid (Lie a w) := h
  have HS : Hid (∀ w, Lie a w → Calls Tryz.prog 69 #[.agg #[.int .i64 ((p).1 : Int), .int .i64 ((p).2.1 : Int), .bool (p).2.2]] w fun e w' => e = .returned (.string (toldB p)) ∧ Below w.heap.size w w') := fun w h => spot_is a p w h h1 h2
  clear h h1 h2
  generalize toldB p = T at *
  obtain ⟨x, y, f⟩ := p
  dsimp only at HS
  have m1 : True := trivial
  go_enter Tryz.func25, Tryz.ntmps25
  go_wp2_with (go_at_call 69; clear m1; refine (HS.out _ (HL.out.below (show Below w.heap.size w _ from below_by))).mono ?_; rintro e w1 ⟨rfl, hb1⟩)
  exact bodyPost_ret (v := .tuple #[.string T, .nilIface]) (by simp [results, Tryz.results25, go_sem, *]) rfl ⟨rfl, below_by⟩
set_option maxRecDepth 100000 in
set_option maxHeartbeats 4000000 in
theorem stold_no (x y : Int) (f : Bool) (n : Int) (w : World) : Calls Tryz.prog 25 #[.agg #[.int .i64 x, .int .i64 y, .bool f], errOf n] w fun e w' => e = .returned (.tuple #[.string ⟨#[]⟩, errOf n]) ∧ Below w.heap.size w w' := by
  go_enter Tryz.func25, Tryz.ntmps25
  go_wp2_with fail
  exact bodyPost_ret (v := .tuple #[.string ⟨#[]⟩, errOf n]) (by simp [results, Tryz.results25, go_sem, *]) rfl ⟨rfl, below_by⟩
end Go.Proofs.YtgngdabfmbipaakGreatDoor
