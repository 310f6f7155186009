/- stonelaw3.RunAnswers answers true, by what package run is to answer. -/
import Derived.Test.YtgngdabfmbipaakGreatDoorKG33
import Derived.Test.YtgngdabfmbipaakGreatDoorKRunSize
import Derived.Test.YtgngdabfmbipaakGreatDoorKShell
namespace Go.Proofs.YtgngdabfmbipaakGreatDoor
open Go.RowKit Go.Sort
set_option linter.unusedVariables false
set_option linter.unusedSimpArgs false
theorem ex_empty {t : ByteArray} {f : Nat} (h : f ≤ t.size) : (t.extract f t.size).size = t.size - f := by rw [ByteArray.size_extract]; omega
theorem out_take {l : List ByteArray} {i : Nat} (h : i < l.length) : outB lineB (l.take (i + 1)) = outB lineB (l.take i) ++ lineB l[i] ++ ⟨#[10]⟩ := by
  rw [List.take_succ_eq_append_getElem h, outB_append]
  show _ ++ (lineB l[i] ++ ⟨#[10]⟩ ++ ⟨#[]⟩) = _
  rw [ba_nil, ba_assoc]
theorem own_strs {w : World} {B : Nat} {e : TypeId} {v : Value} {l : List ByteArray} (h : w.ownsRow B e 1 v l.length (zL l)) (hl : 0 < l.length) : ∃ g c, v = .slice (some ⟨g, 0, none⟩) l.length c ∧ g < w.heap.size ∧ B ≤ g ∧ l.length ≤ c ∧ ∀ i, i < l.length → w.cell? ⟨g, i, none⟩ = some (.string (l.getD i ⟨#[]⟩)) := by
  obtain ⟨sa, c, rfl, h1⟩ := own_slice h
  rcases h1 with h1 | ⟨g, rfl, h2, h3, h4⟩
  · omega
  · refine ⟨g, c, rfl, h4, h3, own_room h, fun i hi => ?_⟩
    have := h.cells h2 i (.string (l.getD i ⟨#[]⟩)) (by unfold zL; rw [List.getElem?_map, List.getElem?_eq_getElem hi, List.getD_eq_getElem?_getD, List.getElem?_eq_getElem hi]; rfl)
    rw [addr_add] at this
    exact this
theorem cutS_mem {t : ByteArray} {c : Nat} : ∀ {i : Nat} {x : ByteArray}, x ∈ (cutS t c i).1 → x.size ≤ t.size
  | 0, x, h => by cases h
  | i + 1, x, h => by
    by_cases e : byN t i = c
    · rw [cutS_yes e] at h
      rcases List.mem_append.1 h with h | h
      · exact cutS_mem h
      · rw [List.mem_singleton.1 h, ByteArray.size_extract]; omega
    · rw [cutS_no e] at h
      exact cutS_mem h
theorem cutB_mem {t : ByteArray} {c : Nat} {x : ByteArray} (h : x ∈ cutB t c) : x.size ≤ t.size := by
  unfold cutB at h
  rcases List.mem_append.1 h with h | h
  · exact cutS_mem h
  · rw [List.mem_singleton.1 h, ByteArray.size_extract]; omega
theorem lines_mem {t x : ByteArray} (h : x ∈ linesB t) : x.size ≤ t.size := by
  unfold linesB at h
  cases hd : decide ((cutS t 10 t.size).2 < t.size) with
  | true => rw [hd, cond_true] at h; exact cutB_mem h
  | false => rw [hd, cond_false] at h; exact cutS_mem h
theorem getD_mem {l : List ByteArray} {i : Nat} (h : i < l.length) : l.getD i ⟨#[]⟩ ∈ l := by
  rw [List.getD_eq_getElem?_getD, List.getElem?_eq_getElem h]; exact List.getElem_mem h
theorem out_more {l : List ByteArray} {i : Nat} (h : i < l.length) : outB lineB (l.take (i + 1)) = outB lineB (l.take i) ++ lineB (l.getD i ⟨#[]⟩) ++ ⟨#[10]⟩ := by
  rw [List.getD_eq_getElem?_getD, List.getElem?_eq_getElem h]; exact out_take h
theorem getD_front {l r : List ByteArray} {i : Nat} (h : i < l.length) : (l ++ r).getD i ⟨#[]⟩ = l.getD i ⟨#[]⟩ := by
  rw [List.getD_eq_getElem?_getD, List.getD_eq_getElem?_getD, List.getElem?_append_left h]
theorem getD_last (l : List ByteArray) (x : ByteArray) : (l ++ [x]).getD l.length ⟨#[]⟩ = x := by
  rw [List.getD_eq_getElem?_getD, List.getElem?_append_right (Nat.le_refl _), Nat.sub_self]; rfl
set_option maxRecDepth 100000 in
set_option maxHeartbeats 8000000 in
theorem runAnswers_by (hI : RunIs) (a : Addr) (w : World) (hL : Lie a w) (t : ByteArray) (ht : t.size ≤ 9223372036854775807) : Calls Tryz.prog 3 #[.string t] w fun e w' => e = .returned (.bool true) ∧ Below w.heap.size w w' := by
  have HLI : Hid (Lie a w) := hL
  clear hL
  by_cases h3 : 3000 < t.size
  · have h3' : (t.size : Int) > 3000 := by omega
    have HR : Hid (∀ w, Lie a w → Calls Tryz.prog 6 #[.string t] w fun e w' => e = .returned (.string ⟨#[116, 111, 111, 32, 108, 111, 110, 103, 10]⟩) ∧ Below w.heap.size w w') := fun w hw => by
      have := hI t ht a w hw
      unfold runB at this
      rwa [decide_eq_true h3, cond_true] at this
    have m1 : True := trivial
    go_enter Tryz.func3, Tryz.ntmps3
    go_wp2_with (go_at_call 6; clear m1; refine (HR.out _ (HLI.out.below (show Below w.heap.size w _ from below_by))).mono ?_; rintro e w1 ⟨rfl, hb1⟩; have hqw1 : Below w.heap.size w w1 := (below_by); have hzw1 := hqw1.size; clear hb1)
    go_ret
    exact ⟨rfl, below_by⟩
  have h3' : ¬ (t.size : Int) > 3000 := by omega
  obtain ⟨LS, hLS⟩ : ∃ LS, linesB t = LS := ⟨_, rfl⟩
  obtain ⟨O, hO⟩ : ∃ O, (cutS t 10 t.size).1 = O := ⟨_, rfl⟩
  obtain ⟨f, hf⟩ : ∃ f, (cutS t 10 t.size).2 = f := ⟨_, rfl⟩
  have hf2 : f ≤ t.size := by rw [← hf]; exact cutS_le t 10 t.size
  have hO2 : O.length ≤ t.size := by rw [← hO]; exact cutS_len t 10 t.size
  have HCB : Hid (cutB t 10 = O ++ [t.extract f t.size]) := by unfold Hid cutB; rw [hO, hf]
  have HLS : Hid (LS = bif decide (f < t.size) then O ++ [t.extract f t.size] else O) := by unfold Hid; rw [← hLS]; unfold linesB cutB; rw [hO, hf]
  have HMEM : Hid (∀ x, x ∈ LS → x.size ≤ 3000) := fun x hx => by have := lines_mem (t := t) (x := x) (by rw [hLS]; exact hx); omega
  obtain ⟨G, hG⟩ : ∃ G, outB lineB LS = G := ⟨_, rfl⟩
  have HG : Hid (outB lineB LS = G) := hG
  have HR : Hid (∀ w, Lie a w → Calls Tryz.prog 6 #[.string t] w fun e w' => e = .returned (.string G) ∧ Below w.heap.size w w') := fun w hw => by
    have := hI t ht a w hw
    unfold runB at this
    rw [decide_eq_false h3, cond_false, hLS, hG] at this
    exact this
  clear hLS hO hf hG
  have m1 : True := trivial; have m2 : True := trivial
  go_enter Tryz.func3, Tryz.ntmps3
  go_upto_region 5 with (first | (go_at_call 6; clear m1; refine (HR.out _ (HLI.out.below (show Below w.heap.size w _ from below_by))).mono ?_; rintro e w1 ⟨rfl, hb1⟩; have hqw1 : Below w.heap.size w w1 := (below_by); have hzw1 := hqw1.size; clear hb1) | (go_at_call 7; clear m2; refine (rcut t 10 _ (by omega) (by omega)).mono ?_; rintro e w2 ⟨v2, rfl, ho2, hb2⟩; rw [HCB.out] at ho2; obtain ⟨g, cc, rfl, hg, _, hcc, hcell⟩ := own_strs ho2 (by rw [List.length_append]; exact Nat.succ_pos _); have hrow2 : RowT w2 g (O ++ [t.extract f t.size]).length (O ++ [t.extract f t.size]) := ⟨hg, hcell⟩; have hqw2 : Below w.heap.size w w2 := (below_by); have hzw2 := hqw2.size; clear hb2 ho2 hcell hg))
  have HLEN : Hid ((O ++ [t.extract f t.size]).length = O.length + 1) := by unfold Hid; rw [List.length_append]; rfl
  rw [HLEN.out] at hrow2 hcc
  have HROW2 : Hid (RowT w2 g (O.length + 1) (O ++ [t.extract f t.size])) := hrow2
  have hc0 : w2.cell? ⟨g, O.length, none⟩ = some (.string (t.extract f t.size)) := by
    have := hrow2.2 O.length (by omega)
    rwa [getD_last] at this
  have hgw := hrow2.1
  have hes := ex_empty hf2
  clear hrow2
  go_cut [23] from 17 to 22 (fun t23 wx => t23 = .bool (!decide (f < t.size)) ∧ Below w2.heap.size w2 wx ∧ Below w.heap.size w wx)
  case first =>
    by_cases h : f < t.size
    · have HD : Hid ((!decide (f < t.size)) = false) := by unfold Hid; rw [decide_eq_true h]; rfl
      have hne := list_ne (s := t.extract f t.size) (by omega)
      have hne2 : (t.extract f t.size).toList.isEmpty = false := by simpa using hne
      generalize t.extract f t.size = E at *
      go_wp2_with fail
      go_meet
      case rel => exact ⟨by rw [HD.out], below_by, below_by⟩
    · have HD : Hid ((!decide (f < t.size)) = true) := by unfold Hid; rw [decide_eq_false h]; rfl
      have hem := bytes_empty (s := t.extract f t.size) (by omega)
      rw [hem] at hc0
      go_wp2_with fail
      go_meet
      case rel => exact ⟨by rw [HD.out], below_by, below_by⟩
  case rest =>
  obtain ⟨rfl, hb3, hqT⟩ := hcut
  rename World => T
  have hzT := hqT.size
  have HROW3 : Hid (RowT T g (O.length + 1) (O ++ [t.extract f t.size])) := HROW2.out.below hb3
  clear hc0 hgw hb3 HROW2 hqw2 hzw2
  go_upto_if 23 with fail
  go_cut [4] from 17 to 28 (fun t4 wx => ∃ g c : Nat, t4 = .slice (some ⟨g, 0, none⟩) LS.length c ∧ RowT wx g LS.length LS ∧ Below w.heap.size w wx)
  case first =>
    cases hd : decide (f < t.size) with
    | true =>
      have HL : Hid (LS = O ++ [t.extract f t.size]) := by unfold Hid; rw [HLS.out, hd]; rfl
      have hN : Hid (LS.length = O.length + 1) := by unfold Hid; rw [HL.out]; exact HLEN.out
      go_wp2_with fail
      go_meet
      case rel => exact ⟨g, cc, by rw [hN.out], by rw [hN.out, HL.out]; exact HROW3.out, below_by⟩
    | false =>
      have HL : Hid (LS = O) := by unfold Hid; rw [HLS.out, hd]; rfl
      have hcz : cc ≠ 0 := by omega
      have hcz2 : (O.length : Int) ≤ (cc : Int) := by omega
      go_wp2_with fail
      go_meet
      case rel => exact ⟨g, cc, by rw [HL.out], by rw [HL.out]; exact ⟨HROW3.out.1, fun i hi => by rw [← getD_front (r := [t.extract f t.size]) hi]; exact HROW3.out.2 i (by omega)⟩, below_by⟩
  case rest =>
    clear hqT HROW3
    obtain ⟨g, c, rfl, hrow, hqU⟩ := hcut
    rename World => U
    have hzU := hqU.size
    have HROW : Hid (RowT U g LS.length LS) := hrow
    clear hrow
    have hN : LS.length ≤ 3001 := by
      rw [HLS.out]
      cases decide (f < t.size) with
      | true => rw [cond_true, List.length_append]; simp; omega
      | false => rw [cond_false]; omega
    go_wp2_with fail
    go_loopw [5, 6] (fun tq ti wl => ∃ i : Nat, i ≤ LS.length ∧ ti = .int .i64 i ∧ tq = .string (outB lineB (LS.take i)) ∧ Below U.heap.size U wl ∧ Below w.heap.size w wl) (fun _ ti _ => LS.length - (intOf ti).toNat)
    case atStart => exact ⟨0, by omega, rfl, rfl, below_by, below_by⟩
    case round =>
      obtain ⟨i, hi, rfl, rfl, hUV, hqV⟩ := hrel
      rename World => V
      have hzV := hqV.size
      by_cases hlt : i < LS.length
      · have hlt' : (i : Int) < LS.length := by omega
        have hr := HROW.out.below hUV
        have hcl := hr.2 i hlt
        have hgV := hr.1
        have HM : Hid (LS.getD i ⟨#[]⟩ ∈ LS) := getD_mem hlt
        have HLN : Hid (∀ w, Calls Tryz.prog 8 #[.string (LS.getD i ⟨#[]⟩)] w fun e w' => e = .returned (.string (lineB (LS.getD i ⟨#[]⟩))) ∧ Below w.heap.size w w') := fun w => rline _ w (HMEM.out _ HM.out)
        have s1 := line_size (LS.getD i ⟨#[]⟩)
        have s2 := out_size (LS.take i)
        have s3 : (LS.take i).length ≤ 3001 := by rw [List.length_take]; omega
        have s4 : (outB lineB (LS.take i)).size ≤ 6005001 := by omega
        have HO : Hid (outB lineB (LS.take (i + 1)) = outB lineB (LS.take i) ++ lineB (LS.getD i ⟨#[]⟩) ++ ⟨#[10]⟩) := out_more hlt
        clear hr s2 s3
        generalize outB lineB (LS.take i) = Q at *
        generalize lineB (LS.getD i ⟨#[]⟩) = Y at *
        generalize LS.getD i ⟨#[]⟩ = P at *
        go_wp2_with (go_at_call 8; refine (HLN.out _).mono ?_; rintro e v1 ⟨rfl, hb1⟩; have hUv1 : Below U.heap.size U v1 := bl_call hUV hb1 hUV.size; have hqv1 : Below w.heap.size w v1 := (below_by); have hzv1 := hqv1.size; clear hb1)
        go_roundw
        case rel => exact ⟨i + 1, by omega, by simp, by rw [HO.out], hUv1, hqv1⟩
        case measure => simp [intOf]; omega
      · have hlt' : ¬ (i : Int) < LS.length := by omega
        have HX : Hid (outB lineB (LS.take i) = G) := by unfold Hid; rw [List.take_of_length_le (by omega)]; exact HG.out
        rw [HX.out]
        go_wp2_with fail
        go_ret
        exact ⟨rfl, below_by⟩
end Go.Proofs.YtgngdabfmbipaakGreatDoor
