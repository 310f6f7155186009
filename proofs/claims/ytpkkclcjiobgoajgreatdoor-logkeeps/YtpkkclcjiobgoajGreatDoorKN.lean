/- What the landed log is, and what package log answers, in the words of LogIs. -/
import Derived.Test.YtpkkclcjiobgoajGreatDoorKLogDo
import Derived.Test.YtpkkclcjiobgoajGreatDoorKLogCrash
import Derived.Test.YtpkkclcjiobgoajGreatDoorKH
import Derived.Test.YtpkkclcjiobgoajGreatDoorKBook
namespace Go.Proofs.YtpkkclcjiobgoajGreatDoor
open Go.RowKit Go.Sort
set_option linter.unusedVariables false
set_option linter.unusedSimpArgs false
theorem lwf_range {k : Int} (h : (Lit.int .i64 k).wf = true) : -9223372036854775808 ≤ k ∧ k < 9223372036854775808 := by
  have h2 : (decide ((-9223372036854775808 : Int) ≤ k) && decide (k ≤ 9223372036854775807)) = true := h
  rw [Bool.and_eq_true, decide_eq_true_eq, decide_eq_true_eq] at h2
  omega
theorem lastM_congr {M N : Nat → Nat} {h : Nat} : ∀ {r : Nat}, (∀ i, i ≤ r → M i = N i) → lastM M h r = lastM N h r
  | 0, _ => rfl
  | r + 1, e => by
    have e1 := e (r + 1) (Nat.le_refl _)
    have e2 := lastM_congr (h := h) (r := r) fun i hi => e i (by omega)
    by_cases hk : N (r + 1) ≤ h
    · rw [lastM_yes hk, lastM_yes (by omega)]
    · rw [lastM_no hk, lastM_no (by omega), e2]
theorem whole_take {d : Nat → Rec} {r : Nat} {L : List Nat} (h : Whole d r L) : L.take (catN d r) = catL d r := by
  obtain ⟨e, t, _, _, rfl⟩ := h
  unfold catN
  exact List.take_left
/-- How the log apart from memory and its bytes fit: its records are d. -/
structure LogFit (s : LogS) (L : List Nat) (fl : Int) (d : Nat → Rec) : Prop where
  n12 : s.n 0 ≤ 12
  g0 : s.G 0 = fun _ => false
  whole : Whole d s.r L
  len : L.length = s.all
  marks : ∀ i, i ≤ s.r → s.M i = catN d i
  chain : ∀ i, i < s.r → RecOk (s.n i) (s.K i) (s.G i) (d i) (s.n (i + 1)) (s.K (i + 1)) (s.G (i + 1))
  full : s.stop = false → L = catL d s.r
  left : s.left = bif decide (fl < 0) then none else some fl.toNat
  flw : -9223372036854775808 ≤ fl ∧ fl < 9223372036854775808
  ok : LogOk s
/-- What the landed log is. -/
def logP (W : World) (v : Value) (Q : Nat → Prop) (s : LogS) : Prop :=
  ∃ (p : Nat) (sc : Option Addr) (cc pb : Nat) (Qb : Nat → Prop) (sa : Option Addr) (cap : Nat) (L : List Nat) (fl : Int) (d : Nat → Rec), v = .pointer (some ⟨p, 0, none⟩) ∧ Q = lq p (.slice sc (s.n 0) cc) (.slice sa L.length cap) Qb ∧
    LogMem W p sc cc (s.n 0) (s.K 0) pb Qb (s.n s.r) (s.K s.r) (s.G s.r) sa cap L s.safe fl s.stop ∧ LogFit s L fl d
theorem logP_ok : PLok logP := by
  refine ⟨fun h i hi => ?_, fun h k hF => ?_, fun h => ?_⟩
  · obtain ⟨p, sc, cc, pb, Qb, sa, cap, L, fl, d, rfl, rfl, hm, hf⟩ := h
    exact hm.lt hi
  · obtain ⟨p, sc, cc, pb, Qb, sa, cap, L, fl, d, rfl, rfl, hm, hf⟩ := h
    exact ⟨p, sc, cc, pb, Qb, sa, cap, L, fl, d, rfl, rfl, hm.but k hF, hf⟩
  · obtain ⟨p, sc, cc, pb, Qb, sa, cap, L, fl, d, rfl, rfl, hm, hf⟩ := h
    exact hf.ok
theorem logP_done {w W : World} {Q : Nat → Prop} {s : LogS} {p : Nat} {sc : Option Addr} {cc pb : Nat} {Qb : Nat → Prop} {sa : Option Addr} {cap : Nat} {L : List Nat} {fl : Int} {d : Nat → Rec} (h : LW w Q W p sc cc (s.n 0) (s.K 0) pb Qb (s.n s.r) (s.K s.r) (s.G s.r) sa cap L s.safe fl s.stop) (hf : LogFit s L fl d) : PLdone logP w W (.pointer (some ⟨p, 0, none⟩)) Q s :=
  ⟨h.but, lq p (.slice sc (s.n 0) cc) (.slice sa L.length cap) Qb, ⟨p, sc, cc, pb, Qb, sa, cap, L, fl, d, rfl, rfl, h.mem, hf⟩, h.inq⟩
theorem left_zero {s : LogS} {L : List Nat} {fl : Int} {d : Nat → Rec} (hf : LogFit s L fl d) (h : s.left = some 0) : fl = 0 := by
  have := hf.left
  rw [h] at this
  by_cases h1 : fl < 0
  · rw [decide_eq_true h1] at this; cases this
  · rw [decide_eq_false h1] at this
    have h2 : (0 : Nat) = fl.toNat := by injection this
    omega
theorem left_not {s : LogS} {L : List Nat} {fl : Int} {d : Nat → Rec} (hf : LogFit s L fl d) (h : s.left ≠ some 0) : (fl == 0) = false := by
  rw [beq_eq_false_iff_ne]
  rintro rfl
  exact h (hf.left.trans rfl)
theorem left_less {s : LogS} {L : List Nat} {fl : Int} {d : Nat → Rec} (hf : LogFit s L fl d) (h : (fl == 0) = false) : lessO s.left = bif decide ((bif decide (fl > 0) then fl - 1 else fl) < 0) then none else some (bif decide (fl > 0) then fl - 1 else fl).toNat := by
  rw [hf.left]
  have h0 : fl ≠ 0 := by rwa [beq_eq_false_iff_ne] at h
  by_cases h1 : fl > 0
  · rw [decide_eq_true h1, decide_eq_false (show ¬ fl < 0 by omega)]
    simp only [cond_true, cond_false]
    rw [decide_eq_false (show ¬ fl - 1 < 0 by omega)]
    show some (fl.toNat - 1) = some (fl - 1).toNat
    congr 1
    omega
  · rw [decide_eq_false h1, decide_eq_true (show fl < 0 by omega)]
    simp only [cond_true, cond_false]
    rw [decide_eq_true (show fl < 0 by omega)]
    rfl
theorem flw_less {fl : Int} (h : -9223372036854775808 ≤ fl ∧ fl < 9223372036854775808) : -9223372036854775808 ≤ (bif decide (fl > 0) then fl - 1 else fl) ∧ (bif decide (fl > 0) then fl - 1 else fl) < 9223372036854775808 := by
  by_cases h1 : fl > 0
  · rw [decide_eq_true h1]; simp only [cond_true]; omega
  · rw [decide_eq_false h1]; simp only [cond_false]; omega
theorem fit_len {s : LogS} {L : List Nat} {fl : Int} {d : Nat → Rec} (hf : LogFit s L fl d) (hr : s.r ≤ 1000) : L.length ≤ 100000000 := by
  have h1 := (whole_len hf.whole).2
  have h2 := catN_le (k := s.r) fun i hi => (hf.chain i hi).in
  omega
/-- It stops: its bytes may be more, no more records. -/
theorem fit_halt {s : LogS} {L L' : List Nat} {fl : Int} {d : Nat → Rec} (hf : LogFit s L fl d) (hw : Whole d s.r L') (hl : s.all ≤ L'.length) (hu : L'.length ≤ s.all + 2047) (hall : s.all ≤ (s.r + 1) * 2047) : LogFit (s.halt L'.length) L' fl d :=
  ⟨hf.n12, hf.g0, hw, rfl, hf.marks, hf.chain, (fun e => by cases e), hf.left, hf.flw, ⟨hf.ok.m0, hf.ok.m1, Nat.le_trans hf.ok.m2 hl, Nat.le_trans hf.ok.m3 hl, by
    show L'.length ≤ (s.r + 1) * 1099511627776
    omega, hf.ok.m5⟩⟩
theorem fit_all {s : LogS} {L : List Nat} {fl : Int} {d : Nat → Rec} (hf : LogFit s L fl d) : s.all ≤ (s.r + 1) * 2047 := by
  have h1 := (whole_len hf.whole).2
  have h2 := catN_le (k := s.r) fun i hi => (hf.chain i hi).in
  have := hf.len
  omega
/-- A record more. -/
theorem fit_add {s : LogS} {L : List Nat} {fl fl' : Int} {d : Nat → Rec} {e : Rec} {n : Nat} {K : Nat → Nat} {G : Nat → Bool} (hf : LogFit s L fl d) (hs : s.stop = false) (he : RecOk (s.n s.r) (s.K s.r) (s.G s.r) e n K G) (hl : lessO s.left = bif decide (fl' < 0) then none else some fl'.toNat) (hw : -9223372036854775808 ≤ fl' ∧ fl' < 9223372036854775808) : LogFit (s.add (L ++ recL e).length n K G) (L ++ recL e) fl' (extN d s.r e) := by
  have hcat : ∀ i, i ≤ s.r → catL (extN d s.r e) i = catL d i := fun i hi => catL_congr fun j hj => extN_lt d e (by omega)
  have hL : L ++ recL e = catL (extN d s.r e) (s.r + 1) := by
    rw [hf.full hs]
    show _ = catL (extN d s.r e) s.r ++ recL (extN d s.r e s.r)
    rw [hcat s.r (Nat.le_refl _), extN_at]
  have hrl := recL_ge e
  have hru : (recL e).length ≤ 2047 := by have := bodyL_le he.in; rw [recL_len]; omega
  have hall := fit_all hf
  have hlen : (L ++ recL e).length = s.all + (recL e).length := by rw [List.length_append, hf.len]
  have hlt : ∀ {α : Type} (f : Nat → α) (a : α) {i : Nat}, i ≤ s.r → extN f (s.r + 1) a i = f i := fun {α} f a {i} hi => extN_lt f a (by omega)
  have hle : n ≤ 1000 := by rw [he.en]; exact he.le
  have hok := hf.ok
  refine ⟨?_, ?_, ?_, rfl, ?_, ?_, fun _ => hL, hl, hw, ⟨?_, ?_, ?_, ?_, ?_, ?_⟩⟩
  · show extN s.n (s.r + 1) n 0 ≤ 12
    rw [hlt s.n n (Nat.zero_le _)]; exact hf.n12
  · show extN s.G (s.r + 1) G 0 = _
    rw [hlt s.G G (Nat.zero_le _)]; exact hf.g0
  · show Whole _ (s.r + 1) _
    rw [hL]; exact whole_all _ _
  · intro i hi
    show extN s.M (s.r + 1) (L ++ recL e).length i = _
    by_cases h1 : i ≤ s.r
    · rw [hlt s.M _ h1, hf.marks i h1]; unfold catN; rw [hcat i h1]
    · obtain rfl : i = s.r + 1 := by have : i ≤ s.r + 1 := hi; omega
      rw [extN_at, hL]; rfl
  · intro i hi
    show RecOk (extN s.n (s.r + 1) n i) (extN s.K (s.r + 1) K i) (extN s.G (s.r + 1) G i) (extN d s.r e i) (extN s.n (s.r + 1) n (i + 1)) (extN s.K (s.r + 1) K (i + 1)) (extN s.G (s.r + 1) G (i + 1))
    have hi' : i < s.r + 1 := hi
    rw [hlt s.n n (by omega), hlt s.K K (by omega), hlt s.G G (by omega)]
    by_cases h1 : i < s.r
    · rw [extN_lt d e h1, hlt s.n n (by omega), hlt s.K K (by omega), hlt s.G G (by omega)]
      exact hf.chain i h1
    · obtain rfl : i = s.r := by omega
      rw [extN_at, extN_at, extN_at, extN_at]
      exact he
  · show extN s.M (s.r + 1) (L ++ recL e).length 0 = 0
    rw [hlt s.M _ (Nat.zero_le _)]; exact hok.m0
  · intro i hi
    show extN s.M (s.r + 1) (L ++ recL e).length i + 2 ≤ extN s.M (s.r + 1) (L ++ recL e).length (i + 1)
    have hi' : i < s.r + 1 := hi
    rw [hlt s.M _ (by omega)]
    by_cases h1 : i < s.r
    · rw [hlt s.M _ (by omega)]; exact hok.m1 i h1
    · obtain rfl : i = s.r := by omega
      rw [extN_at]
      have := hok.m2
      omega
  · show extN s.M (s.r + 1) (L ++ recL e).length (s.r + 1) ≤ (L ++ recL e).length
    rw [extN_at]; exact Nat.le_refl _
  · show s.safe ≤ (L ++ recL e).length
    have := hok.m3; omega
  · show (L ++ recL e).length ≤ (s.r + 1 + 1) * 1099511627776
    omega
  · intro i hi
    show extN s.n (s.r + 1) n i ≤ 1000
    by_cases h1 : i ≤ s.r
    · rw [hlt s.n n h1]; exact hok.m5 i h1
    · obtain rfl : i = s.r + 1 := by have : i ≤ s.r + 1 := hi; omega
      rw [extN_at]; exact hle
/-- A fault of the book's. -/
theorem ldeal_no {v : Value} {Q : Nat → Prop} {n : Nat} {K : Nat → Nat} {G : Nat → Bool} {D : DealN} {sz sl : Option Addr} {dz d : Nat} {e : Int} {n' : Nat} {K' : Nat → Nat} {G' : Nat → Bool} {W : World} (hn : n ≤ 1000) (hm : D.m ≤ 9223372036854775807) (hdz : D.m ≤ dz) (hcd : D.c ≤ d) (h0 : sl = none → d = 0) (ws : (Lit.int .i64 D.s).wf = true) (hb : bookP W v Q n K G) (hz : D.m = 0 ∨ ∃ b o : Nat, sz = some ⟨b, o, none⟩ ∧ RowI W b o D.m D.Z) (hr : D.c = 0 ∨ ∃ b o : Nat, sl = some ⟨b, o, none⟩ ∧ RowO W b o D.c D.X D.Y D.F) (h : DealIs n K G D e n' K' G') (he : (e == 0) = false) :
    Calls Tryz.prog 21 #[v, .agg #[.slice sz D.m dz, .slice sl D.c d, .int .i64 D.rx, .int .i64 D.ry, .bool D.rf, .int .i64 D.s]] W fun ex w' => ex = .returned (errOf e) ∧ Below W.heap.size W w' := by
  rcases h with ⟨q, hq, hx, rfl, rfl, rfl, rfl⟩ | ⟨J, hok, hc, hJ, ⟨hf, rfl, rfl, rfl, rfl⟩ | ⟨hf, hS, rfl, rfl, rfl, rfl⟩ | ⟨hf, hS, hR, rfl, rfl, rfl, rfl⟩ | ⟨a, s, hf, hs3, hs, r1, r2, r3, hw⟩⟩
  · exact bdo_is.1 v Q _ D.m D.c d dz sz sl _ _ D.Z D.X D.Y D.F D.rx D.ry D.s q D.rf W hn hm hdz hcd h0 hb hz hr hq hx
  · exact bdo_is.2.1 v Q _ D.m D.c d dz sz sl _ _ D.Z D.X D.Y D.F J D.rx D.ry D.s D.rf W hn hm hdz hcd h0 hb hz hr hok hc hJ hf
  · exact bdo_is.2.2.1 v Q _ D.m D.c d dz sz sl _ _ D.Z D.X D.Y D.F J D.rx D.ry D.s D.rf W hn hm hdz hcd h0 hb hz hr hok hc hJ hf ws hS
  · exact bdo_is.2.2.2.1 v Q _ D.m D.c d dz sz sl _ _ D.Z D.X D.Y D.F J D.rx D.ry D.s D.rf W hn hm hdz hcd h0 hb hz hr hok hc hJ hf hS hR
  · rw [r1, r2, r3, hs]
    rcases hw with ⟨hw, rfl, rfl, rfl, rfl⟩ | ⟨hw, rfl, rfl, rfl, rfl⟩
    · exact bdo_is.2.2.2.2.1 v Q _ D.m D.c d dz sz sl _ _ D.Z D.X D.Y D.F J a s W hn hm hdz hcd h0 hb hz hr hok hc hJ hf hs3 hw
    · cases he
/-- A deal that is done is a record. -/
theorem ldeal_rec {n : Nat} {K : Nat → Nat} {G : Nat → Bool} {D : DealN} {e : Int} {n' : Nat} {K' : Nat → Nat} {G' : Nat → Bool} (h : DealIs n K G D e n' K' G') (he : e = 0) : ∃ (J : Nat → Nat) (a s : Nat), isC D.X D.Y D.F J D.c ∧ D.s = (s : Int) ∧ D.rx = ((tM a).1 : Int) ∧ D.ry = ((tM a).2.1 : Int) ∧ D.rf = (tM a).2.2 ∧ RecOk n K G ⟨D.m, D.Z, D.c, J, a, s⟩ n' K' G' := by
  subst he
  rcases h with ⟨q, hq, hx, h1, _⟩ | ⟨J, hok, hc, hJ, ⟨hf, h1, _⟩ | ⟨hf, hS, h1, _⟩ | ⟨hf, hS, hR, h1, _⟩ | ⟨a, s, hf, hs3, hs, r1, r2, r3, hw⟩⟩
  · rw [← h1] at hx; cases hx
  · cases h1
  · cases h1
  · rw [← h1] at hR; cases hR
  · rcases hw with ⟨hw, h1, _⟩ | ⟨hw, _, e1, e2, e3⟩
    · cases h1
    · exact ⟨J, a, s, hJ, hs, r1, r2, r3, ⟨hok, hc, hf, hs3, hw, e1, e2, e3⟩⟩
/-- It is done by the book. -/
theorem ldeal_yes {v : Value} {Q : Nat → Prop} {n : Nat} {K : Nat → Nat} {G : Nat → Bool} {m c a s : Nat} {Z X Y : Nat → Int} {F : Nat → Bool} {J : Nat → Nat} {sz sl : Option Addr} {dz d : Nat} {n' : Nat} {K' : Nat → Nat} {G' : Nat → Bool} {W : World} (hn : n ≤ 1000) (hdz : m ≤ dz) (hcd : c ≤ d) (h0 : sl = none → d = 0) (hb : bookP W v Q n K G) (hz : m = 0 ∨ ∃ b o : Nat, sz = some ⟨b, o, none⟩ ∧ ¬ Q b ∧ RowI W b o m Z) (hr : c = 0 ∨ ∃ b o : Nat, sl = some ⟨b, o, none⟩ ∧ ¬ Q b ∧ RowO W b o c X Y F) (hJ : isC X Y F J c) (h : RecOk n K G ⟨m, Z, c, J, a, s⟩ n' K' G') :
    Calls Tryz.prog 21 #[v, .agg #[.slice sz m dz, .slice sl c d, .int .i64 ((tM a).1 : Int), .int .i64 ((tM a).2.1 : Int), .bool (tM a).2.2, .int .i64 (s : Int)]] W fun ex w' => ex = .returned .nilIface ∧ PBdone bookP W w' v Q n' K' G' := by
  have hm : m ≤ 1000 := h.in.m
  rw [h.en, h.ek, h.eg]
  refine bdo_is.2.2.2.2.2 v Q n m c d dz sz sl K G Z X Y F J a s W hn (by omega) hdz hcd h0 hb (hz.imp_right fun ⟨b, o, e, _, r⟩ => ⟨b, o, e, r⟩) (hr.imp_right fun ⟨b, o, e, _, r⟩ => ⟨b, o, e, r⟩) ?_ ?_ h.go h.c hJ h.le h.s h.cl
  · intro hn0 b o e
    obtain ⟨b2, o2, e2, h1, _⟩ := hz.resolve_left hn0
    rw [e2] at e
    injection e with e
    injection e with e
    exact e ▸ h1
  · intro hn0 b o e
    obtain ⟨b2, o2, e2, h1, _⟩ := hr.resolve_left hn0
    rw [e2] at e
    injection e with e
    injection e with e
    exact e ▸ h1
theorem ldo_is : LDoIs logP := by
  refine ⟨?_, ?_, ?_, ?_⟩
  · intro v Q s D sz sl dz d e n K G w hr hm hdz hcd h0 wz wx wy ws hz hc hP hD hs
    obtain ⟨p, sc, cc, pb, Qb, sa, cap, L, fl, dd, rfl, rfl, hM, hf⟩ := hP
    have hM2 := hM.start
    rw [hs] at hM2
    refine (ldo_stop p cc (s.n 0) pb (s.n s.r) cap s.safe sc sa (s.K 0) (s.K s.r) (s.G s.r) Qb L fl true D.m D.c d dz sz sl D.rx D.ry D.s D.rf w _ hM2).mono ?_
    rintro e w' ⟨rfl, h⟩
    rw [← hs] at h
    exact ⟨rfl, logP_done h hf⟩
  · intro v Q s D sz sl dz d e n K G w hr hm hdz hcd h0 wz wx wy ws hz hc hP hD hs he
    obtain ⟨p, sc, cc, pb, Qb, sa, cap, L, fl, dd, rfl, rfl, hM, hf⟩ := hP
    have hM2 := hM.start
    rw [hs] at hM2
    refine (ldo_refuse p cc (s.n 0) pb (s.n s.r) cap s.safe sc sa (s.K 0) (s.K s.r) (s.G s.r) Qb L fl false D.m D.c d dz sz sl D.rx D.ry D.s e D.rf w _ hM2 fun W hW => ?_).mono ?_
    · exact ldeal_no (hf.ok.m5 _ (Nat.le_refl _)) hm hdz hcd h0 ws (bookP_ok.stay hM.book (But.of_below (fun _ => False) hW) fun _ _ e => e) (brz_up (hz.imp_right fun ⟨b, o, e, _, r⟩ => ⟨b, o, e, r⟩) hW) (brow_up (hc.imp_right fun ⟨b, o, e, _, r⟩ => ⟨b, o, e, r⟩) hW) hD he
    · rintro e w' ⟨rfl, h⟩
      rw [← hs] at h
      exact ⟨rfl, logP_done h hf⟩
  · intro v Q s D sz sl dz d e n K G w hr hm hdz hcd h0 wz wx wy ws hz hc hP hD hs he hl
    obtain ⟨p, sc, cc, pb, Qb, sa, cap, L, fl, dd, rfl, rfl, hM, hf⟩ := hP
    obtain ⟨J, a, t, hJ, e1, e2, e3, e4, hR⟩ := ldeal_rec hD he
    obtain rfl := left_zero hf hl
    have hM2 := hM.start
    rw [hs] at hM2
    rw [e1, e2, e3, e4]
    have hLb := fit_len hf hr
    have hcat := hf.full hs
    refine (ldo_halt p cc pb (s.n s.r) cap s.safe sc sa (s.K s.r) (s.G s.r) Qb L 0 false s.r s.n s.K s.G dd D.m D.c a t d dz n sz sl D.Z J D.X D.Y D.F K G w _ hR.in hLb hz hc hJ (fun W hW => ?_) hf.n12 hf.g0 ?_ hf.chain hM2).mono ?_
    · refine ldeal_yes (hf.ok.m5 _ (Nat.le_refl _)) hdz hcd h0 (bookP_ok.stay hM.book (But.of_below (fun _ => False) hW) fun _ _ e => e) (hz.imp_right fun ⟨b, o, e, hq, r⟩ => ⟨b, o, e, fun k => hq (Or.inr (Or.inr (Or.inr k))), r.below r.1 hW⟩) (hc.imp_right fun ⟨b, o, e, hq, r⟩ => ⟨b, o, e, fun k => hq (Or.inr (Or.inr (Or.inr k))), r.below r.1 hW⟩) hJ hR
    · rw [hcat]; exact whole_half dd s.r hR.in
    · rintro e w' ⟨rfl, pv, Qv, sa', cap', h⟩
      have hh : (recL ⟨D.m, D.Z, D.c, J, a, t⟩).length ≤ 2047 := by have := bodyL_le hR.in; rw [recL_len]; omega
      have hfit := fit_halt (L' := L ++ (recL ⟨D.m, D.Z, D.c, J, a, t⟩).take ((recL ⟨D.m, D.Z, D.c, J, a, t⟩).length / 2)) hf (by rw [hcat]; exact whole_half dd s.r hR.in) (by rw [List.length_append, hf.len]; omega) (by rw [List.length_append, hf.len, List.length_take]; omega) (fit_all hf)
      exact ⟨rfl, _, by rw [← hf.len, List.length_append]; omega, logP_done h hfit⟩
  · intro v Q s D sz sl dz d e n K G w hr hm hdz hcd h0 wz wx wy ws hz hc hP hD hs he hl
    obtain ⟨p, sc, cc, pb, Qb, sa, cap, L, fl, dd, rfl, rfl, hM, hf⟩ := hP
    obtain ⟨J, a, t, hJ, e1, e2, e3, e4, hR⟩ := ldeal_rec hD he
    have hfl := left_not hf hl
    have hM2 := hM.start
    rw [hs] at hM2
    rw [e1, e2, e3, e4]
    have hLb := fit_len hf hr
    refine (ldo_done p cc (s.n 0) pb (s.n s.r) cap s.safe sc sa (s.K 0) (s.K s.r) (s.G s.r) Qb L fl false D.m D.c a t d dz n sz sl D.Z J D.X D.Y D.F K G w _ hR.in hLb hz hc hJ (fun W hW => ?_) hfl hf.flw hM2).mono ?_
    · refine ldeal_yes (hf.ok.m5 _ (Nat.le_refl _)) hdz hcd h0 (bookP_ok.stay hM.book (But.of_below (fun _ => False) hW) fun _ _ e => e) (hz.imp_right fun ⟨b, o, e, hq, r⟩ => ⟨b, o, e, fun k => hq (Or.inr (Or.inr (Or.inr k))), r.below r.1 hW⟩) (hc.imp_right fun ⟨b, o, e, hq, r⟩ => ⟨b, o, e, fun k => hq (Or.inr (Or.inr (Or.inr k))), r.below r.1 hW⟩) hJ hR
    · rintro e w' ⟨rfl, Qv, sa', cap', h⟩
      have hrl := recL_ge ⟨D.m, D.Z, D.c, J, a, t⟩
      refine ⟨rfl, _, ?_, logP_done (s := s.add (L ++ recL ⟨D.m, D.Z, D.c, J, a, t⟩).length n K G) (L := L ++ recL ⟨D.m, D.Z, D.c, J, a, t⟩) (pb := pb) (Qb := Qv) (sa := sa') (cap := cap') (cc := cc) (sc := sc) ?_ (fit_add hf hs hR (left_less hf hfl) (flw_less hf.flw))⟩
      · rw [List.length_append, hf.len]; omega
      · have q1 : (s.add (L ++ recL ⟨D.m, D.Z, D.c, J, a, t⟩).length n K G).n 0 = s.n 0 := extN_lt s.n (n := s.r + 1) n (Nat.succ_pos s.r)
        have q2 : (s.add (L ++ recL ⟨D.m, D.Z, D.c, J, a, t⟩).length n K G).K 0 = s.K 0 := extN_lt s.K (n := s.r + 1) K (Nat.succ_pos s.r)
        have q3 : (s.add (L ++ recL ⟨D.m, D.Z, D.c, J, a, t⟩).length n K G).n (s.r + 1) = n := extN_at s.n _ n
        have q4 : (s.add (L ++ recL ⟨D.m, D.Z, D.c, J, a, t⟩).length n K G).K (s.r + 1) = K := extN_at s.K _ K
        have q5 : (s.add (L ++ recL ⟨D.m, D.Z, D.c, J, a, t⟩).length n K G).G (s.r + 1) = G := extN_at s.G _ G
        rw [q1, q2]
        show LW w _ w' p sc cc (s.n 0) (s.K 0) pb Qv ((s.add (L ++ recL ⟨D.m, D.Z, D.c, J, a, t⟩).length n K G).n (s.r + 1)) ((s.add (L ++ recL ⟨D.m, D.Z, D.c, J, a, t⟩).length n K G).K (s.r + 1)) ((s.add (L ++ recL ⟨D.m, D.Z, D.c, J, a, t⟩).length n K G).G (s.r + 1)) sa' cap' (L ++ recL ⟨D.m, D.Z, D.c, J, a, t⟩) s.safe _ false
        rw [q3, q4, q5]
        exact h
theorem lsync_is : LSyncIs logP := by
  refine ⟨?_, ?_, ?_⟩
  · intro v Q s w hP hs
    obtain ⟨p, sc, cc, pb, Qb, sa, cap, L, fl, dd, rfl, rfl, hM, hf⟩ := hP
    have hM2 := hM.start
    rw [hs] at hM2
    refine (lsync_stop p cc (s.n 0) pb (s.n s.r) cap s.safe sc sa (s.K 0) (s.K s.r) (s.G s.r) Qb L fl true w w _ hM2).mono ?_
    rintro e w' ⟨rfl, h⟩
    rw [← hs] at h
    exact ⟨rfl, logP_done h hf⟩
  · intro v Q s w hP hs hl
    obtain ⟨p, sc, cc, pb, Qb, sa, cap, L, fl, dd, rfl, rfl, hM, hf⟩ := hP
    obtain rfl := left_zero hf hl
    have hM2 := hM.start
    rw [hs] at hM2
    refine (lsync_no p cc (s.n 0) pb (s.n s.r) cap s.safe sc sa (s.K 0) (s.K s.r) (s.G s.r) Qb L 0 false w w _ hM2).mono ?_
    rintro e w' ⟨rfl, h⟩
    have hfit := fit_halt (L' := L) hf hf.whole (by rw [hf.len]; exact Nat.le_refl _) (by rw [hf.len]; omega) (fit_all hf)
    rw [hf.len] at hfit
    exact ⟨rfl, logP_done h hfit⟩
  · intro v Q s w hP hs hl
    obtain ⟨p, sc, cc, pb, Qb, sa, cap, L, fl, dd, rfl, rfl, hM, hf⟩ := hP
    have hfl := left_not hf hl
    have hM2 := hM.start
    rw [hs] at hM2
    refine (lsync_yes p cc (s.n 0) pb (s.n s.r) cap s.safe sc sa (s.K 0) (s.K s.r) (s.G s.r) Qb L fl false w w _ hfl hf.flw hM2).mono ?_
    rintro e w' ⟨rfl, h⟩
    rw [← hs] at h
    have hfit : LogFit s.sync L (bif decide (fl > 0) then fl - 1 else fl) dd := ⟨hf.n12, hf.g0, hf.whole, hf.len, hf.marks, hf.chain, hf.full, left_less hf hfl, flw_less hf.flw, ⟨hf.ok.m0, hf.ok.m1, hf.ok.m2, Nat.le_refl _, hf.ok.m4, hf.ok.m5⟩⟩
    refine ⟨rfl, logP_done (s := s.sync) (L := L) (pb := pb) (Qb := Qb) (sa := sa) (cap := cap) (cc := cc) (sc := sc) ?_ hfit⟩
    show LW w _ w' p sc cc (s.n 0) (s.K 0) pb Qb (s.n s.r) (s.K s.r) (s.G s.r) sa cap L s.all _ s.stop
    rw [← hf.len]
    exact h
theorem lfail_is : LFailIs logP := by
  intro v Q s k w hP wk hs
  obtain ⟨p, sc, cc, pb, Qb, sa, cap, L, fl, dd, rfl, rfl, hM, hf⟩ := hP
  refine (lfail_at p cc (s.n 0) pb (s.n s.r) cap s.safe sc sa (s.K 0) (s.K s.r) (s.G s.r) Qb L fl s.stop k w w _ hM.start).mono ?_
  rintro e w' ⟨rfl, h⟩
  exact ⟨rfl, logP_done (s := s.fail k) h ⟨hf.n12, hf.g0, hf.whole, hf.len, hf.marks, hf.chain, hf.full, rfl, lwf_range wk, ⟨hf.ok.m0, hf.ok.m1, hf.ok.m2, hf.ok.m3, hf.ok.m4, hf.ok.m5⟩⟩⟩
theorem lbytes_is : LBytesIs logP := by
  intro v Q s w hP
  obtain ⟨p, sc, cc, pb, Qb, sa, cap, L, fl, dd, rfl, rfl, hM, hf⟩ := hP
  have h := lbytes_at p cc (s.n 0) pb (s.n s.r) cap s.safe sc sa (s.K 0) (s.K s.r) (s.G s.r) Qb L fl s.stop w hM
  rwa [hf.len] at h
theorem lsafe_is : LSafeIs logP := by
  intro v Q s w hP
  obtain ⟨p, sc, cc, pb, Qb, sa, cap, L, fl, dd, rfl, rfl, hM, hf⟩ := hP
  exact lsafe_at p cc (s.n 0) pb (s.n s.r) cap s.safe sc sa (s.K 0) (s.K s.r) (s.G s.r) Qb L fl s.stop w hM
theorem llive_is : LLiveIs logP := by
  intro v Q s w hP
  obtain ⟨p, sc, cc, pb, Qb, sa, cap, L, fl, dd, rfl, rfl, hM, hf⟩ := hP
  exact llive_at p cc (s.n 0) pb (s.n s.r) cap s.safe sc sa (s.K 0) (s.K s.r) (s.G s.r) Qb L fl s.stop w (hf.ok.m5 _ (Nat.le_refl _)) hM
theorem ltotal_is : LTotalIs logP := by
  intro v Q s w hP
  obtain ⟨p, sc, cc, pb, Qb, sa, cap, L, fl, dd, rfl, rfl, hM, hf⟩ := hP
  exact ltotal_at p cc (s.n 0) pb (s.n s.r) cap s.safe sc sa (s.K 0) (s.K s.r) (s.G s.r) Qb L fl s.stop w (hf.ok.m5 _ (Nat.le_refl _)) hM
theorem lcrash_is : LCrashIs logP := by
  intro v Q s k w hP hr wk
  obtain ⟨p, sc, cc, pb, Qb, sa, cap, L, fl, d, rfl, rfl, hM, hf⟩ := hP
  obtain ⟨r', hr'⟩ : ∃ r', lastM s.M (s.high k) s.r = r' := ⟨_, rfl⟩
  have hle : r' ≤ s.r := by rw [← hr']; exact lastM_le _ _ _
  have hin : ∀ i, i < s.r → RecIn (d i) := fun i hi => (hf.chain i hi).in
  have hcut : Whole d r' (L.take (s.high k)) := by
    rw [← hr', lastM_congr hf.marks]
    exact whole_cut hin hf.whole
  have hm : s.M r' = catN d r' := hf.marks r' hle
  have hall := catN_le (d := d) (k := r') fun i hi => hin i (by omega)
  refine (lcrash_at p cc pb (s.n s.r) cap s.safe sc sa (s.K s.r) (s.G s.r) Qb L fl s.stop s.r s.n s.K s.G d k (s.high k) r' w _ (lwf_range wk) (by rw [hf.len]; exact hf.ok.m3) (fit_len hf hr) (by rw [hf.len]; rfl) hf.n12 hf.g0 hcut (fun i hi => hf.chain i (by omega)) hM.start).mono ?_
  rintro e w' ⟨rfl, pv, Qv, h⟩
  rw [whole_take hcut] at h
  have hfit : LogFit (s.crash k) (catL d r') (-1) d := by
    unfold LogS.crash
    rw [hr']
    exact ⟨hf.n12, hf.g0, whole_all d r', hm.symm, fun i hi => hf.marks i (Nat.le_trans hi hle), fun i hi => hf.chain i (Nat.lt_of_lt_of_le hi hle), fun _ => rfl, rfl, by omega, ⟨hf.ok.m0, fun i hi => hf.ok.m1 i (Nat.lt_of_lt_of_le hi hle), Nat.le_refl _, Nat.le_refl _, by
      show s.M r' ≤ (r' + 1) * 1099511627776
      omega, fun i hi => hf.ok.m5 i (Nat.le_trans hi hle)⟩⟩
  refine ⟨rfl, logP_done (s := s.crash k) (L := catL d r') (pb := pv) (Qb := Qv) (sa := sa) (cap := cap) (cc := cc) (sc := sc) (fl := -1) ?_ hfit⟩
  unfold LogS.crash
  rw [hr']
  show LW w _ w' p sc cc (s.n 0) (s.K 0) pv Qv (s.n r') (s.K r') (s.G r') sa cap (catL d r') (s.M r') (-1) false
  rw [hm]
  exact h
theorem lnew_is : LNewIs logP := by
  refine ⟨fun sl n d X Y F q w hd h0 hr hc hq => lnew_no sl n d q w fun W hW => bnew_is.1 sl n d X Y F q W hd h0 (brow_up hr hW) hc hq, fun sl n d X Y F K w hn hd h0 hr hK => ?_⟩
  refine (lnew_ok sl n d X Y F K w hn hd h0 hr hK).mono ?_
  rintro e w' ⟨p, sc, cc, pb, Qb, rfl, hM, hQ, hB⟩
  exact ⟨_, _, rfl, ⟨p, sc, cc, pb, Qb, none, 0, [], -1, fun _ => nilR, rfl, rfl, hM, ⟨hn, rfl, whole_all _ 0, rfl, fun i hi => by obtain rfl : i = 0 := Nat.le_zero.1 hi; rfl, (fun i hi => absurd hi (Nat.not_lt_zero _)), fun _ => rfl, rfl, by omega, ⟨rfl, (fun i hi => absurd hi (Nat.not_lt_zero _)), Nat.le_refl _, Nat.le_refl _, Nat.zero_le _, fun i hi => by show n ≤ 1000; omega⟩⟩⟩, hQ, hB⟩
end Go.Proofs.YtpkkclcjiobgoajGreatDoor

/- Proved: stonelaw3.LogKeeps answers true for every list of spots, every list of deals and every three lists of numbers: behind a crash there is the book of as many deals as are whole among the bytes that are left; what stopped did nothing. No condition stands behind it but the listed variables. -/
namespace Go.Proofs.YtpkkclcjiobgoajGreatDoor
open Go.RowKit Go.Sort
set_option linter.unusedVariables false
theorem walkLogKeeps (w : World) (sl : Option Addr) (n d : Nat) (sa : Option Addr) (L ca : Nat) (sy : Option Addr) (ny cy : Nat) (sf : Option Addr) (nf cf : Nat) (sk : Option Addr) (nk ck : Nat)
    (_ : n ≤ maxLen) (uK : n = 0 ∨ ∃ (b o : Nat) (X Y : Nat → Int) (F : Nat → Bool), sl = some ⟨b, o, none⟩ ∧ RowO w b o n X Y F) (kd : n ≤ d) (nl : sl = none → d = 0) (_ : L ≤ maxLen) (uD : L = 0 ∨ ∃ (b o : Nat) (D : Nat → DealV), sa = some ⟨b, o, none⟩ ∧ RowD w b o L D)
    (_ : ny ≤ maxLen) (uy : (ny = 0 ∨ ∃ (b o : Nat) (X : Nat → Int), sy = some ⟨b, o, none⟩ ∧ RowI w b o ny X ∧ ∀ i, i < ny → (Lit.int .i64 (X i)).wf = true)) (_ : ny ≤ cy) (_ : nf ≤ maxLen) (uf : (nf = 0 ∨ ∃ (b o : Nat) (X : Nat → Int), sf = some ⟨b, o, none⟩ ∧ RowI w b o nf X ∧ ∀ i, i < nf → (Lit.int .i64 (X i)).wf = true)) (_ : nf ≤ cf) (_ : nk ≤ maxLen) (uk : (nk = 0 ∨ ∃ (b o : Nat) (X : Nat → Int), sk = some ⟨b, o, none⟩ ∧ RowI w b o nk X ∧ ∀ i, i < nk → (Lit.int .i64 (X i)).wf = true)) (_ : nk ≤ ck) (hd : Door w) :
    Calls Tryz.prog 5 #[.slice sl n d, .slice sa L ca, .slice sy ny cy, .slice sf nf cf, .slice sk nk ck] w fun e w' => e = .returned (.bool true) ∧ Below w.heap.size w w' :=
  logKeeps_by logP logP_ok bclose_is lnew_is ldo_is lsync_is lfail_is lcrash_is llive_is ltotal_is lbytes_is lsafe_is w sl n d sa L ca sy ny cy sf nf cf sk nk ck uK kd nl uD uy uf uk hd
end Go.Proofs.YtpkkclcjiobgoajGreatDoor
