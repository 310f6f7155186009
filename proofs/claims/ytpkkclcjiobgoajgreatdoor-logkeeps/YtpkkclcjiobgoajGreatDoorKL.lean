/- What package log reads back: read, the deal of a record's body. -/
import Derived.Test.YtpkkclcjiobgoajGreatDoorKJ
import Derived.Test.YtpkkclcjiobgoajGreatDoorKE
import Derived.Test.YtpkkclcjiobgoajGreatDoorKBookB
import Derived.Test.YtpkkclcjiobgoajGreatDoorKC
import Derived.RangeFuncWrites
import Derived.RangeFuncBox
import Derived.RangeFuncLeaves
namespace Go.Proofs.YtpkkclcjiobgoajGreatDoor
open Go.RowKit Go.Sort
set_option linter.unusedVariables false
set_option linter.unusedSimpArgs false
theorem At.at {w : World} {b i : Nat} {u : Value} {vs : List Value} (h : At w b vs) (hi : i < vs.length) : At (w.setCell ⟨b, i, none⟩ u) b (vs.set i u) := by
  refine ⟨by simpa [World.setCell] using h.1, fun j hj => ?_, fun j hj => ?_⟩
  · rw [List.length_set] at hj
    have a0 := h.2.1 j hj
    rw [List.getElem?_eq_getElem hj] at a0
    rw [List.getElem?_set]
    by_cases e : i = j
    · subst e
      rw [if_pos rfl, if_pos hj]
      simp [a0, go_sem]
    · rw [if_neg e, List.getElem?_eq_getElem hj]
      simp [a0, go_sem, e]
      try (intro e2; exact absurd e2.symm e)
  · rw [World.frozen?_setCell]; exact h.2.2 j (by simpa using hj)
theorem inb_gen {i : Nat} {Q : Exit → Act → World → Prop} {x : Exit} {a : Act} {w : World} (S : World → Prop) (h : S w) (k : ∀ W, S W → Exit.inBlock i Q x a W) : Exit.inBlock i Q x a w := k w h
theorem lriinfo : (Tryz.prog.info? 3).map (fun i => (i.zero, i.size, i.bytes)) = some (some (.int .i64 0), 1, 8) := by kernel_rfl
theorem lrsinfo : (Tryz.prog.info? 25).map (fun i => (i.zero, i.size, i.bytes)) = some (some (.agg #[.int .i64 0, .int .i64 0, .bool false]), 3, 24) := by kernel_rfl
/-- A deal that is read: its reader, its own block, what is answered. -/
structure Rd (IT ET : TypeId) (w : World) (Z : Nat → Int) (J : Nat → Nat) (V : World) (v u : Value) (k j : Nat) (L : List Nat) : Prop where
  reads : Reads w.heap.size V (w.heap.size + 1) L
  res : At V w.heap.size [.slice none 0 0, .slice none 0 0, .int .i64 0, .int .i64 0, .bool false, .int .i64 0]
  box : At V (w.heap.size + 2) [v, u, .int .i64 0, .int .i64 0, .bool false, .int .i64 0]
  ints : V.ownsRow (w.heap.size + 3) IT 1 v k (cellsI Z k)
  spots : V.ownsRow (w.heap.size + 3) ET 3 u j (cellsK J j)
  ap : ∀ g, v.ownBlock = some g → u.ownBlock ≠ some g
  below : Below w.heap.size w V
section
variable {IT ET : TypeId} {w V C w7 : World} {Z : Nat → Int} {J : Nat → Nat} {v u v7 : Value} {k j k' j' : Nat} {L L' : List Nat} {ob : Obj} {g7 : Nat}
theorem Rd.turn (h : Rd IT ET w Z J V v u k j L) (e : L = L') : Rd IT ET w Z J V v u k j L' := e ▸ h
/-- A reader's step. -/
theorem Rd.read (h : Rd IT ET w Z J V v u k j L) (hb : But (fun i => i = w.heap.size + 1) V C) (hR : Reads w.heap.size C (w.heap.size + 1) L') : Rd IT ET w Z J C v u k j L' :=
  ⟨hR, h.res.but hb (by show ¬ (_ = _); omega), h.box.but hb (by show ¬ (_ = _); omega), own_but h.ints hb (fun g hg => by have := (h.ints.lt g hg).1; show ¬ (_ = _); omega), own_but h.spots hb (fun g hg => by have := (h.spots.lt g hg).1; show ¬ (_ = _); omega), h.ap, But.under h.below hb (by rintro i rfl; omega) (by have := h.below.size; omega)⟩
theorem Rd.drew (h : Rd IT ET w Z J V v u k j L) : Rd IT ET w Z J V.drew v u k j L :=
  ⟨h.reads.below (Below.drew (Below.refl _ _)), h.res.drew, h.box.drew, own_drew h.ints, own_drew h.spots, h.ap, h.below.trans ((Below.drew (Below.refl V.heap.size V)).mono h.below.size)⟩
theorem Rd.alloc (h : Rd IT ET w Z J V v u k j L) (ob : Obj) : Rd IT ET w Z J (V.alloc ob) v u k j L :=
  have hb : Below V.heap.size V (V.alloc ob) := (Below.refl _ _).alloc (Nat.le_refl _) ob
  ⟨h.reads.below hb, h.res.alloc ob, h.box.alloc ob, own_stay h.ints hb, own_stay h.spots hb, h.ap, h.below.trans (hb.mono h.below.size)⟩
/-- The one row grows, and is stored. -/
theorem Rd.one (h : Rd IT ET w Z J C v u k j L) (hg : C.grownBy w7 v.ownBlock) (ho : w7.ownsRow (w.heap.size + 3) IT 1 v7 k' (cellsI Z k')) (hat : v7.ownBlock = v.ownBlock ∨ v7.ownBlock = some C.heap.size) : Rd IT ET w Z J (w7.setCell ⟨w.heap.size + 2, 0, none⟩ v7) v7 u k' j L := by
  have hb7 : But (fun i => v.ownBlock = some i) C w7 := (But.refl _ C).grown hg fun i hi => Or.inl hi
  have hv : ∀ i, v.ownBlock = some i → w.heap.size + 3 ≤ i := fun i hi => (h.ints.lt i hi).1
  have hb8 : But (fun i => v.ownBlock = some i ∨ i = w.heap.size + 2) C (w7.setCell ⟨w.heap.size + 2, 0, none⟩ v7) := But.setCell (F := fun i => v.ownBlock = some i ∨ i = w.heap.size + 2) (hb7.mono fun i _ hi => Or.inl hi) (Or.inl (Or.inr rfl)) v7
  have hbs : But (fun i => i = w.heap.size + 2) w7 (w7.setCell ⟨w.heap.size + 2, 0, none⟩ v7) := (But.refl (fun i => i = w.heap.size + 2) w7).setCell (Or.inl rfl) v7
  have hu : ∀ i, u.ownBlock = some i → ¬ (v.ownBlock = some i ∨ i = w.heap.size + 2) := fun i hi => by
    rintro (e | e)
    · exact h.ap i e hi
    · have := (h.spots.lt i hi).1; omega
  refine ⟨h.reads.but hb8 ?_, h.res.but hb8 ?_, ?_, own_but ho hbs ?_, own_but h.spots hb8 hu, ?_, But.under h.below hb8 ?_ h.below.size⟩
  · rintro i (e | e)
    · have := hv i e; omega
    · omega
  · rintro (e | e)
    · have := hv _ e; omega
    · omega
  · exact (h.box.but hb7 fun e => by have := hv _ e; omega).at (by simp)
  · intro g hg; have := (ho.lt g hg).1; show ¬ (_ = _); omega
  · intro g hg hu2
    rcases hat with e | e
    · exact h.ap g (e ▸ hg) hu2
    · rw [e] at hg; injection hg with hg; have := (h.spots.lt g hu2).2; omega
  · rintro i (e | e)
    · have := hv i e; omega
    · omega
/-- The other one. -/
theorem Rd.two (h : Rd IT ET w Z J C v u k j L) (hg : C.grownBy w7 u.ownBlock) (ho : w7.ownsRow (w.heap.size + 3) ET 3 v7 j' (cellsK J j')) (hat : v7.ownBlock = u.ownBlock ∨ v7.ownBlock = some C.heap.size) : Rd IT ET w Z J (w7.setCell ⟨w.heap.size + 2, 1, none⟩ v7) v v7 k j' L := by
  have hb7 : But (fun i => u.ownBlock = some i) C w7 := (But.refl _ C).grown hg fun i hi => Or.inl hi
  have hv : ∀ i, u.ownBlock = some i → w.heap.size + 3 ≤ i := fun i hi => (h.spots.lt i hi).1
  have hb8 : But (fun i => u.ownBlock = some i ∨ i = w.heap.size + 2) C (w7.setCell ⟨w.heap.size + 2, 1, none⟩ v7) := But.setCell (F := fun i => u.ownBlock = some i ∨ i = w.heap.size + 2) (hb7.mono fun i _ hi => Or.inl hi) (Or.inl (Or.inr rfl)) v7
  have hbs : But (fun i => i = w.heap.size + 2) w7 (w7.setCell ⟨w.heap.size + 2, 1, none⟩ v7) := (But.refl (fun i => i = w.heap.size + 2) w7).setCell (Or.inl rfl) v7
  have hu : ∀ i, v.ownBlock = some i → ¬ (u.ownBlock = some i ∨ i = w.heap.size + 2) := fun i hi => by
    rintro (e | e)
    · exact h.ap i hi e
    · have := (h.ints.lt i hi).1; omega
  refine ⟨h.reads.but hb8 ?_, h.res.but hb8 ?_, ?_, own_but h.ints hb8 hu, own_but ho hbs ?_, ?_, But.under h.below hb8 ?_ h.below.size⟩
  · rintro i (e | e)
    · have := hv i e; omega
    · omega
  · rintro (e | e)
    · have := hv _ e; omega
    · omega
  · exact (h.box.but hb7 fun e => by have := hv _ e; omega).at (by simp)
  · intro g hg; have := (ho.lt g hg).1; show ¬ (_ = _); omega
  · intro g hg hu2
    rcases hat with e | e
    · exact h.ap g hg (e ▸ hu2)
    · rw [e] at hu2; injection hu2 with hu2; have := (h.ints.lt g hg).2; omega
  · rintro i (e | e)
    · have := hv i e; omega
    · omega
end
set_option maxRecDepth 100000 in
set_option maxHeartbeats 1000000 in
theorem lread (b o n cc m c a s : Nat) (Z : Nat → Int) (J : Nat → Nat) (w : World) (hI : RecIn ⟨m, Z, c, J, a, s⟩) (hn : n = (bodyL ⟨m, Z, c, J, a, s⟩).length) (hcc : n ≤ cc) (hr : RowU w b o (bodyL ⟨m, Z, c, J, a, s⟩)) :
    Calls Tryz.prog 110 #[.slice (some ⟨b, o, none⟩) n cc] w fun ex w' => ∃ (sz sl : Option Addr) (dz dl : Nat), ex = .returned (.agg #[.slice sz m dz, .slice sl c dl, .int .i64 ((tM a).1 : Int), .int .i64 ((tM a).2.1 : Int), .bool (tM a).2.2, .int .i64 (s : Int)]) ∧ w'.ownsRow w.heap.size 3 1 (.slice sz m dz) m (cellsI Z m) ∧ w'.ownsRow w.heap.size 25 3 (.slice sl c dl) c (cellsK J c) ∧ Below w.heap.size w w' := by
  have hm : m ≤ 1000 := hI.m
  have hZ : ∀ i, i < m → 0 ≤ Z i ∧ Z i < 1000 := hI.z
  have hc : c ≤ 12 := hI.c
  have hs : s < 1013 := hI.s
  clear hI
  have HZi : Hid (∀ i, i < m → 0 ≤ Z i ∧ Z i < 1000) := hZ
  have HLZ : Hid (∀ k, (bodyZ Z k).length = 2 * k) := bodyZ_len Z
  have HLK : Hid (∀ k, (bodyK J k).length ≤ 3 * k) := bodyK_le J
  have HLa : Hid ((spL a).length ≤ 3) := spL_le a
  have HLR : Hid (∀ k, k ≤ m → (restZ Z m (m - k)).length ≤ 2000) := fun k hk => by
    have e := congrArg List.length (bodyZ_rest Z m (m - k) (by omega))
    rw [List.length_append, bodyZ_len] at e; omega
  have HLS : Hid (∀ k, k ≤ c → (restK J c (c - k)).length ≤ 36) := fun k hk => by
    have e := congrArg List.length (bodyK_rest J c (c - k) (by omega))
    have := bodyK_le J c
    rw [List.length_append] at e; omega
  have HT2 : Hid ((nbL c ++ (bodyK J c ++ (spL a ++ nbL s))).length ≤ 100) := by
    have h1 := bodyK_le J c; have h2 := spL_le a
    unfold Hid; simp only [List.length_append, nbL_len]; omega
  have HT1 : Hid ((spL a ++ nbL s).length ≤ 5) := by
    have h2 := spL_le a
    unfold Hid; simp only [List.length_append, nbL_len]; omega
  have hL1 : (bodyZ Z m ++ (nbL c ++ (bodyK J c ++ (spL a ++ nbL s)))).length ≤ 1000000 := by have := HT2.out; rw [List.length_append, HLZ.out]; omega
  have HRW : Hid (RowU w b o (nbL m ++ (bodyZ Z m ++ (nbL c ++ (bodyK J c ++ (spL a ++ nbL s)))))) := hr
  have hbw := hr.1
  have HN : Hid ((nbL m ++ (bodyZ Z m ++ (nbL c ++ (bodyK J c ++ (spL a ++ nbL s))))).length = n) := hn.symm
  clear hZ hr hn
  have m1 : True := trivial; have m2 : True := trivial; have m3 : True := trivial; have m4 : True := trivial; have m5 : True := trivial; have m6 : True := trivial
  go_enter Tryz.func110, Tryz.ntmps110
  go_wp2_with (go_at_call 119; clear m1; refine (lnumber w.heap.size (w.heap.size + 1) m (bodyZ Z m ++ (nbL c ++ (bodyK J c ++ (spL a ++ nbL s)))) _ (by omega) hL1 ⟨by omega, _, cc, (by rw [HN.out]; exact (by repeat (first | (with_reducible first | assumption | (refine at_new' _ _ _ _ ?_; first | rfl | (simp; done)) | refine At.alloc ?_ _ | refine At.drew ?_ | refine At.drewN ?_ | refine At.set ?_ (by omega) | apply At.store4 | apply At.store3 | apply At.store2 | apply At.put43) | refine At.below ?_ (by with_reducible assumption)))), (by rw [HN.out]; exact hcc), Or.inr ⟨b, o, rfl, hbw, HRW.out.below hbw (by repeat (first | (with_reducible first | exact Below.refl _ _ | assumption | refine Below.setCell ?_ (by first | simp <;> omega | omega) _ | refine Below.alloc ?_ (by first | simp <;> omega | omega) _) | refine bl_call ?_ (by assumption) (by first | simp <;> omega | omega) | (with_reducible first | refine bl_drewN ?_ | refine Below.drew ?_ | refine bl_grow ?_ (by first | simp <;> omega | omega))))⟩⟩).mono ?_; rintro e A ⟨rfl, hRA, hbA⟩; have HA : Rd 3 25 w Z J A (.slice none 0 0) (.slice none 0 0) (0) (0) (bodyZ Z m ++ (nbL c ++ (bodyK J c ++ (spL a ++ nbL s)))) := ⟨hRA, At.but (by repeat (first | (with_reducible first | assumption | (refine at_new' _ _ _ _ ?_; first | rfl | (simp; done)) | refine At.alloc ?_ _ | refine At.drew ?_ | refine At.drewN ?_ | refine At.set ?_ (by omega) | apply At.store4 | apply At.store3 | apply At.store2 | apply At.put43) | refine At.below ?_ (by with_reducible assumption))) hbA (by show ¬ (_ = _); omega), At.but (by repeat (first | (with_reducible first | assumption | (refine at_new' _ _ _ _ ?_; first | rfl | (simp; done)) | refine At.alloc ?_ _ | refine At.drew ?_ | refine At.drewN ?_ | refine At.set ?_ (by omega) | apply At.store4 | apply At.store3 | apply At.store2 | apply At.put43) | refine At.below ?_ (by with_reducible assumption))) hbA (by show ¬ (_ = _); omega), World.ownsRow_nil _ _ _ _, World.ownsRow_nil _ _ _ _, (fun g hg => by simp [Value.ownBlock] at hg), But.under (by repeat (first | (with_reducible first | exact Below.refl _ _ | assumption | refine Below.setCell ?_ (by first | simp <;> omega | omega) _ | refine Below.alloc ?_ (by first | simp <;> omega | omega) _) | refine bl_call ?_ (by assumption) (by first | simp <;> omega | omega) | (with_reducible first | refine bl_drewN ?_ | refine Below.drew ?_ | refine bl_grow ?_ (by first | simp <;> omega | omega)))) hbA (by rintro i rfl; omega) (by simp; omega)⟩; clear hRA hbA; have kbA := HA.box; have krA := HA.res; have hzA := HA.below.size; obtain ⟨zbA, cb0A, cb1A, cb2A, cb3A, cb4A, cb5A, fb0A, fb1A, fb2A, fb3A, fb4A, fb5A⟩ := kbA.six)
  go_loopw [8] (fun ti wl => ∃ (k : Nat) (v : Value), k ≤ m ∧ ti = .int .i64 k ∧ Rd 3 25 w Z J wl v (.slice none 0 0) (k) (0) (restZ Z m (m - k) ++ (nbL c ++ (bodyK J c ++ (spL a ++ nbL s))))) (fun ti _ => m - (intOf ti).toNat)
  case atStart => exact ⟨0, _, by omega, rfl, HA.turn (by rw [Nat.sub_zero, bodyZ_all])⟩
  case round =>
    clear kbA krA zbA cb0A cb1A cb2A cb3A cb4A cb5A fb0A fb1A fb2A fb3A fb4A fb5A
    clear HA hzA HN hL1
    obtain ⟨k, v, hk, rfl, HV⟩ := hrel
    rename World => V
    obtain ⟨sv, cv, rfl, _⟩ := own_slice HV.ints
    have kbV := HV.box; have krV := HV.res; have hzV := HV.below.size; obtain ⟨zbV, cb0V, cb1V, cb2V, cb3V, cb4V, cb5V, fb0V, fb1V, fb2V, fb3V, fb4V, fb5V⟩ := kbV.six
    by_cases hlt : k < m
    · have hlt' : (k : Int) < m := by omega
      obtain ⟨i0, hi, hv0, hv1, hv2⟩ := info_parts lriinfo
      obtain ⟨z, hz⟩ : ∃ z : Nat, Z k = (z : Int) := ⟨(Z k).toNat, by have := (HZi.out k hlt).1; omega⟩
      have hzl : z < 65536 := by have := (HZi.out k hlt).2; omega
      have HRk : Hid (Reads w.heap.size V.drew (w.heap.size + 1) (nbL z ++ (restZ Z m (m - (k + 1)) ++ (nbL c ++ (bodyK J c ++ (spL a ++ nbL s)))))) := by
        have h1 := HV.drew.reads
        rw [restZ_at Z hlt, hz, Int.toNat_natCast, List.append_assoc] at h1
        exact h1
      have HCe : Hid (cellsI Z k ++ [.int .i64 (z : Int)] = cellsI Z (k + 1)) := by unfold Hid; rw [cellsI_succ, hz]
      have hLk : (restZ Z m (m - (k + 1)) ++ (nbL c ++ (bodyK J c ++ (spL a ++ nbL s)))).length ≤ 1000000 := by have := HT2.out; have := HLR.out (k + 1) (by omega); rw [List.length_append]; omega
      clear hz
      go_upto_region 5 with fail
      go_region_law (first | ((refine step_append_lies _ (by rfl) _ _ 48 (by rfl) (w.heap.size + 3) 3 i0 (.int .i64 0) 1 8 Tryz.underlying48 hi hv0 hv1 hv2 (by rfl) (by decide) _ k _ (by rfl) (HC.alloc _).ints ⟨C.heap.size, 0, none⟩ 1 1 [.int .i64 (z : Int)] (by rfl) (by rfl) (one_at rfl _ _) (by simp [Value.oneCell']) (by omega) (by unfold maxLen; omega) (by omega) (by simp; omega) (C.heap.size + 1) (by simp) ?_); (intro g7 cap7 w7 hown7 hgrow7 hat7 hlt7); (have kb7 := At.grown (HC.alloc _).box hgrow7 (fun e => by have := (HC.ints.lt _ e).1; omega)); (obtain ⟨zb7, cb07, cb17, cb27, cb37, cb47, cb57, fb07, fb17, fb27, fb37, fb47, fb57⟩ := kb7.six)) | ((go_simp); (go_at_call 119; refine (lnumber w.heap.size (w.heap.size + 1) z _ _ hzl hLk HRk.out).mono ?_; rintro e C ⟨rfl, hRC, hbC⟩; have HC : Rd 3 25 w Z J C (.slice sv k cv) (.slice none 0 0) (k) (0) (restZ Z m (m - (k + 1)) ++ (nbL c ++ (bodyK J c ++ (spL a ++ nbL s)))) := HV.drew.read hbC hRC; clear hRC hbC; clear kbV krV zbV cb0V cb1V cb2V cb3V cb4V cb5V fb0V fb1V fb2V fb3V fb4V fb5V; have kbC := HC.box; have krC := HC.res; have hzC := HC.below.size; obtain ⟨zbC, cb0C, cb1C, cb2C, cb3C, cb4C, cb5C, fb0C, fb1C, fb2C, fb3C, fb4C, fb5C⟩ := kbC.six); (go_wp2_with fail)))
      
      all_goals (
      rw [HCe.out] at hown7
      have hat8 : (Value.slice (some ⟨g7, 0, none⟩) (k + 1) cap7).ownBlock = (Value.slice sv k cv).ownBlock ∨ (Value.slice (some ⟨g7, 0, none⟩) (k + 1) cap7).ownBlock = some (C.alloc (.cells #[.int .i64 (z : Int)] 3)).heap.size := by
        rcases hat7 with e | e
        · exact Or.inl e.symm
        · exact Or.inr (by rw [e]; simp [Value.ownBlock])
      have hD := (HC.alloc _).one hgrow7 hown7 hat8
      refine inb_gen (fun O => Rd 3 25 w Z J O (.slice (some ⟨g7, 0, none⟩) (k + 1) cap7) (.slice none 0 0) (k + 1) (0) (restZ Z m (m - (k + 1)) ++ (nbL c ++ (bodyK J c ++ (spL a ++ nbL s))))) hD ?_
      intro O hO
      go_wp2_with fail
      go_roundw
      case rel => exact ⟨k + 1, _, by omega, by simp, hO⟩
      case measure => simp [intOf]; omega)
    · have hlt' : ¬ (k : Int) < m := by omega
      obtain rfl : k = m := by omega
      have HVr : Hid (Reads w.heap.size V (w.heap.size + 1) (nbL c ++ (bodyK J c ++ (spL a ++ nbL s)))) := by
        have h1 := HV.reads
        rw [Nat.sub_self] at h1
        exact h1
      have hLc : (bodyK J c ++ (spL a ++ nbL s)).length ≤ 1000000 := by have := HT1.out; have := HLK.out c; rw [List.length_append]; omega
      go_wp2_with (go_at_call 119; clear m2; refine (lnumber w.heap.size (w.heap.size + 1) c _ _ (by omega) hLc HVr.out).mono ?_; rintro e A ⟨rfl, hRA, hbA⟩; have HA : Rd 3 25 w Z J A (.slice sv k cv) (.slice none 0 0) (k) (0) (bodyK J c ++ (spL a ++ nbL s)) := HV.read hbA hRA; clear hRA hbA; clear kbV krV zbV cb0V cb1V cb2V cb3V cb4V cb5V fb0V fb1V fb2V fb3V fb4V fb5V; clear HV hzV HVr; have kbA := HA.box; have krA := HA.res; have hzA := HA.below.size; obtain ⟨zbA, cb0A, cb1A, cb2A, cb3A, cb4A, cb5A, fb0A, fb1A, fb2A, fb3A, fb4A, fb5A⟩ := kbA.six)
      go_loopw [18] (fun ti wl => ∃ (j : Nat) (u : Value), j ≤ c ∧ ti = .int .i64 j ∧ Rd 3 25 w Z J wl (.slice sv k cv) u (k) (j) (restK J c (c - j) ++ (spL a ++ nbL s))) (fun ti _ => c - (intOf ti).toNat)
      case atStart => exact ⟨0, _, by omega, rfl, HA.turn (by rw [Nat.sub_zero, bodyK_all])⟩
      case round =>
        clear kbA krA zbA cb0A cb1A cb2A cb3A cb4A cb5A fb0A fb1A fb2A fb3A fb4A fb5A
        clear HA hzA hLc
        obtain ⟨j, u, hj, rfl, HW⟩ := hrel
        rename World => W
        obtain ⟨su, cu, rfl, _⟩ := own_slice HW.spots
        have kbW := HW.box; have krW := HW.res; have hzW := HW.below.size; obtain ⟨zbW, cb0W, cb1W, cb2W, cb3W, cb4W, cb5W, fb0W, fb1W, fb2W, fb3W, fb4W, fb5W⟩ := kbW.six
        by_cases hltj : j < c
        · have hltj' : (j : Int) < c := by omega
          obtain ⟨i0, hi, hv0, hv1, hv2⟩ := info_parts lrsinfo
          have HRk : Hid (Reads w.heap.size W.drew (w.heap.size + 1) (spL (4 * J j) ++ (restK J c (c - (j + 1)) ++ (spL a ++ nbL s)))) := by
            have h1 := HW.drew.reads
            rw [restK_at J hltj, List.append_assoc] at h1
            exact h1
          have HCe : Hid (cellsK J j ++ [.int .i64 ((tM (4 * J j)).1 : Int), .int .i64 ((tM (4 * J j)).2.1 : Int), .bool (tM (4 * J j)).2.2] = cellsK J (j + 1)) := (cellsK_succ J j).symm
          have hLk : (restK J c (c - (j + 1)) ++ (spL a ++ nbL s)).length ≤ 1000000 := by have := HT1.out; have := HLS.out (j + 1) (by omega); rw [List.length_append]; omega
          go_upto_region 9 with fail
          go_region_law (first | ((refine step_append_lies _ (by rfl) _ _ 22 (by rfl) (w.heap.size + 3) 25 i0 (.agg #[.int .i64 0, .int .i64 0, .bool false]) 3 24 Tryz.underlying22 hi hv0 hv1 hv2 (by rfl) (by decide) _ j _ (by rfl) (HE.alloc _).spots ⟨E.heap.size, 0, none⟩ 1 1 [.int .i64 ((tM (4 * J j)).1 : Int), .int .i64 ((tM (4 * J j)).2.1 : Int), .bool (tM (4 * J j)).2.2] (by rfl) (by rfl) (three_at rfl _ _ _ _) (by simp [Value.oneCell']) (by omega) (by unfold maxLen; omega) (by omega) (by simp; omega) (E.heap.size + 1) (by simp) ?_); (intro g7 cap7 w7 hown7 hgrow7 hat7 hlt7); (have kb7 := At.grown (HE.alloc _).box hgrow7 (fun e => by have := (HE.spots.lt _ e).1; omega)); (obtain ⟨zb7, cb07, cb17, cb27, cb37, cb47, cb57, fb07, fb17, fb27, fb37, fb47, fb57⟩ := kb7.six)) | ((go_simp); (go_at_call 120; refine (lspot w.heap.size (w.heap.size + 1) (4 * J j) _ _ hLk HRk.out).mono ?_; rintro e E ⟨rfl, hRE, hbE⟩; have HE : Rd 3 25 w Z J E (.slice sv k cv) (.slice su j cu) (k) (j) (restK J c (c - (j + 1)) ++ (spL a ++ nbL s)) := HW.drew.read hbE hRE; clear hRE hbE; clear kbW krW zbW cb0W cb1W cb2W cb3W cb4W cb5W fb0W fb1W fb2W fb3W fb4W fb5W; have kbE := HE.box; have krE := HE.res; have hzE := HE.below.size; obtain ⟨zbE, cb0E, cb1E, cb2E, cb3E, cb4E, cb5E, fb0E, fb1E, fb2E, fb3E, fb4E, fb5E⟩ := kbE.six); (go_wp2_with fail)))
          
          all_goals (
          rw [HCe.out] at hown7
          have hat8 : (Value.slice (some ⟨g7, 0, none⟩) (j + 1) cap7).ownBlock = (Value.slice su j cu).ownBlock ∨ (Value.slice (some ⟨g7, 0, none⟩) (j + 1) cap7).ownBlock = some (E.alloc (.cells #[.int .i64 ((tM (4 * J j)).1 : Int), .int .i64 ((tM (4 * J j)).2.1 : Int), .bool (tM (4 * J j)).2.2] 25)).heap.size := by
            rcases hat7 with e | e
            · exact Or.inl e.symm
            · exact Or.inr (by rw [e]; simp [Value.ownBlock])
          have hD := (HE.alloc _).two hgrow7 hown7 hat8
          refine inb_gen (fun O => Rd 3 25 w Z J O (.slice sv k cv) (.slice (some ⟨g7, 0, none⟩) (j + 1) cap7) (k) (j + 1) (restK J c (c - (j + 1)) ++ (spL a ++ nbL s))) hD ?_
          intro O hO
          go_wp2_with fail
          go_roundw
          case rel => exact ⟨j + 1, _, by omega, by simp, hO⟩
          case measure => simp [intOf]; omega)
        · have hltj' : ¬ (j : Int) < c := by omega
          obtain rfl : j = c := by omega
          have HWr : Hid (Reads w.heap.size W (w.heap.size + 1) (spL a ++ nbL s)) := by
            have h1 := HW.reads
            rw [Nat.sub_self] at h1
            exact h1
          go_upto_region 12 with (go_at_call 120; clear m3; refine (lspot w.heap.size (w.heap.size + 1) a (nbL s) _ (by rw [nbL_len]; omega) HWr.out).mono ?_; rintro e A ⟨rfl, hRA, hbA⟩; have HA : Rd 3 25 w Z J A (.slice sv k cv) (.slice su j cu) (k) (j) (nbL s) := HW.read hbA hRA; clear hRA hbA; clear kbW krW zbW cb0W cb1W cb2W cb3W cb4W cb5W fb0W fb1W fb2W fb3W fb4W fb5W; clear HW hzW HWr; have kbA := HA.box; have krA := HA.res; have hzA := HA.below.size; obtain ⟨zbA, cb0A, cb1A, cb2A, cb3A, cb4A, cb5A, fb0A, fb1A, fb2A, fb3A, fb4A, fb5A⟩ := kbA.six)
          
          refine wp_gen (fun X => Reads w.heap.size X (w.heap.size + 1) (nbL s ++ []) ∧ At X w.heap.size [.slice none 0 0, .slice none 0 0, .int .i64 0, .int .i64 0, .bool false, .int .i64 0] ∧ At X (w.heap.size + 2) [.slice sv k cv, .slice su j cu, .int .i64 ((tM a).1 : Int), .int .i64 ((tM a).2.1 : Int), .bool (tM a).2.2, .int .i64 0] ∧ But (fun i => i = w.heap.size + 2) A X) ⟨?x1, ?x2, ?x3, ?x4⟩ ?_
          case x4 => exact (((But.refl (fun i => i = w.heap.size + 2) A).setCell (Or.inl rfl) _).setCell (Or.inl rfl) _).setCell (Or.inl rfl) _
          case x1 => rw [List.append_nil]; exact HA.reads.but ((((But.refl (fun i => i = w.heap.size + 2) A).setCell (Or.inl rfl) _).setCell (Or.inl rfl) _).setCell (Or.inl rfl) _) (by rintro i rfl; exact ⟨by omega, by omega⟩)
          case x2 => exact At.set (At.set (At.set krA (by omega)) (by omega)) (by omega)
          case x3 => exact ((kbA.at (i := 2) (by simp)).at (i := 3) (by simp)).at (i := 4) (by simp)
          rintro X ⟨hRX, krX, kbX, hbX⟩
          obtain ⟨zrX, cr0X, cr1X, cr2X, cr3X, cr4X, cr5X, fr0X, fr1X, fr2X, fr3X, fr4X, fr5X⟩ := krX.six
          clear kbA krA zbA cb0A cb1A cb2A cb3A cb4A cb5A fb0A fb1A fb2A fb3A fb4A fb5A
          go_upto_region 13 with (go_at_call 119; clear m4; refine (lnumber w.heap.size (w.heap.size + 1) s [] _ (by omega) (by simp) hRX).mono ?_; rintro e Y ⟨rfl, hRY, hbY⟩; have krY := krX.but hbY (by show ¬ (_ = _); omega); have kbY := kbX.but hbY (by show ¬ (_ = _); omega); clear krX kbX cr0X cr1X cr2X cr3X cr4X cr5X fr0X fr1X fr2X fr3X fr4X fr5X; obtain ⟨zrY, cr0Y, cr1Y, cr2Y, cr3Y, cr4Y, cr5Y, fr0Y, fr1Y, fr2Y, fr3Y, fr4Y, fr5Y⟩ := krY.six; obtain ⟨zbY, cb0Y, cb1Y, cb2Y, cb3Y, cb4Y, cb5Y, fb0Y, fb1Y, fb2Y, fb3Y, fb4Y, fb5Y⟩ := kbY.six)
          
          have hbXY : But (fun i => i = w.heap.size + 1 ∨ i = w.heap.size + 2) A Y := (hbX.mono (F' := fun i => i = w.heap.size + 1 ∨ i = w.heap.size + 2) fun i _ e => Or.inr e).trans hbY (fun i _ e => Or.inl e)
          refine wp_gen (fun X => At X w.heap.size [.slice none 0 0, .slice none 0 0, .int .i64 0, .int .i64 0, .bool false, .int .i64 0] ∧ At X (w.heap.size + 2) [.slice sv k cv, .slice su j cu, .int .i64 ((tM a).1 : Int), .int .i64 ((tM a).2.1 : Int), .bool (tM a).2.2, .int .i64 (s : Int)] ∧ But (fun i => i = w.heap.size + 1 ∨ i = w.heap.size + 2) A X) ⟨?x2, ?x3, ?x4⟩ ?_
          case x4 => exact hbXY.setCell (Or.inl (Or.inr rfl)) _
          case x2 => exact At.set krY (by omega)
          case x3 => exact kbY.at (i := 5) (by simp)
          clear cr0Y cr1Y cr2Y cr3Y cr4Y cr5Y fr0Y fr1Y fr2Y fr3Y fr4Y fr5Y cb0Y cb1Y cb2Y cb3Y cb4Y cb5Y fb0Y fb1Y fb2Y fb3Y fb4Y fb5Y
          rintro U ⟨krU, kbU, hbU⟩
          obtain ⟨zrU, cr0U, cr1U, cr2U, cr3U, cr4U, cr5U, fr0U, fr1U, fr2U, fr3U, fr4U, fr5U⟩ := krU.six
          obtain ⟨zbU, cb0U, cb1U, cb2U, cb3U, cb4U, cb5U, fb0U, fb1U, fb2U, fb3U, fb4U, fb5U⟩ := kbU.six
          go_wp2_with fail
          
          refine post_gen (fun X => At X w.heap.size [.slice sv k cv, .slice su j cu, .int .i64 ((tM a).1 : Int), .int .i64 ((tM a).2.1 : Int), .bool (tM a).2.2, .int .i64 (s : Int)] ∧ But (fun i => w.heap.size ≤ i ∧ i < w.heap.size + 3) A X) ⟨?x1, ?x2⟩ ?_
          case x1 => exact (((((krU.at (i := 0) (by simp)).at (i := 1) (by simp)).at (i := 2) (by simp)).at (i := 3) (by simp)).at (i := 4) (by simp)).at (i := 5) (by simp)
          case x2 =>
            have h0 : But (fun i => w.heap.size ≤ i ∧ i < w.heap.size + 3) A U := hbU.mono fun i _ e => by omega
            have hh : (fun i => w.heap.size ≤ i ∧ i < w.heap.size + 3) w.heap.size := ⟨Nat.le_refl _, by omega⟩
            exact (((((h0.setCell (Or.inl hh) _).setCell (Or.inl hh) _).setCell (Or.inl hh) _).setCell (Or.inl hh) _).setCell (Or.inl hh) _).setCell (Or.inl hh) _
          rintro X ⟨kX, hbX⟩
          obtain ⟨zX, cX0, cX1, cX2, cX3, cX4, cX5, fX0, fX1, fX2, fX3, fX4, fX5⟩ := kX.six
          have hO1 : X.ownsRow w.heap.size 3 1 (.slice sv k cv) k (cellsI Z k) := own_base (own_but HA.ints hbX fun g hg => by have := (HA.ints.lt g hg).1; omega) (by omega)
          have hO2 : X.ownsRow w.heap.size 25 3 (.slice su j cu) j (cellsK J j) := own_base (own_but HA.spots hbX fun g hg => by have := (HA.spots.lt g hg).1; omega) (by omega)
          have hB : Below w.heap.size w X := But.under HA.below hbX (fun i e => e.1) HA.below.size
          exact bodyPost_ret (v := .agg #[.slice sv k cv, .slice su j cu, .int .i64 ((tM a).1 : Int), .int .i64 ((tM a).2.1 : Int), .bool (tM a).2.2, .int .i64 (s : Int)]) (by simp [results, Tryz.results110, go_sem, cX0, cX1, cX2, cX3, cX4, cX5]) rfl ⟨_, _, _, _, rfl, hO1, hO2, hB⟩
end Go.Proofs.YtpkkclcjiobgoajGreatDoor

/- A range over a function whose body reads memory that the function has laid for it in that very round (a struct with slices, read anew): what each round is handed is told of the memory in which it is handed. The body never leaves the loop. Of whatever program. -/
namespace Go.Proofs.YtpkkclcjiobgoajGreatDoor
open Go.RowKit
set_option linter.unusedVariables false
set_option linter.unusedSimpArgs false

/-- A function that hands over r things, one by one; the k-th one is as R says, its memory from so many blocks on; it reads the blocks of G between two rounds, and writes none that was there. -/
def SeqSeen (F : Fence) (n : Nat) (P : Program) (g : Nat) (lb : Array Value) (G : Nat → Prop) (R : Nat → Nat → Array Value → World → Prop) (r : Nat) (w : World) : Prop :=
  ∀ (l : Nat) (J : Nat → World → Prop) (W : World), Below w.heap.size w W → (∀ k A B, J k A → Below A.heap.size A B → J k B) →
    (∀ k A0 A args, k < r → J k A0 → Below A0.heap.size A0 A → R k A0.heap.size args A → YieldAt F (n - 1) P l args A fun e B => e = .returned (.bool true) ∧ J (k + 1) B ∧ But (fun i => ¬ G i) A0 B) →
    J 0 W → CallsIn F n P g (#[.func (.yield l) #[] #[]] ++ lb) W fun e B => (∃ v, e = .returned v) ∧ J r B
/-- A block that is none of cells is put anew: whatever lay in others lies there. -/
theorem But.put {F : Nat → Prop} {a w : World} (h : But F a w) {l : Nat} (hl : F l ∨ a.heap.size ≤ l) (o : Obj) : But F a (w.putObj l o) :=
  ⟨h.os, h.tape, h.output, by rw [World.putObj_size]; exact h.size, fun k hk hn => (World.putObj_heap_other (fun e => by
    subst e
    rcases hl with hl | hl
    · exact hn hl
    · omega)).trans (h.block k hk hn)⟩
variable {F : Fence} {n : Nat} {P : Program}
/-- How a round's body must end: off its end; records and marks lie as they lay. -/
def SeenPost (B : Nat) (G : Nat → Prop) (I : Nat → World → Prop) (k : Nat) (A : World) : Exit → Act → World → Prop
  | .normal, _, W => KeepsFrom B A W ∧ I (k + 1) W ∧ But (fun i => ¬ G i) A W
  | _, _, _ => False
theorem wpIn_seen {g : Operand} {ps : Array Tmp} {assign body : Code} {Q : Exit → Act → World → Prop} {a : Act} {w : World}
    (hro : F.round = none) (h1 : 1 ≤ n) {gf : Nat} {lb : Array Value} (hg : a.eval g = .func (.func gf) #[] lb) (hFg : F.fn gf) (eg : ∀ args w, (callFunc gf args).run P w = .ok (.enter gf args) w)
    {G : Nat → Prop} {R : Nat → Nat → Array Value → World → Prop} {r : Nat} {w0 : World} (hseq : SeqSeen F (n - 1) P gf lb G R r w0) (hb0 : Below w0.heap.size w0 w) (hG : ∀ i, G i → i < w.heap.size)
    (hps : ∀ {k h args A}, R k h args A → args.size = ps.size)
    (I : Nat → World → Prop) (hIb : ∀ {k A B}, I k A → Below A.heap.size A B → I k B) (hIp : ∀ {k A l o o'}, I k A → w.heap.size ≤ l → A.heap[l]? = some o → o.isCells = false → I k (A.putObj l o')) (h0 : I 0 w)
    (Mid : Nat → Act → World → Prop) (hMp : ∀ {k b A l o o'}, Mid k b A → w.heap.size ≤ l → A.heap[l]? = some o → o.isCells = false → Mid k b (A.putObj l o'))
    (hassign : ∀ (l k : Nat) (A0 A : World) (args : Array Value) (K : Act → World → Prop), k < r → I k A0 → Below A0.heap.size A0 A → R k A0.heap.size args A → (∀ b A1, Mid k b A1 → Below A.heap.size A A1 → K b A1) →
      assign.wpIn (F.inRound l) (n - 1 - 1) P (Exit.then K (fun _ _ _ => False)) { tmps := (ps.zip args).foldl (fun t (p, v) => t.setIfInBounds p v) a.tmps, defers := [] } A)
    (hbody : ∀ (l k : Nat) (b : Act) (A : World), k < r → Mid k b A → body.wpIn (F.inRound l) (n - 1 - 1) P (SeenPost w.heap.size G I k A) b A)
    (hdone : ∀ (D : Nat) (W : World), w.heap.size ≤ D → I r W → W.heap[D]? = some (.deferred (some [])) → Q .normal { a with defers := { target := .collected D, args := #[] } :: a.defers } W) :
    (Code.rangeFunc g ps assign body).wpIn F n P Q a w := by
  refine wpIn_rangeFunc fun fn hfn => ?_
  rw [hro]
  have hent := run_enterLoop_outer (P := P) (w := w) fn a.tmps ps assign body
  obtain ⟨rd, hrd⟩ : ∃ rd : Loop, rd = { state := .ready, pending := none, fn, tmps := a.tmps, params := ps, assign, body, defers := w.heap.size } := ⟨_, rfl⟩
  rw [← hrd] at hent
  have hst : rd.state = .ready := by rw [hrd]
  have hpe : rd.pending = none := by rw [hrd]
  have hpar : rd.params = ps := by rw [hrd]
  have hback : ({ { rd with state := .busy } with state := .ready, pending := none } : Loop) = rd := by rw [hrd]
  obtain ⟨V, hV⟩ : ∃ V, (w.alloc (.deferred (some []))).alloc (.loop rd) = V := ⟨_, rfl⟩
  rw [hV] at hent
  have hwV : Below w.heap.size w V := by rw [← hV]; exact ((Below.refl _ w).alloc (Nat.le_refl _) _).alloc (by simp) _
  have hl : V.heap[w.heap.size + 1]? = some (.loop rd) := by
    rw [← hV]
    have := World.alloc_heap_new (w.alloc (.deferred (some []))) (.loop rd)
    rwa [World.size_alloc] at this
  have hd : V.heap[w.heap.size]? = some (.deferred (some [])) := by rw [← hV]; exact (Below.heap_alloc _ _ _ (by simp)).trans (World.alloc_heap_new w _)
  refine ⟨_, _, V, { target := .fn (.func gf) lb, args := #[.func (.yield (w.heap.size + 1)) #[] #[]] }, V, gf, #[.func (.yield (w.heap.size + 1)) #[] #[]] ++ lb, V, hent, ?_, ?_, ?_, fun _ => h1, ?_⟩
  · simp only [resolve, hg]; simp [go_sem]
  · intro f' hf'; simp [Target.leads] at hf'; subst hf'; exact hFg
  · simp [invoke, go_sem, eg]
  have hw1 : ∀ {X : World} {o : Obj}, X.heap[w.heap.size + 1]? = some o → w.heap.size + 1 < X.heap.size := fun h => (Array.getElem?_eq_some_iff.1 h).1
  refine (hseq (w.heap.size + 1) (fun k A => I k A ∧ A.heap[w.heap.size + 1]? = some (.loop rd) ∧ A.heap[w.heap.size]? = some (.deferred (some []))) V (hb0.trans (hwV.mono hb0.size)) ?_ ?_ ⟨hIb h0 hwV, hl, hd⟩).mono ?_
  · rintro k A B ⟨i1, i2, i3⟩ hb
    have s1 := hw1 i2
    exact ⟨hIb i1 hb, (hb.block _ s1).trans i2, (hb.block _ (by omega)).trans i3⟩
  · rintro k A0 A args hk ⟨i1, i2, i3⟩ hb hR
    have s1 := hw1 i2
    have j2 := (hb.block _ s1).trans i2
    have j3 := (hb.block _ (show w.heap.size < A0.heap.size by omega)).trans i3
    have hy := run_yield (P := P) (args := args) j2 (by rw [hpar]; exact hps hR)
    rw [show rd.fn = fn by rw [hrd], show rd.params = ps from hpar, show rd.tmps = a.tmps by rw [hrd], show rd.assign = assign by rw [hrd], show rd.body = body by rw [hrd]] at hy
    refine ⟨fn, _, assign, body, hy, roundIn_of_wpIn hfn (hassign _ k A0 A args _ hk i1 hb hR fun b A1 hM hA1 => ?_)⟩
    have t1 := hw1 j2
    have q2 := (hA1.block _ t1).trans j2
    have q3 := (hA1.block _ (show w.heap.size < A.heap.size by omega)).trans j3
    refine ⟨_, run_beginRound q2 hst, ?_⟩
    obtain ⟨A2, hA2⟩ : ∃ A2, A1.putObj (w.heap.size + 1) (.loop { rd with state := .busy }) = A2 := ⟨_, rfl⟩
    rw [hA2]
    have u1 := hw1 q2
    have p2 : A2.heap[w.heap.size + 1]? = some (.loop { rd with state := .busy }) := by rw [← hA2]; exact World.putObj_heap_same u1
    have p3 : A2.heap[w.heap.size]? = some (.deferred (some [])) := by rw [← hA2]; exact (World.putObj_heap_other (by omega)).trans q3
    have hM2 : Mid k b A2 := by rw [← hA2]; exact hMp hM (by omega) q2 rfl
    have hB2 : But (fun i => ¬ G i) A0 A2 := by
      rw [← hA2]
      exact (((But.of_below _ hb).call hA1)).put (Or.inl fun e => by have := hG _ e; omega) _
    refine wpIn_mono (hbody _ k b A2 hk hM2) ?_
    intro e b3 W3 hp
    cases e with
    | normal =>
      obtain ⟨k3, i4, b4⟩ := hp
      have m2 := k3.same _ _ (by omega) p2 rfl
      have m3 := k3.same _ _ (Nat.le_refl _) p3 rfl
      have hr := run_endRound (P := P) none m2
      simp only [Option.isNone_none, if_true] at hr
      rw [hback] at hr
      refine ⟨_, _, hr, rfl, ⟨hIp i4 (by omega) m2 rfl, World.putObj_heap_same (hw1 m2), (World.putObj_heap_other (by omega)).trans m3⟩, ?_⟩
      exact (hB2.trans b4 fun _ _ e => e).put (Or.inl fun e => by have := hG _ e; omega) _
    | ret => exact hp.elim
    | exit id => exact hp.elim
    | goto t => exact hp.elim
    | panic ch => exact hp.elim
    | outgrown => exact hp.elim
  · rintro e W ⟨⟨v, rfl⟩, i1, i2, i3⟩
    have hr := run_endLoop (P := P) i2 (by rw [hst]; intro h; cases h)
    rw [hpe] at hr
    exact ⟨none, _, hr, hdone _ _ (Nat.le_refl _) (hIp i1 (by omega) i2 rfl) ((World.putObj_heap_other (by omega)).trans i3)⟩
end Go.Proofs.YtpkkclcjiobgoajGreatDoor
