/- stonelaw3.BatchHolds answers true, by what package batch is to answer. -/
import Derived.Test.YtmijjjdedadklajBatchHoldsL
import Derived.Test.YtmijjjdedadklajBatchA
import Derived.Test.YtmijjjdedadklajShell
namespace Go.Proofs.Ytmijjjdedadklaj
open Go.RowKit Go.Sort
set_option linter.unusedVariables false
set_option linter.unusedSimpArgs false
theorem bh_q {x y : Nat} (hx : x % 1013 ≠ 0) (hy : y % 1013 ≠ 0) : (x * y) % 1013 ≠ 0 := by
  intro h
  have hd : Fin.ofNat 1013 x ≠ (0 : QF) := fun e => hx (congrArg Fin.val e)
  have h1 := congrArg Fin.val (iv_mul hd)
  rw [Fin.val_mul] at h1
  generalize (ivq (Fin.ofNat 1013 x)).val = e at h1
  have h2 : (x % 1013) * e % 1013 = 1 := h1
  rw [Nat.mul_mod, Nat.mod_mod, ← Nat.mul_mod] at h2
  have h3 : (x * y * e) % 1013 = y % 1013 := by rw [show x * y * e = x * e * y by ac_rfl, Nat.mul_mod, h2, Nat.one_mul, Nat.mod_mod]
  rw [Nat.mul_mod, h, Nat.zero_mul] at h3
  exact hy h3.symm
theorem bh_wf {v : Int} (h0 : 0 ≤ v) (h1 : v < 100000) : (Lit.int .i64 v).wf = true := by
  show (decide (_ ≤ v) && decide (v ≤ _)) = true
  rw [Bool.and_eq_true, decide_eq_true_eq, decide_eq_true_eq]
  exact ⟨Int.le_trans (by decide) h0, Int.le_trans (Int.le_of_lt h1) (by decide)⟩
theorem bh_none {I : Nat → BatI} {K R S : Nat → Nat} : ∀ {n : Nat}, (∀ i, i < n → tM (4 * S i) = tM (R i + K i * askN (R i) (K i) (I i).t)) → batL I K R S n = []
  | 0, _ => rfl
  | n + 1, h => by
    unfold batL
    rw [sameS_yes (h n (by omega)), cond_true]
    exact bh_none fun i hi => h i (by omega)
/-- All but one. -/
theorem bh_one {I : Nat → BatI} {K R S : Nat → Nat} {a : Nat} (hw : tM (4 * S a) ≠ tM (R a + K a * askN (R a) (K a) (I a).t)) : ∀ {n : Nat}, a < n → (∀ i, i < n → i ≠ a → tM (4 * S i) = tM (R i + K i * askN (R i) (K i) (I i).t)) → batL I K R S n = [a]
  | 0, h, _ => absurd h (Nat.not_lt_zero _)
  | n + 1, h, hr => by
    unfold batL
    by_cases e : n = a
    · subst e
      rw [sameS_no hw, cond_false, bh_none fun i hi => hr i (by omega) (by omega)]
      rfl
    · rw [sameS_yes (hr n (by omega) e), cond_true]
      exact bh_one hw (by omega) fun i hi => hr i (by omega)
theorem bh_far {I : Nat → BatI} {K R S W : Nat → Nat} {n : Nat} (h : (∀ i, i < n → tM (4 * S i) = tM (R i + K i * askN (R i) (K i) (I i).t))) : farI (batS I K R S W n) = true := by
  have := tM_inj (batS_right (W := W) h)
  exact (farI_iff _).2 (by omega)
theorem bh_near {I : Nat → BatI} {K R S W : Nat → Nat} {n a more : Nat} (h1 : 1 ≤ more) (h2 : more < 1013) (hW : ∀ i, 1 ≤ W i ∧ W i < 1013) (ha : a < n) (hr : ∀ i, i < n → i ≠ a → tM (4 * S i) = tM (R i + K i * askN (R i) (K i) (I i).t)) (hw : tM (4 * S a) = tM (4 * more + (R a + K a * askN (R a) (K a) (I a).t))) : farI (batS I K R S W n) = false := by
  have h3 := tM_inj (batS_wrong h1 h2 hW ha hr hw)
  cases hf : farI (batS I K R S W n) with
  | false => rfl
  | true =>
    have h4 := (farI_iff _).1 hf
    have h5 := hW a
    have h6 := bh_q (x := more) (y := W a) (by omega) (by omega)
    omega
/-- A number more. -/
theorem bh_more {s m y : Nat} (h : tM (4 * s) = tM y) : tM (4 * ((s + m) % 1013)) = tM (4 * m + y) := by
  have := tM_inj h
  exact tM_congr (by omega)
theorem bh_ne {s m y : Nat} (m1 : 1 ≤ m) (m2 : m < 1013) (h : tM s = tM (4 * m + y)) : tM s ≠ tM y := by
  intro h2
  have a := tM_inj h
  have b := tM_inj h2
  omega
theorem bh_fs {I : Nat → BatI} {K R S W : Nat → Nat} {n : Nat} (ho : (∀ i, i < n → BatOk (I i) (K i) (R i) (S i) (W i))) : ∀ i, i < n → (I i).t.size ≤ 9223372036854775807 ∧ (Lit.int .i64 (I i).s).wf = true ∧ (Lit.int .i64 (I i).w).wf = true := fun i hi => by
  have h := ho i hi
  refine ⟨by have := h.ht; omega, ?_, ?_⟩
  · rw [h.hs]; exact bh_wf (by omega) (by have := h.hlt; omega)
  · rw [h.hw]; exact bh_wf (by omega) (by have := h.hw2; omega)
/-- Verify and Wrong of rows of one's own. -/
theorem bh_verify (hV : BVerifyIs) {B n dt dw : Nat} {st sw : Option Addr} {I : Nat → BatI} {K R S W : Nat → Nat} {W_ : World} {u t : Value} (hn : n ≤ 12) (ho : (∀ i, i < n → BatOk (I i) (K i) (R i) (S i) (W i))) (h : BK 26 39 B I W_ n u t) (ht : (n = 0 ∨ ∃ b o : Nat, st = some ⟨b, o, none⟩ ∧ RowZ W_ b o n (fun i => (I i).t))) (hw : (n = 0 ∨ ∃ b o : Nat, sw = some ⟨b, o, none⟩ ∧ RowI W_ b o n (fun i => (I i).w))) :
    Calls Try.prog 20 #[u, .slice st n dt, t, .slice sw n dw] W_ fun ex w' => ex = .returned (.tuple #[.bool (farI (batS I K R S W n)), .nilIface]) ∧ Below W_.heap.size W_ w' := by
  obtain ⟨su, cu, rfl, ru⟩ := own_spots h.uu
  obtain ⟨sl, cl, rfl, rl⟩ := own_seals h.tt
  exact hV.2.2.2 su st sl sw n cu n dt n cl n dw I W_ K R S W hn rfl rfl rfl (bh_fs ho) (ru.imp_right fun ⟨g, e, _, _, r⟩ => ⟨g, 0, e, r⟩) ht (rl.imp_right fun ⟨g, e, _, _, r⟩ => ⟨g, 0, e, r⟩) hw ho
theorem bh_wrong (hWr : BWrongIs) {B n dt : Nat} {st : Option Addr} {I : Nat → BatI} {K R S W : Nat → Nat} {W_ : World} {u t : Value} (hn : n ≤ 12) (ho : (∀ i, i < n → BatOk (I i) (K i) (R i) (S i) (W i))) (h : BK 26 39 B I W_ n u t) (ht : (n = 0 ∨ ∃ b o : Nat, st = some ⟨b, o, none⟩ ∧ RowZ W_ b o n (fun i => (I i).t))) :
    Calls Try.prog 23 #[u, .slice st n dt, t] W_ fun ex w' => ∃ v, ex = .returned (.tuple #[v, .nilIface]) ∧ w'.ownsRow W_.heap.size 3 1 v (batL I K R S n).length ((batL I K R S n).map fun (i : Nat) => .int .i64 (i : Int)) ∧ Below W_.heap.size W_ w' := by
  obtain ⟨su, cu, rfl, ru⟩ := own_spots h.uu
  obtain ⟨sl, cl, rfl, rl⟩ := own_seals h.tt
  exact hWr.2.2.2 su st sl n cu n dt n cl I W_ K R S hn rfl rfl (bh_fs ho) (ru.imp_right fun ⟨g, e, _, _, r⟩ => ⟨g, 0, e, r⟩) ht (rl.imp_right fun ⟨g, e, _, _, r⟩ => ⟨g, 0, e, r⟩) fun i hi => (ho i hi).toSealOk
/-- The first one: another number is wrong. -/
theorem bh_head (hWr : BWrongIs) (c : Nat) (hc : c = (sgN 1 1 ⟨#[97]⟩ + 1) % 1013) (W : World) (b1 b2 b3 : Nat) (h1 : At W b1 [.int .i64 ((tM (4 * 1)).1 : Int), .int .i64 ((tM (4 * 1)).2.1 : Int), .bool (tM (4 * 1)).2.2]) (h2 : At W b2 [.string ⟨#[97]⟩]) (h3 : At W b3 [.int .i64 ((tM (4 * 1)).1 : Int), .int .i64 ((tM (4 * 1)).2.1 : Int), .bool (tM (4 * 1)).2.2, .int .i64 (c : Int)]) :
    Calls Try.prog 23 #[.slice (some ⟨b1, 0, none⟩) 1 1, .slice (some ⟨b2, 0, none⟩) 1 1, .slice (some ⟨b3, 0, none⟩) 1 1] W fun ex w' => ∃ (sa : Option Addr) (c : Nat), ex = .returned (.tuple #[.slice sa 1 c, .nilIface]) ∧ Below W.heap.size W w' := by
  have hl : c < 1013 := by rw [hc]; exact Nat.mod_lt _ (by omega)
  have hw : tM (4 * c) = tM (4 * 1 + (4 * 1 + 4 * 1 * askN (4 * 1) (4 * 1) ⟨#[97]⟩)) := by rw [hc]; exact bh_more (sg_right 1 1 ⟨#[97]⟩)
  have ho : SealOk ⟨((tM (4 * 1)).1 : Int), ((tM (4 * 1)).2.1 : Int), (tM (4 * 1)).2.2, ⟨#[97]⟩, ((tM (4 * 1)).1 : Int), ((tM (4 * 1)).2.1 : Int), (tM (4 * 1)).2.2, (c : Int), 0⟩ (4 * 1) (4 * 1) c := ⟨show (ByteArray.size ⟨#[97]⟩) ≤ 60 by decide, rfl, rfl, rfl, rfl, rfl, rfl, rfl, hl⟩
  refine (hWr.2.2.2 (some ⟨b1, 0, none⟩) (some ⟨b2, 0, none⟩) (some ⟨b3, 0, none⟩) 1 1 1 1 1 1 (fun _ => ⟨((tM (4 * 1)).1 : Int), ((tM (4 * 1)).2.1 : Int), (tM (4 * 1)).2.2, ⟨#[97]⟩, ((tM (4 * 1)).1 : Int), ((tM (4 * 1)).2.1 : Int), (tM (4 * 1)).2.2, (c : Int), 0⟩) W (fun _ => 4 * 1) (fun _ => 4 * 1) (fun _ => c) (by omega) rfl rfl
    (fun i hi => ⟨show (ByteArray.size ⟨#[97]⟩) ≤ 9223372036854775807 by decide, show (Lit.int .i64 (c : Int)).wf = true from bh_wf (by omega) (by omega), show (Lit.int .i64 0).wf = true by decide⟩)
    (Or.inr ⟨b1, 0, rfl, h1.1, fun i hi => by (obtain rfl : i = 0 := (by omega)); exact ⟨h1.2.1 0 (by simp), h1.2.1 1 (by simp), h1.2.1 2 (by simp)⟩⟩)
    (Or.inr ⟨b2, 0, rfl, h2.1, fun i hi => by (obtain rfl : i = 0 := (by omega)); exact h2.2.1 0 (by simp)⟩)
    (Or.inr ⟨b3, 0, rfl, h3.1, fun i hi => by (obtain rfl : i = 0 := (by omega)); exact ⟨h3.2.1 0 (by simp), h3.2.1 1 (by simp), h3.2.1 2 (by simp), h3.2.1 3 (by simp)⟩⟩)
    (fun i hi => ho)).mono ?_
  rintro ex w' ⟨v, rfl, hown, hb⟩
  rw [bh_one (a := 0) (n := 1) (bh_ne (m := 1) (by omega) (by omega) hw) (by omega) (fun i hi h => by omega)] at hown
  obtain ⟨sa, d, rfl, _⟩ := own_slice hown
  exact ⟨sa, d, rfl, hb⟩
/-- The numbers, one of them with so much more. -/
def updS (S : Nat → Nat) (a more : Nat) : Nat → Nat := fun i => bif Nat.beq i a then (S a + more) % 1013 else S i
theorem updS_at (S : Nat → Nat) (a more : Nat) : updS S a more a = (S a + more) % 1013 := by unfold updS; rw [Nat.beq_refl]; rfl
theorem updS_ne {S : Nat → Nat} {a more i : Nat} (h : i ≠ a) : updS S a more i = S i := by
  have : Nat.beq i a = false := by
    cases hb : Nat.beq i a with
    | false => rfl
    | true => exact absurd (Nat.eq_of_beq_eq_true hb) h
  unfold updS
  rw [this]
  rfl
theorem bh_upd {I : Nat → BatI} {x z S v : Nat → Nat} {n a more : Nat} (hg : ∀ i, i < n → BatOk (I i) (4 * x i) (4 * z i) (S i) (v i)) (ha : a < n) : ∀ i, i < n → BatOk (updI I a (((I a).s + (more : Int)) % 1013) i) (4 * x i) (4 * z i) (updS S a more i) (v i) := by
  intro i hi
  by_cases e : i = a
  · subst e
    have h := hg i hi
    rw [updI_at, updS_at]
    exact ⟨⟨h.ht, h.hkx, h.hky, h.hkf, h.hrx, h.hry, h.hrf, by show ((I i).s + (more : Int)) % 1013 = (((S i + more) % 1013 : Nat) : Int); rw [h.hs]; omega, Nat.mod_lt _ (by omega)⟩, h.hw, h.hw1, h.hw2⟩
  · rw [updI_ne e, updS_ne e]
    exact hg i hi
theorem bh_updr {I : Nat → BatI} {x z S : Nat → Nat} {a more : Nat} {Z : Int} (hr : ∀ i, tM (4 * S i) = tM (4 * z i + 4 * x i * askN (4 * z i) (4 * x i) (I i).t)) :
    (∀ i, i ≠ a → tM (4 * updS S a more i) = tM (4 * z i + 4 * x i * askN (4 * z i) (4 * x i) (updI I a Z i).t)) ∧ tM (4 * updS S a more a) = tM (4 * more + (4 * z a + 4 * x a * askN (4 * z a) (4 * x a) (updI I a Z a).t)) := by
  refine ⟨fun i h => ?_, ?_⟩
  · rw [updS_ne h]; exact hr i
  · rw [updS_at]; exact bh_more (hr a)
theorem batchHolds_by (hV : BVerifyIs) (hWr : BWrongIs) (w : World) (sx : Option Addr) (n dx : Nat) (sz : Option Addr) (q dz : Nat) (st : Option Addr) (m dt : Nat) (sw : Option Addr) (p dw : Nat) (at_ more : Int)
    (uX : n = 0 ∨ ∃ (b o : Nat) (X : Nat → Int), sx = some ⟨b, o, none⟩ ∧ RowI w b o n X ∧ ∀ i, i < n → (Lit.int .i64 (X i)).wf = true) (uZ : q = 0 ∨ ∃ (b o : Nat) (X : Nat → Int), sz = some ⟨b, o, none⟩ ∧ RowI w b o q X ∧ ∀ i, i < q → (Lit.int .i64 (X i)).wf = true) (uT : m = 0 ∨ ∃ (b o : Nat) (T : Nat → ByteArray), st = some ⟨b, o, none⟩ ∧ RowZ w b o m T ∧ ∀ i, i < m → (T i).size ≤ reachBytes) (uW : p = 0 ∨ ∃ (b o : Nat) (X : Nat → Int), sw = some ⟨b, o, none⟩ ∧ RowI w b o p X ∧ ∀ i, i < p → (Lit.int .i64 (X i)).wf = true) :
    Calls Try.prog 4 #[.slice sx n dx, .slice sz q dz, .slice st m dt, .slice sw p dw, .int .i64 at_, .int .i64 more] w fun e w' => e = .returned (.bool true) ∧ Below w.heap.size w w' := by
  have rows : ∀ {s : Option Addr} {k : Nat}, (k = 0 ∨ ∃ (b o : Nat) (X : Nat → Int), s = some ⟨b, o, none⟩ ∧ RowI w b o k X ∧ ∀ i, i < k → (Lit.int .i64 (X i)).wf = true) → ∃ X : Nat → Int, (k = 0 ∨ ∃ b o : Nat, s = some ⟨b, o, none⟩ ∧ RowI w b o k X) := fun {s k} u => by
    rcases u with h | ⟨b, o, X, e, r, _⟩
    · exact ⟨fun _ => 0, Or.inl h⟩
    · exact ⟨X, Or.inr ⟨b, o, e, r⟩⟩
  obtain ⟨X, hX⟩ := rows uX
  obtain ⟨Z, hZ⟩ := rows uZ
  obtain ⟨Vt, hVt⟩ := rows uW
  obtain ⟨T, hT, hTs⟩ : ∃ T : Nat → ByteArray, (m = 0 ∨ ∃ b o : Nat, st = some ⟨b, o, none⟩ ∧ RowZ w b o m T) ∧ ∀ i, i < m → (T i).size ≤ 9223372036854775807 := by
    rcases uT with h | ⟨b, o, T, e, r, hs⟩
    · exact ⟨fun _ => ⟨#[]⟩, Or.inl h, fun i hi => by omega⟩
    · exact ⟨T, Or.inr ⟨b, o, e, r⟩, fun i hi => Nat.le_trans (hs i hi) (by decide)⟩
  have num : ∀ X : Nat → Int, ∃ x : Nat → Nat, (∀ i, secB (X i) = true → X i = (x i : Int)) ∧ ∀ i, 1 ≤ x i ∧ x i < 1013 := fun X => by
    refine ⟨fun i => bif secB (X i) then (X i).toNat else 1, fun i h => ?_, fun i => ?_⟩
    · have := of_decide_eq_true (p := 1 ≤ X i ∧ X i < 1013) h
      show X i = ((bif secB (X i) then (X i).toNat else 1 : Nat) : Int)
      rw [h, cond_true]
      omega
    · show 1 ≤ (bif secB (X i) then (X i).toNat else 1) ∧ (bif secB (X i) then (X i).toNat else 1) < 1013
      cases h : secB (X i) with
      | true =>
        have := of_decide_eq_true (p := 1 ≤ X i ∧ X i < 1013) h
        rw [cond_true]; omega
      | false => rw [cond_false]; omega
  obtain ⟨x, hx, bx⟩ := num X
  obtain ⟨z, hz, bz⟩ := num Z
  obtain ⟨v, hv, bv⟩ := num Vt
  obtain ⟨I, hI⟩ : ∃ I : Nat → BatI, I = (fun i => ⟨((tM (4 * x i)).1 : Int), ((tM (4 * x i)).2.1 : Int), (tM (4 * x i)).2.2, T i, ((tM (4 * z i)).1 : Int), ((tM (4 * z i)).2.1 : Int), (tM (4 * z i)).2.2, (sgN (x i) (z i) (T i) : Int), Vt i⟩ : Nat → BatI) := ⟨_, rfl⟩
  obtain ⟨S, hS⟩ : ∃ S : Nat → Nat, S = fun i => sgN (x i) (z i) (T i) := ⟨_, rfl⟩
  have hr : ∀ i, tM (4 * S i) = tM (4 * z i + 4 * x i * askN (4 * z i) (4 * x i) (I i).t) := fun i => by rw [hS, hI]; exact sg_right (x i) (z i) (T i)
  have hIt : ∀ i, (I i).t = T i := fun i => by rw [hI]
  have hIw : ∀ i, (I i).w = Vt i := fun i => by rw [hI]
  have hRT : ∀ {W_ : World}, Below w.heap.size w W_ → m = n → ∀ J : Nat → BatI, (∀ i, (J i).t = T i) → (n = 0 ∨ ∃ b o : Nat, st = some ⟨b, o, none⟩ ∧ RowZ W_ b o n (fun i => (J i).t)) := fun hW e J hJ => by
    rw [funext hJ, ← e]
    exact hT.imp_right fun ⟨b, o, e, r⟩ => ⟨b, o, e, r.below r.1 hW⟩
  have hRW : ∀ {W_ : World}, Below w.heap.size w W_ → p = n → ∀ J : Nat → BatI, (∀ i, (J i).w = Vt i) → (n = 0 ∨ ∃ b o : Nat, sw = some ⟨b, o, none⟩ ∧ RowI W_ b o n (fun i => (J i).w)) := fun hW e J hJ => by
    rw [funext hJ, ← e]
    exact hVt.imp_right fun ⟨b, o, e, r⟩ => ⟨b, o, e, r.below r.1 hW⟩
  by_cases hlen : q = n ∧ m = n ∧ p = n
  · obtain ⟨hq, hm, hp⟩ := hlen
    refine bholds sx sz st sw n dx q dz m dt p dw at_ more _ _ _ _ _ _ _ _ X Z Vt T I (fun i => BatOk (I i) (4 * x i) (4 * z i) (S i) (v i)) w (by omega) (by have := sgN_lt 1 1 ⟨#[97]⟩; omega) rfl
      (fun W => ?_) (fun w => key_yes 1 w (by omega) (by omega)) (fun w => sign_ok 1 1 ⟨#[97]⟩ w (by omega) (by omega) (by omega) (by omega) (by decide)) (fun W b1 b2 b3 h1 h2 h3 => bh_head hWr _ rfl W b1 b2 b3 h1 h2 (by rw [Int.natCast_emod, Int.natCast_add]; exact h3))
      (fun e1 e2 e3 _ => ⟨hX, by rw [← e1]; exact hZ, by rw [← e2]; exact hT, by rw [← e3]; exact hVt⟩) (fun hn' k hk => ?_)
      (fun hn' hg W u t hW h => ?_) (fun hn' hg W u t hW h => ?_) (fun hn' hg i hi => ?_) (fun hn' hg a ha m1 m2 W u t hW h => ?_) (fun hn' hg a ha m1 m2 W u t hW h => ?_)
    · exact hV.2.2.2 none none none none 0 0 0 0 0 0 0 0 I W (fun _ => 0) (fun _ => 0) (fun _ => 0) (fun _ => 0) (by omega) rfl rfl rfl (fun i hi => by omega) (Or.inl rfl) (Or.inl rfl) (Or.inl rfl) (Or.inl rfl) (fun i hi => by omega)
    · cases hsx : secB (X k) with
      | false =>
        have h9 := of_decide_eq_false (p := 1 ≤ X k ∧ X k < 1013) hsx
        exact Or.inl ⟨1, 1, fun w => key_no (X k) w (by omega), fun w => sign_x (X k) (Z k) (T k) w (by omega)⟩
      | true =>
        have e1 := hx k hsx
        have hkey : ∀ w, Calls Try.prog 21 #[.int .i64 (X k)] w fun ex w' => ex = .returned (.tuple #[.agg #[.int .i64 (I k).kx, .int .i64 (I k).ky, .bool (I k).kf], .nilIface]) ∧ Below w.heap.size w w' := fun w => by rw [e1, hI]; exact key_yes (x k) w (bx k).1 (bx k).2
        cases hsz : secB (Z k) with
        | false =>
          have h9 := of_decide_eq_false (p := 1 ≤ Z k ∧ Z k < 1013) hsz
          exact Or.inr (Or.inl ⟨1, hkey, fun w => by rw [e1]; exact sign_k (x k) (Z k) (T k) w (bx k).1 (bx k).2 (by omega)⟩)
        | true =>
          have e2 := hz k hsz
          by_cases h60 : 60 < (T k).size
          · exact Or.inr (Or.inl ⟨4, hkey, fun w => by rw [e1, e2]; exact sign_full (x k) (z k) (T k) w (bx k).1 (bx k).2 (bz k).1 (bz k).2 h60 (hTs k (by omega))⟩)
          · refine Or.inr (Or.inr ⟨hkey, fun w => ?_, fun hs => ?_⟩)
            · rw [e1, e2, hI]
              exact sign_ok (x k) (z k) (T k) w (bx k).1 (bx k).2 (bz k).1 (bz k).2 (by omega)
            · have e3 := hv k hs
              rw [hI, hS]
              exact ⟨⟨by show (T k).size ≤ 60; omega, rfl, rfl, rfl, rfl, rfl, rfl, rfl, sgN_lt _ _ _⟩, e3, (bv k).1, (bv k).2⟩
    · have := bh_verify hV (dt := dt) (dw := dw) (W := v) hn'.2.2.2 hg h (hRT hW hm I hIt) (hRW hW hp I hIw)
      rwa [bh_far fun i _ => hr i] at this
    · refine (bh_wrong hWr (W := v) hn'.2.2.2 hg h (hRT hW hm I hIt)).mono ?_
      rintro ex w' ⟨y, rfl, hown, hb⟩
      rw [bh_none fun i _ => hr i] at hown
      obtain ⟨sa, c, rfl, _⟩ := own_slice hown
      exact ⟨sa, c, rfl, hb⟩
    · have h9 := hg i hi
      exact ⟨by rw [h9.hs]; omega, by rw [h9.hs]; have := h9.hlt; omega⟩
    · obtain ⟨k, rfl⟩ : ∃ k : Nat, more = (k : Int) := ⟨more.toNat, by omega⟩
      have ok2 := bh_upd (z := z) (x := x) (v := v) (S := S) (more := k) hg ha
      have r2 := bh_updr (x := x) (z := z) (S := S) (I := I) (a := a) (more := k) (Z := ((I a).s + (k : Int)) % 1013) hr
      have := bh_verify hV (dt := dt) (dw := dw) (W := v) hn'.2.2.2 ok2 h (hRT hW hm _ hIt) (hRW hW hp _ hIw)
      rwa [bh_near (more := k) (a := a) (by omega) (by omega) bv ha (fun i _ => r2.1 i) r2.2] at this
    · obtain ⟨k, rfl⟩ : ∃ k : Nat, more = (k : Int) := ⟨more.toNat, by omega⟩
      have ok2 := bh_upd (z := z) (x := x) (v := v) (S := S) (more := k) hg ha
      have r2 := bh_updr (x := x) (z := z) (S := S) (I := I) (a := a) (more := k) (Z := ((I a).s + (k : Int)) % 1013) hr
      refine (bh_wrong hWr (W := v) hn'.2.2.2 ok2 h (hRT hW hm _ hIt)).mono ?_
      rintro ex w' ⟨y, rfl, hown, hb⟩
      rw [bh_one (a := a) (bh_ne (m := k) (by omega) (by omega) r2.2) ha (fun i _ => r2.1 i)] at hown
      obtain ⟨sa, c, rfl, h1⟩ := own_slice hown
      rcases h1 with h1 | ⟨g, rfl, h2, _, h4⟩
      · cases h1
      · have h5 := hown.cells h2 0 (.int .i64 (a : Int)) rfl
        exact ⟨g, c, rfl, h4, h5, hb⟩
  · exact bholds sx sz st sw n dx q dz m dt p dw at_ more _ _ _ _ _ _ _ _ X Z Vt T I (fun i => False) w (by omega) (by have := sgN_lt 1 1 ⟨#[97]⟩; omega) rfl
      (fun W => hV.2.2.2 none none none none 0 0 0 0 0 0 0 0 I W (fun _ => 0) (fun _ => 0) (fun _ => 0) (fun _ => 0) (by omega) rfl rfl rfl (fun i hi => by omega) (Or.inl rfl) (Or.inl rfl) (Or.inl rfl) (Or.inl rfl) (fun i hi => by omega)) (fun w => key_yes 1 w (by omega) (by omega)) (fun w => sign_ok 1 1 ⟨#[97]⟩ w (by omega) (by omega) (by omega) (by omega) (by decide)) (fun W b1 b2 b3 h1 h2 h3 => bh_head hWr _ rfl W b1 b2 b3 h1 h2 (by rw [Int.natCast_emod, Int.natCast_add]; exact h3))
      (fun e1 e2 e3 _ => absurd ⟨e1, e2, e3⟩ hlen) (fun h => absurd ⟨h.1, h.2.1, h.2.2.1⟩ hlen) (fun h => absurd ⟨h.1, h.2.1, h.2.2.1⟩ hlen) (fun h => absurd ⟨h.1, h.2.1, h.2.2.1⟩ hlen) (fun h => absurd ⟨h.1, h.2.1, h.2.2.1⟩ hlen) (fun h => absurd ⟨h.1, h.2.1, h.2.2.1⟩ hlen) (fun h => absurd ⟨h.1, h.2.1, h.2.2.1⟩ hlen)
end Go.Proofs.Ytmijjjdedadklaj
