/- What package group is to answer, as the laws of groups ask it. -/
import Derived.Test.YtmijjjdedadklagGroupIs
import Derived.Test.YtmijjjdedadklagShareIs
import Derived.Test.YtmijjjdedadklagSealVerify
namespace Go.Proofs.Ytmijjjdedadklag
open Go.RowKit Go.Sort
set_option linter.unusedVariables false
set_option linter.unusedSimpArgs false
theorem rowI_natP {w : World} {b o n : Nat} {X : Nat → Int} (h : RowI w b o n X) (h0 : ∀ i, i < n → 0 ≤ X i) : RowI w b o n (fun i => (((X i).toNat : Nat) : Int)) :=
  ⟨h.1, fun i hi => by
    have e : (((X i).toNat : Nat) : Int) = X i := by have := h0 i hi; omega
    show _ = some (Value.int .i64 (((X i).toNat : Nat) : Int))
    rw [e]; exact h.2 i hi⟩
/-- Those that sign together: a fault is told, or all is right. -/
theorem gsign_case (hS : GSignIs) (sx : Option Addr) (p dx : Nat) (sk : Option Addr) (q dk : Nat) (t : ByteArray) (w : World) (hp : p ≤ 9223372036854775807) (hq : q ≤ 9223372036854775807) (ht : t.size ≤ 9223372036854775807) (kx : p ≤ dx) (kk : q ≤ dk) (uX : (p = 0 ∨ ∃ (b o : Nat) (X : Nat → Int), sx = some ⟨b, o, none⟩ ∧ RowI w b o p X ∧ ∀ i, i < p → (Lit.int .i64 (X i)).wf = true)) (uZ : (q = 0 ∨ ∃ (b o : Nat) (X : Nat → Int), sk = some ⟨b, o, none⟩ ∧ RowI w b o q X ∧ ∀ i, i < q → (Lit.int .i64 (X i)).wf = true)) :
    (∃ c : Int, ∀ W, Below w.heap.size w W → Calls Try.prog 16 #[.slice sx p dx, .slice sk q dk, .string t] W fun ex w' => ex = .returned (.tuple #[.agg #[.int .i64 0, .int .i64 0, .bool false, .int .i64 0], errOf c]) ∧ Below W.heap.size W w') ∨
    (p = q ∧ p ≤ 12 ∧ t.size ≤ 60 ∧ ∃ x z : Nat → Nat, (p = 0 ∨ ∃ b o : Nat, sx = some ⟨b, o, none⟩ ∧ RowI w b o p (fun i => (x i : Int))) ∧ (∀ i, i < p → 1 ≤ x i ∧ x i < 1013) ∧ ∀ W, Below w.heap.size w W → Calls Try.prog 16 #[.slice sx p dx, .slice sk q dk, .string t] W fun ex w' => ex = .returned (.tuple #[.agg #[.int .i64 ((tM (4 * jsN z p)).1 : Int), .int .i64 ((tM (4 * jsN z p)).2.1 : Int), .bool (tM (4 * jsN z p)).2.2, .int .i64 (gsN x z p t : Int)], .nilIface]) ∧ Below W.heap.size W w') := by
  by_cases h12 : 12 < p
  · exact Or.inl ⟨4, fun W _ => hS.1 sx sk p dx q dk t W h12 hp hq ht⟩
  by_cases hpq : p = q
  · subst hpq
    have rows : ∀ {s : Option Addr}, (p = 0 ∨ ∃ (b o : Nat) (X : Nat → Int), s = some ⟨b, o, none⟩ ∧ RowI w b o p X ∧ ∀ i, i < p → (Lit.int .i64 (X i)).wf = true) → ∃ X : Nat → Int, (p = 0 ∨ ∃ b o : Nat, s = some ⟨b, o, none⟩ ∧ RowI w b o p X) ∧ (∀ i, i < p → (Lit.int .i64 (X i)).wf = true) := fun {s} u => by
      rcases u with h | ⟨b, o, X, e, r, k⟩
      · exact ⟨fun _ => 0, Or.inl h, fun i hi => by omega⟩
      · exact ⟨X, Or.inr ⟨b, o, e, r⟩, k⟩
    obtain ⟨X, hx, wx⟩ := rows uX
    obtain ⟨Z, hz, wz⟩ := rows uZ
    have upR : ∀ {s : Option Addr} {X : Nat → Int} W, Below w.heap.size w W → (p = 0 ∨ ∃ b o : Nat, s = some ⟨b, o, none⟩ ∧ RowI w b o p X) → (p = 0 ∨ ∃ b o : Nat, s = some ⟨b, o, none⟩ ∧ RowI W b o p X) := fun W k h => h.imp_right fun ⟨b, o, e, r⟩ => ⟨b, o, e, r.below r.1 k⟩
    obtain ⟨j, g1, g2, g3⟩ := first_no (fun i => secB (X i) && secB (Z i)) p
    rcases g3 with g3 | ⟨g3, g4⟩
    · subst g3
      by_cases h60 : 60 < t.size
      · exact Or.inl ⟨4, fun W k => hS.2.2.2.1 sx sk j dx dk X Z t W (by omega) kx kk (upR W k hx) (upR W k hz) g2 h60 ht⟩
      · have bx : ∀ i, i < j → 1 ≤ X i ∧ X i < 1013 := fun i hi => by
          have h : (secB (X i) && secB (Z i)) = true := g2 i hi
          rw [Bool.and_eq_true] at h
          exact sec_bd h.1
        exact Or.inr ⟨rfl, by omega, by omega, fun i => (X i).toNat, fun i => (Z i).toNat, hx.imp_right fun ⟨b, o, e, r⟩ => ⟨b, o, e, rowI_natP r fun i hi => by have := bx i hi; omega⟩, fun i hi => by have := bx i hi; show 1 ≤ (X i).toNat ∧ (X i).toNat < 1013; omega,
          fun W k => hS.2.2.2.2 sx sk j dx dk X Z t W (by omega) kx kk (upR W k hx) (upR W k hz) g2 (by omega)⟩
    · exact Or.inl ⟨1, fun W k => hS.2.2.1 sx sk p dx dk X Z t W (by omega) kx kk (upR W k hx) (upR W k hz) wx wz ht ⟨j, g3, g4⟩⟩
  · exact Or.inl ⟨3, fun W _ => hS.2.1 sx sk p dx q dk t W (by omega) hpq hq ht⟩
theorem joint_own (hJ : JointIs) {W : World} {B n : Nat} {v : Value} {x : Nat → Nat} (hn : n ≤ 12) (h : W.ownsRow B 32 3 v n (cellsT (fun i => ((tM (4 * x i)).1 : Int)) (fun i => ((tM (4 * x i)).2.1 : Int)) (fun i => (tM (4 * x i)).2.2) n)) :
    Calls Try.prog 15 #[v] W fun e w' => e = .returned (.tuple #[.agg #[.int .i64 ((tM (jtN (fun i => 4 * x i) n n)).1 : Int), .int .i64 ((tM (jtN (fun i => 4 * x i) n n)).2.1 : Int), .bool (tM (jtN (fun i => 4 * x i) n n)).2.2], .nilIface]) ∧ Below W.heap.size W w' := by
  obtain ⟨sa, c, rfl, r⟩ := own_spots h
  exact hJ.2.2 sa n c _ _ _ (fun i => 4 * x i) W hn (own_room h) (r.imp_right fun ⟨g, e, _, _, r⟩ => ⟨g, 0, e, r⟩) fun i _ => ⟨rfl, rfl, rfl⟩
theorem joint_nil (hJ : JointIs) (W : World) : Calls Try.prog 15 #[.slice none 0 0] W fun e w' => e = .returned (.tuple #[.agg #[.int .i64 0, .int .i64 0, .bool true], .nilIface]) ∧ Below W.heap.size W w' :=
  hJ.2.2 none 0 0 (fun _ => 0) (fun _ => 0) (fun _ => false) (fun _ => 0) W (by omega) (by omega) (Or.inl rfl) fun i hi => by omega
/-- What all sealed together is right. -/
theorem gverify (x z : Nat → Nat) (n : Nat) (t : ByteArray) (ht : t.size ≤ 60) (w : World) :
    Calls Try.prog 17 #[.agg #[.int .i64 ((tM (jtN (fun i => 4 * x i) n n)).1 : Int), .int .i64 ((tM (jtN (fun i => 4 * x i) n n)).2.1 : Int), .bool (tM (jtN (fun i => 4 * x i) n n)).2.2], .string t, .agg #[.int .i64 ((tM (4 * jsN z n)).1 : Int), .int .i64 ((tM (4 * jsN z n)).2.1 : Int), .bool (tM (4 * jsN z n)).2.2, .int .i64 (gsN x z n t : Int)]] w fun e w' => e = .returned (.tuple #[.bool true, .nilIface]) ∧ Below w.heap.size w w' :=
  verify_same ht (by omega) (by have := gsN_lt x z n t; omega) (sameS_yes (by rw [em_nat (gsN_lt x z n t)]; exact gs_right x z n t)) w
/-- Another number is not. -/
theorem gverify_other (x z : Nat → Nat) (n m : Nat) (t : ByteArray) (ht : t.size ≤ 60) (hm : m < 1013) (h : m ≠ gsN x z n t) (w : World) :
    Calls Try.prog 17 #[.agg #[.int .i64 ((tM (jtN (fun i => 4 * x i) n n)).1 : Int), .int .i64 ((tM (jtN (fun i => 4 * x i) n n)).2.1 : Int), .bool (tM (jtN (fun i => 4 * x i) n n)).2.2], .string t, .agg #[.int .i64 ((tM (4 * jsN z n)).1 : Int), .int .i64 ((tM (4 * jsN z n)).2.1 : Int), .bool (tM (4 * jsN z n)).2.2, .int .i64 (m : Int)]] w fun e w' => e = .returned (.tuple #[.bool false, .nilIface]) ∧ Below w.heap.size w w' :=
  verify_same ht (by omega) (by omega) (sameS_no (by rw [em_nat hm]; exact gs_wrong x z n t (by omega))) w
end Go.Proofs.Ytmijjjdedadklag
