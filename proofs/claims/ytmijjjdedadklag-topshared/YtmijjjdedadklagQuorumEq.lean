/- Parts of enough of them, joined, are as one. Apart from the program's code. -/
import Derived.Test.YtmijjjdedadklagQuorumIs
import Derived.Test.YtmijjjdedadklagShareBackEq
import Derived.Test.YtmijjjdedadklagT4Math
namespace Go.Proofs.Ytmijjjdedadklag
open Go.RowKit Go.Sort
set_option linter.unusedVariables false
set_option linter.unusedSimpArgs false
theorem vI_nat (a : QF) : (vI a).toNat = a.val := by unfold vI; omega
theorem jw_mod (u : Nat) (y : Nat → Nat) (X : Nat → Int) (p : Nat) : ∀ k, ∃ s : Nat, jwN (fun i => 4 * (u * y i)) X p k = 4 * (u * s) ∧ (s : Int) % 1013 = vI (sm (fun i => wtq (xq X) p i * zq (y i : Int)) k)
  | 0 => ⟨0, rfl, rfl⟩
  | k + 1 => by
    obtain ⟨s, h1, h2⟩ := jw_mod u y X p k
    refine ⟨s + y k * (wtq (xq X) p k).val, ?_, ?_⟩
    · show jwN (fun i => 4 * (u * y i)) X p k + 4 * (u * y k) * (wtq (xq X) p k).val = _
      rw [h1, Nat.mul_add, Nat.mul_add, Nat.mul_assoc, Nat.mul_assoc]
    · show _ = vI (sm _ k + wtq (xq X) p k * zq (y k : Int))
      have e : zq ((s + y k * (wtq (xq X) p k).val : Nat) : Int) = sm (fun i => wtq (xq X) p i * zq (y i : Int)) k + wtq (xq X) p k * zq (y k : Int) := by
        have e1 : zq (s : Int) = sm (fun i => wtq (xq X) p i * zq (y i : Int)) k := by
          rw [← zq_mod, h2, zq_vI]
        rw [Int.natCast_add, Int.natCast_mul, zq_add, zq_mul, e1, zq_back]
        grind
      rw [← e, vI_zq]
/-- Enough of them, whoever: joined they are as one. -/
theorem jw_tells {J : Nat → Nat} {r n m c0 : Nat} {C : Nat → Int} (u : Nat) (h : Picks J r n) (hn : n ≤ 12) (h1 : 1 ≤ m) (h2 : m ≤ r) (hc : C 0 = (c0 : Int)) (hr : resB (C 0) = true) :
    tM (jwN (fun i => 4 * (u * (pkY C m J i).toNat)) (pkX J) r r) = tM (4 * (u * c0)) := by
  obtain ⟨s, e1, e2⟩ := jw_mod u (fun i => (pkY C m J i).toNat) (pkX J) r r
  rw [e1]
  have e3 := picks_tell h hn h1 h2 hr
  have e4 : smI (pkX J) (pkY C m J) r r = (s : Int) % 1013 := by
    rw [e2]
    unfold smI
    exact congrArg vI (sm_congr fun i hi => by
      have h0 : 0 ≤ pkY C m J i := vI_lo (vlq (xq C) (zq ((J i : Int) + 1)) m)
      have h1 : ((pkY C m J i).toNat : Int) = pkY C m J i := by omega
      show wtq (xq (pkX J)) r i * zq (pkY C m J i) = wtq (xq (pkX J)) r i * zq ((pkY C m J i).toNat : Int)
      rw [h1])
  have e5 : s % 1013 = c0 % 1013 := by
    have := res_bd hr
    rw [e4, hc] at e3
    omega
  apply t4_congr
  rw [Nat.mul_mod, e5, ← Nat.mul_mod]
theorem jw_tells1 {J : Nat → Nat} {r n m c0 : Nat} {C : Nat → Int} (h : Picks J r n) (hn : n ≤ 12) (h1 : 1 ≤ m) (h2 : m ≤ r) (hc : C 0 = (c0 : Int)) (hr : resB (C 0) = true) :
    tM (jwN (fun i => 4 * (pkY C m J i).toNat) (pkX J) r r) = tM (4 * c0) := by
  have := jw_tells 1 h hn h1 h2 hc hr
  simpa only [Nat.one_mul] using this
end Go.Proofs.Ytmijjjdedadklag
