/- Spots of those that are picked, joined, by what package quorum is to answer. -/
import Derived.Test.YtmijjjdedadklagQuorumEq
import Derived.Test.YtmijjjdedadklagPickRows
namespace Go.Proofs.Ytmijjjdedadklag
open Go.RowKit Go.Sort
set_option linter.unusedVariables false
set_option linter.unusedSimpArgs false
/-- Joined rows of those that are picked. -/
theorem join_pick (hJ : JoinIs) {m n r B1 B2 : Nat} {J : Nat → Nat} {W : World} {xv pv : Value} (K : Nat → Nat) {z : Sn} (hP : Picks J r n) (hn : n ≤ 12) (hm : 1 ≤ m) (hmr : m ≤ r)
    (hx : W.ownsRow B1 3 1 xv r (cellsI (pkX J) r)) (hp : W.ownsRow B2 32 3 pv r (pkT (fun j => ((tM (K j)).1 : Int)) (fun j => ((tM (K j)).2.1 : Int)) (fun j => (tM (K j)).2.2) J r)) (hz : tM (jwN (fun i => K (J i)) (pkX J) r r) = z) :
    Calls Try.prog 12 #[xv, pv] W fun ex w' => ex = .returned (.tuple #[.agg #[.int .i64 ((z).1 : Int), .int .i64 ((z).2.1 : Int), .bool (z).2.2], .nilIface]) ∧ Below W.heap.size W w' := by
  have hr := hP.le
  obtain ⟨s, c, rfl, h1⟩ := own_ints hx
  obtain ⟨g, rfl, _, _, r1⟩ := h1.resolve_left (by omega)
  obtain ⟨s2, c2, rfl, h2⟩ := own_spots hp
  obtain ⟨g2, rfl, _, _, r2⟩ := h2.resolve_left (by omega)
  have := hJ.2.2.2.2.2 g 0 g2 0 r c c2 (pkX J) _ _ _ W (fun i => K (J i)) (by omega) (by omega) (own_room hx) (own_room hp) r1 (fun i hi => by
      have h3 := hP.1 i hi
      unfold pkX
      exact WalkArith.wf_i64 ⟨by omega, by omega⟩) r2 (picks_ok hP hn) (fun i hi => ⟨rfl, rfl, rfl⟩)
  rwa [hz] at this
end Go.Proofs.Ytmijjjdedadklag
