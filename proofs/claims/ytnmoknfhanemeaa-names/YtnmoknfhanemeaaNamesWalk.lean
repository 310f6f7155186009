/- Proved: stonelaw1.Names answers true: the numbers and the errors' names of package api are the document's. No condition stands behind it. -/
import Derived.Test.YtnmoknfhanemeaaChecked
import Derived.WalkKit
import Derived.RowKit3
namespace Go.Proofs.Ytnmoknfhanemeaa
open Go.RowKit
theorem walkNames (w : World) :
    Calls Try.prog 3 #[] w fun e w' => e = .returned (.bool true) ∧ Grown w w' := by
  go_enter Try.func3, Try.ntmps3
  go_wp2
  go_loop [3] (fun i => ∃ k : Int, 0 ≤ k ∧ k ≤ 9 ∧ i = .int .i64 k) (fun i => 9 - (intOf i).toNat)
  case atStart => exact ⟨0, by omega, by omega, rfl⟩
  case round =>
    obtain ⟨k, hk0, hk9, rfl⟩ := hrel
    have hk : k = 9 ∨ k = 0 ∨ k = 1 ∨ k = 2 ∨ k = 3 ∨ k = 4 ∨ k = 5 ∨ k = 6 ∨ k = 7 ∨ k = 8 := by omega
    clear hk0 hk9
    rcases hk with rfl | hk
    · go_wp2
      go_ret
      exact ⟨rfl, by repeat (first | exact Grown.refl _ | apply Grown.drew | apply Grown.alloc)⟩
    · rcases hk with rfl | rfl | rfl | rfl | rfl | rfl | rfl | rfl | rfl
      all_goals
        go_wp2
        go_round
        case rel => refine ⟨_, ?_, ?_, rfl⟩ <;> omega
        case measure => simp [intOf]
end Go.Proofs.Ytnmoknfhanemeaa
