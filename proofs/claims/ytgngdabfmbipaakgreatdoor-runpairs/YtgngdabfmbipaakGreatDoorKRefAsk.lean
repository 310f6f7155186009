/- What the plain reckoning of a challenge (stoneref2.Ask) answers. -/
import Derived.Test.YtgngdabfmbipaakGreatDoorKG1
import Derived.Test.YtgngdabfmbipaakGreatDoorKG20
import Derived.Test.YtgngdabfmbipaakGreatDoorKG9
namespace Go.Proofs.YtgngdabfmbipaakGreatDoor
open Go.RowKit Go.Sort
set_option linter.unusedVariables false
set_option linter.unusedSimpArgs false
set_option maxRecDepth 100000 in
set_option maxHeartbeats 4000000 in
theorem rask_tM (i j : Nat) (t : ByteArray) (w : World) (ht : t.size ≤ 60) : Calls Tryz.prog 100 #[.agg #[.int .i64 ((tM i).1 : Int), .int .i64 ((tM i).2.1 : Int), .bool (tM i).2.2], .agg #[.int .i64 ((tM j).1 : Int), .int .i64 ((tM j).2.1 : Int), .bool (tM j).2.2], .string t] w fun e w' => e = .returned (.int .i64 (askN i j t : Int)) ∧ Below w.heap.size w w' := by
  have hs := join_size i j ht
  have HA := askI i j t
  have HN : Hid (∀ w, Calls Tryz.prog 56 #[.string (pkB (tM i) ++ pkB (tM j) ++ t)] w fun e w' => e = .returned (.int .i64 (askN i j t : Int)) ∧ Below w.heap.size w w') := fun w => by
    have := below_of_same (rnumber_any (pkB (tM i) ++ pkB (tM j) ++ t) w (by omega))
    rwa [HA] at this
  have p1 := pkB_size (tM i)
  have p2 := pkB_size (tM j)
  clear HA hs
  go_enter Tryz.func100, Tryz.ntmps100
  go_wp2_with fail
  refine wp_gen (fun V => At V (w.heap.size) [.int .i64 ((tM i).1 : Int), .int .i64 ((tM i).2.1 : Int), .bool (tM i).2.2] ∧ At V (w.heap.size + 1) [.int .i64 ((tM j).1 : Int), .int .i64 ((tM j).2.1 : Int), .bool (tM j).2.2] ∧ Below w.heap.size w V) ⟨at_by, at_by, below_by⟩ ?_
  rintro V ⟨kaV, kbV, hqV⟩
  have hzV := hqV.size
  obtain ⟨zaV, ca0V, ca1V, ca2V, fa0V, fa1V, fa2V⟩ := kaV.three
  obtain ⟨zbV, cb0V, cb1V, cb2V, fb0V, fb1V, fb2V⟩ := kbV.three
  refine wp_region_quiet_below (by kernel_rfl) (by kernel_rfl) ?_
  repeat (go_big_quiet_step (first | (go_at_call 131; with_reducible exact Calls.regrown_of (rbytes_tM i _)) | (go_at_call 131; with_reducible exact Calls.regrown_of (rbytes_tM j _)) | (go_at_call 56; with_reducible exact Calls.regrown_of (HN.out _))))
  refine wpQuiet_nil ?_
  intro V2 hw1
  have hrV2 := regrown_below hw1
  clear hw1
  have kaV2 := kaV.below hrV2
  have kbV2 := kbV.below hrV2
  have hqV2 := bl_call hqV hrV2 (by omega)
  have hzV2 := hqV2.size
  clear hrV2 kaV ca0V fa0V ca1V fa1V ca2V fa2V kbV cb0V fb0V cb1V fb1V cb2V fb2V hqV
  obtain ⟨zaV2, ca0V2, ca1V2, ca2V2, fa0V2, fa1V2, fa2V2⟩ := kaV2.three
  obtain ⟨zbV2, cb0V2, cb1V2, cb2V2, fb0V2, fb1V2, fb2V2⟩ := kbV2.three
  go_wp2_with fail
  go_ret
  exact ⟨rfl, below_by⟩
end Go.Proofs.YtgngdabfmbipaakGreatDoor
