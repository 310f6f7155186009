/- Spots and names told, as the plain reckoning has them (stoneref2). -/
import Derived.Test.YtgngdabfmbipaakGreatDoorKRefRunB
import Derived.Test.YtgngdabfmbipaakGreatDoorKG9
namespace Go.Proofs.YtgngdabfmbipaakGreatDoor
open Go.RowKit Go.Sort
set_option linter.unusedVariables false
set_option linter.unusedSimpArgs false
theorem rdigits (n : Nat) (w : World) (h : n ≤ 1000000) : Calls Tryz.prog 11 #[.int .i64 (n : Int)] w fun e w' => e = .returned (.string (digB n)) ∧ Below w.heap.size w w' :=
  rdigF 20 (by omega) n w (Nat.lt_of_le_of_lt h (by decide)) h
theorem digB_size (n : Nat) : (digB n).size ≤ 100 := rdig_size 20 n (by omega)
set_option maxRecDepth 100000 in
set_option maxHeartbeats 4000000 in
theorem rtold (x y : Nat) (f : Bool) (w : World) (hx : x ≤ 4050) (hy : y ≤ 4050) : Calls Tryz.prog 51 #[.agg #[.int .i64 (x : Int), .int .i64 (y : Int), .bool f]] w fun e w' => e = .returned (.string (toldB (x, y, f))) ∧ Below w.heap.size w w' := by
  cases f with
  | true =>
    go_enter Tryz.func51, Tryz.ntmps51
    go_wp2_with fail
    go_ret
    exact ⟨rfl, below_by⟩
  | false =>
    have HX : Hid (∀ w, Calls Tryz.prog 11 #[.int .i64 (x : Int)] w fun e w' => e = .returned (.string (digB x)) ∧ Below w.heap.size w w') := fun w => rdigits x w (by omega)
    have HY : Hid (∀ w, Calls Tryz.prog 11 #[.int .i64 (y : Int)] w fun e w' => e = .returned (.string (digB y)) ∧ Below w.heap.size w w') := fun w => rdigits y w (by omega)
    have s1 := digB_size x
    have s2 := digB_size y
    have HT : Hid (toldB (x, y, false) = digB x ++ ⟨#[32]⟩ ++ digB y) := rfl
    have m1 : True := trivial; have m2 : True := trivial
    go_enter Tryz.func51, Tryz.ntmps51
    go_wp2_with (first | (go_at_call 11; clear m1; refine (HX.out _).mono ?_; rintro e w1 ⟨rfl, hbw1⟩; have kpw1 : At w1 (w.heap.size) [.int .i64 (x : Int), .int .i64 (y : Int), .bool false] := (at_red); have hqw1 : Below w.heap.size w w1 := (below_by); have hzw1 := hqw1.size; obtain ⟨zpw1, cp0w1, cp1w1, cp2w1, fp0w1, fp1w1, fp2w1⟩ := kpw1.three; clear hbw1) | (go_at_call 11; clear m2; refine (HY.out _).mono ?_; rintro e w2 ⟨rfl, hbw2⟩; have hqw2 : Below w.heap.size w w2 := (below_by); have hzw2 := hqw2.size; clear kpw1 cp0w1 fp0w1 cp1w1 fp1w1 cp2w1 fp2w1 hqw1; clear hbw2))
    go_ret
    exact ⟨by rw [HT.out]; rfl, below_by⟩
set_option maxRecDepth 100000 in
set_option maxHeartbeats 4000000 in
theorem rname1 (w : World) : Calls Tryz.prog 53 #[.int .i64 1] w fun e w' => e = .returned (.string rangeB) ∧ Below w.heap.size w w' := by
  go_enter Tryz.func53, Tryz.ntmps53
  go_wp2_with fail
  go_ret
  exact ⟨rfl, below_by⟩
set_option maxRecDepth 100000 in
set_option maxHeartbeats 4000000 in
theorem rname4 (w : World) : Calls Tryz.prog 53 #[.int .i64 4] w fun e w' => e = .returned (.string fullB) ∧ Below w.heap.size w w' := by
  go_enter Tryz.func53, Tryz.ntmps53
  go_wp2_with fail
  go_ret
  exact ⟨rfl, below_by⟩
set_option maxRecDepth 100000 in
set_option maxHeartbeats 4000000 in
theorem rname5 (w : World) : Calls Tryz.prog 53 #[.int .i64 5] w fun e w' => e = .returned (.string noneB) ∧ Below w.heap.size w w' := by
  go_enter Tryz.func53, Tryz.ntmps53
  go_wp2_with fail
  go_ret
  exact ⟨rfl, below_by⟩
end Go.Proofs.YtgngdabfmbipaakGreatDoor
