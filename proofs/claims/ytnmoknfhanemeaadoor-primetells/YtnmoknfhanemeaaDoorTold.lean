/- plain.Told and stonesame.Error, of no error and of an error that is an Errno, where the one listed variable (the handle of the type 'error') lies as it is laid. -/
import Derived.Test.YtnmoknfhanemeaaDoorDoor
import Derived.Test.YtnmoknfhanemeaaDoorPrime
import Derived.ChangeFn
namespace Go.Proofs.YtnmoknfhanemeaaDoor
open Go.RowKit Go.Extern.Stop Go.Stop Go.Extern

/-- The listed variable lies as it is laid. -/
def Door (w : World) : Prop := w.cell? ⟨0, 0, none⟩ = some (.iface 50 (.agg #[.pointer (some ⟨1, 25, none⟩)]))
theorem Door.pos {w : World} (h : Door w) : 0 < w.heap.size := by
  rcases Nat.eq_zero_or_pos w.heap.size with h0 | h1
  · simp [Door, World.cell?, h0] at h
  · exact h1
theorem Door.grown {w w' : World} (h : Door w) (hg : Grown w w') : Door w' :=
  (hg.1.cell (b := 0) (off := 0) h.pos (fun f => f)).trans h
theorem grown_trans {w w' w'' : World} (h : Grown w w') (k : Grown w' w'') : Grown w w'' :=
  ⟨World.keptBut_trans h.1 k.1, fun a => (k.2.1 a).trans (h.2.1 a), Nat.le_trans h.2.2 k.2.2⟩

theorem told_nil (w : World) :
    Calls Tryd.prog 17 #[.nilIface] w fun e w' => e = .returned (.int .i64 0) ∧ w' = w := by
  go_enter Tryd.func17, Tryd.ntmps17
  go_wp2_with fail
  go_ret
  exact ⟨rfl, rfl⟩
set_option maxHeartbeats 1000000 in
theorem told_err (n : Int) (w : World) (hd : Door w) :
    Calls Tryd.prog 17 #[errOf n] w fun e w' => e = .returned (.int .i64 n) ∧ Grown w w' := by
  have hgA : (w.alloc (.cells #[.int .i64 0] 32)).cell? ⟨0, 0, none⟩ = some (.iface 50 (.agg #[.pointer (some ⟨1, 25, none⟩)])) := by
    rw [World.cell?_alloc_lt _ _ ⟨0, 0, none⟩ hd.pos]; exact hd
  have htA : (w.alloc (.cells #[.int .i64 0] 32)).cell? ⟨w.heap.size, 0, none⟩ = some (.int .i64 0) := by simp
  have hfA : (w.alloc (.cells #[.int .i64 0] 32)).frozen? ⟨w.heap.size, 0, none⟩ = false := by simp
  have HD : Hid (Door w) := hd
  clear hd
  go_enter Tryd.func17, Tryd.ntmps17
  go_wp2_with (go_at_call 18; refine (as_hit n _ (.int .i64 0) _ hgA htA hfA).mono ?_; rintro e w' ⟨rfl, rfl⟩)
  go_ret
  exact ⟨rfl, by repeat (first | exact Grown.refl _ | apply Grown.drew | apply Grown.alloc | (refine Grown.setCell ?_ (Nat.le_refl _) _))⟩
theorem same_nil (k : Int) (w : World) :
    Calls Tryd.prog 11 #[.nilIface, .int .i64 k] w fun e w' => e = .returned (.bool ((0 : Int) == k)) ∧ w' = w := by
  go_enter Tryd.func11, Tryd.ntmps11
  go_wp2_with (go_at_call 17; refine (told_nil _).mono ?_; rintro e w' ⟨rfl, rfl⟩)
  go_ret
  exact ⟨rfl, rfl⟩
theorem same_err (n k : Int) (w : World) (hd : Door w) :
    Calls Tryd.prog 11 #[errOf n, .int .i64 k] w fun e w' => e = .returned (.bool (n == k)) ∧ Grown w w' := by
  go_enter Tryd.func11, Tryd.ntmps11
  go_wp2_with (go_at_call 17; refine (told_err _ _ hd).mono ?_; rintro e w' ⟨rfl, hg⟩)
  go_ret
  exact ⟨rfl, hg⟩
/-- No error, or one that is an Errno. -/
def IsErr (v : Value) : Prop := v = .nilIface ∨ ∃ n, v = errOf n
/-- Its number. -/
def toldI : Value → Int
  | .iface _ (.int _ n) => n
  | _ => 0
@[go_sem] theorem toldI_nil : toldI .nilIface = 0 := rfl
@[go_sem] theorem toldI_err (n : Int) : toldI (errOf n) = n := rfl
theorem isErr_nil : IsErr .nilIface := Or.inl rfl
theorem isErr_err (n : Int) : IsErr (errOf n) := Or.inr ⟨n, rfl⟩
theorem same_any (v : Value) (k : Int) (w : World) (hv : IsErr v) (hd : Door w) :
    Calls Tryd.prog 11 #[v, .int .i64 k] w fun e w' => e = .returned (.bool (toldI v == k)) ∧ Grown w w' := by
  rcases hv with rfl | ⟨n, rfl⟩
  · exact (same_nil k w).mono fun e w' h => ⟨h.1, h.2 ▸ Grown.refl _⟩
  · exact same_err n k w hd
end Go.Proofs.YtnmoknfhanemeaaDoor
