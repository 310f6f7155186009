/- plain.Told and stonesame.Error, of no error and of an error that is an Errno, where the one listed variable (the handle of the type 'error') lies as it is laid. -/
import Derived.Test.YtmijjjdedadklaiDoorDoor
import Derived.Test.YtmijjjdedadklaiDoorPrime
import Derived.ChangeFn
import Derived.Test.YtmijjjdedadklaiDoorLast
namespace Go.Proofs.YtmijjjdedadklaiDoor
open Go.RowKit Go.Extern.Stop Go.Stop Go.Extern

/-- The listed variable lies as it is laid. -/
def Door (w : World) : Prop := w.cell? ⟨0, 0, none⟩ = some (.iface 152 (.agg #[.pointer (some ⟨1, 25, none⟩)]))
theorem Door.pos {w : World} (h : Door w) : 0 < w.heap.size := by
  rcases Nat.eq_zero_or_pos w.heap.size with h0 | h1
  · simp [Door, World.cell?, h0] at h
  · exact h1
theorem Door.grown {w w' : World} (h : Door w) (hg : Grown w w') : Door w' :=
  (hg.1.cell (b := 0) (off := 0) h.pos (fun f => f)).trans h
theorem grown_trans {w w' w'' : World} (h : Grown w w') (k : Grown w' w'') : Grown w w'' :=
  ⟨World.keptBut_trans h.1 k.1, fun a => (k.2.1 a).trans (h.2.1 a), Nat.le_trans h.2.2 k.2.2⟩

theorem told_nil (w : World) :
    Calls Tryd.prog 42 #[.nilIface] w fun e w' => e = .returned (.int .i64 0) ∧ w' = w := by
  go_enter Tryd.func42, Tryd.ntmps42
  go_wp2_with fail
  go_ret
  exact ⟨rfl, rfl⟩
set_option maxHeartbeats 1000000 in
theorem told_err (n : Int) (w : World) (hd : Door w) :
    Calls Tryd.prog 42 #[errOf n] w fun e w' => e = .returned (.int .i64 n) ∧ Grown w w' ∧ Below w.heap.size w w' := by
  have hgA : (w.alloc (.cells #[.int .i64 0] 73)).cell? ⟨0, 0, none⟩ = some (.iface 152 (.agg #[.pointer (some ⟨1, 25, none⟩)])) := by
    rw [World.cell?_alloc_lt _ _ ⟨0, 0, none⟩ hd.pos]; exact hd
  have htA : (w.alloc (.cells #[.int .i64 0] 73)).cell? ⟨w.heap.size, 0, none⟩ = some (.int .i64 0) := by simp
  have hfA : (w.alloc (.cells #[.int .i64 0] 73)).frozen? ⟨w.heap.size, 0, none⟩ = false := by simp
  have HD : Hid (Door w) := hd
  clear hd
  go_enter Tryd.func42, Tryd.ntmps42
  go_wp2_with (go_at_call 78; refine (as_hit n _ (.int .i64 0) _ hgA htA hfA).mono ?_; rintro e w' ⟨rfl, rfl⟩)
  go_ret
  exact ⟨rfl, by repeat (first | exact Grown.refl _ | apply Grown.drew | apply Grown.alloc | (refine Grown.setCell ?_ (Nat.le_refl _) _)), by repeat (first | (with_reducible exact Below.refl _ _) | (with_reducible assumption) | (with_reducible refine Below.setCell ?_ (by first | (simp; done) | (simp; omega) | omega) _) | (with_reducible refine Below.alloc ?_ (by first | (simp; done) | (simp; omega) | omega) _) | (refine bl_call ?_ (by assumption) (by first | (simp; done) | (simp; omega) | omega)) | (with_reducible refine bl_drewN ?_) | (with_reducible refine Below.drew ?_) | (with_reducible refine bl_grow ?_ (by first | (simp; done) | (simp; omega) | omega)))⟩
theorem same_nil (k : Int) (w : World) :
    Calls Tryd.prog 10 #[.nilIface, .int .i64 k] w fun e w' => e = .returned (.bool ((0 : Int) == k)) ∧ w' = w := by
  go_enter Tryd.func10, Tryd.ntmps10
  go_wp2_with (go_at_call 42; refine (told_nil _).mono ?_; rintro e w' ⟨rfl, rfl⟩)
  go_ret
  exact ⟨rfl, rfl⟩
theorem same_err (n k : Int) (w : World) (hd : Door w) :
    Calls Tryd.prog 10 #[errOf n, .int .i64 k] w fun e w' => e = .returned (.bool (n == k)) ∧ Grown w w' ∧ Below w.heap.size w w' := by
  go_enter Tryd.func10, Tryd.ntmps10
  go_wp2_with (go_at_call 42; refine (told_err _ _ hd).mono ?_; rintro e w' ⟨rfl, hg⟩)
  go_ret
  exact ⟨rfl, hg⟩
/-- No error, or one that is an Errno. -/
def IsErr (v : Value) : Prop := v = .nilIface ∨ ∃ n, v = errOf n
/-- Its number. -/
def toldI : Value → Int
  | .iface _ (.int _ n) => n
  | _ => 0
@[go_sem] theorem toldI_nil : toldI .nilIface = 0 := rfl
@[go_sem] theorem toldI_err (n : Int) : toldI (errOf n) = n := rfl
theorem isErr_nil : IsErr .nilIface := Or.inl rfl
theorem isErr_err (n : Int) : IsErr (errOf n) := Or.inr ⟨n, rfl⟩
theorem same_any (v : Value) (k : Int) (w : World) (hv : IsErr v) (hd : Door w) :
    Calls Tryd.prog 10 #[v, .int .i64 k] w fun e w' => e = .returned (.bool (toldI v == k)) ∧ Grown w w' := by
  rcases hv with rfl | ⟨n, rfl⟩
  · exact (same_nil k w).mono fun e w' h => ⟨h.1, h.2 ▸ Grown.refl _⟩
  · exact (same_err n k w hd).mono fun e w' h => ⟨h.1, h.2.1⟩
/-- The same, in the other form. -/
theorem same_below (v : Value) (k : Int) (w : World) (hv : IsErr v) (hd : Door w) :
    Calls Tryd.prog 10 #[v, .int .i64 k] w fun e w' => e = .returned (.bool (toldI v == k)) ∧ Below w.heap.size w w' := by
  rcases hv with rfl | ⟨n, rfl⟩
  · exact (same_nil k w).mono fun e w' h => ⟨h.1, h.2 ▸ Below.refl _ _⟩
  · exact (same_err n k w hd).mono fun e w' h => ⟨h.1, h.2.2⟩
theorem Door.below {w w' : World} {B : Nat} (h : Door w) (hb : Below B w w') (hB : w.heap.size ≤ B) : Door w' :=
  (hb.cell (p := ⟨0, 0, none⟩) (Nat.lt_of_lt_of_le h.pos hB)).trans h
theorem Door.under {w w' : World} (h : Door w) (hb : Below w.heap.size w w') : Door w' := h.below hb (Nat.le_refl _)
end Go.Proofs.YtmijjjdedadklaiDoor
