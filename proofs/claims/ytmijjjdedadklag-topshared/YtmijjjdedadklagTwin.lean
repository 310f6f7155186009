/- What each function of package twin answers, for all numbers, in whatever memory; nothing that was there is turned. -/
import Derived.Test.YtmijjjdedadklagPrime
import Derived.Test.YtmijjjdedadklagTwinMath
import Derived.Test.YtmijjjdedadklagLast
namespace Go.Proofs.Ytmijjjdedadklag
open Go.RowKit Go.Sort

theorem ret_tw {k : IntKind} {a b c d : Int} (h : a = c) (h2 : b = d) : Ending.returned (.agg #[.int k a, .int k b]) = .returned (.agg #[.int k c, .int k d]) := by rw [h, h2]
theorem tof_any (x : Int × Int) (w : World) :
    Calls Try.prog 98 #[.agg #[.int .i64 x.1, .int .i64 x.2]] w fun e w' => e = .returned (.agg #[.int .i64 (cf x).1, .int .i64 (cf x).2]) ∧ Below w.heap.size w w' := by
  go_enter Try.func98, Try.ntmps98
  go_wp2_with fail
  refine quiet_last (by kernel_rfl) (by kernel_rfl) ?_
  dsimp only [List.dropLast, List.length, List.drop]
  repeat (go_big_quiet_step ((go_at_call 64; exact Calls.quiet_of_same (of_any _ _))))
  refine wpQuiet_nil ?_
  intro _ hw1
  obtain ⟨nq, hw2⟩ := hw1
  subst hw2
  go_wp2_with fail
  exact bodyPost_ret (v := .agg #[.int .i64 (fm x.1), .int .i64 (fm x.2)]) (by simp [results, Try.results98, go_sem]) rfl ⟨rfl, by repeat (first | (with_reducible exact Below.refl _ _) | (with_reducible assumption) | (with_reducible refine Below.setCell ?_ (by first | (simp; done) | (simp; omega) | omega) _) | (with_reducible refine Below.alloc ?_ (by first | (simp; done) | (simp; omega) | omega) _) | (refine bl_call ?_ (by assumption) (by first | (simp; done) | (simp; omega) | omega)) | (with_reducible refine bl_drewN ?_) | (with_reducible refine Below.drew ?_) | (with_reducible refine bl_grow ?_ (by first | (simp; done) | (simp; omega) | omega)))⟩
theorem tmul_any (x y : Int × Int) (w : World) :
    Calls Try.prog 97 #[.agg #[.int .i64 x.1, .int .i64 x.2], .agg #[.int .i64 y.1, .int .i64 y.2]] w fun e w' => e = .returned (.agg #[.int .i64 (tm x y).1, .int .i64 (tm x y).2]) ∧ Below w.heap.size w w' := by
  go_enter Try.func97, Try.ntmps97
  go_wp2_with fail
  refine quiet_last (by kernel_rfl) (by kernel_rfl) ?_
  dsimp only [List.dropLast, List.length, List.drop]
  repeat (go_big_quiet_step (first | (go_at_call 67; exact Calls.quiet_of_same (mul_any _ _ _)) | (go_at_call 80; exact Calls.quiet_of_same (sub_any _ _ _)) | (go_at_call 81; exact Calls.quiet_of_same (add_any _ _ _))))
  refine wpQuiet_nil ?_
  intro _ hw1
  obtain ⟨nq, hw2⟩ := hw1
  subst hw2
  go_wp2_with fail
  refine bodyPost_ret (v := .agg #[.int .i64 (fm (fm (x.1 * y.1) - fm (x.2 * y.2))), .int .i64 (fm (fm (x.1 * y.2) + fm (x.2 * y.1)))]) (by simp [results, Try.results97, go_sem]) rfl ⟨ret_tw (fm_sub _ _) (fm_add _ _), by repeat (first | (with_reducible exact Below.refl _ _) | (with_reducible assumption) | (with_reducible refine Below.setCell ?_ (by first | (simp; done) | (simp; omega) | omega) _) | (with_reducible refine Below.alloc ?_ (by first | (simp; done) | (simp; omega) | omega) _) | (refine bl_call ?_ (by assumption) (by first | (simp; done) | (simp; omega) | omega)) | (with_reducible refine bl_drewN ?_) | (with_reducible refine Below.drew ?_) | (with_reducible refine bl_grow ?_ (by first | (simp; done) | (simp; omega) | omega)))⟩
theorem tpow_no (x : Int × Int) (n : Int) (w : World) (h : n < 0) :
    Calls Try.prog 90 #[.agg #[.int .i64 x.1, .int .i64 x.2], .int .i64 n] w fun e w' => e = .returned (.tuple #[.agg #[.int .i64 0, .int .i64 0], errOf 1]) ∧ Below w.heap.size w w' := by
  go_enter Try.func90, Try.ntmps90
  go_wp2_with fail
  exact bodyPost_ret (v := .tuple #[.agg #[.int .i64 0, .int .i64 0], errOf 1]) (by simp [results, Try.results90, go_sem]) rfl ⟨rfl, by repeat (first | (with_reducible exact Below.refl _ _) | (with_reducible assumption) | (with_reducible refine Below.setCell ?_ (by first | (simp; done) | (simp; omega) | omega) _) | (with_reducible refine Below.alloc ?_ (by first | (simp; done) | (simp; omega) | omega) _) | (refine bl_call ?_ (by assumption) (by first | (simp; done) | (simp; omega) | omega)) | (with_reducible refine bl_drewN ?_) | (with_reducible refine Below.drew ?_) | (with_reducible refine bl_grow ?_ (by first | (simp; done) | (simp; omega) | omega)))⟩
set_option maxHeartbeats 1000000 in
theorem tpow_yes (x : Int × Int) (n : Int) (w : World) (hn : 0 ≤ n) (hm : n ≤ 9223372036854775807) :
    Calls Try.prog 90 #[.agg #[.int .i64 x.1, .int .i64 x.2], .int .i64 n] w fun e w' => e = .returned (.tuple #[.agg #[.int .i64 (tp x n.toNat).1, .int .i64 (tp x n.toNat).2], .nilIface]) ∧ Below w.heap.size w w' := by
  go_enter Try.func90, Try.ntmps90
  go_wp2_with (go_at_call 98; refine (tof_any x _).mono ?_; rintro e w1 ⟨rfl, hb1⟩; obtain ⟨hc1, hf1⟩ := bcell hb1; have hz1 : w.heap.size < w1.heap.size := (by have := hb1.size; simp at this; omega); have hy1 : w.heap.size + 1 < w1.heap.size := (by have := hb1.size; simp at this; omega))
  go_loopw [1] (fun tn wl => ∃ (k : Int) (p s : Int × Int), 0 ≤ k ∧ k ≤ 9223372036854775807 ∧ tn = .int .i64 k ∧ wl.cell? ⟨w1.heap.size, 0, none⟩ = some (.int .i64 p.1) ∧ wl.cell? ⟨w1.heap.size, 1, none⟩ = some (.int .i64 p.2) ∧ wl.cell? ⟨w1.heap.size + 1, 0, none⟩ = some (.int .i64 s.1) ∧ wl.cell? ⟨w1.heap.size + 1, 1, none⟩ = some (.int .i64 s.2) ∧
      wl.frozen? ⟨w1.heap.size, 0, none⟩ = false ∧ wl.frozen? ⟨w1.heap.size, 1, none⟩ = false ∧ wl.frozen? ⟨w1.heap.size + 1, 0, none⟩ = false ∧ wl.frozen? ⟨w1.heap.size + 1, 1, none⟩ = false ∧
      wl.cell? ⟨w.heap.size + 1, 0, none⟩ = some (.int .i64 0) ∧ wl.cell? ⟨w.heap.size + 1, 1, none⟩ = some (.int .i64 0) ∧ wl.frozen? ⟨w.heap.size + 1, 0, none⟩ = false ∧ wl.frozen? ⟨w.heap.size + 1, 1, none⟩ = false ∧
      w1.heap.size + 1 < wl.heap.size ∧ Below w.heap.size w wl ∧ cf p = p ∧ tm p (tp s k.toNat) = tp x n.toNat) (fun tn _ => (intOf tn).toNat)
  case atStart =>
    refine ⟨n, (1, 0), cf x, hn, hm, rfl, ?_, ?_, ?_, ?_, ?_, ?_, ?_, ?_, ?_, ?_, ?_, ?_, by simp, by repeat (first | (with_reducible exact Below.refl _ _) | (with_reducible assumption) | (with_reducible refine Below.setCell ?_ (by first | (simp; done) | (simp; omega) | omega) _) | (with_reducible refine Below.alloc ?_ (by first | (simp; done) | (simp; omega) | omega) _) | (refine bl_call ?_ (by assumption) (by first | (simp; done) | (simp; omega) | omega)) | (with_reducible refine bl_drewN ?_) | (with_reducible refine Below.drew ?_) | (with_reducible refine bl_grow ?_ (by first | (simp; done) | (simp; omega) | omega))), rfl, ?_⟩
    all_goals first | (simp [hc1, hf1, hz1, hy1, go_sem]; done) | skip
    rw [tp_cf, tm, one_cm, cf_tp]
  case round =>
    obtain ⟨k, p, s, hk0, hk1, rfl, hp0, hp1, hs0, hs1, fp0, fp1, fs0, fs1, hr0, hr1, fr0, fr1, hwl, hbl, hcp, hinv⟩ := hrel
    have HI : Hid (tm p (tp s k.toNat) = tp x n.toNat) := hinv
    have HC : Hid (cf p = p) := hcp
    clear hinv hcp hc1 hf1
    have hwl' : w1.heap.size < wr.heap.size := by omega
    have hwl2 : w.heap.size + 1 < wr.heap.size := by omega
    have hwl3 : w.heap.size < wr.heap.size := by omega
    by_cases hlt : 0 < k
    · by_cases hodd : k % 2 = 1
      · go_wp2_with (go_at_call 97; refine (tmul_any _ _ _).mono ?_; rintro e w2 ⟨rfl, hb2⟩; obtain ⟨hc2, hf2⟩ := bcell hb2; have hz2 : w1.heap.size < w2.heap.size := (by have := hb2.size; first | omega | (simp at this; omega)); have hy2 : w1.heap.size + 1 < w2.heap.size := (by have := hb2.size; first | omega | (simp at this; omega)); have hx2 : w.heap.size + 1 < w2.heap.size := (by have := hb2.size; first | omega | (simp at this; omega)); have hw2 : w.heap.size < w2.heap.size := (by omega))
        go_roundw
        case rel =>
          refine ⟨k / 2, tm p s, tm s s, by omega, by omega, rfl, ?_, ?_, ?_, ?_, ?_, ?_, ?_, ?_, ?_, ?_, ?_, ?_, ?_, by repeat (first | (with_reducible exact Below.refl _ _) | (with_reducible assumption) | (with_reducible refine Below.setCell ?_ (by first | (simp; done) | (simp; omega) | omega) _) | (with_reducible refine Below.alloc ?_ (by first | (simp; done) | (simp; omega) | omega) _) | (refine bl_call ?_ (by assumption) (by first | (simp; done) | (simp; omega) | omega)) | (with_reducible refine bl_drewN ?_) | (with_reducible refine Below.drew ?_) | (with_reducible refine bl_grow ?_ (by first | (simp; done) | (simp; omega) | omega))), cf_tm _ _, tstep_odd hlt hodd HI.out⟩
          all_goals first | (simp [go_sem, *]; done) | (simp [go_sem, *]; omega)
        case measure => simp [intOf]; omega
      · have hev : k % 2 = 0 := by omega
        go_wp2_with (go_at_call 97; refine (tmul_any _ _ _).mono ?_; rintro e w2 ⟨rfl, hb2⟩; obtain ⟨hc2, hf2⟩ := bcell hb2; have hz2 : w1.heap.size < w2.heap.size := (by have := hb2.size; first | omega | (simp at this; omega)); have hy2 : w1.heap.size + 1 < w2.heap.size := (by have := hb2.size; first | omega | (simp at this; omega)); have hx2 : w.heap.size + 1 < w2.heap.size := (by have := hb2.size; first | omega | (simp at this; omega)); have hw2 : w.heap.size < w2.heap.size := (by omega))
        go_roundw
        case rel =>
          refine ⟨k / 2, p, tm s s, by omega, by omega, rfl, ?_, ?_, ?_, ?_, ?_, ?_, ?_, ?_, ?_, ?_, ?_, ?_, ?_, by repeat (first | (with_reducible exact Below.refl _ _) | (with_reducible assumption) | (with_reducible refine Below.setCell ?_ (by first | (simp; done) | (simp; omega) | omega) _) | (with_reducible refine Below.alloc ?_ (by first | (simp; done) | (simp; omega) | omega) _) | (refine bl_call ?_ (by assumption) (by first | (simp; done) | (simp; omega) | omega)) | (with_reducible refine bl_drewN ?_) | (with_reducible refine Below.drew ?_) | (with_reducible refine bl_grow ?_ (by first | (simp; done) | (simp; omega) | omega))), HC.out, tstep_even hlt hev HI.out⟩
          all_goals first | (simp [go_sem, *]; done) | (simp [go_sem, *]; omega)
        case measure => simp [intOf]; omega
    · have hk : k = 0 := by omega
      subst hk
      have hi := HI.out
      rw [show (0 : Int).toNat = 0 from rfl, tp_zero, tm, cm_one, HC.out] at hi
      have HE : Hid (p = tp x n.toNat) := hi
      clear hi HI HC
      go_wp2_with fail
      refine bodyPost_ret (v := .tuple #[.agg #[.int .i64 p.1, .int .i64 p.2], .nilIface]) (by simp [results, Try.results90, go_sem, *]) rfl ⟨?_, by repeat (first | (with_reducible exact Below.refl _ _) | (with_reducible assumption) | (with_reducible refine Below.setCell ?_ (by first | (simp; done) | (simp; omega) | omega) _) | (with_reducible refine Below.alloc ?_ (by first | (simp; done) | (simp; omega) | omega) _) | (refine bl_call ?_ (by assumption) (by first | (simp; done) | (simp; omega) | omega)) | (with_reducible refine bl_drewN ?_) | (with_reducible refine Below.drew ?_) | (with_reducible refine bl_grow ?_ (by first | (simp; done) | (simp; omega) | omega)))⟩
      rw [HE.out]
end Go.Proofs.Ytmijjjdedadklag
