/- Right spots as bytes, and which bytes are those of one. Apart from the program. -/
import Derived.Test.YtmijjjdedadklagCurveMath
namespace Go.Proofs.Ytmijjjdedadklag
set_option linter.unusedSimpArgs false
set_option linter.unusedVariables false

def hiB (x : Nat) : UInt8 := UInt8.ofNat (x / 256)
def loB (x : Nat) : UInt8 := UInt8.ofNat (x % 256)
def whB (y : Nat) : UInt8 := bif Nat.blt 2025 y then 2 else 1
/-- The bytes of a right spot. -/
def pkL (s : Sn) : List UInt8 := bif s.2.2 then [0] else [whB s.2.1, hiB s.1, loB s.1]
def pkB (s : Sn) : ByteArray := ⟨(pkL s).toArray⟩
theorem pkB_far : pkB (0, 0, true) = ⟨#[0]⟩ := rfl
theorem pkB_aff (x y : Nat) : pkB (x, y, false) = ⟨#[whB y, hiB x, loB x]⟩ := rfl
theorem hi_nat {x : Nat} (h : x < 4051) : (hiB x).toNat = x / 256 := by unfold hiB; rw [UInt8.toNat_ofNat']; omega
theorem lo_nat (x : Nat) : (loB x).toNat = x % 256 := by unfold loB; rw [UInt8.toNat_ofNat']; omega
/-- The place of two bytes. -/
def plN (d e : UInt8) : Nat := d.toNat * 256 + e.toNat
theorem pl_hl {x : Nat} (h : x < 4051) : plN (hiB x) (loB x) = x := by unfold plN; rw [hi_nat h, lo_nat]; omega
theorem pl_hi (d e : UInt8) : hiB (plN d e) = d := by
  unfold hiB plN; have h1 := d.toNat_lt; have h2 := e.toNat_lt
  rw [show (d.toNat * 256 + e.toNat) / 256 = d.toNat by omega]; exact UInt8.ofNat_toNat
theorem pl_lo (d e : UInt8) : loB (plN d e) = e := by
  unfold loB plN; have h1 := d.toNat_lt; have h2 := e.toNat_lt
  rw [show (d.toNat * 256 + e.toNat) % 256 = e.toNat by omega]; exact UInt8.ofNat_toNat
theorem wh_one {y : Nat} (h : y ≤ 2025) : whB y = 1 := by
  unfold whB; rw [show Nat.blt 2025 y = false by rw [← Bool.not_eq_true, Nat.blt_eq]; omega]; rfl
theorem wh_two {y : Nat} (h : 2025 < y) : whB y = 2 := by
  unfold whB; rw [show Nat.blt 2025 y = true by rw [Nat.blt_eq]; omega]; rfl
theorem wh_le {y : Nat} (h : whB y = 1) : y ≤ 2025 := by
  rcases Nat.lt_or_ge 2025 y with h1 | h1
  · rw [wh_two h1] at h; exact absurd h (by decide)
  · exact h1
theorem wh_eq {y z : Nat} (h : whB y = whB z) : y ≤ 2025 ↔ z ≤ 2025 := by
  constructor
  · intro h1; rw [wh_one h1] at h; exact wh_le h.symm
  · intro h1; rw [wh_one h1] at h; exact wh_le h

theorem sqr_all : allLT (fun y => okN (y * y % 4051)) 4051 = true := by decide +kernel
/-- At the place of a right one there is a root, and its height is the lesser one, or the other. -/
theorem on_root {x y : Nat} (h : okS (x, y, false) = true) : rtOk (sqI (x : Int)) = true := by
  have hl := okS_lt h
  have hc := ckI_of_ok h
  simp only at hl hc
  rw [ckI_in (by omega) (by omega) (by omega) (by omega)] at hc
  cases h3 : fm ((y : Int) * (y : Int)) == sqI (x : Int)
  · rw [h3] at hc; cases hc
  · have h4 : fm ((y : Int) * y) = sqI (x : Int) := by simpa using h3
    have h5 := allLT_spec sqr_all y hl.2
    rw [rtOk_nat, ← h4, fm_fm, yy_nat]
    exact h5
/-- The lesser height at a place. -/
def ltN (x : Nat) : Nat := (rtMin (sqI (x : Int))).toNat
theorem ltI (x : Nat) : rtMin (sqI (x : Int)) = (ltN x : Int) := by
  have := (least_le (sqI (x : Int))).1; unfold ltN; omega
theorem lt_half {x : Nat} (h : rtOk (sqI (x : Int)) = true) : ltN x ≤ 2025 := by
  have := (least h).2.2; rw [ltI] at this; omega
theorem lt_ok {x : Nat} (h1 : x < 4051) (h : rtOk (sqI (x : Int)) = true) : okS (x, ltN x, false) = true := by
  have hc := lift_ok (x := (x : Int)) (by omega) (by omega) h
  rw [ltI] at hc
  obtain ⟨⟨a, b, c⟩, hs, ha, hb, hf⟩ := ckI_ok hc
  simp only at ha hb hf
  obtain rfl : x = a := by omega
  obtain rfl : ltN x = b := by omega
  rw [hf]; exact hs
theorem height {x y : Nat} (h : okS (x, y, false) = true) : (y ≤ 2025 → ltN x = y) ∧ (2025 < y → ltN x = ny y ∧ ltN x ≠ 0 ∧ ny (ltN x) = y) := by
  have hr := on_root h
  have hl := okS_lt h
  simp only at hl
  have h2 := lt_half hr
  have hy := same_place (lt_ok hl.1 hr) h
  unfold ny at *
  omega
theorem is_spot {s : Sn} (h : okS s = true) : ∃ k, tM k = s := by
  obtain ⟨k, hk, e⟩ := is_tN h; exact ⟨k, by rw [tM_lt hk, e]⟩
theorem far_ok {x y : Nat} (h : okS (x, y, true) = true) : x = 0 ∧ y = 0 := by
  unfold okS at h; simp only [cond_true, Bool.and_eq_true] at h
  exact ⟨Nat.eq_of_beq_eq_true h.1, Nat.eq_of_beq_eq_true h.2⟩
/-- Unlike spots have unlike bytes. -/
theorem pkL_inj {s t : Sn} (hs : okS s = true) (ht : okS t = true) (h : pkL s = pkL t) : s = t := by
  obtain ⟨x, y, f⟩ := s
  obtain ⟨u, v, g⟩ := t
  cases f <;> cases g <;> simp only [pkL, cond_true, cond_false] at h
  · injection h with h1 h2
    injection h2 with h2 h3
    injection h3 with h3 _
    have l1 := okS_lt hs
    have l2 := okS_lt ht
    simp only at l1 l2
    have e1 := pl_hl l1.1
    have e2 := pl_hl l2.1
    rw [h2, h3, e2] at e1
    subst e1
    have e3 := wh_eq h1
    have e4 := height hs
    have e5 := height ht
    have : y = v := by
      by_cases h6 : y ≤ 2025
      · rw [← e4.1 h6, ← e5.1 (e3.1 h6)]
      · rw [← (e4.2 (by omega)).2.2, ← (e5.2 (by omega)).2.2]
    rw [this]
  · simp at h
  · simp at h
  · obtain ⟨rfl, rfl⟩ := far_ok hs
    obtain ⟨rfl, rfl⟩ := far_ok ht
    rfl
theorem pkB_inj {j k : Nat} (h : pkB (tM j) = pkB (tM k)) : tM j = tM k := by
  refine pkL_inj (tM_ok j) (tM_ok k) ?_
  unfold pkB at h
  injection h with h
  exact List.toArray_inj h
theorem pkB_size (s : Sn) : (pkB s).size ≤ 3 := by
  unfold pkB pkL; cases s.2.2 <;> simp [ByteArray.size]
/-- Bytes by how many there are. -/
theorem ba_one {b : ByteArray} (h : b.size = 1) : ∃ c, b = ⟨#[c]⟩ := by
  obtain ⟨⟨l⟩⟩ := b
  match l, h with
  | [c], _ => exact ⟨c, rfl⟩
theorem ba_three {b : ByteArray} (h : b.size = 3) : ∃ c d e, b = ⟨#[c, d, e]⟩ := by
  obtain ⟨⟨l⟩⟩ := b
  match l, h with
  | [c, d, e], _ => exact ⟨c, d, e, rfl⟩
/-- Bytes of none. -/
def noB (b : ByteArray) : Prop := ∀ k, pkB (tM k) ≠ b
theorem no_one {c : UInt8} (h : noB ⟨#[c]⟩) : c ≠ 0 := by rintro rfl; exact h 0 rfl
theorem no_less {d e : UInt8} (h : noB ⟨#[1, d, e]⟩) (h1 : plN d e < 4051) : rtOk (sqI (plN d e : Int)) = false := by
  cases hr : rtOk (sqI (plN d e : Int))
  · rfl
  · obtain ⟨k, hk⟩ := is_spot (lt_ok h1 hr)
    refine absurd ?_ (h k)
    rw [hk, pkB_aff, wh_one (lt_half hr), pl_hi, pl_lo]
theorem ny_ok {x y : Nat} (h : okS (x, y, false) = true) : okS (x, ny y, false) = true := by
  obtain ⟨k, hk, e⟩ := is_tN h
  have := neg_tN hk
  rw [e, negN_eq] at this
  rw [this]; exact tM_ok _
theorem no_great {d e : UInt8} (h : noB ⟨#[2, d, e]⟩) (h1 : plN d e < 4051) (hr : rtOk (sqI (plN d e : Int)) = true) : ltN (plN d e) = 0 := by
  have h2 := lt_half hr
  rcases Nat.eq_zero_or_pos (ltN (plN d e)) with h0 | h0
  · exact h0
  · obtain ⟨k, hk⟩ := is_spot (ny_ok (lt_ok h1 hr))
    refine absurd ?_ (h k)
    rw [hk, pkB_aff, wh_two (by unfold ny; omega), pl_hi, pl_lo]
/-- So many spots, one behind the other. -/
def rowL (K : Nat → Nat) (n : Nat) : List UInt8 := (List.range n).flatMap fun i => pkL (tM (K i))
def lsL (K : Nat → Nat) (n : Nat) : List UInt8 := UInt8.ofNat n :: rowL K n
theorem rowL_zero (K : Nat → Nat) : rowL K 0 = [] := rfl
theorem rowL_succ (K : Nat → Nat) (n : Nat) : rowL K (n + 1) = rowL K n ++ pkL (tM (K n)) := by
  unfold rowL; rw [List.range_succ, List.flatMap_append]; simp
theorem pkL_len (s : Sn) : (pkL s).length = bif s.2.2 then 1 else 3 := by unfold pkL; cases s.2.2 <;> rfl
theorem pkL_le (s : Sn) : (pkL s).length ≤ 3 := by rw [pkL_len]; cases s.2.2 <;> decide
theorem rowL_le (K : Nat → Nat) (n : Nat) : (rowL K n).length ≤ 3 * n := by
  induction n with
  | zero => simp [rowL_zero]
  | succ n ih => rw [rowL_succ, List.length_append]; have := pkL_le (tM (K n)); omega
end Go.Proofs.Ytmijjjdedadklag
