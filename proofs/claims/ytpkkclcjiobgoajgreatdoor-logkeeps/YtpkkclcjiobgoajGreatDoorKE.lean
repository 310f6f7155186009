/- A text's spot is so many times the base. -/
import Derived.Test.YtpkkclcjiobgoajGreatDoorKC
import Derived.Test.YtpkkclcjiobgoajGreatDoorKHash
import Derived.Test.YtpkkclcjiobgoajGreatDoorKA
import Derived.Test.YtpkkclcjiobgoajGreatDoorKCurveEq
import Derived.Test.YtpkkclcjiobgoajGreatDoorKD
namespace Go.Proofs.YtpkkclcjiobgoajGreatDoor
open Go.RowKit Go.Sort
set_option linter.unusedVariables false
set_option linter.unusedSimpArgs false
/-- A text's spot is so many times the base. -/
def uN (t : ByteArray) : Nat := spN (longN t) / 4
theorem uN_is (t : ByteArray) : spN (longN t) = 4 * uN t := by
  have := (farI_iff _).1 (sp_in (longN t))
  unfold uN; omega
theorem uN_f (t : ByteArray) : (tM (4 * uN t)).2.2 = false := by rw [← uN_is]; exact sp_f _
theorem spot_u (t : ByteArray) (w : World) (ht : t.size ≤ 9223372036854775807) : Calls Tryz.prog 80 #[.string t] w fun e w' => e = .returned (.agg #[.int .i64 ((tM (4 * uN t)).1 : Int), .int .i64 ((tM (4 * uN t)).2.1 : Int), .bool false]) ∧ Below w.heap.size w w' := by
  have := spot_any t w ht
  rwa [uN_is] at this
end Go.Proofs.YtpkkclcjiobgoajGreatDoor

/- Numbers modulo 1013, polynomials over them, and weights of places: of each polynomial of no more coefficients than places the values there, weighted, add up to its value at 0. Nothing of the program stands in here. -/
namespace Go.Proofs.YtpkkclcjiobgoajGreatDoor
set_option linter.unusedVariables false
set_option linter.unusedSimpArgs false

abbrev QF := Fin 1013
def zq (n : Int) : QF := Fin.ofNat 1013 (n % 1013).toNat
/-- The inverse. -/
def qpw (x n : Nat) : Nat := x ^ n % 1013
def ivq (a : QF) : QF := Fin.ofNat 1013 (qpw a.val 1011)
theorem qinv_all : allLT (fun x => Nat.beq x 0 || Nat.beq (x * qpw x 1011 % 1013) 1) 1013 = true := by decide +kernel
theorem iv_mul {a : QF} (h : a ≠ 0) : a * ivq a = 1 := by
  have hs := allLT_spec qinv_all a.val a.isLt
  have h0 : Nat.beq a.val 0 = false := by
    rw [← Bool.not_eq_true]; intro e; exact h (Fin.ext (Nat.eq_of_beq_eq_true e))
  rw [h0, Bool.false_or] at hs
  have hs := Nat.eq_of_beq_eq_true hs
  apply Fin.ext
  rw [Fin.val_mul]
  show a.val * (qpw a.val 1011 % 1013) % 1013 = 1
  rw [Nat.mul_mod, Nat.mod_mod, ← Nat.mul_mod]
  exact hs
/-! Sums. -/
def sm (f : Nat → QF) : Nat → QF
  | 0 => 0
  | n + 1 => sm f n + f n
/-! Products over all places but one. -/
def pr (x : Nat → QF) : Nat → Nat → QF
  | 0, _ => 1
  | n + 1, i => pr x n i * (if n = i then 1 else x n - x i)
def Dist (x : Nat → QF) (n : Nat) : Prop := ∀ j k, j < n → k < n → x j = x k → j = k
theorem Dist.less {x : Nat → QF} {n : Nat} (h : Dist x (n + 1)) : Dist x n := fun j k hj hk => h j k (by omega) (by omega)
theorem Dist.ne {x : Nat → QF} {n j k : Nat} (h : Dist x n) (hj : j < n) (hk : k < n) (hne : j ≠ k) : x j - x k ≠ 0 := by
  intro e
  exact hne (h j k hj hk (by grind))
/-- What is told by values at unlike places, each by its product. -/
def dd (h x : Nat → QF) (n : Nat) : QF := sm (fun i => h i * ivq (pr x n i)) n
/-- The value of a polynomial. -/
def ev : List QF → QF → QF
  | [], _ => 0
  | c :: cs, x => c + x * ev cs x
/-! The weights. -/
def upq (x : Nat → QF) : Nat → Nat → QF
  | 0, _ => 1
  | n + 1, i => upq x n i * (if n = i then 1 else x n)
def wtq (x : Nat → QF) (n i : Nat) : QF := upq x n i * ivq (pr x n i)
def pdq (x : Nat → QF) : Nat → QF
  | 0 => 1
  | n + 1 => pdq x n * x n
/-- 0 ahead of the places. -/
def zx (x : Nat → QF) : Nat → QF
  | 0 => 0
  | n + 1 => x n
end Go.Proofs.YtpkkclcjiobgoajGreatDoor

/- What is hidden, as numbers modulo 1013. -/
namespace Go.Proofs.YtpkkclcjiobgoajGreatDoor
set_option linter.unusedSimpArgs false
set_option linter.unusedVariables false

theorem un_ne (t : ByteArray) : uN t % 1013 ≠ 0 := by
  intro h
  have h1 := sp_near (longN t)
  rw [uN_is] at h1
  have h2 := (farI_iff (4 * uN t)).2 (by omega)
  rw [h2] at h1; cases h1
/-- Each number that is not 0 modulo 1013 has one by which it is 1. -/
theorem turn_q {d : Nat} (h : d % 1013 ≠ 0) : ∃ e, (d * e) % 1013 = 1 := by
  have hd : Fin.ofNat 1013 d ≠ (0 : QF) := by
    intro e
    have := congrArg Fin.val e
    exact h this
  have h1 := congrArg Fin.val (iv_mul hd)
  rw [Fin.val_mul] at h1
  refine ⟨(ivq (Fin.ofNat 1013 d)).val, ?_⟩
  have h2 : (d % 1013) * (ivq (Fin.ofNat 1013 d)).val % 1013 = 1 := h1
  rwa [Nat.mul_mod, Nat.mod_mod, ← Nat.mul_mod] at h2
section
variable {h : Nat} (hh : h % 1013 ≠ 0)
include hh
end
/-- The word of the second base. -/
def secT : ByteArray := ⟨#[115, 101, 99, 111, 110, 100]⟩
/-- The second base is so many times the base. -/
def h2N : Nat := uN secT
theorem h2_is : h2N = uN secT := by unfold h2N; rfl
theorem h2_ne : h2N % 1013 ≠ 0 := by rw [h2_is]; exact un_ne secT
theorem h2_f : (tM (4 * h2N)).2.2 = false := by rw [h2_is]; exact uN_f secT
/-- A value, and a number by which it is hidden: so many times the base. -/
def hdN (v r : Nat) : Nat := v + h2N * r
end Go.Proofs.YtpkkclcjiobgoajGreatDoor

/- Seals that close a deal, apart from the program. The second base stands behind names that nothing reckons out. -/
namespace Go.Proofs.YtpkkclcjiobgoajGreatDoor
set_option linter.unusedVariables false
set_option linter.unusedSimpArgs false
/-- So many times the second base: 4 * clR k times (3, 156). -/
def clR (k : Nat) : Nat := h2N * k
theorem clR_is (k : Nat) : clR k = h2N * k := by unfold clR; rfl
/-- A closing seal's number. -/
def clS (r k a : Nat) : Nat := (k + baN (4 * clR k) a * r) % 1013
theorem clS_lt (r k a : Nat) : clS r k a < 1013 := Nat.mod_lt _ (by omega)
/-- Is a deal closed as it should be? S times Second is R, and the challenge times the excess. -/
def closedB (h a x s : Nat) : Bool := sameS (tM (4 * h * s)) (tM (a + 4 * x * baN a (4 * x)))
def closeB (a x s : Nat) : Bool := closedB h2N a x s
theorem close_is (a x s : Nat) : closeB a x s = closedB h2N a x s := by unfold closeB; rfl
theorem close_iff (a x s : Nat) : closeB a x s = true ↔ tM (4 * clR s) = tM (a + 4 * x * baN a (4 * x)) := by
  rw [close_is, clR_is]
  unfold closedB
  rw [sameS_iff, Nat.mul_assoc]
/-- A deal that is closed by a number r holds just if the excess is r times the second base, or the challenge is 0. -/
theorem close_own (h r k x a b : Nat) (hh : h % 1013 ≠ 0) (hb : b < 1013) : (h * ((k + b * r) % 1013)) % 1013 = (h * k + x * b) % 1013 ↔ (x % 1013 = (h * r) % 1013 ∨ b = 0) := by
  have e1 : (h * ((k + b * r) % 1013)) % 1013 = (h * k + (h * r) * b) % 1013 := by
    rw [Nat.mul_mod, Nat.mod_mod, ← Nat.mul_mod]
    congr 1
    grind
  rw [e1]
  constructor
  · intro e
    by_cases h0 : b = 0
    · exact Or.inr h0
    · left
      have e2 : ((h * r) * b) % 1013 = (x * b) % 1013 := by omega
      obtain ⟨f, hf⟩ := turn_q (d := b) (by omega)
      have e3 : (h * r) * (b * f) % 1013 = x * (b * f) % 1013 := by
        rw [← Nat.mul_assoc, ← Nat.mul_assoc, Nat.mul_mod, e2, ← Nat.mul_mod]
      rw [Nat.mul_mod (h * r), hf, Nat.mul_mod x, hf] at e3
      omega
  · rintro (e | e)
    · have e2 : (x * b) % 1013 = ((h * r) * b) % 1013 := by rw [Nat.mul_mod, e, ← Nat.mul_mod]
      omega
    · subst e; simp
end Go.Proofs.YtpkkclcjiobgoajGreatDoor

/- Coins that come in: right ones that count, or what is wrong with them. Apart from the program's code. -/
namespace Go.Proofs.YtpkkclcjiobgoajGreatDoor
open Go.RowKit Go.Sort
set_option linter.unusedVariables false
set_option linter.unusedSimpArgs false
/-- A spot that counts. -/
def goodC (x y : Int) (f : Bool) : Prop := ∃ k : Nat, x = ((tM (4 * k)).1 : Int) ∧ y = ((tM (4 * k)).2.1 : Int) ∧ f = (tM (4 * k)).2.2
/-- One that is wrong, or doesn't count. -/
def badC (x y : Int) (f : Bool) : Prop := (ckI x y f == 0) = false ∨ ∃ k : Nat, x = ((tM k).1 : Int) ∧ y = ((tM k).2.1 : Int) ∧ f = (tM k).2.2 ∧ farI (k * 1013) = false
theorem good_or_bad (x y : Int) (f : Bool) : goodC x y f ∨ badC x y f := by
  cases h : ckI x y f == 0 with
  | false => exact Or.inr (Or.inl h)
  | true =>
    obtain ⟨k, _, a, b, c⟩ := ckI_tN (show ckI x y f = 0 by simpa using h)
    cases g : farI (k * 1013) with
    | false => exact Or.inr (Or.inr ⟨k, a, b, c, g⟩)
    | true =>
      rw [farI_iff] at g
      refine Or.inl ⟨k / 4, ?_⟩
      rw [show 4 * (k / 4) = k by omega]
      exact ⟨a, b, c⟩
/-- So many spots that count. -/
def isC (X Y : Nat → Int) (F : Nat → Bool) (K : Nat → Nat) (n : Nat) : Prop := ∀ i, i < n → X i = ((tM (4 * K i)).1 : Int) ∧ Y i = ((tM (4 * K i)).2.1 : Int) ∧ F i = (tM (4 * K i)).2.2
theorem coins_way (X Y : Nat → Int) (F : Nat → Bool) : ∀ n, (∃ K, isC X Y F K n) ∨ ∃ m, m < n ∧ (∀ j, j < m → goodC (X j) (Y j) (F j)) ∧ badC (X m) (Y m) (F m)
  | 0 => Or.inl ⟨fun _ => 0, fun i hi => absurd hi (Nat.not_lt_zero _)⟩
  | n + 1 => by
    rcases coins_way X Y F n with ⟨K, hK⟩ | ⟨m, h1, h2, h3⟩
    · rcases good_or_bad (X n) (Y n) (F n) with ⟨k, hk⟩ | hb
      · refine Or.inl ⟨extN K n k, fun i hi => ?_⟩
        rcases Nat.lt_succ_iff_lt_or_eq.1 hi with h | rfl
        · rw [extN_lt K k h]; exact hK i h
        · rw [extN_at]; exact hk
      · exact Or.inr ⟨n, by omega, fun j hj => ⟨K j, hK j hj⟩, hb⟩
    · exact Or.inr ⟨m, by omega, h2, h3⟩
theorem isC_cells {X Y : Nat → Int} {F : Nat → Bool} {K : Nat → Nat} {n : Nat} (h : isC X Y F K n) : cellsT X Y F n = cellsK K n := by
  unfold isC at h
  induction n with
  | zero => rfl
  | succ n ih =>
    obtain ⟨a, b, c⟩ := h n (by omega)
    rw [cellsT_succ, cellsK_succ, ih fun i hi => h i (by omega), a, b, c]
theorem far_four (k : Nat) : farI (4 * k * 1013) = true := by rw [farI_iff]; omega
/-- Cells of those that are live. -/
def lvC (G : Nat → Bool) (n : Nat) : List Value := (lvL G n).map fun (i : Nat) => .int .i64 (i : Int)
theorem lvC_gone {G : Nat → Bool} {n : Nat} (h : G n = true) : lvC G (n + 1) = lvC G n := by unfold lvC; rw [lvL_gone h]
theorem lvC_live {G : Nat → Bool} {n : Nat} (h : G n = false) : lvC G (n + 1) = lvC G n ++ [.int .i64 (n : Int)] := by unfold lvC; rw [lvL_live h, List.map_append]; rfl
/-- What is wrong with those that come: too many, one that is not right or does not count, nothing. -/
def ComeIs (X Y : Nat → Int) (F : Nat → Bool) (c : Nat) (q : Int) : Prop :=
  (12 < c ∧ q = 4) ∨ (c ≤ 12 ∧ (∃ m, m < c ∧ (∀ j, j < m → goodC (X j) (Y j) (F j)) ∧ badC (X m) (Y m) (F m)) ∧ q = 3) ∨ (c ≤ 12 ∧ (∃ J, isC X Y F J c) ∧ q = 0)
theorem come_is (X Y : Nat → Int) (F : Nat → Bool) (c : Nat) : ∃ q, ComeIs X Y F c q := by
  by_cases h : 12 < c
  · exact ⟨4, Or.inl ⟨h, rfl⟩⟩
  · rcases coins_way X Y F c with h1 | h1
    · exact ⟨0, Or.inr (Or.inr ⟨by omega, h1, rfl⟩)⟩
    · exact ⟨3, Or.inr (Or.inl ⟨by omega, h1, rfl⟩)⟩
theorem ComeIs.ok {X Y : Nat → Int} {F : Nat → Bool} {c : Nat} (h : ComeIs X Y F c 0) : c ≤ 12 ∧ ∃ J, isC X Y F J c := by
  rcases h with ⟨_, h⟩ | ⟨_, _, h⟩ | ⟨h1, h2, _⟩
  · cases h
  · cases h
  · exact ⟨h1, h2⟩
/-- What is wrong with a deal's coins. -/
def exE (n : Nat) (G : Nat → Bool) (Z : Nat → Int) (m : Nat) (q : Int) : Int := bif gnE n G Z m == 0 then q else gnE n G Z m
theorem exE_zero {n : Nat} {G : Nat → Bool} {Z : Nat → Int} {m : Nat} {q : Int} (h : exE n G Z m q = 0) : (∀ i, i < m → goE n G Z i = 0) ∧ q = 0 := by
  unfold exE at h
  cases h1 : gnE n G Z m == 0 with
  | false => rw [h1] at h; simp only [cond_false] at h; rw [h] at h1; cases h1
  | true =>
    rw [h1] at h
    simp only [cond_true] at h
    exact ⟨gnE_zero (by simpa using h1), h⟩
end Go.Proofs.YtpkkclcjiobgoajGreatDoor

/- Plain facts for the plain reckoning: Euclid's way to an inverse, the least root; nothing of the program stands in here. -/
namespace Go.Proofs.YtpkkclcjiobgoajGreatDoor

/-- A number with a sign. -/
def sg (s : Bool) (n : Nat) : Int := bif s then (n : Int) else -(n : Int)
/-- Euclid's way, with the greatness of what is carried along looked at, and its end held against e. -/
def chkT (m e : Nat) : Nat → Bool → Nat → Nat → Nat → Nat → Bool
  | 0, _, _, _, _, _ => false
  | f + 1, s, a, b, px, py => Nat.ble py 5000 && (bif Nat.beq b 0 then Nat.beq (bif s then px % m else (m - px % m) % m) e else chkT m e f (!s) b (a % b) py (px + a / b * py))
theorem chkT_end {m e f : Nat} {s : Bool} {a px py : Nat} (hm : 0 < m) (h : chkT m e f s a 0 px py = true) : sg s px % (m : Int) = e := by
  cases f with
  | zero => simp [chkT] at h
  | succ f =>
    simp only [chkT, Bool.and_eq_true] at h
    have h2 : Nat.beq (bif s then px % m else (m - px % m) % m) e = true := h.2
    have h3 := Nat.eq_of_beq_eq_true h2
    cases s with
    | true =>
      simp only [cond_true] at h3
      simp only [sg, cond_true]; rw [← h3]; rfl
    | false =>
      simp only [cond_false] at h3
      simp only [sg, cond_false]
      have hlt := Nat.mod_lt px hm
      have hd := Nat.div_add_mod px m
      have hd' : (px : Int) = (m : Int) * ((px / m : Nat) : Int) + ((px % m : Nat) : Int) := by
        rw [← Int.natCast_mul, ← Int.natCast_add, hd]
      by_cases h0 : px % m = 0
      · rw [h0, Nat.sub_zero, Nat.mod_self] at h3
        rw [h0] at hd'
        rw [hd', ← h3]
        have : -((m : Int) * ((px / m : Nat) : Int) + ((0 : Nat) : Int)) = (m : Int) * (-((px / m : Nat) : Int)) := by
          rw [Int.mul_neg]; simp
        rw [this, Int.mul_emod_right]; rfl
      · rw [Nat.mod_eq_of_lt (by omega)] at h3
        have : -(px : Int) = ((m - px % m : Nat) : Int) + (m : Int) * (-((px / m : Nat) : Int) - 1) := by
          rw [Int.mul_sub, Int.mul_neg, Int.mul_one]; omega
        rw [this, Int.add_mul_emod_self_left, h3]
        exact Int.emod_eq_of_lt (by omega) (by omega)
theorem chkT_step {m e f : Nat} {s : Bool} {a b px py : Nat} (hb : 0 < b) (h : chkT m e f s a b px py = true) :
    ∃ g, chkT m e g (!s) b (a % b) py (px + a / b * py) = true := by
  cases f with
  | zero => simp [chkT] at h
  | succ f =>
    simp only [chkT, Bool.and_eq_true] at h
    have h2 : (bif Nat.beq b 0 then Nat.beq (bif s then px % m else (m - px % m) % m) e else chkT m e f (!s) b (a % b) py (px + a / b * py)) = true := h.2
    cases hz : Nat.beq b 0 with
    | true => have := Nat.eq_of_beq_eq_true hz; omega
    | false => rw [hz] at h2; exact ⟨f, h2⟩
theorem chkT_py {m e f : Nat} {s : Bool} {a b px py : Nat} (h : chkT m e f s a b px py = true) : py ≤ 5000 := by
  cases f with
  | zero => simp [chkT] at h
  | succ f =>
    simp only [chkT, Bool.and_eq_true] at h
    exact Nat.le_of_ble_eq_true h.1
theorem turn_all : allLT (fun n => Nat.beq n 0 || chkT 4051 (pw n 4049) 40 false 4051 n 0 1) 4051 = true := by decide +kernel
theorem turn_start {n : Int} (h0 : 1 ≤ n) (h1 : n ≤ 4050) : chkT 4051 (fpow n 4049).toNat 40 false 4051 n.toNat 0 1 = true := by
  have h := fm_all turn_all n
  rw [fm_id (by omega) h1] at h
  simp only [Bool.or_eq_true] at h
  rcases h with h | h
  · have := Nat.eq_of_beq_eq_true h; omega
  · rw [fm_nat_pow, fm_id (by omega) h1, Int.toNat_natCast]; exact h

theorem root_all : allLT (fun r => !(Nat.ble (2 * r) 4051) || (okN (r * r % 4051) && Nat.beq (minN (r * r % 4051)) r)) 4051 = true := by decide +kernel
/-- Who finds a root among the lesser ones has found the one that is told. -/
theorem root_hit {a r : Int} (h0 : 0 ≤ r) (h1 : 2 * r ≤ 4051) (h : r * r % 4051 = fm a) : rtOk a = true ∧ rtMin a = r := by
  have hh := allLT_spec root_all r.toNat (by omega)
  have e : ((r.toNat : Nat) : Int) = r := by omega
  have hb : Nat.ble (2 * r.toNat) 4051 = true := Nat.ble_eq_true_of_le (by omega)
  simp only [hb, Bool.not_true, Bool.false_or, Bool.and_eq_true] at hh
  have hx : (fm a).toNat = r.toNat * r.toNat % 4051 := by
    have : ((r.toNat * r.toNat % 4051 : Nat) : Int) = fm a := by rw [← h, ← e]; simp
    rw [← this, Int.toNat_natCast]
  rw [rtOk_nat, rtMin_nat, hx]
  exact ⟨hh.1, by rw [Nat.eq_of_beq_eq_true hh.2]; exact e⟩
/-- Who finds none among the lesser ones has looked at all that there are. -/
theorem root_miss {a : Int} (h : ∀ r : Int, 0 ≤ r → 2 * r ≤ 4051 → r * r % 4051 ≠ fm a) : rtOk a = false := by
  cases e : rtOk a with
  | false => rfl
  | true => exact absurd (least e).1 (h _ (least e).2.1 (least e).2.2)
/-- What the plain reckoning answers for a root. -/
def rootI (a : Int) : Int := bif rtOk a then rtMin a else -1
theorem rootI_hit {a r : Int} (h0 : 0 ≤ r) (h1 : 2 * r ≤ 4051) (h : r * r % 4051 = fm a) : r = rootI a := by
  have := root_hit h0 h1 h; rw [rootI, this.1]; exact this.2.symm
theorem rootI_miss {a : Int} (h : ∀ r : Int, 0 ≤ r → 2 * r ≤ 4051 → r * r % 4051 ≠ fm a) : -1 = rootI a := by
  rw [rootI, root_miss h]; rfl

end Go.Proofs.YtpkkclcjiobgoajGreatDoor

/- What the plain reckoning of the statements (stoneref1: Mod, Turn, Power, Root) answers; it writes nothing. -/
namespace Go.Proofs.YtpkkclcjiobgoajGreatDoor
open Go.RowKit

theorem tmod_or' (n m : Int) (hm : 0 < m) : n.tmod m = n % m ∨ (n.tmod m < 0 ∧ n.tmod m + m = n % m ∧ 0 < n % m) := by
  by_cases h : 0 ≤ n
  · left; exact Int.tmod_eq_emod_of_nonneg h
  · have e : n.tmod m = - ((-n) % m) := by
      rw [← Int.tmod_eq_emod_of_nonneg (by omega : 0 ≤ -n), Int.neg_tmod, Int.neg_neg]
    have h1 := Int.emod_nonneg (-n) (by omega : m ≠ 0)
    have h2 := Int.emod_lt_of_pos (-n) hm
    have h3 := Int.emod_nonneg n (by omega : m ≠ 0)
    have h4 := Int.emod_lt_of_pos n hm
    have h5 : (n % m + (-n) % m) % m = 0 := by
      rw [← Int.add_emod, Int.add_right_neg, Int.zero_emod]
    rw [e]
    by_cases h6 : (-n) % m = 0
    · rw [h6, Int.add_zero, Int.emod_emod_of_dvd _ (Int.dvd_refl m)] at h5
      left; omega
    · right
      have h7 : n % m + (-n) % m = m := by
        rcases Int.lt_or_le (n % m + (-n) % m) m with h8 | h8
        · rw [Int.emod_eq_of_lt (by omega) h8] at h5; omega
        · have h9 : (n % m + (-n) % m - m) % m = 0 := by rw [Int.sub_emod_right]; exact h5
          rw [Int.emod_eq_of_lt (by omega) (by omega)] at h9; omega
      omega
theorem tmod_bd' (n m : Int) (hm : 0 < m) : -m < n.tmod m ∧ n.tmod m < m := by
  have h2 := Int.emod_nonneg n (by omega : m ≠ 0); have h3 := Int.emod_lt_of_pos n hm
  rcases tmod_or' n m hm with h1 | h1
  · rw [h1]; constructor <;> omega
  · obtain ⟨h4, h5, h6⟩ := h1; constructor <;> omega
theorem rmod_any (n m : Int) (w : World) (hm : 0 < m) (hm' : m ≤ 1000000000) :
    Calls Tryz.prog 44 #[.int .i64 n, .int .i64 m] w fun e w' => e = .returned (.int .i64 (n % m)) ∧ w' = w := by
  obtain ⟨hb1, hb2⟩ := tmod_bd' n m hm
  have ho : Hid (n.tmod m = n % m ∨ (n.tmod m < 0 ∧ n.tmod m + m = n % m ∧ 0 < n % m)) := tmod_or' n m hm
  have hp : Hid (0 ≤ n % m) := Int.emod_nonneg n (by omega : m ≠ 0)
  by_cases h : n.tmod m < 0
  · have h' : n.tmod m + m = n % m := by have := ho.out; have := hp.out; omega
    have H' : Hid (n.tmod m + m = n % m) := h'
    clear h' ho hp
    go_enter Tryz.func44, Tryz.ntmps44
    go_wp2
    go_ret
    exact ⟨ret_int H'.out, rfl⟩
  · have h' : n.tmod m = n % m := by have := ho.out; have := hp.out; omega
    have H' : Hid (n.tmod m = n % m) := h'
    clear h' ho hp
    go_enter Tryz.func44, Tryz.ntmps44
    go_wp2
    go_ret
    exact ⟨ret_int H'.out, rfl⟩
set_option maxHeartbeats 400000 in
theorem rroot_any (n : Int) (w : World) :
    Calls Tryz.prog 96 #[.int .i64 n] w fun e w' => e = .returned (.int .i64 (rootI n)) ∧ w' = w := by
  go_enter Tryz.func96, Tryz.ntmps96
  go_wp2_with (go_at_call 44; refine (rmod_any _ _ _ (by omega) (by omega)).mono ?_; rintro e w' ⟨rfl, rfl⟩)
  go_loop [3] (fun t => ∃ r : Int, 0 ≤ r ∧ r ≤ 2026 ∧ t = .int .i64 r ∧ ∀ s : Int, 0 ≤ s → s < r → s * s % 4051 ≠ fm n) (fun t => (3000 - intOf t).toNat)
  case atStart => exact ⟨0, by omega, by omega, rfl, fun s h0 h1 => by omega⟩
  case round =>
    obtain ⟨r, hr0, hr1, rfl, hall⟩ := hrel
    have HA : Hid (∀ s : Int, 0 ≤ s → s < r → s * s % 4051 ≠ fm n) := hall
    clear hall
    have hb1 : 0 ≤ r * r := Int.mul_nonneg hr0 hr0
    have hb2 : r * r ≤ 2026 * 2026 := Int.mul_le_mul hr1 hr1 hr0 (by omega)
    by_cases hlt : 2 * r ≤ 4051
    · by_cases hit : r * r % 4051 = n % 4051
      · have H : Hid (r = rootI n) := rootI_hit hr0 hlt hit
        have hit' : (r * r % 4051 == n % 4051) = true := by rw [hit]; simp
        clear hit
        go_wp2_with fail
        go_ret
        exact ⟨ret_int H.out, rfl⟩
      · have hit' : (r * r % 4051 == n % 4051) = false := beq_eq_false_iff_ne.mpr hit
        have HH : Hid (¬ r * r % 4051 = n % 4051) := hit
        clear hit
        go_wp2_with fail
        go_round
        case rel =>
          refine ⟨r + 1, by omega, by omega, rfl, fun s h0 h1 => ?_⟩
          by_cases hs : s = r
          · rw [hs]; exact HH.out
          · exact HA.out s h0 (by omega)
        case measure => simp [intOf]; omega
    · have H : Hid (-1 = rootI n) := rootI_miss fun s h0 h1 => HA.out s h0 (by omega)
      go_wp2_with fail
      go_ret
      exact ⟨ret_int H.out, rfl⟩
theorem div_mul_mod (a b : Nat) : (a : Int) - (a : Int) / (b : Int) * (b : Int) = ((a % b : Nat) : Int) := by
  have h := Nat.div_add_mod a b
  rw [Nat.mul_comm] at h
  rw [← Int.natCast_ediv, ← Int.natCast_mul]; omega
theorem sg_step (s : Bool) (a b px py : Nat) : sg s px - (a : Int) / (b : Int) * sg (!s) py = sg (!(!s)) (px + a / b * py) := by
  cases s <;> simp [sg, ← Int.natCast_ediv, Int.mul_neg] <;> omega
set_option maxHeartbeats 400000 in
theorem turn_any (m n e : Int) (w : World) (hm : 0 < m) (hm' : m ≤ 5000) (h0 : 0 ≤ n) (h1 : n ≤ 5000) (f : Nat) (hs : chkT m.toNat e.toNat f false m.toNat n.toNat 0 1 = true) (he : 0 ≤ e) :
    Calls Tryz.prog 95 #[.int .i64 n, .int .i64 m] w fun x w' => x = .returned (.int .i64 e) ∧ w' = w := by
  have HS : Hid (chkT m.toNat e.toNat f false m.toNat n.toNat 0 1 = true) := hs
  clear hs
  go_enter Tryz.func95, Tryz.ntmps95
  go_wp2_with fail
  go_loop [5, 6, 7, 8, 9, 10, 11] (fun ta tb tx ty _ _ _ => ∃ (f : Nat) (s : Bool) (a b px py : Nat), a ≤ 5000 ∧ b ≤ 5000 ∧ px ≤ 5000 ∧ ta = .int .i64 a ∧ tb = .int .i64 b ∧ tx = .int .i64 (sg s px) ∧ ty = .int .i64 (sg (!s) py) ∧ chkT m.toNat e.toNat f s a b px py = true) (fun _ tb _ _ _ _ _ => (intOf tb).toNat)
  case atStart => exact ⟨f, false, m.toNat, n.toNat, 0, 1, by omega, by omega, by omega, by rw [Int.toNat_of_nonneg (by omega)], by rw [Int.toNat_of_nonneg (by omega)], rfl, rfl, HS.out⟩
  case round =>
    obtain ⟨f, s, a, b, px, py, ha, hb, hpx, rfl, rfl, rfl, rfl, hc⟩ := hrel
    have hpy := chkT_py hc
    by_cases hb0 : 0 < b
    · obtain ⟨g, hg⟩ := chkT_step hb0 hc
      have hny := chkT_py hg
      have HG : Hid (chkT m.toNat e.toNat g (!s) b (a % b) py (px + a / b * py) = true) := hg
      have hq := div_mul_mod a b
      have hst := sg_step s a b px py
      have hml := Nat.mod_lt a hb0
      have hq0 : (0 : Int) ≤ (a : Int) / (b : Int) := by rw [← Int.natCast_ediv]; exact Int.natCast_nonneg _
      have hml2 := Nat.mod_le a b
      have hq1 : (a : Int) / (b : Int) ≤ 5000 := by rw [← Int.natCast_ediv]; have := Nat.div_le_self a b; omega
      have hsx : -5000 ≤ sg s px ∧ sg s px ≤ 5000 := by cases s <;> simp [sg] <;> omega
      have hsn : -5000 ≤ sg (!(!s)) (px + a / b * py) ∧ sg (!(!s)) (px + a / b * py) ≤ 5000 := by
        generalize px + a / b * py = z at *
        cases s <;> simp [sg] <;> omega
      have HQ : Hid ((a : Int) - (a : Int) / (b : Int) * (b : Int) = ((a % b : Nat) : Int)) := hq
      have HT : Hid (sg s px - (a : Int) / (b : Int) * sg (!s) py = sg (!(!s)) (px + a / b * py)) := hst
      obtain ⟨x1, x2⟩ := hsx
      have y1 : -10000 ≤ (a : Int) / (b : Int) * sg (!s) py := by omega
      have y2 : (a : Int) / (b : Int) * sg (!s) py ≤ 10000 := by omega
      have z1 : 0 ≤ (a : Int) / (b : Int) * (b : Int) := by omega
      have z2 : (a : Int) / (b : Int) * (b : Int) ≤ 5000 := by omega
      clear hc hg hst hsn hq
      go_wp2_with fail
      go_round
      case rel => exact ⟨g, !s, b, a % b, py, px + a / b * py, hb, by omega, hpy, rfl, by rw [HQ.out], rfl, by rw [HT.out], HG.out⟩
      case measure => simp only [intOf, HQ.out]; omega
    · have hb1 : b = 0 := by omega
      subst hb1
      have hE := chkT_end (by omega : 0 < m.toNat) hc
      rw [Int.toNat_of_nonneg (by omega), Int.toNat_of_nonneg he] at hE
      have HE : Hid (sg s px % m = e) := hE
      clear hE hc
      go_wp2_with (go_at_call 44; refine (rmod_any _ _ _ (by omega) (by omega)).mono ?_; rintro e w' ⟨rfl, rfl⟩)
      go_ret
      exact ⟨ret_int HE.out, rfl⟩
theorem rmod_fm (n : Int) (w : World) :
    Calls Tryz.prog 44 #[.int .i64 n, .int .i64 4051] w fun e w' => e = .returned (.int .i64 (fm n)) ∧ w' = w :=
  rmod_any n 4051 w (by omega) (by omega)
end Go.Proofs.YtpkkclcjiobgoajGreatDoor

/- What the plain reckoning (stoneref2: Secret, Rest) says of a number. -/
namespace Go.Proofs.YtpkkclcjiobgoajGreatDoor
open Go.RowKit Go.Sort
set_option linter.unusedVariables false
set_option linter.unusedSimpArgs false
/-- May a number be a secret? -/
def secB (n : Int) : Bool := decide (1 ≤ n ∧ n < 1013)
def resB (n : Int) : Bool := decide (0 ≤ n ∧ n < 1013)
theorem rrest (n : Int) (w : World) : Calls Tryz.prog 10 #[.int .i64 n] w fun e w' => e = .returned (.bool (resB n)) ∧ Below w.heap.size w w' := by
  by_cases h : n ≥ 0
  · by_cases h2 : n < 1013
    · rw [show resB n = true from decide_eq_true ⟨h, h2⟩]
      go_enter Tryz.func10, Tryz.ntmps10
      go_wp2_with fail
      go_ret
      exact ⟨rfl, by repeat (first | (with_reducible first | exact Below.refl _ _ | assumption | refine Below.setCell ?_ (by first | simp <;> omega | omega) _ | refine Below.alloc ?_ (by first | simp <;> omega | omega) _) | refine bl_call ?_ (by assumption) (by first | simp <;> omega | omega) | (with_reducible first | refine bl_drewN ?_ | refine Below.drew ?_ | refine bl_grow ?_ (by first | simp <;> omega | omega)))⟩
    · rw [show resB n = false from decide_eq_false fun k => h2 k.2]
      go_enter Tryz.func10, Tryz.ntmps10
      go_wp2_with fail
      go_ret
      exact ⟨rfl, by repeat (first | (with_reducible first | exact Below.refl _ _ | assumption | refine Below.setCell ?_ (by first | simp <;> omega | omega) _ | refine Below.alloc ?_ (by first | simp <;> omega | omega) _) | refine bl_call ?_ (by assumption) (by first | simp <;> omega | omega) | (with_reducible first | refine bl_drewN ?_ | refine Below.drew ?_ | refine bl_grow ?_ (by first | simp <;> omega | omega)))⟩
  · rw [show resB n = false from decide_eq_false fun k => h k.1]
    go_enter Tryz.func10, Tryz.ntmps10
    go_wp2_with fail
    go_ret
    exact ⟨rfl, by repeat (first | (with_reducible first | exact Below.refl _ _ | assumption | refine Below.setCell ?_ (by first | simp <;> omega | omega) _ | refine Below.alloc ?_ (by first | simp <;> omega | omega) _) | refine bl_call ?_ (by assumption) (by first | simp <;> omega | omega) | (with_reducible first | refine bl_drewN ?_ | refine Below.drew ?_ | refine bl_grow ?_ (by first | simp <;> omega | omega)))⟩
end Go.Proofs.YtpkkclcjiobgoajGreatDoor

/- Logs of deals, apart from the program and its memory: what a deal does to a book, in one word; what is kept, and what a crash leaves. -/
namespace Go.Proofs.YtpkkclcjiobgoajGreatDoor
set_option linter.unusedVariables false
set_option linter.unusedSimpArgs false

/-- A deal's rows, as numbers, and its seal. -/
structure DealN where
  m : Nat
  Z : Nat → Int
  c : Nat
  X : Nat → Int
  Y : Nat → Int
  F : Nat → Bool
  rx : Int
  ry : Int
  rf : Bool
  s : Int
/-- What a deal does to a book: the fault e (0: none), and the book behind it. -/
def DealIs (n : Nat) (K : Nat → Nat) (G : Nat → Bool) (D : DealN) (e : Int) (n' : Nat) (K' : Nat → Nat) (G' : Nat → Bool) : Prop :=
  (∃ q, ComeIs D.X D.Y D.F D.c q ∧ (exE n G D.Z D.m q == 0) = false ∧ e = exE n G D.Z D.m q ∧ n' = n ∧ K' = K ∧ G' = G) ∨
  (∃ J, (∀ i, i < D.m → goE n G D.Z i = 0) ∧ D.c ≤ 12 ∧ isC D.X D.Y D.F J D.c ∧
    ((1000 < n + D.c ∧ e = 4 ∧ n' = n ∧ K' = K ∧ G' = G) ∨
     (n + D.c ≤ 1000 ∧ resB D.s = false ∧ e = 1 ∧ n' = n ∧ K' = K ∧ G' = G) ∨
     (n + D.c ≤ 1000 ∧ resB D.s = true ∧ (ckI D.rx D.ry D.rf == 0) = false ∧ e = ckI D.rx D.ry D.rf ∧ n' = n ∧ K' = K ∧ G' = G) ∨
     (∃ a s : Nat, n + D.c ≤ 1000 ∧ s < 1013 ∧ D.s = (s : Int) ∧ D.rx = ((tM a).1 : Int) ∧ D.ry = ((tM a).2.1 : Int) ∧ D.rf = (tM a).2.2 ∧
       ((closeB a (exN K D.Z D.m J D.c) s = false ∧ e = 8 ∧ n' = n ∧ K' = K ∧ G' = G) ∨
        (closeB a (exN K D.Z D.m J D.c) s = true ∧ e = 0 ∧ n' = n + D.c ∧ K' = appN K n J D.c ∧ G' = appN (mkG G D.Z D.m) n (fun _ => false) D.c)))))
/-- There always is a way. -/
theorem deal_way (n : Nat) (K : Nat → Nat) (G : Nat → Bool) (D : DealN) : ∃ e n' K' G', DealIs n K G D e n' K' G' := by
  obtain ⟨q, hq⟩ := come_is D.X D.Y D.F D.c
  cases hx : exE n G D.Z D.m q == 0 with
  | false => exact ⟨_, n, K, G, Or.inl ⟨q, hq, hx, rfl, rfl, rfl, rfl⟩⟩
  | true =>
    obtain ⟨hok, rfl⟩ := exE_zero (show exE n G D.Z D.m q = 0 by simpa using hx)
    obtain ⟨hc, J, hJ⟩ := hq.ok
    by_cases hf : 1000 < n + D.c
    · exact ⟨_, n, K, G, Or.inr ⟨J, hok, hc, hJ, Or.inl ⟨hf, rfl, rfl, rfl, rfl⟩⟩⟩
    have hf' : n + D.c ≤ 1000 := by omega
    cases hS : resB D.s with
    | false => exact ⟨_, n, K, G, Or.inr ⟨J, hok, hc, hJ, Or.inr (Or.inl ⟨hf', hS, rfl, rfl, rfl, rfl⟩)⟩⟩
    | true =>
    cases hR : ckI D.rx D.ry D.rf == 0 with
    | false => exact ⟨_, n, K, G, Or.inr ⟨J, hok, hc, hJ, Or.inr (Or.inr (Or.inl ⟨hf', hS, hR, rfl, rfl, rfl, rfl⟩))⟩⟩
    | true =>
    obtain ⟨a, _, r1, r2, r3⟩ := ckI_tN (show ckI D.rx D.ry D.rf = 0 by simpa using hR)
    obtain ⟨s1, s2⟩ := of_decide_eq_true (show decide (0 ≤ D.s ∧ D.s < 1013) = true from hS)
    obtain ⟨s, hs⟩ : ∃ s : Nat, D.s = (s : Int) := ⟨D.s.toNat, by omega⟩
    have hs3 : s < 1013 := by omega
    cases hw : closeB a (exN K D.Z D.m J D.c) s with
    | false => exact ⟨_, n, K, G, Or.inr ⟨J, hok, hc, hJ, Or.inr (Or.inr (Or.inr ⟨a, s, hf', hs3, hs, r1, r2, r3, Or.inl ⟨hw, rfl, rfl, rfl, rfl⟩⟩))⟩⟩
    | true => exact ⟨_, _, _, _, Or.inr ⟨J, hok, hc, hJ, Or.inr (Or.inr (Or.inr ⟨a, s, hf', hs3, hs, r1, r2, r3, Or.inr ⟨hw, rfl, rfl, rfl, rfl⟩⟩))⟩⟩
theorem DealIs.le {n : Nat} {K : Nat → Nat} {G : Nat → Bool} {D : DealN} {e : Int} {n' : Nat} {K' : Nat → Nat} {G' : Nat → Bool} (h : DealIs n K G D e n' K' G') (hn : n ≤ 1000) : n' ≤ 1000 := by
  rcases h with ⟨_, _, _, _, rfl, _⟩ | ⟨J, _, _, _, ⟨_, _, rfl, _⟩ | ⟨_, _, _, rfl, _⟩ | ⟨_, _, _, _, rfl, _⟩ | ⟨a, s, h1, _, _, _, _, _, ⟨_, _, rfl, _⟩ | ⟨_, _, rfl, _⟩⟩⟩ <;> omega

/-- A log: how many records there are; behind so many of them: the book, and how many bytes; all bytes, those that are safe; has it stopped; in how many steps it will (none: never). -/
structure LogS where
  r : Nat
  n : Nat → Nat
  K : Nat → Nat → Nat
  G : Nat → Nat → Bool
  M : Nat → Nat
  all : Nat
  safe : Nat
  stop : Bool
  left : Option Nat
/-- What holds of each. -/
structure LogOk (s : LogS) : Prop where
  m0 : s.M 0 = 0
  m1 : ∀ i, i < s.r → s.M i + 2 ≤ s.M (i + 1)
  m2 : s.M s.r ≤ s.all
  m3 : s.safe ≤ s.all
  m4 : s.all ≤ (s.r + 1) * 1099511627776
  m5 : ∀ i, i ≤ s.r → s.n i ≤ 1000
/-- A new one. -/
def LogS.new (n : Nat) (K : Nat → Nat) : LogS := ⟨0, fun _ => n, fun _ => K, fun _ _ => false, fun _ => 0, 0, 0, false, none⟩
/-- One step less. -/
def lessO : Option Nat → Option Nat
  | none => none
  | some k => some (k - 1)
/-- A record more: the book behind it, all bytes behind it. -/
def LogS.add (s : LogS) (a n : Nat) (K : Nat → Nat) (G : Nat → Bool) : LogS :=
  ⟨s.r + 1, extN s.n (s.r + 1) n, extN s.K (s.r + 1) K, extN s.G (s.r + 1) G, extN s.M (s.r + 1) a, a, s.safe, false, lessO s.left⟩
/-- It stops. -/
def LogS.halt (s : LogS) (a : Nat) : LogS := { s with all := a, stop := true }
/-- All is safe. -/
def LogS.sync (s : LogS) : LogS := { s with safe := s.all, left := lessO s.left }
/-- It is to stop in so many steps. -/
def LogS.fail (s : LogS) (k : Int) : LogS := { s with left := bif decide (k < 0) then none else some k.toNat }
/-- So many bytes are left behind a crash. -/
def LogS.high (s : LogS) (k : Int) : Nat := s.safe + min k.toNat (s.all - s.safe)
/-- The last mark that is not above. -/
def lastM (M : Nat → Nat) (h : Nat) : Nat → Nat
  | 0 => 0
  | r + 1 => bif decide (M (r + 1) ≤ h) then r + 1 else lastM M h r
theorem lastM_le (M : Nat → Nat) (h : Nat) : ∀ r, lastM M h r ≤ r
  | 0 => Nat.le_refl _
  | r + 1 => by
    have := lastM_le M h r
    unfold lastM
    cases hd : decide (M (r + 1) ≤ h)
    · simp only [cond_false]; omega
    · simp only [cond_true]; omega
theorem lastM_yes {M : Nat → Nat} {h r : Nat} (k : M (r + 1) ≤ h) : lastM M h (r + 1) = r + 1 := by unfold lastM; rw [decide_eq_true k]; rfl
theorem lastM_no {M : Nat → Nat} {h r : Nat} (k : ¬ M (r + 1) ≤ h) : lastM M h (r + 1) = lastM M h r := by
  show (bif decide (M (r + 1) ≤ h) then r + 1 else lastM M h r) = _
  rw [decide_eq_false k]; rfl
/-- It crashes. -/
def LogS.crash (s : LogS) (k : Int) : LogS :=
  { s with r := lastM s.M (s.high k) s.r, all := s.M (lastM s.M (s.high k) s.r), safe := s.M (lastM s.M (s.high k) s.r), stop := false, left := none }
/-- What is closed as it should be. -/
theorem lclose_yes (k x p : Nat) (hx : x % 1013 = (h2N * p) % 1013) : closeB (4 * clR k) x (clS p k (4 * x)) = true := by
  rw [close_iff]
  have hb := baN_lt (4 * clR k) (4 * x)
  obtain ⟨b, hbe⟩ : ∃ b, baN (4 * clR k) (4 * x) = b := ⟨_, rfl⟩
  have hS : clS p k (4 * x) = (k + b * p) % 1013 := by unfold clS; rw [hbe]
  rw [hS, hbe, clR_is, clR_is]
  rw [hbe] at hb
  have h0 := h2_ne
  obtain ⟨h, hh⟩ : ∃ h, h2N = h := ⟨_, rfl⟩
  rw [hh] at hx h0 ⊢
  clear hS hbe hh
  have e := (close_own h p k x 0 b h0 hb).2 (Or.inl hx)
  rw [Nat.mul_assoc 4 x b, ← Nat.mul_add]
  exact t4_congr e
/-- A deal of nothing, closed by nothing (T: once the second base, z: its number); by which m coins go. -/
def nilD (T : Sn) (z m : Nat) : DealN := ⟨m, fun _ => 0, 0, fun _ => 0, fun _ => 0, fun _ => false, (T.1 : Int), (T.2.1 : Int), T.2.2, (z : Int)⟩
theorem nilD_is (T : Sn) (z : Nat) (hT : T = tM (4 * clR 1)) (hz : z = clS 0 1 0) (n : Nat) (K : Nat → Nat) (G : Nat → Bool) (hn : n ≤ 1000) : DealIs n K G (nilD T z 0) 0 n K G := by
  refine Or.inr ⟨fun _ => 0, fun i hi => absurd hi (Nat.not_lt_zero _), Nat.zero_le _, fun i hi => absurd hi (Nat.not_lt_zero _), Or.inr (Or.inr (Or.inr ⟨4 * clR 1, z, hn, by rw [hz]; exact clS_lt _ _ _, rfl, by rw [← hT]; rfl, by rw [← hT]; rfl, by rw [← hT]; rfl, Or.inr ⟨?_, rfl, rfl, rfl, rfl⟩⟩))⟩
  have h := lclose_yes 1 0 0 (by rw [Nat.mul_zero])
  rw [Nat.mul_zero 4] at h
  rw [hz]
  exact h
theorem ok_small {a : Sn} (h : okS a = true) : a.1 < 4051 ∧ a.2.1 < 4051 := by
  unfold okS at h
  cases hf : a.2.2 with
  | true =>
    rw [hf, cond_true, Bool.and_eq_true] at h
    have h1 := Nat.eq_of_beq_eq_true h.1
    have h2 := Nat.eq_of_beq_eq_true h.2
    omega
  | false =>
    rw [hf, cond_false, Bool.and_eq_true, Bool.and_eq_true] at h
    exact ⟨Nat.le_of_ble_eq_true h.1.1, Nat.le_of_ble_eq_true h.1.2⟩
end Go.Proofs.YtpkkclcjiobgoajGreatDoor

/- A log's memory beside the law's own rows: books (a row of pointers to them), and marks. Of whatever program. -/
namespace Go.Proofs.YtpkkclcjiobgoajGreatDoor
open Go.RowKit Go.Sort
set_option linter.unusedVariables false
set_option linter.unusedSimpArgs false

/-- Cells of so many pointers. -/
def cellsA (P : Nat → Nat) (n : Nat) : List Value := (List.range n).map fun i => .pointer (some ⟨P i, 0, none⟩)
theorem cellsA_succ (P : Nat → Nat) (n : Nat) : cellsA P (n + 1) = cellsA P n ++ [.pointer (some ⟨P n, 0, none⟩)] := by unfold cellsA; rw [List.range_succ, List.map_append]; rfl
theorem cellsA_at (P : Nat → Nat) {n i : Nat} (h : i < n) : (cellsA P n)[i]? = some (.pointer (some ⟨P i, 0, none⟩)) := by unfold cellsA; simp [h]
theorem cellsA_congr {P R : Nat → Nat} {n : Nat} (h : ∀ i, i < n → P i = R i) : cellsA P n = cellsA R n := by
  unfold cellsA
  refine List.map_congr_left fun i hi => ?_
  rw [h i (List.mem_range.1 hi)]
theorem cellsA_take (P : Nat → Nat) {n k : Nat} (h : k ≤ n) : (cellsA P n).take k = cellsA P k := by unfold cellsA; rw [← List.map_take, List.take_range, Nat.min_eq_left h]
theorem cellsI_take (X : Nat → Int) {n k : Nat} (h : k ≤ n) : (cellsI X n).take k = cellsI X k := by unfold cellsI; rw [← List.map_take, List.take_range, Nat.min_eq_left h]
theorem cellsI_congr2 {X Y : Nat → Int} {n : Nat} (h : ∀ i, i < n → X i = Y i) : cellsI X n = cellsI Y n := by
  unfold cellsI
  refine List.map_congr_left fun i hi => ?_
  rw [h i (List.mem_range.1 hi)]
/-- In block b, from o on, lie so many pointers in a row. -/
def RowA (w : World) (b o n : Nat) (P : Nat → Nat) : Prop := b < w.heap.size ∧ ∀ i, i < n → w.cell? ⟨b, o + i, none⟩ = some (.pointer (some ⟨P i, 0, none⟩))
theorem own_ptrs {w : World} {B : Nat} {e : TypeId} {v : Value} {n : Nat} {P : Nat → Nat} (h : w.ownsRow B e 1 v n (cellsA P n)) : ∃ (sa : Option Addr) (c : Nat), v = .slice sa n c ∧ (n = 0 ∨ ∃ g, sa = some ⟨g, 0, none⟩ ∧ v.ownBlock = some g ∧ B ≤ g ∧ RowA w g 0 n P) := by
  obtain ⟨sa, c, rfl, h1⟩ := own_slice h
  refine ⟨sa, c, rfl, ?_⟩
  rcases h1 with h1 | ⟨g, rfl, h2, h3, h4⟩
  · exact Or.inl h1
  · refine Or.inr ⟨g, rfl, h2, h3, h4, fun i hi => ?_⟩
    have := h.cells h2 i _ (cellsA_at P hi)
    rw [addr_add] at this
    rw [Nat.zero_add]; exact this
/-- The first so many of a row of one's own. -/
theorem own_cut {w : World} {B : Nat} {e : TypeId} {sa : Option Addr} {n c k : Nat} {xs : List Value} (h : w.ownsRow B e 1 (.slice sa n c) n xs) (hk : k ≤ n) (h0 : 0 < n) : w.ownsRow B e 1 (.slice sa k c) k (xs.take k) := by
  rcases h with ⟨hl, ⟨e1, e2⟩ | ⟨g, cap, cur, e1, hg, hb, hc, hm, hs, ht⟩⟩
  · omega
  · injection e1 with e1 e2 e3
    subst e1 e3
    refine ⟨by rw [List.length_take]; omega, Or.inr ⟨g, c, cur, rfl, hg, hb, by omega, hm, hs, ?_⟩⟩
    rw [← ht, List.take_take, Nat.mul_one, Nat.mul_one, Nat.min_eq_left hk]
theorem BookAt.low {eC eG : TypeId} {B B' : Nat} {W : World} {p : Nat} {u v : Value} {n : Nat} {K : Nat → Nat} {G : Nat → Bool} (h : BookAt eC eG B W p u v n K G) (hB : B' ≤ B) : BookAt eC eG B' W p u v n K G :=
  ⟨h.cells, own_base h.coins hB, own_base h.flags hB, Nat.le_trans hB h.base, h.au, h.av, h.ap⟩

/-- The law's own rows: so many books, pointers to them, so many marks. -/
structure RB (eC eG eP eI : TypeId) (A : Nat) (W : World) (vd vm : Value) (rd rm : Nat) (n : Nat → Nat) (K : Nat → Nat → Nat) (G : Nat → Nat → Bool) (M : Nat → Nat) (P : Nat → Nat) (U V : Nat → Value) : Prop where
  bk : ∀ i, i ≤ rd → BookAt eC eG A W (P i) (U i) (V i) (n i) (K i) (G i)
  dn : W.ownsRow A eP 1 vd (rd + 1) (cellsA P (rd + 1))
  mr : W.ownsRow A eI 1 vm (rm + 1) (cellsI (fun i => (M i : Int)) (rm + 1))
  bd : ∀ i, i ≤ rd → ∀ x, ft (P i) (U i) (V i) x → vd.ownBlock ≠ some x ∧ vm.ownBlock ≠ some x
  dm : vd.ownBlock ≠ vm.ownBlock
/-- Their blocks. -/
def FB (vd vm : Value) (rd : Nat) (P : Nat → Nat) (U V : Nat → Value) (x : Nat) : Prop := vd.ownBlock = some x ∨ vm.ownBlock = some x ∨ ∃ i, i ≤ rd ∧ ft (P i) (U i) (V i) x
section
variable {eC eG eP eI : TypeId} {A : Nat} {W W' : World} {vj vd vm : Value} {rd rm : Nat} {n : Nat → Nat} {K : Nat → Nat → Nat} {G : Nat → Nat → Bool} {M : Nat → Nat} {P : Nat → Nat} {U V : Nat → Value} {F : Nat → Prop}
theorem RB.lt (h : RB eC eG eP eI A W vd vm rd rm n K G M P U V) {x : Nat} (hx : FB vd vm rd P U V x) : A ≤ x ∧ x < W.heap.size := by
  rcases hx with hx | hx | ⟨i, hi, hx⟩
  · exact h.dn.lt x hx
  · exact h.mr.lt x hx
  · exact ⟨(h.bk i hi).ge hx, (h.bk i hi).lt hx⟩
theorem RB.but (h : RB eC eG eP eI A W vd vm rd rm n K G M P U V) (k : But F W W') (hF : ∀ x, FB vd vm rd P U V x → ¬ F x) : RB eC eG eP eI A W' vd vm rd rm n K G M P U V :=
  ⟨fun i hi => (h.bk i hi).but k fun x hx => hF x (Or.inr (Or.inr ⟨i, hi, hx⟩)), own_but h.dn k fun g hg => hF g (Or.inl hg), own_but h.mr k fun g hg => hF g (Or.inr (Or.inl hg)), h.bd, h.dm⟩
end
/-- A log beside them. -/
structure LK (PL : World → Value → (Nat → Prop) → LogS → Prop) (eC eG eP eI : TypeId) (A : Nat) (W : World) (vj vd vm : Value) (Q : Nat → Prop) (s : LogS) (rd rm : Nat) (n : Nat → Nat) (K : Nat → Nat → Nat) (G : Nat → Nat → Bool) (M : Nat → Nat) (P : Nat → Nat) (U V : Nat → Value) : Prop where
  log : PL W vj Q s
  rows : RB eC eG eP eI A W vd vm rd rm n K G M P U V
  q : ∀ x, Q x → A ≤ x ∧ ¬ FB vd vm rd P U V x
/-- What its memory must keep to (see LogIs: PLok). -/
structure PLmem (PL : World → Value → (Nat → Prop) → LogS → Prop) : Prop where
  lt : ∀ {W v Q s}, PL W v Q s → ∀ i, Q i → i < W.heap.size
  stay : ∀ {W W' v Q Q' s}, PL W v Q s → But Q' W W' → (∀ i, Q i → ¬ Q' i) → PL W' v Q s
section
variable {PL : World → Value → (Nat → Prop) → LogS → Prop} {eC eG eP eI : TypeId} {A : Nat} {W W' Wa : World} {vj vd vm vd' vm' : Value} {Q : Nat → Prop} {s s' : LogS} {rd rm : Nat} {n : Nat → Nat} {K : Nat → Nat → Nat} {G : Nat → Nat → Bool} {M : Nat → Nat} {P : Nat → Nat} {U V : Nat → Value} {F : Nat → Prop}
theorem LK.but (hO : PLmem PL) (h : LK PL eC eG eP eI A W vj vd vm Q s rd rm n K G M P U V) (k : But F W W') (h1 : ∀ x, Q x → ¬ F x) (h2 : ∀ x, FB vd vm rd P U V x → ¬ F x) : LK PL eC eG eP eI A W' vj vd vm Q s rd rm n K G M P U V :=
  ⟨hO.stay h.log k h1, h.rows.but k h2, h.q⟩
theorem LK.below (hO : PLmem PL) (h : LK PL eC eG eP eI A W vj vd vm Q s rd rm n K G M P U V) (k : Below W.heap.size W W') : LK PL eC eG eP eI A W' vj vd vm Q s rd rm n K G M P U V :=
  h.but hO (But.of_below (fun _ => False) k) (fun _ _ e => e) (fun _ _ e => e)
/-- A method of the log. -/
theorem LK.step (hO : PLmem PL) (h : LK PL eC eG eP eI A W vj vd vm Q s rd rm n K G M P U V) (hA : A ≤ W.heap.size) (hb : But Q W W') {Q' : Nat → Prop} (hp : PL W' vj Q' s') (hq : ∀ i, Q' i → Q i ∨ W.heap.size ≤ i) : LK PL eC eG eP eI A W' vj vd vm Q' s' rd rm n K G M P U V := by
  refine ⟨hp, h.rows.but hb fun x hx hQ => (h.q x hQ).2 hx, fun x hx => ?_⟩
  rcases hq x hx with e | e
  · exact h.q x e
  · exact ⟨by omega, fun f => by have := (h.rows.lt f).2; omega⟩
/-- A book apart from all of it. -/
structure Next (eC eG : TypeId) (A : Nat) (W : World) (vd vm : Value) (Q : Nat → Prop) (rd : Nat) (P : Nat → Nat) (U V : Nat → Value) (p : Nat) (u v : Value) (n1 : Nat) (K1 : Nat → Nat) (G1 : Nat → Bool) : Prop where
  bk : BookAt eC eG A W p u v n1 K1 G1
  ap : ∀ x, ft p u v x → ¬ Q x ∧ ¬ FB vd vm rd P U V x
theorem Next.but {p : Nat} {u v : Value} {n1 : Nat} {K1 : Nat → Nat} {G1 : Nat → Bool} (h : Next eC eG A W vd vm Q rd P U V p u v n1 K1 G1) (k : But F W W') (hF : ∀ x, ft p u v x → ¬ F x) : Next eC eG A W' vd vm Q rd P U V p u v n1 K1 G1 := ⟨h.bk.but k hF, h.ap⟩
theorem Next.below {p : Nat} {u v : Value} {n1 : Nat} {K1 : Nat → Nat} {G1 : Nat → Bool} (h : Next eC eG A W vd vm Q rd P U V p u v n1 K1 G1) (k : Below W.heap.size W W') : Next eC eG A W' vd vm Q rd P U V p u v n1 K1 G1 := h.but (But.of_below (fun _ => False) k) fun _ _ e => e
/-- A copy, just made. -/
theorem next_new (hO : PLmem PL) (h : LK PL eC eG eP eI A W vj vd vm Q s rd rm n K G M P U V) (hA : A ≤ W.heap.size) {p : Nat} {u v : Value} {n1 : Nat} {K1 : Nat → Nat} {G1 : Nat → Bool} (hb : BookAt eC eG W.heap.size W' p u v n1 K1 G1) : Next eC eG A W' vd vm Q rd P U V p u v n1 K1 G1 :=
  ⟨hb.low hA, fun x hx => ⟨fun e => by have h1 := hO.lt h.log x e; have h2 := hb.ge hx; omega, fun e => by have h1 := (h.rows.lt e).2; have h2 := hb.ge hx; omega⟩⟩
/-- Behind a deal of it. -/
theorem next_done (hO : PLmem PL) (h : LK PL eC eG eP eI A W vj vd vm Q s rd rm n K G M P U V) {p : Nat} {u v : Value} {n1 n2 : Nat} {K1 K2 : Nat → Nat} {G1 G2 : Nat → Bool} (hn : Next eC eG A W vd vm Q rd P U V p u v n1 K1 G1) (hd : BookDone eC eG A W W' p u v n2 K2 G2) :
    LK PL eC eG eP eI A W' vj vd vm Q s rd rm n K G M P U V ∧ But (ft p u v) W W' ∧ ∃ u' v', Next eC eG A W' vd vm Q rd P U V p u' v' n2 K2 G2 := by
  obtain ⟨hb, u', v', h1, h2⟩ := hd
  refine ⟨h.but hO hb (fun x hx e => (hn.ap x e).1 hx) (fun x hx e => (hn.ap x e).2 hx), hb, u', v', h1, fun x hx => ?_⟩
  rcases h2 x hx with e | e
  · exact hn.ap x e
  · exact ⟨fun f => by have := hO.lt h.log x f; omega, fun f => by have := (h.rows.lt f).2; omega⟩
theorem next_step (h : LK PL eC eG eP eI A W vj vd vm Q s rd rm n K G M P U V) {p : Nat} {u v : Value} {n1 : Nat} {K1 : Nat → Nat} {G1 : Nat → Bool} (hn : Next eC eG A W vd vm Q rd P U V p u v n1 K1 G1) (hb : But Q W W') {Q' : Nat → Prop} (hq : ∀ i, Q' i → Q i ∨ W.heap.size ≤ i) : Next eC eG A W' vd vm Q' rd P U V p u v n1 K1 G1 := by
  refine ⟨hn.bk.but hb fun x hx => (hn.ap x hx).1, fun x hx => ⟨fun e => ?_, (hn.ap x hx).2⟩⟩
  rcases hq x e with e | e
  · exact (hn.ap x hx).1 e
  · have := hn.bk.lt hx; omega
theorem ext_le {α : Type} (f : Nat → α) {r i : Nat} (a : α) (h : i ≤ r) : extN f (r + 1) a i = f i := extN_lt f a (by omega)
/-- The book is put behind the others. -/
theorem LK.done (hO : PLmem PL) (h : LK PL eC eG eP eI A W vj vd vm Q s rd rm n K G M P U V) {p : Nat} {u v : Value} {n1 : Nat} {K1 : Nat → Nat} {G1 : Nat → Bool} (hn : Next eC eG A W vd vm Q rd P U V p u v n1 K1 G1) (hA : A ≤ W.heap.size) (hW : Below W.heap.size W Wa) (hg : Wa.grownBy W' vd.ownBlock) (ho : W'.ownsRow A eP 1 vd' (rd + 1 + 1) (cellsA P (rd + 1) ++ [.pointer (some ⟨p, 0, none⟩)])) (hat : vd'.ownBlock = vd.ownBlock ∨ vd'.ownBlock = some Wa.heap.size) :
    LK PL eC eG eP eI A W' vj vd' vm Q s (rd + 1) rm (extN n (rd + 1) n1) (extN K (rd + 1) K1) (extN G (rd + 1) G1) M (extN P (rd + 1) p) (extN U (rd + 1) u) (extN V (rd + 1) v) := by
  have ha := h.below hO hW
  have hna := hn.below hW
  have hs := hW.size
  have hb := grown_but hg
  have hql := fun x hx => hO.lt h.log x hx
  have nd : ∀ x, vd'.ownBlock = some x → vd.ownBlock = some x ∨ x = Wa.heap.size := fun x hx => by
    rcases hat with e | e
    · exact Or.inl (e.symm.trans hx)
    · rw [e] at hx; injection hx with hx; exact Or.inr hx.symm
  have hft : ∀ i, i ≤ rd + 1 → ∀ x, ft (extN P (rd + 1) p i) (extN U (rd + 1) u i) (extN V (rd + 1) v i) x → (vd.ownBlock ≠ some x ∧ vm.ownBlock ≠ some x ∧ x < W.heap.size ∧ ¬ Q x) := fun i hi x hx => by
    by_cases e : i = rd + 1
    · subst e
      rw [extN_at, extN_at, extN_at] at hx
      have h1 := hn.ap x hx
      exact ⟨fun e => h1.2 (Or.inl e), fun e => h1.2 (Or.inr (Or.inl e)), hn.bk.lt hx, h1.1⟩
    · have hi' : i ≤ rd := by omega
      rw [ext_le P p hi', ext_le U u hi', ext_le V v hi'] at hx
      have h1 := h.rows.bd i hi' x hx
      exact ⟨h1.1, h1.2, (h.rows.bk i hi').lt hx, fun e => (h.q x e).2 (Or.inr (Or.inr ⟨i, hi', hx⟩))⟩
  refine ⟨hO.stay ha.log hb (fun x hx e => (h.q x hx).2 (Or.inl e)), ⟨fun i hi => ?_, ?_, ?_, fun i hi x hx => ?_, ?_⟩, fun x hx => ⟨(h.q x hx).1, fun f => ?_⟩⟩
  · by_cases e : i = rd + 1
    · subst e
      rw [extN_at, extN_at, extN_at, extN_at, extN_at, extN_at]
      exact hna.bk.but hb fun x hx e => (hn.ap x hx).2 (Or.inl e)
    · have hi' : i ≤ rd := by omega
      rw [ext_le P p hi', ext_le U u hi', ext_le V v hi', ext_le n n1 hi', ext_le K K1 hi', ext_le G G1 hi']
      exact (ha.rows.bk i hi').but hb fun x hx e => (h.rows.bd i hi' x hx).1 e
  · rw [cellsA_succ, extN_at, cellsA_congr (P := extN P (rd + 1) p) (R := P) fun i hi => extN_lt P p hi]
    exact ho
  · exact own_but ha.rows.mr hb fun g hg e => h.rows.dm (e.trans hg.symm)
  · obtain ⟨h1, h2, h3, _⟩ := hft i hi x hx
    refine ⟨fun e => ?_, h2⟩
    rcases nd x e with e | e
    · exact h1 e
    · omega
  · rcases hat with e | e
    · rw [e]; exact h.rows.dm
    · rw [e]; intro k; have := (ha.rows.mr.lt _ k.symm).2; omega
  · rcases f with f | f | ⟨i, hi, f⟩
    · rcases nd x f with e | e
      · exact (h.q x hx).2 (Or.inl e)
      · have := hql x hx; omega
    · exact (h.q x hx).2 (Or.inr (Or.inl f))
    · exact (hft i hi x f).2.2.2 hx
/-- A mark is put behind the others. -/
theorem LK.mark (hO : PLmem PL) (h : LK PL eC eG eP eI A W vj vd vm Q s rd rm n K G M P U V) (a : Nat) (hW : Below W.heap.size W Wa) (hg : Wa.grownBy W' vm.ownBlock) (ho : W'.ownsRow A eI 1 vm' (rm + 1 + 1) (cellsI (fun i => (M i : Int)) (rm + 1) ++ [.int .i64 (a : Int)])) (hat : vm'.ownBlock = vm.ownBlock ∨ vm'.ownBlock = some Wa.heap.size) :
    LK PL eC eG eP eI A W' vj vd vm' Q s rd (rm + 1) n K G (extN M (rm + 1) a) P U V := by
  have ha := h.below hO hW
  have hs := hW.size
  have hb := grown_but hg
  have nd : ∀ x, vm'.ownBlock = some x → vm.ownBlock = some x ∨ x = Wa.heap.size := fun x hx => by
    rcases hat with e | e
    · exact Or.inl (e.symm.trans hx)
    · rw [e] at hx; injection hx with hx; exact Or.inr hx.symm
  refine ⟨hO.stay ha.log hb (fun x hx e => (h.q x hx).2 (Or.inr (Or.inl e))), ⟨fun i hi => (ha.rows.bk i hi).but hb fun x hx e => (h.rows.bd i hi x hx).2 e, own_but ha.rows.dn hb fun g hg e => h.rows.dm (hg.trans e.symm), ?_, fun i hi x hx => ⟨(h.rows.bd i hi x hx).1, fun e => ?_⟩, ?_⟩, fun x hx => ⟨(h.q x hx).1, fun f => ?_⟩⟩
  · rw [cellsI_succ, extN_at, cellsI_congr2 (X := fun i => ((extN M (rm + 1) a i : Nat) : Int)) (Y := fun i => (M i : Int)) fun i hi => by rw [extN_lt M a hi]]
    exact ho
  · rcases nd x e with e | e
    · exact (h.rows.bd i hi x hx).2 e
    · have := (h.rows.bk i hi).lt hx; omega
  · rcases hat with e | e
    · rw [e]; exact h.rows.dm
    · rw [e]; intro k; have := (ha.rows.dn.lt _ k).2; omega
  · rcases f with f | f | f
    · exact (h.q x hx).2 (Or.inl f)
    · rcases nd x f with e | e
      · exact (h.q x hx).2 (Or.inr (Or.inl e))
      · have := hO.lt h.log x hx; omega
    · exact (h.q x hx).2 (Or.inr (Or.inr f))
/-- Both rows are cut. -/
theorem LK.cut {sd sm : Option Addr} {cd cm rd' rm' : Nat} (h : LK PL eC eG eP eI A W vj (.slice sd (rd + 1) cd) (.slice sm (rm + 1) cm) Q s rd rm n K G M P U V) (h1 : rd' ≤ rd) (h2 : rm' ≤ rm) : LK PL eC eG eP eI A W vj (.slice sd (rd' + 1) cd) (.slice sm (rm' + 1) cm) Q s rd' rm' n K G M P U V := by
  have o1 : ∀ a b, (Value.slice sd a cd).ownBlock = (Value.slice sd b cd).ownBlock := fun a b => by cases sd <;> rfl
  have o2 : ∀ a b, (Value.slice sm a cm).ownBlock = (Value.slice sm b cm).ownBlock := fun a b => by cases sm <;> rfl
  refine ⟨h.log, ⟨fun i hi => h.rows.bk i (by omega), ?_, ?_, fun i hi x hx => ?_, ?_⟩, fun x hx => ⟨(h.q x hx).1, fun f => (h.q x hx).2 ?_⟩⟩
  · have := own_cut h.rows.dn (k := rd' + 1) (by omega) (by omega)
    rwa [cellsA_take P (by omega)] at this
  · have := own_cut h.rows.mr (k := rm' + 1) (by omega) (by omega)
    rwa [cellsI_take _ (by omega)] at this
  · rw [o1 (rd' + 1) (rd + 1), o2 (rm' + 1) (rm + 1)]
    exact h.rows.bd i (by omega) x hx
  · rw [o1 (rd' + 1) (rd + 1), o2 (rm' + 1) (rm + 1)]
    exact h.rows.dm
  · rcases f with f | f | ⟨i, hi, f⟩
    · exact Or.inl ((o1 _ _).trans f)
    · exact Or.inr (Or.inl ((o2 _ _).trans f))
    · exact Or.inr (Or.inr ⟨i, by omega, f⟩)
theorem LK.under (hO : PLmem PL) {w : World} (hq : Below A w W) (h : LK PL eC eG eP eI A W vj vd vm Q s rd rm n K G M P U V) (hA : A ≤ W.heap.size) (hb : But Q W W') : Below A w W' := But.under hq hb (fun x hx => (h.q x hx).1) hA
end
end Go.Proofs.YtpkkclcjiobgoajGreatDoor

/- What is wrong with a row of spots; curve.CheckAll over one. -/
namespace Go.Proofs.YtpkkclcjiobgoajGreatDoor
open Go.RowKit Go.Sort
set_option linter.unusedVariables false
set_option linter.unusedSimpArgs false
/-- What is wrong with a row of spots: that of the first that is wrong. -/
def rowE (X Y : Nat → Int) (F : Nat → Bool) (n : Nat) : Int :=
  match n with
  | 0 => 0
  | n + 1 => bif rowE X Y F n == 0 then ckI (X n) (Y n) (F n) else rowE X Y F n
theorem rowE_zero {X Y : Nat → Int} {F : Nat → Bool} : ∀ {n : Nat}, rowE X Y F n = 0 → ∀ j, j < n → ckI (X j) (Y j) (F j) = 0
  | 0, _, j, hj => absurd hj (Nat.not_lt_zero _)
  | n + 1, h, j, hj => by
    unfold rowE at h
    cases h1 : rowE X Y F n == 0
    · rw [h1] at h; simp only [cond_false] at h; rw [h] at h1; cases h1
    · rw [h1] at h; simp only [cond_true] at h
      rcases Nat.lt_succ_iff_lt_or_eq.1 hj with h2 | rfl
      · exact rowE_zero (by simpa using h1) j h2
      · exact h
/-- Either all are right, or the first wrong one is at m. -/
theorem rowE_first {X Y : Nat → Int} {F : Nat → Bool} : ∀ {n : Nat}, (rowE X Y F n == 0) = false → ∃ m, m < n ∧ (∀ j, j < m → ckI (X j) (Y j) (F j) = 0) ∧ (ckI (X m) (Y m) (F m) == 0) = false ∧ rowE X Y F n = ckI (X m) (Y m) (F m)
  | 0, h => by cases h
  | n + 1, h => by
    cases h1 : rowE X Y F n == 0
    · obtain ⟨m, h2, h3, h4, h5⟩ := rowE_first h1
      refine ⟨m, by omega, h3, h4, ?_⟩
      unfold rowE; rw [h1]; exact h5
    · have e : rowE X Y F (n + 1) = ckI (X n) (Y n) (F n) := by unfold rowE; rw [h1]; rfl
      rw [e] at h ⊢
      exact ⟨n, by omega, rowE_zero (by simpa using h1), h, rfl⟩
set_option maxRecDepth 100000 in
set_option maxHeartbeats 2000000 in
theorem checkAll_row (b o n c m : Nat) (X Y : Nat → Int) (F : Nat → Bool) (w : World) (hn : n ≤ 1000000) (hr : RowO w b o n X Y F) (hm : m ≤ n) (hok : ∀ j, j < m → ckI (X j) (Y j) (F j) = 0) (v : Value)
    (hv : (m = n ∧ v = .nilIface) ∨ (m < n ∧ (ckI (X m) (Y m) (F m) == 0) = false ∧ v = errOf (ckI (X m) (Y m) (F m)))) :
    Calls Tryz.prog 67 #[.slice (some ⟨b, o, none⟩) n c] w fun e w' => e = .returned (v) ∧ Below w.heap.size w w' := by
  have HR : Hid (RowO w b o n X Y F) := hr
  have HO : Hid (∀ j, j < m → ckI (X j) (Y j) (F j) = 0) := hok
  have HV : Hid ((m = n ∧ v = .nilIface) ∨ (m < n ∧ (ckI (X m) (Y m) (F m) == 0) = false ∧ v = errOf (ckI (X m) (Y m) (F m)))) := hv
  have hb := hr.1
  clear hr hok hv
  go_enter Tryz.func67, Tryz.ntmps67
  go_wp2_with fail
  go_loopw [8] (fun ti wl => ∃ k : Nat, k ≤ m ∧ ti = .int .i64 k ∧ Below w.heap.size w wl) (fun ti _ => n - (intOf ti).toNat)
  case atStart => exact ⟨0, by omega, rfl, Below.refl _ _⟩
  case round =>
    obtain ⟨k, hk, rfl, hbl⟩ := hrel
    have hz := hbl.size
    by_cases hlt : k < n
    · have hlt' : (k : Int) < n := by omega
      obtain ⟨c0, c1, c2⟩ := (HR.out.below hb hbl).2 k hlt
      by_cases hkm : k < m
      · go_wp2_with (go_at_call 77; refine (check_yes _ _ _ _ (HO.out k hkm)).mono ?_; rintro e w1 ⟨rfl, hb1⟩)
        go_roundw
        case rel => exact ⟨k + 1, by omega, by simp, by repeat (first | (with_reducible first | exact Below.refl _ _ | assumption | refine Below.setCell ?_ (by first | simp <;> omega | omega) _ | refine Below.alloc ?_ (by first | simp <;> omega | omega) _) | refine bl_call ?_ (by assumption) (by first | simp <;> omega | omega) | (with_reducible first | refine bl_drewN ?_ | refine Below.drew ?_ | refine bl_grow ?_ (by first | simp <;> omega | omega)))⟩
        case measure => simp [intOf]; omega
      · obtain rfl : k = m := by omega
        obtain ⟨h1, h2, rfl⟩ : k < n ∧ (ckI (X k) (Y k) (F k) == 0) = false ∧ v = errOf (ckI (X k) (Y k) (F k)) := by
          rcases HV.out with h | h
          · omega
          · exact h
        go_wp2_with (go_at_call 77; refine (check_no _ _ _ _ h2).mono ?_; rintro e w1 ⟨rfl, hb1⟩)
        go_ret
        exact ⟨rfl, by repeat (first | (with_reducible first | exact Below.refl _ _ | assumption | refine Below.setCell ?_ (by first | simp <;> omega | omega) _ | refine Below.alloc ?_ (by first | simp <;> omega | omega) _) | refine bl_call ?_ (by assumption) (by first | simp <;> omega | omega) | (with_reducible first | refine bl_drewN ?_ | refine Below.drew ?_ | refine bl_grow ?_ (by first | simp <;> omega | omega)))⟩
    · have hlt' : ¬ (k : Int) < n := by omega
      obtain ⟨h1, rfl⟩ : m = n ∧ v = .nilIface := by
        rcases HV.out with h | h
        · exact h
        · omega
      go_wp2_with fail
      go_ret
      exact ⟨rfl, by repeat (first | (with_reducible first | exact Below.refl _ _ | assumption | refine Below.setCell ?_ (by first | simp <;> omega | omega) _ | refine Below.alloc ?_ (by first | simp <;> omega | omega) _) | refine bl_call ?_ (by assumption) (by first | simp <;> omega | omega) | (with_reducible first | refine bl_drewN ?_ | refine Below.drew ?_ | refine bl_grow ?_ (by first | simp <;> omega | omega)))⟩
theorem checkAll_all (b o n c : Nat) (X Y : Nat → Int) (F : Nat → Bool) (w : World) (hn : n ≤ 1000000) (hr : RowO w b o n X Y F) (h : rowE X Y F n = 0) : Calls Tryz.prog 67 #[.slice (some ⟨b, o, none⟩) n c] w fun e w' => e = .returned (.nilIface) ∧ Below w.heap.size w w' :=
  checkAll_row b o n c n X Y F w hn hr (Nat.le_refl _) (rowE_zero h) _ (Or.inl ⟨rfl, rfl⟩)
theorem checkAll_bad (b o n c : Nat) (X Y : Nat → Int) (F : Nat → Bool) (w : World) (hn : n ≤ 1000000) (hr : RowO w b o n X Y F) (h : (rowE X Y F n == 0) = false) : Calls Tryz.prog 67 #[.slice (some ⟨b, o, none⟩) n c] w fun e w' => e = .returned (errOf (rowE X Y F n)) ∧ Below w.heap.size w w' := by
  obtain ⟨m, h1, h2, h3, h4⟩ := rowE_first h
  rw [h4]
  exact checkAll_row b o n c m X Y F w hn hr (Nat.le_of_lt h1) h2 _ (Or.inr ⟨h1, h3, rfl⟩)
end Go.Proofs.YtpkkclcjiobgoajGreatDoor

/- What package book is to answer: Ask, Close, New, Excess, Do, Live, Coins, Total. A book is whatever the package makes of it: PB says of a memory that a value is a book, in which blocks it lies, how many coins it has, which ones, and which of them have gone. -/
namespace Go.Proofs.YtpkkclcjiobgoajGreatDoor
open Go.RowKit Go.Sort
set_option linter.unusedVariables false
set_option linter.unusedSimpArgs false
def BAskIs : Prop :=
  (∀ (x1 y1 x2 y2 : Int) (f1 f2 : Bool) (w : World), ((rowE (twoR x1 x2) (twoR y1 y2) (twoR f1 f2) 2) == 0) = false → Calls Tryz.prog 8 #[.agg #[.int .i64 x1, .int .i64 y1, .bool f1], .agg #[.int .i64 x2, .int .i64 y2, .bool f2]] w fun ex w' => ex = .returned (.tuple #[.int .i64 0, errOf (rowE (twoR x1 x2) (twoR y1 y2) (twoR f1 f2) 2)]) ∧ Below w.heap.size w w') ∧
  (∀ (a b : Nat) (w : World), Calls Tryz.prog 8 #[.agg #[.int .i64 ((tM a).1 : Int), .int .i64 ((tM a).2.1 : Int), .bool (tM a).2.2], .agg #[.int .i64 ((tM b).1 : Int), .int .i64 ((tM b).2.1 : Int), .bool (tM b).2.2]] w fun ex w' => ex = .returned (.tuple #[.int .i64 (baN a b : Int), .nilIface]) ∧ Below w.heap.size w w')
def BCloseIs : Prop :=
  (∀ (r k x1 y1 : Int) (f1 : Bool) (w : World), (Lit.int .i64 r).wf = true → (Lit.int .i64 k).wf = true → (resB r && secB k) = false → Calls Tryz.prog 14 #[.int .i64 r, .int .i64 k, .agg #[.int .i64 x1, .int .i64 y1, .bool f1]] w fun ex w' => ex = .returned (.tuple #[.agg #[.int .i64 0, .int .i64 0, .bool false, .int .i64 0], errOf 1]) ∧ Below w.heap.size w w') ∧
  (∀ (r k x1 y1 : Int) (f1 : Bool) (w : World), (resB r && secB k) = true → (ckI x1 y1 f1 == 0) = false → Calls Tryz.prog 14 #[.int .i64 r, .int .i64 k, .agg #[.int .i64 x1, .int .i64 y1, .bool f1]] w fun ex w' => ex = .returned (.tuple #[.agg #[.int .i64 0, .int .i64 0, .bool false, .int .i64 0], errOf (ckI x1 y1 f1)]) ∧ Below w.heap.size w w') ∧
  (∀ (r k a : Nat) (w : World), r < 1013 → 1 ≤ k → k < 1013 → Calls Tryz.prog 14 #[.int .i64 (r : Int), .int .i64 (k : Int), .agg #[.int .i64 ((tM a).1 : Int), .int .i64 ((tM a).2.1 : Int), .bool (tM a).2.2]] w fun ex w' => ex = .returned (.tuple #[.agg #[.int .i64 ((tM (4 * clR k)).1 : Int), .int .i64 ((tM (4 * clR k)).2.1 : Int), .bool (tM (4 * clR k)).2.2, .int .i64 (clS r k a : Int)], .nilIface]) ∧ Below w.heap.size w w')
/-- What a thing's memory must keep to. -/
structure PBok (PB : World → Value → (Nat → Prop) → Nat → (Nat → Nat) → (Nat → Bool) → Prop) : Prop where
  lt : ∀ {W v Q n K G}, PB W v Q n K G → ∀ i, Q i → i < W.heap.size
  stay : ∀ {W W' v Q Q' n K G}, PB W v Q n K G → But Q' W W' → (∀ i, Q i → ¬ Q' i) → PB W' v Q n K G
def BNewIs (PB : World → Value → (Nat → Prop) → Nat → (Nat → Nat) → (Nat → Bool) → Prop) : Prop :=
  (∀ (sl : Option Addr) (n d : Nat) (X Y : Nat → Int) (F : Nat → Bool) (q : Int) (w : World), n ≤ d → (sl = none → d = 0) → (n = 0 ∨ ∃ b o : Nat, sl = some ⟨b, o, none⟩ ∧ RowO w b o n X Y F) → ComeIs X Y F n q → (q == 0) = false → Calls Tryz.prog 16 #[.slice sl n d] w fun ex w' => ex = .returned (.tuple #[.pointer none, errOf q]) ∧ Below w.heap.size w w') ∧
  (∀ (sl : Option Addr) (n d : Nat) (X Y : Nat → Int) (F : Nat → Bool) (K : Nat → Nat) (w : World), n ≤ 12 → n ≤ d → (sl = none → d = 0) → (n = 0 ∨ ∃ b o : Nat, sl = some ⟨b, o, none⟩ ∧ RowO w b o n X Y F) → isC X Y F K n →
    Calls Tryz.prog 16 #[.slice sl n d] w fun ex w' => ∃ (v : Value) (Q : Nat → Prop), ex = .returned (.tuple #[v, .nilIface]) ∧ PB w' v Q n K (fun _ => false) ∧ (∀ i, Q i → w.heap.size ≤ i) ∧ Below w.heap.size w w')
def BExcIs (PB : World → Value → (Nat → Prop) → Nat → (Nat → Nat) → (Nat → Bool) → Prop) : Prop :=
  (∀ (v : Value) (Q : Nat → Prop) (n m c d dz : Nat) (sz sl : Option Addr) (K : Nat → Nat) (G : Nat → Bool) (Z : Nat → Int) (X Y : Nat → Int) (F : Nat → Bool) (q : Int) (w : World), n ≤ 1000 → m ≤ 9223372036854775807 → m ≤ dz → c ≤ d → (sl = none → d = 0) → PB w v Q n K G → (m = 0 ∨ ∃ b o : Nat, sz = some ⟨b, o, none⟩ ∧ RowI w b o m Z) → (c = 0 ∨ ∃ b o : Nat, sl = some ⟨b, o, none⟩ ∧ RowO w b o c X Y F) → ComeIs X Y F c q → (exE n G Z m q == 0) = false → Calls Tryz.prog 19 #[v, .slice sz m dz, .slice sl c d] w fun ex w' => ex = .returned (.tuple #[.agg #[.int .i64 0, .int .i64 0, .bool false], errOf (exE n G Z m q)]) ∧ Below w.heap.size w w') ∧
  (∀ (v : Value) (Q : Nat → Prop) (n m c d dz : Nat) (sz sl : Option Addr) (K : Nat → Nat) (G : Nat → Bool) (Z : Nat → Int) (X Y : Nat → Int) (F : Nat → Bool) (J : Nat → Nat) (w : World), n ≤ 1000 → m ≤ 9223372036854775807 → m ≤ dz → c ≤ d → (sl = none → d = 0) → PB w v Q n K G → (m = 0 ∨ ∃ b o : Nat, sz = some ⟨b, o, none⟩ ∧ RowI w b o m Z) → (c = 0 ∨ ∃ b o : Nat, sl = some ⟨b, o, none⟩ ∧ RowO w b o c X Y F) → (∀ i, i < m → goE n G Z i = 0) → c ≤ 12 → isC X Y F J c → Calls Tryz.prog 19 #[v, .slice sz m dz, .slice sl c d] w fun ex w' => ex = .returned (.tuple #[.agg #[.int .i64 ((tM (4 * exN K Z m J c)).1 : Int), .int .i64 ((tM (4 * exN K Z m J c)).2.1 : Int), .bool (tM (4 * exN K Z m J c)).2.2], .nilIface]) ∧ Below w.heap.size w w')
/-- What a deal that is done leaves. -/
def PBdone (PB : World → Value → (Nat → Prop) → Nat → (Nat → Nat) → (Nat → Bool) → Prop) (w w' : World) (v : Value) (Q : Nat → Prop) (n : Nat) (K : Nat → Nat) (G : Nat → Bool) : Prop :=
  But Q w w' ∧ ∃ Q', PB w' v Q' n K G ∧ ∀ i, Q' i → Q i ∨ w.heap.size ≤ i
def BDoIs (PB : World → Value → (Nat → Prop) → Nat → (Nat → Nat) → (Nat → Bool) → Prop) : Prop :=
  (∀ (v : Value) (Q : Nat → Prop) (n m c d dz : Nat) (sz sl : Option Addr) (K : Nat → Nat) (G : Nat → Bool) (Z : Nat → Int) (X Y : Nat → Int) (F : Nat → Bool) (rx ry S q : Int) (rf : Bool) (w : World), n ≤ 1000 → m ≤ 9223372036854775807 → m ≤ dz → c ≤ d → (sl = none → d = 0) → PB w v Q n K G → (m = 0 ∨ ∃ b o : Nat, sz = some ⟨b, o, none⟩ ∧ RowI w b o m Z) → (c = 0 ∨ ∃ b o : Nat, sl = some ⟨b, o, none⟩ ∧ RowO w b o c X Y F) → ComeIs X Y F c q → (exE n G Z m q == 0) = false → Calls Tryz.prog 21 #[v, .agg #[.slice sz m dz, .slice sl c d, .int .i64 rx, .int .i64 ry, .bool rf, .int .i64 S]] w fun ex w' => ex = .returned (errOf (exE n G Z m q)) ∧ Below w.heap.size w w') ∧
  (∀ (v : Value) (Q : Nat → Prop) (n m c d dz : Nat) (sz sl : Option Addr) (K : Nat → Nat) (G : Nat → Bool) (Z : Nat → Int) (X Y : Nat → Int) (F : Nat → Bool) (J : Nat → Nat) (rx ry S : Int) (rf : Bool) (w : World), n ≤ 1000 → m ≤ 9223372036854775807 → m ≤ dz → c ≤ d → (sl = none → d = 0) → PB w v Q n K G → (m = 0 ∨ ∃ b o : Nat, sz = some ⟨b, o, none⟩ ∧ RowI w b o m Z) → (c = 0 ∨ ∃ b o : Nat, sl = some ⟨b, o, none⟩ ∧ RowO w b o c X Y F) → (∀ i, i < m → goE n G Z i = 0) → c ≤ 12 → isC X Y F J c → 1000 < n + c → Calls Tryz.prog 21 #[v, .agg #[.slice sz m dz, .slice sl c d, .int .i64 rx, .int .i64 ry, .bool rf, .int .i64 S]] w fun ex w' => ex = .returned (errOf 4) ∧ Below w.heap.size w w') ∧
  (∀ (v : Value) (Q : Nat → Prop) (n m c d dz : Nat) (sz sl : Option Addr) (K : Nat → Nat) (G : Nat → Bool) (Z : Nat → Int) (X Y : Nat → Int) (F : Nat → Bool) (J : Nat → Nat) (rx ry S : Int) (rf : Bool) (w : World), n ≤ 1000 → m ≤ 9223372036854775807 → m ≤ dz → c ≤ d → (sl = none → d = 0) → PB w v Q n K G → (m = 0 ∨ ∃ b o : Nat, sz = some ⟨b, o, none⟩ ∧ RowI w b o m Z) → (c = 0 ∨ ∃ b o : Nat, sl = some ⟨b, o, none⟩ ∧ RowO w b o c X Y F) → (∀ i, i < m → goE n G Z i = 0) → c ≤ 12 → isC X Y F J c → n + c ≤ 1000 → (Lit.int .i64 S).wf = true → resB S = false → Calls Tryz.prog 21 #[v, .agg #[.slice sz m dz, .slice sl c d, .int .i64 rx, .int .i64 ry, .bool rf, .int .i64 S]] w fun ex w' => ex = .returned (errOf 1) ∧ Below w.heap.size w w') ∧
  (∀ (v : Value) (Q : Nat → Prop) (n m c d dz : Nat) (sz sl : Option Addr) (K : Nat → Nat) (G : Nat → Bool) (Z : Nat → Int) (X Y : Nat → Int) (F : Nat → Bool) (J : Nat → Nat) (rx ry S : Int) (rf : Bool) (w : World), n ≤ 1000 → m ≤ 9223372036854775807 → m ≤ dz → c ≤ d → (sl = none → d = 0) → PB w v Q n K G → (m = 0 ∨ ∃ b o : Nat, sz = some ⟨b, o, none⟩ ∧ RowI w b o m Z) → (c = 0 ∨ ∃ b o : Nat, sl = some ⟨b, o, none⟩ ∧ RowO w b o c X Y F) → (∀ i, i < m → goE n G Z i = 0) → c ≤ 12 → isC X Y F J c → n + c ≤ 1000 → resB S = true → (ckI rx ry rf == 0) = false → Calls Tryz.prog 21 #[v, .agg #[.slice sz m dz, .slice sl c d, .int .i64 rx, .int .i64 ry, .bool rf, .int .i64 S]] w fun ex w' => ex = .returned (errOf (ckI rx ry rf)) ∧ Below w.heap.size w w') ∧
  (∀ (v : Value) (Q : Nat → Prop) (n m c d dz : Nat) (sz sl : Option Addr) (K : Nat → Nat) (G : Nat → Bool) (Z : Nat → Int) (X Y : Nat → Int) (F : Nat → Bool) (J : Nat → Nat) (a s : Nat) (w : World), n ≤ 1000 → m ≤ 9223372036854775807 → m ≤ dz → c ≤ d → (sl = none → d = 0) → PB w v Q n K G → (m = 0 ∨ ∃ b o : Nat, sz = some ⟨b, o, none⟩ ∧ RowI w b o m Z) → (c = 0 ∨ ∃ b o : Nat, sl = some ⟨b, o, none⟩ ∧ RowO w b o c X Y F) → (∀ i, i < m → goE n G Z i = 0) → c ≤ 12 → isC X Y F J c → n + c ≤ 1000 → s < 1013 → closeB a (exN K Z m J c) s = false → Calls Tryz.prog 21 #[v, .agg #[.slice sz m dz, .slice sl c d, .int .i64 ((tM a).1 : Int), .int .i64 ((tM a).2.1 : Int), .bool (tM a).2.2, .int .i64 (s : Int)]] w fun ex w' => ex = .returned (errOf 8) ∧ Below w.heap.size w w') ∧
  (∀ (v : Value) (Q : Nat → Prop) (n m c d dz : Nat) (sz sl : Option Addr) (K : Nat → Nat) (G : Nat → Bool) (Z : Nat → Int) (X Y : Nat → Int) (F : Nat → Bool) (J : Nat → Nat) (a s : Nat) (w : World), n ≤ 1000 → m ≤ 9223372036854775807 → m ≤ dz → c ≤ d → (sl = none → d = 0) → PB w v Q n K G → (m = 0 ∨ ∃ b o : Nat, sz = some ⟨b, o, none⟩ ∧ RowI w b o m Z) → (c = 0 ∨ ∃ b o : Nat, sl = some ⟨b, o, none⟩ ∧ RowO w b o c X Y F) → (m ≠ 0 → ∀ b o, sz = some ⟨b, o, none⟩ → ¬ Q b) → (c ≠ 0 → ∀ b o, sl = some ⟨b, o, none⟩ → ¬ Q b) → (∀ i, i < m → goE n G Z i = 0) → c ≤ 12 → isC X Y F J c → n + c ≤ 1000 → s < 1013 → closeB a (exN K Z m J c) s = true →
    Calls Tryz.prog 21 #[v, .agg #[.slice sz m dz, .slice sl c d, .int .i64 ((tM a).1 : Int), .int .i64 ((tM a).2.1 : Int), .bool (tM a).2.2, .int .i64 (s : Int)]] w fun ex w' => ex = .returned .nilIface ∧ PBdone PB w w' v Q (n + c) (appN K n J c) (appN (mkG G Z m) n (fun _ => false) c))
def BLiveIs (PB : World → Value → (Nat → Prop) → Nat → (Nat → Nat) → (Nat → Bool) → Prop) : Prop :=
  ∀ (v : Value) (Q : Nat → Prop) (n : Nat) (K : Nat → Nat) (G : Nat → Bool) (w : World), n ≤ 1000 → PB w v Q n K G →
    Calls Tryz.prog 23 #[v] w fun ex w' => ∃ q, ex = .returned q ∧ w'.ownsRow w.heap.size 3 1 q (lvL G n).length (lvC G n) ∧ Below w.heap.size w w'
def BCoinsIs (PB : World → Value → (Nat → Prop) → Nat → (Nat → Nat) → (Nat → Bool) → Prop) : Prop :=
  ∀ (v : Value) (Q : Nat → Prop) (n : Nat) (K : Nat → Nat) (G : Nat → Bool) (w : World), n ≤ 1000 → PB w v Q n K G →
    Calls Tryz.prog 26 #[v] w fun ex w' => ∃ q, ex = .returned q ∧ w'.ownsRow w.heap.size 25 3 q n (cellsK K n) ∧ Below w.heap.size w w'
def BTotalIs (PB : World → Value → (Nat → Prop) → Nat → (Nat → Nat) → (Nat → Bool) → Prop) : Prop :=
  ∀ (v : Value) (Q : Nat → Prop) (n : Nat) (K : Nat → Nat) (G : Nat → Bool) (w : World), n ≤ 1000 → PB w v Q n K G → Calls Tryz.prog 27 #[v] w fun ex w' => ex = .returned (.agg #[.int .i64 ((tM (4 * ttN K G n)).1 : Int), .int .i64 ((tM (4 * ttN K G n)).2.1 : Int), .bool (tM (4 * ttN K G n)).2.2]) ∧ Below w.heap.size w w'
end Go.Proofs.YtpkkclcjiobgoajGreatDoor

/- What package log is to answer: New, Do, Sync, Crash, Fail, Live, Total, Bytes, Safe. A log is whatever the package makes of it: PL says of a memory that a value is a log, in which blocks it lies, and which one it is. -/
namespace Go.Proofs.YtpkkclcjiobgoajGreatDoor
open Go.RowKit Go.Sort
set_option linter.unusedVariables false
set_option linter.unusedSimpArgs false
/-- What its memory must keep to. -/
structure PLok (PL : World → Value → (Nat → Prop) → LogS → Prop) : Prop where
  lt : ∀ {W v Q s}, PL W v Q s → ∀ i, Q i → i < W.heap.size
  stay : ∀ {W W' v Q Q' s}, PL W v Q s → But Q' W W' → (∀ i, Q i → ¬ Q' i) → PL W' v Q s
  ok : ∀ {W v Q s}, PL W v Q s → LogOk s
/-- What a method leaves. -/
def PLdone (PL : World → Value → (Nat → Prop) → LogS → Prop) (w w' : World) (v : Value) (Q : Nat → Prop) (s : LogS) : Prop := But Q w w' ∧ ∃ Q', PL w' v Q' s ∧ ∀ i, Q' i → Q i ∨ w.heap.size ≤ i
def LNewIs (PL : World → Value → (Nat → Prop) → LogS → Prop) : Prop :=
  (∀ (sl : Option Addr) (n d : Nat) (X Y : Nat → Int) (F : Nat → Bool) (q : Int) (w : World), n ≤ d → (sl = none → d = 0) → (n = 0 ∨ ∃ b o : Nat, sl = some ⟨b, o, none⟩ ∧ RowO w b o n X Y F) → ComeIs X Y F n q → (q == 0) = false → Calls Tryz.prog 29 #[.slice sl n d] w fun ex w' => ex = .returned (.tuple #[.pointer none, errOf q]) ∧ Below w.heap.size w w') ∧
  (∀ (sl : Option Addr) (n d : Nat) (X Y : Nat → Int) (F : Nat → Bool) (K : Nat → Nat) (w : World), n ≤ 12 → n ≤ d → (sl = none → d = 0) → (n = 0 ∨ ∃ b o : Nat, sl = some ⟨b, o, none⟩ ∧ RowO w b o n X Y F) → isC X Y F K n →
    Calls Tryz.prog 29 #[.slice sl n d] w fun ex w' => ∃ (v : Value) (Q : Nat → Prop), ex = .returned (.tuple #[v, .nilIface]) ∧ PL w' v Q (LogS.new n K) ∧ (∀ i, Q i → w.heap.size ≤ i) ∧ Below w.heap.size w w')
def LDoIs (PL : World → Value → (Nat → Prop) → LogS → Prop) : Prop :=
  (∀ (v : Value) (Q : Nat → Prop) (s : LogS) (D : DealN) (sz sl : Option Addr) (dz d : Nat) (e : Int) (n : Nat) (K : Nat → Nat) (G : Nat → Bool) (w : World), s.r ≤ 1000 → D.m ≤ 9223372036854775807 → D.m ≤ dz → D.c ≤ d → (sl = none → d = 0) → (∀ i, i < D.m → (Lit.int .i64 (D.Z i)).wf = true) → (Lit.int .i64 D.rx).wf = true → (Lit.int .i64 D.ry).wf = true → (Lit.int .i64 D.s).wf = true → (D.m = 0 ∨ ∃ b o : Nat, sz = some ⟨b, o, none⟩ ∧ ¬ Q b ∧ RowI w b o D.m D.Z) → (D.c = 0 ∨ ∃ b o : Nat, sl = some ⟨b, o, none⟩ ∧ ¬ Q b ∧ RowO w b o D.c D.X D.Y D.F) → PL w v Q s → DealIs (s.n s.r) (s.K s.r) (s.G s.r) D e n K G → s.stop = true → Calls Tryz.prog 31 #[v, .agg #[.slice sz D.m dz, .slice sl D.c d, .int .i64 D.rx, .int .i64 D.ry, .bool D.rf, .int .i64 D.s]] w fun ex w' => ex = .returned (errOf 6) ∧ PLdone PL w w' v Q (s)) ∧
  (∀ (v : Value) (Q : Nat → Prop) (s : LogS) (D : DealN) (sz sl : Option Addr) (dz d : Nat) (e : Int) (n : Nat) (K : Nat → Nat) (G : Nat → Bool) (w : World), s.r ≤ 1000 → D.m ≤ 9223372036854775807 → D.m ≤ dz → D.c ≤ d → (sl = none → d = 0) → (∀ i, i < D.m → (Lit.int .i64 (D.Z i)).wf = true) → (Lit.int .i64 D.rx).wf = true → (Lit.int .i64 D.ry).wf = true → (Lit.int .i64 D.s).wf = true → (D.m = 0 ∨ ∃ b o : Nat, sz = some ⟨b, o, none⟩ ∧ ¬ Q b ∧ RowI w b o D.m D.Z) → (D.c = 0 ∨ ∃ b o : Nat, sl = some ⟨b, o, none⟩ ∧ ¬ Q b ∧ RowO w b o D.c D.X D.Y D.F) → PL w v Q s → DealIs (s.n s.r) (s.K s.r) (s.G s.r) D e n K G → s.stop = false → (e == 0) = false → Calls Tryz.prog 31 #[v, .agg #[.slice sz D.m dz, .slice sl D.c d, .int .i64 D.rx, .int .i64 D.ry, .bool D.rf, .int .i64 D.s]] w fun ex w' => ex = .returned (errOf e) ∧ PLdone PL w w' v Q (s)) ∧
  (∀ (v : Value) (Q : Nat → Prop) (s : LogS) (D : DealN) (sz sl : Option Addr) (dz d : Nat) (e : Int) (n : Nat) (K : Nat → Nat) (G : Nat → Bool) (w : World), s.r ≤ 1000 → D.m ≤ 9223372036854775807 → D.m ≤ dz → D.c ≤ d → (sl = none → d = 0) → (∀ i, i < D.m → (Lit.int .i64 (D.Z i)).wf = true) → (Lit.int .i64 D.rx).wf = true → (Lit.int .i64 D.ry).wf = true → (Lit.int .i64 D.s).wf = true → (D.m = 0 ∨ ∃ b o : Nat, sz = some ⟨b, o, none⟩ ∧ ¬ Q b ∧ RowI w b o D.m D.Z) → (D.c = 0 ∨ ∃ b o : Nat, sl = some ⟨b, o, none⟩ ∧ ¬ Q b ∧ RowO w b o D.c D.X D.Y D.F) → PL w v Q s → DealIs (s.n s.r) (s.K s.r) (s.G s.r) D e n K G → s.stop = false → e = 0 → s.left = some 0 → Calls Tryz.prog 31 #[v, .agg #[.slice sz D.m dz, .slice sl D.c d, .int .i64 D.rx, .int .i64 D.ry, .bool D.rf, .int .i64 D.s]] w fun ex w' => ex = .returned (errOf 6) ∧ ∃ a, s.all ≤ a ∧ PLdone PL w w' v Q (s.halt a)) ∧
  (∀ (v : Value) (Q : Nat → Prop) (s : LogS) (D : DealN) (sz sl : Option Addr) (dz d : Nat) (e : Int) (n : Nat) (K : Nat → Nat) (G : Nat → Bool) (w : World), s.r ≤ 1000 → D.m ≤ 9223372036854775807 → D.m ≤ dz → D.c ≤ d → (sl = none → d = 0) → (∀ i, i < D.m → (Lit.int .i64 (D.Z i)).wf = true) → (Lit.int .i64 D.rx).wf = true → (Lit.int .i64 D.ry).wf = true → (Lit.int .i64 D.s).wf = true → (D.m = 0 ∨ ∃ b o : Nat, sz = some ⟨b, o, none⟩ ∧ ¬ Q b ∧ RowI w b o D.m D.Z) → (D.c = 0 ∨ ∃ b o : Nat, sl = some ⟨b, o, none⟩ ∧ ¬ Q b ∧ RowO w b o D.c D.X D.Y D.F) → PL w v Q s → DealIs (s.n s.r) (s.K s.r) (s.G s.r) D e n K G → s.stop = false → e = 0 → s.left ≠ some 0 → Calls Tryz.prog 31 #[v, .agg #[.slice sz D.m dz, .slice sl D.c d, .int .i64 D.rx, .int .i64 D.ry, .bool D.rf, .int .i64 D.s]] w fun ex w' => ex = .returned .nilIface ∧ ∃ a, s.all + 2 ≤ a ∧ PLdone PL w w' v Q (s.add a n K G))
def LSyncIs (PL : World → Value → (Nat → Prop) → LogS → Prop) : Prop :=
  (∀ (v : Value) (Q : Nat → Prop) (s : LogS) (w : World), PL w v Q s → s.stop = true → Calls Tryz.prog 32 #[v] w fun ex w' => ex = .returned (errOf 6) ∧ PLdone PL w w' v Q (s)) ∧
  (∀ (v : Value) (Q : Nat → Prop) (s : LogS) (w : World), PL w v Q s → s.stop = false → s.left = some 0 → Calls Tryz.prog 32 #[v] w fun ex w' => ex = .returned (errOf 6) ∧ PLdone PL w w' v Q (s.halt s.all)) ∧
  (∀ (v : Value) (Q : Nat → Prop) (s : LogS) (w : World), PL w v Q s → s.stop = false → s.left ≠ some 0 → Calls Tryz.prog 32 #[v] w fun ex w' => ex = .returned (.nilIface) ∧ PLdone PL w w' v Q (s.sync))
def LFailIs (PL : World → Value → (Nat → Prop) → LogS → Prop) : Prop := ∀ (v : Value) (Q : Nat → Prop) (s : LogS) (k : Int) (w : World), PL w v Q s → (Lit.int .i64 k).wf = true → s.stop = false → Calls Tryz.prog 30 #[v, .int .i64 k] w fun ex w' => ex = .returned (.tuple #[]) ∧ PLdone PL w w' v Q (s.fail k)
def LCrashIs (PL : World → Value → (Nat → Prop) → LogS → Prop) : Prop := ∀ (v : Value) (Q : Nat → Prop) (s : LogS) (k : Int) (w : World), PL w v Q s → s.r ≤ 1000 → (Lit.int .i64 k).wf = true → Calls Tryz.prog 33 #[v, .int .i64 k] w fun ex w' => ex = .returned (.tuple #[]) ∧ PLdone PL w w' v Q (s.crash k)
def LLiveIs (PL : World → Value → (Nat → Prop) → LogS → Prop) : Prop :=
  ∀ (v : Value) (Q : Nat → Prop) (s : LogS) (w : World), PL w v Q s →
    Calls Tryz.prog 38 #[v] w fun ex w' => ∃ q, ex = .returned q ∧ w'.ownsRow w.heap.size 3 1 q (lvL (s.G s.r) (s.n s.r)).length (lvC (s.G s.r) (s.n s.r)) ∧ Below w.heap.size w w'
def LTotalIs (PL : World → Value → (Nat → Prop) → LogS → Prop) : Prop := ∀ (v : Value) (Q : Nat → Prop) (s : LogS) (w : World), PL w v Q s → Calls Tryz.prog 36 #[v] w fun ex w' => ex = .returned (.agg #[.int .i64 ((tM (4 * ttN (s.K s.r) (s.G s.r) (s.n s.r))).1 : Int), .int .i64 ((tM (4 * ttN (s.K s.r) (s.G s.r) (s.n s.r))).2.1 : Int), .bool (tM (4 * ttN (s.K s.r) (s.G s.r) (s.n s.r))).2.2]) ∧ Below w.heap.size w w'
def LBytesIs (PL : World → Value → (Nat → Prop) → LogS → Prop) : Prop := ∀ (v : Value) (Q : Nat → Prop) (s : LogS) (w : World), PL w v Q s → Calls Tryz.prog 34 #[v] w fun ex w' => ex = .returned (.int .i64 (s.all : Int)) ∧ Below w.heap.size w w'
def LSafeIs (PL : World → Value → (Nat → Prop) → LogS → Prop) : Prop := ∀ (v : Value) (Q : Nat → Prop) (s : LogS) (w : World), PL w v Q s → Calls Tryz.prog 35 #[v] w fun ex w' => ex = .returned (.int .i64 (s.safe : Int)) ∧ Below w.heap.size w w'
end Go.Proofs.YtpkkclcjiobgoajGreatDoor
