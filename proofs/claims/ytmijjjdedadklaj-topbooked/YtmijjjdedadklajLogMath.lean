/- Logs of deals, apart from the program and its memory: what a deal does to a book, in one word; what is kept, and what a crash leaves. -/
import Derived.Test.YtmijjjdedadklajBookClose
import Derived.Test.YtmijjjdedadklajComeIs
import Derived.Test.YtmijjjdedadklajRefSec
namespace Go.Proofs.Ytmijjjdedadklaj
set_option linter.unusedVariables false
set_option linter.unusedSimpArgs false

/-- A deal's rows, as numbers, and its seal. -/
structure DealN where
  m : Nat
  Z : Nat → Int
  c : Nat
  X : Nat → Int
  Y : Nat → Int
  F : Nat → Bool
  rx : Int
  ry : Int
  rf : Bool
  s : Int
/-- What a deal does to a book: the fault e (0: none), and the book behind it. -/
def DealIs (n : Nat) (K : Nat → Nat) (G : Nat → Bool) (D : DealN) (e : Int) (n' : Nat) (K' : Nat → Nat) (G' : Nat → Bool) : Prop :=
  (∃ q, ComeIs D.X D.Y D.F D.c q ∧ (exE n G D.Z D.m q == 0) = false ∧ e = exE n G D.Z D.m q ∧ n' = n ∧ K' = K ∧ G' = G) ∨
  (∃ J, (∀ i, i < D.m → goE n G D.Z i = 0) ∧ D.c ≤ 12 ∧ isC D.X D.Y D.F J D.c ∧
    ((1000 < n + D.c ∧ e = 4 ∧ n' = n ∧ K' = K ∧ G' = G) ∨
     (n + D.c ≤ 1000 ∧ resB D.s = false ∧ e = 1 ∧ n' = n ∧ K' = K ∧ G' = G) ∨
     (n + D.c ≤ 1000 ∧ resB D.s = true ∧ (ckI D.rx D.ry D.rf == 0) = false ∧ e = ckI D.rx D.ry D.rf ∧ n' = n ∧ K' = K ∧ G' = G) ∨
     (∃ a s : Nat, n + D.c ≤ 1000 ∧ s < 1013 ∧ D.s = (s : Int) ∧ D.rx = ((tM a).1 : Int) ∧ D.ry = ((tM a).2.1 : Int) ∧ D.rf = (tM a).2.2 ∧
       ((closeB a (exN K D.Z D.m J D.c) s = false ∧ e = 8 ∧ n' = n ∧ K' = K ∧ G' = G) ∨
        (closeB a (exN K D.Z D.m J D.c) s = true ∧ e = 0 ∧ n' = n + D.c ∧ K' = appN K n J D.c ∧ G' = appN (mkG G D.Z D.m) n (fun _ => false) D.c)))))
/-- There always is a way. -/
theorem deal_way (n : Nat) (K : Nat → Nat) (G : Nat → Bool) (D : DealN) : ∃ e n' K' G', DealIs n K G D e n' K' G' := by
  obtain ⟨q, hq⟩ := come_is D.X D.Y D.F D.c
  cases hx : exE n G D.Z D.m q == 0 with
  | false => exact ⟨_, n, K, G, Or.inl ⟨q, hq, hx, rfl, rfl, rfl, rfl⟩⟩
  | true =>
    obtain ⟨hok, rfl⟩ := exE_zero (show exE n G D.Z D.m q = 0 by simpa using hx)
    obtain ⟨hc, J, hJ⟩ := hq.ok
    by_cases hf : 1000 < n + D.c
    · exact ⟨_, n, K, G, Or.inr ⟨J, hok, hc, hJ, Or.inl ⟨hf, rfl, rfl, rfl, rfl⟩⟩⟩
    have hf' : n + D.c ≤ 1000 := by omega
    cases hS : resB D.s with
    | false => exact ⟨_, n, K, G, Or.inr ⟨J, hok, hc, hJ, Or.inr (Or.inl ⟨hf', hS, rfl, rfl, rfl, rfl⟩)⟩⟩
    | true =>
    cases hR : ckI D.rx D.ry D.rf == 0 with
    | false => exact ⟨_, n, K, G, Or.inr ⟨J, hok, hc, hJ, Or.inr (Or.inr (Or.inl ⟨hf', hS, hR, rfl, rfl, rfl, rfl⟩))⟩⟩
    | true =>
    obtain ⟨a, _, r1, r2, r3⟩ := ckI_tN (show ckI D.rx D.ry D.rf = 0 by simpa using hR)
    obtain ⟨s1, s2⟩ := of_decide_eq_true (show decide (0 ≤ D.s ∧ D.s < 1013) = true from hS)
    obtain ⟨s, hs⟩ : ∃ s : Nat, D.s = (s : Int) := ⟨D.s.toNat, by omega⟩
    have hs3 : s < 1013 := by omega
    cases hw : closeB a (exN K D.Z D.m J D.c) s with
    | false => exact ⟨_, n, K, G, Or.inr ⟨J, hok, hc, hJ, Or.inr (Or.inr (Or.inr ⟨a, s, hf', hs3, hs, r1, r2, r3, Or.inl ⟨hw, rfl, rfl, rfl, rfl⟩⟩))⟩⟩
    | true => exact ⟨_, _, _, _, Or.inr ⟨J, hok, hc, hJ, Or.inr (Or.inr (Or.inr ⟨a, s, hf', hs3, hs, r1, r2, r3, Or.inr ⟨hw, rfl, rfl, rfl, rfl⟩⟩))⟩⟩
theorem DealIs.le {n : Nat} {K : Nat → Nat} {G : Nat → Bool} {D : DealN} {e : Int} {n' : Nat} {K' : Nat → Nat} {G' : Nat → Bool} (h : DealIs n K G D e n' K' G') (hn : n ≤ 1000) : n' ≤ 1000 := by
  rcases h with ⟨_, _, _, _, rfl, _⟩ | ⟨J, _, _, _, ⟨_, _, rfl, _⟩ | ⟨_, _, _, rfl, _⟩ | ⟨_, _, _, _, rfl, _⟩ | ⟨a, s, h1, _, _, _, _, _, ⟨_, _, rfl, _⟩ | ⟨_, _, rfl, _⟩⟩⟩ <;> omega

/-- A log: how many records there are; behind so many of them: the book, and how many bytes; all bytes, those that are safe; has it stopped; in how many steps it will (none: never). -/
structure LogS where
  r : Nat
  n : Nat → Nat
  K : Nat → Nat → Nat
  G : Nat → Nat → Bool
  M : Nat → Nat
  all : Nat
  safe : Nat
  stop : Bool
  left : Option Nat
/-- What holds of each. -/
structure LogOk (s : LogS) : Prop where
  m0 : s.M 0 = 0
  m1 : ∀ i, i < s.r → s.M i + 2 ≤ s.M (i + 1)
  m2 : s.M s.r ≤ s.all
  m3 : s.safe ≤ s.all
  m4 : s.all ≤ (s.r + 1) * 1099511627776
  m5 : ∀ i, i ≤ s.r → s.n i ≤ 1000
/-- A new one. -/
def LogS.new (n : Nat) (K : Nat → Nat) : LogS := ⟨0, fun _ => n, fun _ => K, fun _ _ => false, fun _ => 0, 0, 0, false, none⟩
/-- One step less. -/
def lessO : Option Nat → Option Nat
  | none => none
  | some k => some (k - 1)
/-- A record more: the book behind it, all bytes behind it. -/
def LogS.add (s : LogS) (a n : Nat) (K : Nat → Nat) (G : Nat → Bool) : LogS :=
  ⟨s.r + 1, extN s.n (s.r + 1) n, extN s.K (s.r + 1) K, extN s.G (s.r + 1) G, extN s.M (s.r + 1) a, a, s.safe, false, lessO s.left⟩
/-- It stops. -/
def LogS.halt (s : LogS) (a : Nat) : LogS := { s with all := a, stop := true }
/-- All is safe. -/
def LogS.sync (s : LogS) : LogS := { s with safe := s.all, left := lessO s.left }
/-- It is to stop in so many steps. -/
def LogS.fail (s : LogS) (k : Int) : LogS := { s with left := bif decide (k < 0) then none else some k.toNat }
/-- So many bytes are left behind a crash. -/
def LogS.high (s : LogS) (k : Int) : Nat := s.safe + min k.toNat (s.all - s.safe)
/-- The last mark that is not above. -/
def lastM (M : Nat → Nat) (h : Nat) : Nat → Nat
  | 0 => 0
  | r + 1 => bif decide (M (r + 1) ≤ h) then r + 1 else lastM M h r
theorem lastM_le (M : Nat → Nat) (h : Nat) : ∀ r, lastM M h r ≤ r
  | 0 => Nat.le_refl _
  | r + 1 => by
    have := lastM_le M h r
    unfold lastM
    cases hd : decide (M (r + 1) ≤ h)
    · simp only [cond_false]; omega
    · simp only [cond_true]; omega
theorem lastM_yes {M : Nat → Nat} {h r : Nat} (k : M (r + 1) ≤ h) : lastM M h (r + 1) = r + 1 := by unfold lastM; rw [decide_eq_true k]; rfl
theorem lastM_no {M : Nat → Nat} {h r : Nat} (k : ¬ M (r + 1) ≤ h) : lastM M h (r + 1) = lastM M h r := by
  show (bif decide (M (r + 1) ≤ h) then r + 1 else lastM M h r) = _
  rw [decide_eq_false k]; rfl
/-- It crashes. -/
def LogS.crash (s : LogS) (k : Int) : LogS :=
  { s with r := lastM s.M (s.high k) s.r, all := s.M (lastM s.M (s.high k) s.r), safe := s.M (lastM s.M (s.high k) s.r), stop := false, left := none }
/-- What is closed as it should be. -/
theorem lclose_yes (k x p : Nat) (hx : x % 1013 = (h2N * p) % 1013) : closeB (4 * clR k) x (clS p k (4 * x)) = true := by
  rw [close_iff]
  have hb := baN_lt (4 * clR k) (4 * x)
  obtain ⟨b, hbe⟩ : ∃ b, baN (4 * clR k) (4 * x) = b := ⟨_, rfl⟩
  have hS : clS p k (4 * x) = (k + b * p) % 1013 := by unfold clS; rw [hbe]
  rw [hS, hbe, clR_is, clR_is]
  rw [hbe] at hb
  have h0 := h2_ne
  obtain ⟨h, hh⟩ : ∃ h, h2N = h := ⟨_, rfl⟩
  rw [hh] at hx h0 ⊢
  clear hS hbe hh
  have e := (close_own h p k x 0 b h0 hb).2 (Or.inl hx)
  rw [Nat.mul_assoc 4 x b, ← Nat.mul_add]
  exact t4_congr e
theorem lcome_none (X Y : Nat → Int) (F : Nat → Bool) : ComeIs X Y F 0 0 := Or.inr (Or.inr ⟨by omega, ⟨fun _ => 0, fun i hi => absurd hi (Nat.not_lt_zero _)⟩, rfl⟩)
/-- A deal of nothing, closed by nothing (T: once the second base, z: its number); by which m coins go. -/
def nilD (T : Sn) (z m : Nat) : DealN := ⟨m, fun _ => 0, 0, fun _ => 0, fun _ => 0, fun _ => false, (T.1 : Int), (T.2.1 : Int), T.2.2, (z : Int)⟩
theorem nilD_is (T : Sn) (z : Nat) (hT : T = tM (4 * clR 1)) (hz : z = clS 0 1 0) (n : Nat) (K : Nat → Nat) (G : Nat → Bool) (hn : n ≤ 1000) : DealIs n K G (nilD T z 0) 0 n K G := by
  refine Or.inr ⟨fun _ => 0, fun i hi => absurd hi (Nat.not_lt_zero _), Nat.zero_le _, fun i hi => absurd hi (Nat.not_lt_zero _), Or.inr (Or.inr (Or.inr ⟨4 * clR 1, z, hn, by rw [hz]; exact clS_lt _ _ _, rfl, by rw [← hT]; rfl, by rw [← hT]; rfl, by rw [← hT]; rfl, Or.inr ⟨?_, rfl, rfl, rfl, rfl⟩⟩))⟩
  have h := lclose_yes 1 0 0 (by rw [Nat.mul_zero])
  rw [Nat.mul_zero 4] at h
  rw [hz]
  exact h
/-- One by which a coin goes that is not there. -/
theorem oneD_is (T : Sn) (z : Nat) (K : Nat → Nat) (G : Nat → Bool) : DealIs 0 K G (nilD T z 1) 1 0 K G := Or.inl ⟨0, lcome_none _ _ _, rfl, rfl, rfl, rfl, rfl⟩
theorem ok_small {a : Sn} (h : okS a = true) : a.1 < 4051 ∧ a.2.1 < 4051 := by
  unfold okS at h
  cases hf : a.2.2 with
  | true =>
    rw [hf, cond_true, Bool.and_eq_true] at h
    have h1 := Nat.eq_of_beq_eq_true h.1
    have h2 := Nat.eq_of_beq_eq_true h.2
    omega
  | false =>
    rw [hf, cond_false, Bool.and_eq_true, Bool.and_eq_true] at h
    exact ⟨Nat.le_of_ble_eq_true h.1.1, Nat.le_of_ble_eq_true h.1.2⟩
end Go.Proofs.Ytmijjjdedadklaj
