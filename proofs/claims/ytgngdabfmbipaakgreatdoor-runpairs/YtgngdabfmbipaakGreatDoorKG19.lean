/- Rows that a call makes itself by append: how they stay, what else stays when one grows, and how they are read. Of whatever program. -/
import Derived.Test.YtgngdabfmbipaakGreatDoorKG2
import Derived.Test.YtgngdabfmbipaakGreatDoorKG18
import Derived.Maps.AppendAt
import Derived.OwnWalk
import Derived.OneCell
import Derived.Test.YtgngdabfmbipaakGreatDoorKG1
import Derived.Test.YtgngdabfmbipaakGreatDoorKG3
import Derived.BigQuiet
import Derived.Test.YtgngdabfmbipaakGreatDoorKG4
namespace Go.Proofs.YtgngdabfmbipaakGreatDoor
open Go.RowKit Go.Sort
set_option linter.unusedVariables false
set_option linter.unusedSimpArgs false

section
variable {w w' : World} {B : Nat} {e : TypeId} {size : Nat} {v v' : Value} {n m : Nat} {xs ys : List Value}

theorem own_stay (h : w.ownsRow B e size v n xs) (hb : Below w.heap.size w w') : w'.ownsRow B e size v n xs :=
  h.kept (row := none) ⟨hb.os, hb.tape, hb.output, hb.size, fun k hk _ => hb.block k hk⟩ (by cases hv : v.ownBlock <;> simp)
theorem own_set (h : w.ownsRow B e size v n xs) {c o : Nat} (hne : v.ownBlock ≠ some c) (u : Value) : (w.setCell ⟨c, o, none⟩ u).ownsRow B e size v n xs :=
  ownsRow_setCell_other h (a := ⟨c, o, none⟩) hne u
/-- A block of its own stays when a row of another block grows. -/
theorem At.grown {b : Nat} {vs : List Value} (h : At w b vs) {row : Option Nat} (hg : w.grownBy w' row) (hne : row ≠ some b) : At w' b vs := by
  have hb := hg.block b h.1 (fun e => hne e.symm)
  exact ⟨Nat.lt_of_lt_of_le h.1 hg.size, fun i hi => (World.cell?_of_block (a := ⟨b, i, none⟩) hb).trans (h.2.1 i hi), fun i hi => (World.frozen?_of_block (a := ⟨b, i, none⟩) hb).trans (h.2.2 i hi)⟩
theorem grown_under {a : World} {A : Nat} (hq : Below A a w) (hown : w.ownsRow B e size v n xs) (hg : w.grownBy w' v.ownBlock) (hA : A ≤ w.heap.size) (hB : A ≤ B) : Below A a w' :=
  hq.grown hg hA (fun k hk => Nat.le_trans hB (hown.lt k hk).1)
theorem apart_above {b : Nat} (h : w.ownsRow B e size v n xs) (hb : b < B) : v.ownBlock ≠ some b := by
  intro k; have := (h.lt b k).1; omega
end

/-- Cells of so many ints. -/
def cellsI (X : Nat → Int) (n : Nat) : List Value := (List.range n).map fun i => .int .i64 (X i)
theorem cellsI_succ (X : Nat → Int) (n : Nat) : cellsI X (n + 1) = cellsI X n ++ [.int .i64 (X n)] := by unfold cellsI; rw [List.range_succ, List.map_append]; rfl
theorem cellsI_at (X : Nat → Int) {n i : Nat} (h : i < n) : (cellsI X n)[i]? = some (.int .i64 (X i)) := by unfold cellsI; simp [h]
/-- In block b, from o on, lie so many ints in a row. -/
def RowI (w : World) (b o n : Nat) (X : Nat → Int) : Prop := b < w.heap.size ∧ ∀ i, i < n → w.cell? ⟨b, o + i, none⟩ = some (.int .i64 (X i))
theorem RowI.below {w w' : World} {b o n B : Nat} {X : Nat → Int} (h : RowI w b o n X) (hB : b < B) (k : Below B w w') : RowI w' b o n X :=
  ⟨Nat.lt_of_lt_of_le h.1 k.size, fun i hi => (k.cell (p := ⟨b, o + i, none⟩) hB).trans (h.2 i hi)⟩
/-- Cells of so many structs of two ints. -/
def cellsP (X Y : Nat → Int) (n : Nat) : List Value := (List.range n).flatMap fun i => [.int .i64 (X i), .int .i64 (Y i)]
theorem cellsP_succ (X Y : Nat → Int) (n : Nat) : cellsP X Y (n + 1) = cellsP X Y n ++ [.int .i64 (X n), .int .i64 (Y n)] := by unfold cellsP; rw [List.range_succ, List.flatMap_append]; simp
def RowP (w : World) (b o n : Nat) (X Y : Nat → Int) : Prop := b < w.heap.size ∧ ∀ i, i < n → w.cell? ⟨b, o + i * 2, none⟩ = some (.int .i64 (X i)) ∧ w.cell? ⟨b, o + i * 2 + 1, none⟩ = some (.int .i64 (Y i))
theorem RowP.below {w w' : World} {b o n B : Nat} {X Y : Nat → Int} (h : RowP w b o n X Y) (hB : b < B) (k : Below B w w') : RowP w' b o n X Y :=
  ⟨Nat.lt_of_lt_of_le h.1 k.size, fun i hi => ⟨(k.cell (p := ⟨b, o + i * 2, none⟩) hB).trans (h.2 i hi).1, (k.cell (p := ⟨b, o + i * 2 + 1, none⟩) hB).trans (h.2 i hi).2⟩⟩
/-- Cells of so many spots. -/
def cellsT (X Y : Nat → Int) (F : Nat → Bool) (n : Nat) : List Value := (List.range n).flatMap fun i => [.int .i64 (X i), .int .i64 (Y i), .bool (F i)]
/-- Cells of so many strings. -/
def cellsZ (T : Nat → ByteArray) (n : Nat) : List Value := (List.range n).map fun i => .string (T i)
def RowZ (w : World) (b o n : Nat) (T : Nat → ByteArray) : Prop := b < w.heap.size ∧ ∀ i, i < n → w.cell? ⟨b, o + i, none⟩ = some (.string (T i))
theorem RowZ.below {w w' : World} {b o n B : Nat} {T : Nat → ByteArray} (h : RowZ w b o n T) (hB : b < B) (k : Below B w w') : RowZ w' b o n T :=
  ⟨Nat.lt_of_lt_of_le h.1 k.size, fun i hi => (k.cell (p := ⟨b, o + i, none⟩) hB).trans (h.2 i hi)⟩
theorem flat_at {α : Type} (k : Nat) (f : Nat → List α) (hf : ∀ i, (f i).length = k) : ∀ (n i j : Nat), i < n → j < k → ((List.range n).flatMap f)[i * k + j]? = (f i)[j]?
  | 0, i, j, h, _ => absurd h (Nat.not_lt_zero _)
  | n + 1, i, j, h, hj => by
    have hlen : ((List.range n).flatMap f).length = n * k := by
      clear h hj
      induction n with
      | zero => simp
      | succ n ih => rw [List.range_succ, List.flatMap_append, List.length_append, ih, Nat.succ_mul]; simp [hf]
    rw [List.range_succ, List.flatMap_append]
    rcases Nat.lt_succ_iff_lt_or_eq.1 h with h1 | h1
    · have h2 : i * k + j < n * k := by
        have := Nat.mul_le_mul_right k (Nat.succ_le_of_lt h1)
        rw [Nat.succ_mul] at this
        omega
      rw [List.getElem?_append_left (by rw [hlen]; exact h2)]
      exact flat_at k f hf n i j h1 hj
    · subst h1
      rw [List.getElem?_append_right (by rw [hlen]; omega), hlen]
      simp [show i * k + j - i * k = j by omega]
theorem addr_add (g j : Nat) : (⟨g, 0, none⟩ : Addr).add j = ⟨g, j, none⟩ := by rw [Addr.add_lit, Nat.zero_add]
section
variable {w : World} {B : Nat} {e : TypeId} {v : Value} {n : Nat}
/-- A row of one's own, as a slice that can be read. -/
theorem own_slice {size : Nat} {xs : List Value} (h : w.ownsRow B e size v n xs) : ∃ (sa : Option Addr) (c : Nat), v = .slice sa n c ∧ (n = 0 ∨ ∃ g, sa = some ⟨g, 0, none⟩ ∧ v.ownBlock = some g ∧ B ≤ g ∧ g < w.heap.size) := by
  rcases h.2 with ⟨rfl, rfl⟩ | ⟨g, cap, cur, rfl, hb, hg, _⟩
  · exact ⟨none, 0, rfl, Or.inl rfl⟩
  · exact ⟨_, cap, rfl, Or.inr ⟨g, rfl, rfl, hb, (Array.getElem?_eq_some_iff.1 hg).1⟩⟩
theorem own_room {size q c : Nat} {sa : Option Addr} {xs : List Value} (h : w.ownsRow B e size (.slice sa q c) n xs) : q ≤ c := by
  rcases h.2 with ⟨h1, _⟩ | ⟨g, cap, cur, h1, _, _, h2, _⟩
  · injection h1 with _ h1 h2; omega
  · injection h1 with _ h3 h4; omega
theorem own_pairs {X Y : Nat → Int} (h : w.ownsRow B e 2 v n (cellsP X Y n)) : ∃ (sa : Option Addr) (c : Nat), v = .slice sa n c ∧ (n = 0 ∨ ∃ g, sa = some ⟨g, 0, none⟩ ∧ v.ownBlock = some g ∧ B ≤ g ∧ RowP w g 0 n X Y) := by
  obtain ⟨sa, c, rfl, h1⟩ := own_slice h
  refine ⟨sa, c, rfl, ?_⟩
  rcases h1 with h1 | ⟨g, rfl, h2, h3, h4⟩
  · exact Or.inl h1
  · refine Or.inr ⟨g, rfl, h2, h3, h4, fun i hi => ?_⟩
    have a0 := h.cells h2 (i * 2 + 0) _ (flat_at 2 _ (fun _ => rfl) n i 0 hi (by omega))
    have a1 := h.cells h2 (i * 2 + 1) _ (flat_at 2 _ (fun _ => rfl) n i 1 hi (by omega))
    rw [addr_add] at a0 a1
    exact ⟨by rw [Nat.zero_add]; exact a0, by rw [Nat.zero_add]; exact a1⟩
end
/-- A row and one more. -/
def extN {α : Type} (f : Nat → α) (n : Nat) (a : α) : Nat → α := fun i => bif Nat.beq i n then a else f i
end Go.Proofs.YtgngdabfmbipaakGreatDoor

/- What the plain reckoning of shares (stoneref2: Value, Places, Weights) answers. -/
namespace Go.Proofs.YtgngdabfmbipaakGreatDoor
open Go.RowKit Go.Sort
set_option linter.unusedVariables false
set_option linter.unusedSimpArgs false
theorem row_int {w W : World} {b o n : Nat} {X : Nat → Int} (h : RowI w b o n X) (k : Below w.heap.size w W) {i : Nat} (hi : i < n) : W.cell? ⟨b, o + i, none⟩ = some (.int .i64 (X i)) := (h.below h.1 k).2 i hi
theorem iinfo : (Tryz.prog.info? 3).map (fun i => (i.zero, i.size, i.bytes)) = some (some (.int .i64 0), 1, 8) := by kernel_rfl
/-- It gives so many ints, in a row of its own. -/
def GivesI (w : World) (n : Nat) (X : Nat → Int) (e : Ending) (w' : World) : Prop := ∃ v, e = .returned v ∧ w'.ownsRow w.heap.size 3 1 v n (cellsI X n) ∧ Below w.heap.size w w'
theorem GivesI.mk {w w' : World} {n : Nat} {X : Nat → Int} {v : Value} (h : w'.ownsRow w.heap.size 3 1 v n (cellsI X n)) (hb : Below w.heap.size w w') : GivesI w n X (.returned v) w' := ⟨v, rfl, h, hb⟩
set_option maxRecDepth 100000 in
set_option maxHeartbeats 4000000 in
theorem rvalue_row (b o n c : Nat) (X : Nat → Int) (x : Int) (w : World) (hn : n ≤ 1000000) (hr : RowI w b o n X) (hx : ∀ i, i < n → 0 ≤ X i ∧ X i < 1013) (x0 : 0 ≤ x) (x1 : x < 1013) :
    Calls Tryz.prog 62 #[.slice (some ⟨b, o, none⟩) n c, .int .i64 x] w fun e w' => e = .returned (.int .i64 (vI (vlq (xq X) (zq x) n))) ∧ Below w.heap.size w w' := by
  have HR : Hid (RowI w b o n X) := hr
  have HX : Hid (∀ i, i < n → 0 ≤ X i ∧ X i < 1013) := hx
  have hb := hr.1
  clear hr hx
  go_enter Tryz.func62, Tryz.ntmps62
  go_wp2_with fail
  go_loopw [5, 6, 7] (fun ty tp ti wl => ∃ k : Nat, k ≤ n ∧ ti = .int .i64 k ∧ ty = .int .i64 (vI (vlq (xq X) (zq x) k)) ∧ tp = .int .i64 (vI (pwq (zq x) k)) ∧ Below w.heap.size w wl) (fun _ _ ti _ => n - (intOf ti).toNat)
  case atStart => exact ⟨0, by omega, rfl, rfl, rfl, below_by⟩
  case round =>
    obtain ⟨k, hk, rfl, rfl, rfl, hqV⟩ := hrel
    have hzV := hqV.size
    by_cases hlt : k < n
    · have hlt' : (k : Int) < n := by omega
      have hbV := Nat.lt_of_lt_of_le hb hzV
      have c0 := row_int HR.out hqV hlt
      obtain ⟨d0, d1⟩ := HX.out k hlt
      obtain ⟨y, hy⟩ : ∃ y, vlq (xq X) (zq x) k = y := ⟨_, rfl⟩
      obtain ⟨p, hp⟩ : ∃ p, pwq (zq x) k = p := ⟨_, rfl⟩
      have E1 : Hid ((vI y + X k * vI p) % 1013 = vI (vlq (xq X) (zq x) (k + 1))) := by
        unfold Hid
        show _ = vI (vlq (xq X) (zq x) k + xq X k * pwq (zq x) k)
        rw [vI_addm, zq_vI, hy, hp]; rfl
      have E2 : Hid ((vI p * x) % 1013 = vI (pwq (zq x) (k + 1))) := by
        unfold Hid
        show _ = vI (pwq (zq x) k * zq x)
        rw [vI_mul, hp]
      rw [hy, hp]
      clear hy hp
      have y0 := vI_lo y
      have y1 := vI_hi y
      have p0 := vI_lo p
      have p1 := vI_hi p
      obtain ⟨q0, q1⟩ := vI_bd p d0 d1
      rw [Int.mul_comm] at q0 q1
      obtain ⟨r0, r1⟩ := vI_bd p x0 x1
      go_wp2_with fail
      go_roundw
      case rel => exact ⟨k + 1, by omega, by simp, by rw [← E1.out], by rw [← E2.out], below_by⟩
      case measure => simp [intOf]; omega
    · have hlt' : ¬ (k : Int) < n := by omega
      obtain rfl : k = n := by omega
      go_wp2_with fail
      go_ret
      exact ⟨rfl, below_by⟩
end Go.Proofs.YtgngdabfmbipaakGreatDoor

/- What package share is to answer: Split, Weights, Combine. -/
namespace Go.Proofs.YtgngdabfmbipaakGreatDoor
open Go.RowKit Go.Sort
set_option linter.unusedVariables false
set_option linter.unusedSimpArgs false
/-- So many weights times values, together. -/
def smI (X Y : Nat → Int) (q k : Nat) : Int := vI (sm (fun i => wtq (xq X) q i * zq (Y i)) k)
def SplitIs : Prop :=
  (∀ (sc : Option Addr) (m d : Nat) (z : Int) (w : World), 12 < m → m ≤ 9223372036854775807 → Calls Tryz.prog 43 #[.slice sc m d, .int .i64 z] w fun ex w' => ex = .returned (.tuple #[.slice none 0 0, errOf 4]) ∧ Below w.heap.size w w') ∧
  (∀ (sc : Option Addr) (m d : Nat) (C : Nat → Int) (z : Int) (w : World), ¬ 12 < m → (m = 0 ∨ ∃ b o : Nat, sc = some ⟨b, o, none⟩ ∧ RowI w b o m C) → (∀ i, i < m → (Lit.int .i64 (C i)).wf = true) → (Lit.int .i64 z).wf = true → (m = 0 ∨ z < 1 ∨ 12 < z ∨ ∃ j, j < m ∧ resB (C j) = false) → Calls Tryz.prog 43 #[.slice sc m d, .int .i64 z] w fun ex w' => ex = .returned (.tuple #[.slice none 0 0, errOf 1]) ∧ Below w.heap.size w w') ∧
  (∀ (b o m d : Nat) (C : Nat → Int) (n : Nat) (w : World), 1 ≤ m → m ≤ 12 → RowI w b o m C → (∀ i, i < m → resB (C i) = true) → 1 ≤ n → n ≤ 12 →
    Calls Tryz.prog 43 #[.slice (some ⟨b, o, none⟩) m d, .int .i64 (n : Int)] w fun ex w' => ∃ u, ex = .returned (.tuple #[u, .nilIface]) ∧ w'.ownsRow w.heap.size 112 2 u n (cellsP (fun i => (i : Int) + 1) (fun i => vI (vlq (xq C) (zq ((i : Int) + 1)) m)) n) ∧ Below w.heap.size w w')
theorem first_no (s : Nat → Bool) : ∀ n, ∃ t, t ≤ n ∧ (∀ k, k < t → s k = true) ∧ (t = n ∨ (t < n ∧ s t = false))
  | 0 => ⟨0, Nat.le_refl _, fun k hk => absurd hk (Nat.not_lt_zero _), Or.inl rfl⟩
  | n + 1 => by
    obtain ⟨t, h1, h2, h3⟩ := first_no s n
    rcases h3 with rfl | ⟨h3, h4⟩
    · cases h : s t with
      | false => exact ⟨t, by omega, h2, Or.inr ⟨by omega, h⟩⟩
      | true =>
        refine ⟨t + 1, by omega, fun k hk => ?_, Or.inl rfl⟩
        rcases Nat.lt_succ_iff_lt_or_eq.1 hk with h5 | rfl
        · exact h2 k h5
        · exact h
    · exact ⟨t, by omega, h2, Or.inr ⟨by omega, h4⟩⟩
theorem res_bd {n : Int} (h : resB n = true) : 0 ≤ n ∧ n < 1013 := of_decide_eq_true h
end Go.Proofs.YtgngdabfmbipaakGreatDoor

/- What the small functions of package share answer: which numbers are ones, which places clash, the inverse, one weight, the places of shares. -/
namespace Go.Proofs.YtgngdabfmbipaakGreatDoor
open Go.RowKit Go.Sort
set_option linter.unusedVariables false
set_option linter.unusedSimpArgs false
theorem isnum (n : Int) (w : World) : Calls Tryz.prog 82 #[.int .i64 n] w fun e w' => e = .returned (.bool (resB n)) ∧ w' = w := by
  by_cases h : n ≥ 0
  · by_cases h2 : n < 1013
    · rw [show resB n = true from decide_eq_true ⟨h, h2⟩]
      go_enter Tryz.func82, Tryz.ntmps82
      go_wp2_with fail
      go_ret
      exact ⟨rfl, rfl⟩
    · rw [show resB n = false from decide_eq_false fun k => h2 k.2]
      go_enter Tryz.func82, Tryz.ntmps82
      go_wp2_with fail
      go_ret
      exact ⟨rfl, rfl⟩
  · rw [show resB n = false from decide_eq_false fun k => h k.1]
    go_enter Tryz.func82, Tryz.ntmps82
    go_wp2_with fail
    go_ret
    exact ⟨rfl, rfl⟩
theorem spl_fn (x : Int) (t : Bool) (w : World) (h : resB x = t) : Calls Tryz.prog 81 #[.int .i64 x] w fun e w' => e = .returned (.bool (!t)) ∧ Below w.heap.size w w' := by
  have h1 := isnum x
  rw [h] at h1
  have H : Hid (∀ w, Calls Tryz.prog 82 #[.int .i64 x] w fun e w' => e = .returned (.bool t) ∧ w' = w) := h1
  clear h h1
  go_enter Tryz.func81, Tryz.ntmps81
  go_wp2_with (go_at_call 82; refine (H.out _).mono ?_; rintro e v1 ⟨rfl, hv1⟩; subst v1)
  go_ret
  exact ⟨rfl, below_by⟩
set_option maxRecDepth 100000 in
set_option maxHeartbeats 4000000 in
theorem idxI (b o n d t : Nat) (X : Nat → Int) (r : Int) (w : World) (hn : n ≤ 12) (ht : t ≤ n) (hr : RowI w b o n X) (hok : ∀ i, i < t → resB (X i) = true) (he : (t = n ∧ r = -1) ∨ (t < n ∧ resB (X t) = false ∧ r = t)) :
    Calls Tryz.prog 120 #[.slice (some ⟨b, o, none⟩) n d, .func (.func 81) #[] #[]] w fun e w' => e = .returned (.int .i64 r) ∧ Below w.heap.size w w' := by
  have HR : Hid (RowI w b o n X) := hr
  have HOK : Hid (∀ i, i < t → resB (X i) = true) := hok
  have HE : Hid ((t = n ∧ r = -1) ∨ (t < n ∧ resB (X t) = false ∧ r = t)) := he
  have hb := hr.1
  clear hr hok he
  go_enter Tryz.func120, Tryz.ntmps120
  go_wp2_with fail
  go_loopw [8] (fun ti wl => ∃ k : Nat, k ≤ t ∧ ti = .int .i64 k ∧ Below w.heap.size w wl) (fun ti _ => n - (intOf ti).toNat)
  case atStart => exact ⟨0, by omega, rfl, below_by⟩
  case round =>
    obtain ⟨k, hk, rfl, hqV⟩ := hrel
    have hzV := hqV.size
    by_cases hlt : k < n
    · have hlt' : (k : Int) < n := by omega
      have hbV := Nat.lt_of_lt_of_le hb hzV
      have c0 := row_int HR.out hqV hlt
      by_cases hkt : k < t
      · have HP : Hid (resB (X k) = true) := HOK.out k hkt
        go_wp2_with (go_at_call 81; refine (spl_fn _ _ _ HP.out).mono ?_; rintro e w1 ⟨rfl, hb1⟩)
        go_roundw
        case rel => exact ⟨k + 1, by omega, by simp, below_by⟩
        case measure => simp [intOf]; omega
      · have HKT : Hid (k = t) := by unfold Hid; omega
        have HP : Hid (resB (X k) = false) := by
          unfold Hid
          rcases HE.out with h | h
          · exfalso; have := HKT.out; omega
          · rw [HKT.out]; exact h.2.1
        have HRK : Hid (r = (k : Int)) := by
          unfold Hid
          rcases HE.out with h | h
          · exfalso; have := HKT.out; omega
          · rw [HKT.out]; exact h.2.2
        go_wp2_with (go_at_call 81; refine (spl_fn _ _ _ HP.out).mono ?_; rintro e w1 ⟨rfl, hb1⟩)
        go_ret
        exact ⟨ret_int HRK.out.symm, below_by⟩
    · have hlt' : ¬ (k : Int) < n := by omega
      have HRK : Hid (r = -1) := by
        unfold Hid
        rcases HE.out with h | h
        · exact h.2
        · omega
      go_wp2_with fail
      go_ret
      exact ⟨ret_int HRK.out.symm, below_by⟩
set_option maxRecDepth 100000 in
set_option maxHeartbeats 4000000 in
theorem idxI_no (b o n d : Nat) (X : Nat → Int) (w : World) (hn : n ≤ 12) (hr : RowI w b o n X) (hok : ∀ i, i < n → resB (X i) = true) : Calls Tryz.prog 83 #[.slice (some ⟨b, o, none⟩) n d, .func (.func 81) #[] #[]] w fun e w' => e = .returned (.bool false) ∧ Below w.heap.size w w' := by
  have H : Hid (Calls Tryz.prog 120 #[.slice (some ⟨b, o, none⟩) n d, .func (.func 81) #[] #[]] w fun e w' => e = .returned (.int .i64 (-1)) ∧ Below w.heap.size w w') := idxI b o n d n X (-1) w hn (Nat.le_refl _) hr hok (Or.inl ⟨rfl, rfl⟩)
  clear hr hok
  go_enter Tryz.func83, Tryz.ntmps83
  go_wp2_with (go_at_call 120; refine (H.out).mono ?_; rintro e w1 ⟨rfl, hb1⟩)
  go_ret
  exact ⟨rfl, below_by⟩
set_option maxRecDepth 100000 in
set_option maxHeartbeats 4000000 in
theorem idxI_yes (b o n d : Nat) (X : Nat → Int) (w : World) (hn : n ≤ 12) (hr : RowI w b o n X) (hno : ∃ j, j < n ∧ resB (X j) = false) : Calls Tryz.prog 83 #[.slice (some ⟨b, o, none⟩) n d, .func (.func 81) #[] #[]] w fun e w' => e = .returned (.bool true) ∧ Below w.heap.size w w' := by
  obtain ⟨t, t1, t2, t3⟩ := first_no (fun i => resB (X i)) n
  rcases t3 with rfl | ⟨t3, t4⟩
  · obtain ⟨j, j1, j2⟩ := hno
    rw [t2 j j1] at j2
    cases j2
  have H : Hid (Calls Tryz.prog 120 #[.slice (some ⟨b, o, none⟩) n d, .func (.func 81) #[] #[]] w fun e w' => e = .returned (.int .i64 (t : Int)) ∧ Below w.heap.size w w') := idxI b o n d t X (t : Int) w hn t1 hr t2 (Or.inr ⟨t3, t4, rfl⟩)
  have h0 : (t : Int) ≥ 0 := by omega
  clear hr hno t1 t2 t3 t4
  go_enter Tryz.func83, Tryz.ntmps83
  go_wp2_with (go_at_call 120; refine (H.out).mono ?_; rintro e w1 ⟨rfl, hb1⟩)
  go_ret
  exact ⟨rfl, below_by⟩
theorem two_at {w : World} {s : Nat} (x y : Value) (t : TypeId) (h : w.heap.size = s) : ∀ j u, [x, y][j]? = some u → (w.alloc (.cells #[x, y] t)).cell? ((⟨s, 0, none⟩ : Addr).add j) = some u := by
  subst h
  intro j u hj
  rw [addr_add]
  match j, hj with
  | 0, hj => simp at hj; subst hj; simp
  | 1, hj => simp at hj; subst hj; simp
end Go.Proofs.YtgngdabfmbipaakGreatDoor
