/- Texts as long numbers: what the rule gives. Apart from the program. -/
namespace Go.Proofs.Ytmijjjdedadklag
set_option linter.unusedSimpArgs false
set_option linter.unusedVariables false

/-- The long number of a text and a byte, of that of the text. -/
def bhN (n b : Nat) : Nat := (n * 263 + b + 1) % 1000003
theorem bhN_lt (n b : Nat) : bhN n b < 1000003 := Nat.mod_lt _ (by omega)
/-- Byte k of a text. -/
def byN (t : ByteArray) (k : Nat) : Nat := if h : k < t.size then t[k].toNat else 0
theorem byN_at {t : ByteArray} {k : Nat} (h : k < t.size) : byN t k = t[k].toNat := by unfold byN; rw [dif_pos h]
theorem byN_lt (t : ByteArray) (k : Nat) : byN t k < 256 := by
  unfold byN; split
  · exact UInt8.toNat_lt _
  · omega
/-- The long number of the first k bytes of a text. -/
def lgN (t : ByteArray) : Nat → Nat
  | 0 => 5
  | k + 1 => bhN (lgN t k) (byN t k)
theorem lgN_lt (t : ByteArray) (k : Nat) : lgN t k < 1000003 := by
  cases k with
  | zero => show 5 < _; omega
  | succ k => exact bhN_lt _ _
/-- The long number of a text. -/
def longN (t : ByteArray) : Nat := lgN t t.size
theorem longN_lt (t : ByteArray) : longN t < 1000003 := lgN_lt _ _
theorem byN_ahead {t u : ByteArray} {k : Nat} (h : k < t.size) : byN (t ++ u) k = byN t k := by
  have h1 : k < (t ++ u).size := by rw [ByteArray.size_append]; omega
  rw [byN_at h1, byN_at h]
  congr 1
  exact ByteArray.getElem_append_left h
theorem byN_behind (t : ByteArray) (c : UInt8) : byN (t ++ ⟨#[c]⟩) t.size = c.toNat := by
  have h1 : t.size < (t ++ (⟨#[c]⟩ : ByteArray)).size := by rw [ByteArray.size_append]; show _ < _ + 1; omega
  rw [byN_at h1]
  congr 1
  rw [ByteArray.getElem_append_right (Nat.le_refl _)]
  simp
  rfl
theorem lgN_ahead (t u : ByteArray) : ∀ k, k ≤ t.size → lgN (t ++ u) k = lgN t k
  | 0, _ => rfl
  | k + 1, h => by
    show bhN (lgN (t ++ u) k) (byN (t ++ u) k) = bhN (lgN t k) (byN t k)
    rw [lgN_ahead t u k (by omega), byN_ahead (by omega)]
/-- One byte more. -/
theorem long_more (t : ByteArray) (c : UInt8) : longN (t ++ ⟨#[c]⟩) = bhN (longN t) c.toNat := by
  have e : (t ++ (⟨#[c]⟩ : ByteArray)).size = t.size + 1 := by rw [ByteArray.size_append]; rfl
  unfold longN
  rw [e]
  show bhN (lgN _ t.size) (byN _ t.size) = _
  rw [lgN_ahead _ _ _ (Nat.le_refl _), byN_behind]
end Go.Proofs.Ytmijjjdedadklag
