/- Sums of so many numbers. Apart from the program. -/
namespace Go.Proofs.Ytmijjjdedadklag
/-- So many together. -/
def jsN (K : Nat → Nat) : Nat → Nat
  | 0 => 0
  | k + 1 => jsN K k + K k
theorem jsN_congr {K J : Nat → Nat} : ∀ {n : Nat}, (∀ i, i < n → K i = J i) → jsN K n = jsN J n
  | 0, _ => rfl
  | n + 1, h => by show jsN K n + K n = jsN J n + J n; rw [jsN_congr (fun i hi => h i (by omega)), h n (by omega)]
theorem jsN_four (K : Nat → Nat) : ∀ n, jsN (fun i => 4 * K i) n = 4 * jsN K n
  | 0 => rfl
  | n + 1 => by show jsN (fun i => 4 * K i) n + 4 * K n = 4 * (jsN K n + K n); rw [jsN_four K n, Nat.mul_add]
end Go.Proofs.Ytmijjjdedadklag
