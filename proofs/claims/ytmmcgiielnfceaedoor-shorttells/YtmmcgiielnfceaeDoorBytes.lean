/- What each function of package bytes answers, of right spots and wrong ones, of any bytes; nothing that was there is turned. -/
import Derived.Test.YtmmcgiielnfceaeDoorCurveEq
import Derived.Test.YtmmcgiielnfceaeDoorMathAll
import Derived.Laws.IdiomStrings
import Derived.BigQuiet
namespace Go.Proofs.YtmmcgiielnfceaeDoor
open Go.RowKit Go.Sort
set_option linter.unusedVariables false
set_option linter.unusedSimpArgs false
theorem w64_in {n : Int} (h0 : -9223372036854775808 ≤ n) (h1 : n ≤ 9223372036854775807) : wrap64 n = n := by unfold wrap64; omega
theorem or_pl (d e : UInt8) : bits BinOp.or IntKind.i64 ((d.toNat : Int) * 256) (e.toNat : Int) = (plN d e : Int) := by
  have h1 := d.toNat_lt
  have h2 := e.toNat_lt
  have h3 : d.toNat * 256 ||| e.toNat = plN d e := by
    have := Nat.shiftLeft_add_eq_or_of_lt (i := 8) (b := e.toNat) (by omega) d.toNat
    rw [Nat.shiftLeft_eq] at this
    rw [← this]; rfl
  have h4 : plN d e < 65536 := by unfold plN; omega
  have e1 : (BitVec.ofInt 64 ((d.toNat : Int) * 256)).toNat = d.toNat * 256 := by
    rw [show ((d.toNat : Int) * 256) = ((d.toNat * 256 : Nat) : Int) by omega, BitVec.ofInt_natCast, BitVec.toNat_ofNat]; exact Nat.mod_eq_of_lt (by omega)
  have e2 : (BitVec.ofInt 64 (e.toNat : Int)).toNat = e.toNat := by
    rw [BitVec.ofInt_natCast, BitVec.toNat_ofNat]; exact Nat.mod_eq_of_lt (by omega)
  show IntKind.i64.wrap ((BitVec.ofInt 64 ((d.toNat : Int) * 256) ||| BitVec.ofInt 64 (e.toNat : Int)).toNat : Int) = _
  rw [BitVec.toNat_or, e1, e2, h3, IntKind.wrap_i64]
  omega
end Go.Proofs.YtmmcgiielnfceaeDoor
