/- The lower bits of a number. -/
import Derived.Test.YtepdnkpmkhjlgaaGreatBase
set_option linter.unusedSimpArgs false
set_option linter.unusedVariables false
namespace Go.Proofs.YtepdnkpmkhjlgaaGreat
open Go.RowKit

theorem bits_and_le (x : Int) (k : Nat) (hk : k < 9223372036854775808) : 0 ≤ bits .and .i64 x (k : Int) ∧ bits .and .i64 x (k : Int) ≤ k := by
  have h : bits .and .i64 x (k : Int) = IntKind.i64.wrap ((BitVec.ofInt 64 x &&& BitVec.ofInt 64 (k : Int)).toNat : Int) := rfl
  have e0 : (BitVec.ofInt 64 (k : Int)).toNat = k := by
    rw [BitVec.ofInt_natCast, BitVec.toNat_ofNat]
    exact Nat.mod_eq_of_lt (by omega)
  have e : (BitVec.ofInt 64 x &&& BitVec.ofInt 64 (k : Int)).toNat ≤ k := by
    rw [BitVec.toNat_and]
    exact Nat.le_trans Nat.and_le_right (by omega)
  rw [h, IntWalk.i64_in _ (by omega)]
  omega
/-- The lower forty bits. -/
def low40 (x : Int) : Int := bits .and .i64 x 1099511627775
theorem low40_bd (x : Int) : 0 ≤ low40 x ∧ low40 x ≤ 1099511627775 := bits_and_le x 1099511627775 (by omega)
end Go.Proofs.YtepdnkpmkhjlgaaGreat
