/- Both clocks, Read and Turn, at any numbers. -/
import Derived.Test.YtepdnkpmkhjlgaaRef8Read
set_option linter.unusedSimpArgs false
set_option linter.unusedVariables false
namespace Go.Proofs.Ytepdnkpmkhjlgaa
open Go.RowKit

def laterV (c n : Int) : Int := if n < 0 ∨ 1125899906842624 < n then c else if c ≤ 1152921504606846976 then c + n else 1152921504606846976 + n
theorem laterV_bd (c n : Int) (h : c ≤ 9223372036854775807) : laterV c n ≤ 9223372036854775807 := by unfold laterV; split <;> (try split) <;> omega
end Go.Proofs.Ytepdnkpmkhjlgaa
