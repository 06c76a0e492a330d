/- meridianref2.year. -/
import Derived.Test.YtlmbhiidbcpihaaDoorBase
import Derived.Test.YtlmbhiidbcpihaaDoorCalPlain
set_option linter.unusedSimpArgs false
set_option linter.unusedVariables false
namespace Go.Proofs.YtlmbhiidbcpihaaDoor
open Go.RowKit

theorem yr_1970 : Cal.yr 1970 = 719162 := by decide
theorem yr_10000 : Cal.yr 10000 = 3652059 := by decide
end Go.Proofs.YtlmbhiidbcpihaaDoor
