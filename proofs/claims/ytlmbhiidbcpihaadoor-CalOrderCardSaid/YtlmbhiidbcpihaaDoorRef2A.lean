/- meridianref2.Length, year, month. -/
import Derived.Test.YtlmbhiidbcpihaaDoorRef2Year
set_option linter.unusedSimpArgs false
set_option linter.unusedVariables false
namespace Go.Proofs.YtlmbhiidbcpihaaDoor
open Go.RowKit

set_option maxHeartbeats 400000 in
theorem ref2_length (y m : Int) (w : World) (h0 : 0 ≤ y) (h1 : y ≤ 100000) :
    Calls Tryd.prog 22 #[.int .i64 y, .int .i64 m] w fun e w' => e = .returned (.int .i64 (Cal.dim y m)) ∧ w = w' := by
  go_enter Tryd.func22, Tryd.ntmps22
  go_wp2
  all_goals
    go_ret
    refine ⟨ret_int ?_, rfl⟩
    unfold Cal.dim Cal.lp
    simp_all
end Go.Proofs.YtlmbhiidbcpihaaDoor
