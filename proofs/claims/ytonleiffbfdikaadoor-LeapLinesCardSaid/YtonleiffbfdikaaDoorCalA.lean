/- cal.daysAhead, cal.marchDays. -/
import Derived.Test.YtonleiffbfdikaaDoorBase
import Derived.Test.YtonleiffbfdikaaDoorCalPlain
set_option linter.unusedSimpArgs false
set_option linter.unusedVariables false
namespace Go.Proofs.YtonleiffbfdikaaDoor
open Go.RowKit

theorem cal_ahead (k : Int) (w : World) (h0 : 0 ≤ k) (h1 : k ≤ 100000) :
    Calls Tryd.prog 40 #[.int .i64 k] w fun e w' => e = .returned (.int .i64 (Cal.ahead k)) ∧ w = w' := by
  go_enter Tryd.func40, Tryd.ntmps40
  go_wp2
  go_ret
  exact ⟨rfl, rfl⟩
theorem cal_march (k : Int) (w : World) (h0 : 0 ≤ k) (h1 : k ≤ 100000) :
    Calls Tryd.prog 41 #[.int .i64 k] w fun e w' => e = .returned (.int .i64 (Cal.march k)) ∧ w = w' := by
  go_enter Tryd.func41, Tryd.ntmps41
  go_wp2
  go_ret
  exact ⟨rfl, rfl⟩
theorem ahead_bd (k : Int) (h0 : 0 ≤ k) (h1 : k ≤ 10000) : 0 ≤ Cal.ahead k ∧ Cal.ahead k ≤ 3700000 := by unfold Cal.ahead; omega
theorem march_bd (k : Int) (h0 : 0 ≤ k) (h1 : k ≤ 12) : 0 ≤ Cal.march k ∧ Cal.march k ≤ 400 := by unfold Cal.march; omega
end Go.Proofs.YtonleiffbfdikaaDoor
