/- cal.daysAhead, cal.marchDays. -/
import Derived.Test.YtklahiogcpojmaaBase
import Derived.Test.YtklahiogcpojmaaCalPlain
set_option linter.unusedSimpArgs false
set_option linter.unusedVariables false
namespace Go.Proofs.Ytklahiogcpojmaa
open Go.RowKit

theorem cal_ahead (k : Int) (w : World) (h0 : 0 ≤ k) (h1 : k ≤ 100000) :
    Calls Try.prog 43 #[.int .i64 k] w fun e w' => e = .returned (.int .i64 (Cal.ahead k)) ∧ w = w' := by
  go_enter Try.func43, Try.ntmps43
  go_wp2
  go_ret
  exact ⟨rfl, rfl⟩
theorem cal_march (k : Int) (w : World) (h0 : 0 ≤ k) (h1 : k ≤ 100000) :
    Calls Try.prog 44 #[.int .i64 k] w fun e w' => e = .returned (.int .i64 (Cal.march k)) ∧ w = w' := by
  go_enter Try.func44, Try.ntmps44
  go_wp2
  go_ret
  exact ⟨rfl, rfl⟩
theorem ahead_bd (k : Int) (h0 : 0 ≤ k) (h1 : k ≤ 10000) : 0 ≤ Cal.ahead k ∧ Cal.ahead k ≤ 3700000 := by unfold Cal.ahead; omega
theorem march_bd (k : Int) (h0 : 0 ≤ k) (h1 : k ≤ 12) : 0 ≤ Cal.march k ∧ Cal.march k ≤ 400 := by unfold Cal.march; omega
end Go.Proofs.Ytklahiogcpojmaa
