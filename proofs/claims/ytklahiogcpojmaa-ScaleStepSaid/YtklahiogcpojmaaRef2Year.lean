/- meridianref2.year. -/
import Derived.Test.YtklahiogcpojmaaBase
import Derived.Test.YtklahiogcpojmaaCalPlain
set_option linter.unusedSimpArgs false
set_option linter.unusedVariables false
namespace Go.Proofs.Ytklahiogcpojmaa
open Go.RowKit

theorem ref2_year (y : Int) (w : World) (h0 : 1 ≤ y) (h1 : y ≤ 100000) :
    Calls Try.prog 41 #[.int .i64 y] w fun e w' => e = .returned (.int .i64 (Cal.yr y)) ∧ w = w' := by
  go_enter Try.func41, Try.ntmps41
  go_wp2
  go_ret
  exact ⟨rfl, rfl⟩
theorem yr_1970 : Cal.yr 1970 = 719162 := by decide
theorem yr_10000 : Cal.yr 10000 = 3652059 := by decide
end Go.Proofs.Ytklahiogcpojmaa
