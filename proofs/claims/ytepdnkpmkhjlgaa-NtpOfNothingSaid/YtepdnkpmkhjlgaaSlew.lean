/- The contracts of slew.Clock. -/
import Derived.Test.YtepdnkpmkhjlgaaM9C
import Derived.Test.YtepdnkpmkhjlgaaOnly
set_option linter.unusedSimpArgs false
set_option linter.unusedVariables false
namespace Go.Proofs.Ytepdnkpmkhjlgaa
open Go.RowKit

/-- What is turned of what is left, while so much went by. -/
def turnOf (left gone : Int) : Int := if gone / 2000 ≤ left then gone / 2000 else if left ≤ -(gone / 2000) then -(gone / 2000) else left
/-- The time that is shown then. -/
def shown (time left gone : Int) : Int := addS time (addS gone (turnOf left gone))
theorem slew_new_ok (c t : Int) (w : World) (h1 : 0 ≤ c) (h2 : 0 ≤ t) (h3 : t ≤ 4611686018427387904) : Calls Try.prog 14 #[.int .i64 c, .int .i64 t] w fun e w' => e = .returned (.tuple #[.pointer (some ⟨w.heap.size, 0, none⟩), .int .i64 0]) ∧ w' = w.alloc (.cells #[.int .i64 c, .int .i64 t, .int .i64 0] 83) := by
  go_enter Try.func14, Try.ntmps14
  go_wp2
  go_ret2
  exact ⟨rfl, rfl⟩
theorem slew_read_old (b : Nat) (c t l n : Int) (w : World) (k : Ints3 w b c t l) (h : n ≤ c) : Calls Try.prog 12 #[.pointer (some ⟨b, 0, none⟩), .int .i64 n] w fun e w' => e = .returned (.int .i64 t) ∧ w = w' := by
  obtain ⟨c0, c1, c2, f0, f1, f2, lt⟩ := k
  go_enter Try.func12, Try.ntmps12
  go_wp2
  go_ret
  exact ⟨rfl, rfl⟩
theorem slew_read_nil (n : Int) (w : World) : Calls Try.prog 12 #[.pointer none, .int .i64 n] w fun e w' => e = .returned (.int .i64 0) ∧ w = w' := by
  go_enter Try.func12, Try.ntmps12
  go_wp2
  go_ret
  exact ⟨rfl, rfl⟩
theorem slew_turn_nil (n m : Int) (w : World) : Calls Try.prog 34 #[.pointer none, .int .i64 n, .int .i64 m] w fun e w' => e = .returned (.tuple #[.bool false, .int .i64 1]) ∧ w = w' := by
  go_enter Try.func34, Try.ntmps34
  go_wp2
  go_ret2
  exact ⟨rfl, rfl⟩
end Go.Proofs.Ytepdnkpmkhjlgaa
