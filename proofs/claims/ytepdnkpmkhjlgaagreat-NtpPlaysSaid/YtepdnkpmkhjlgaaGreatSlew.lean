/- The contracts of slew.Clock. -/
import Derived.Test.YtepdnkpmkhjlgaaGreatM9C
import Derived.Test.YtepdnkpmkhjlgaaGreatOnly
set_option linter.unusedSimpArgs false
set_option linter.unusedVariables false
namespace Go.Proofs.YtepdnkpmkhjlgaaGreat
open Go.RowKit

/-- What is turned of what is left, while so much went by. -/
def turnOf (left gone : Int) : Int := if gone / 2000 ≤ left then gone / 2000 else if left ≤ -(gone / 2000) then -(gone / 2000) else left
/-- The time that is shown then. -/
def shown (time left gone : Int) : Int := addS time (addS gone (turnOf left gone))
theorem slew_new_ok (c t : Int) (w : World) (h1 : 0 ≤ c) (h2 : 0 ≤ t) (h3 : t ≤ 4611686018427387904) : Calls Tryz.prog 54 #[.int .i64 c, .int .i64 t] w fun e w' => e = .returned (.tuple #[.pointer (some ⟨w.heap.size, 0, none⟩), .int .i64 0]) ∧ w' = w.alloc (.cells #[.int .i64 c, .int .i64 t, .int .i64 0] 118) := by
  go_enter Tryz.func54, Tryz.ntmps54
  go_wp2
  go_ret2
  exact ⟨rfl, rfl⟩
theorem slew_left (b : Nat) (c t l : Int) (w : World) (k : Ints3 w b c t l) : Calls Tryz.prog 35 #[.pointer (some ⟨b, 0, none⟩)] w fun e w' => e = .returned (.int .i64 l) ∧ w = w' := by
  obtain ⟨c0, c1, c2, f0, f1, f2, lt⟩ := k
  go_enter Tryz.func35, Tryz.ntmps35
  go_wp2
  go_ret
  exact ⟨rfl, rfl⟩
theorem slew_read_old (b : Nat) (c t l n : Int) (w : World) (k : Ints3 w b c t l) (h : n ≤ c) : Calls Tryz.prog 21 #[.pointer (some ⟨b, 0, none⟩), .int .i64 n] w fun e w' => e = .returned (.int .i64 t) ∧ w = w' := by
  obtain ⟨c0, c1, c2, f0, f1, f2, lt⟩ := k
  go_enter Tryz.func21, Tryz.ntmps21
  go_wp2
  go_ret
  exact ⟨rfl, rfl⟩
theorem slew_left_nil (w : World) : Calls Tryz.prog 35 #[.pointer none] w fun e w' => e = .returned (.int .i64 0) ∧ w = w' := by
  go_enter Tryz.func35, Tryz.ntmps35
  go_wp2
  go_ret
  exact ⟨rfl, rfl⟩
theorem slew_read_nil (n : Int) (w : World) : Calls Tryz.prog 21 #[.pointer none, .int .i64 n] w fun e w' => e = .returned (.int .i64 0) ∧ w = w' := by
  go_enter Tryz.func21, Tryz.ntmps21
  go_wp2
  go_ret
  exact ⟨rfl, rfl⟩
theorem slew_turn_nil (n m : Int) (w : World) : Calls Tryz.prog 71 #[.pointer none, .int .i64 n, .int .i64 m] w fun e w' => e = .returned (.tuple #[.bool false, .int .i64 1]) ∧ w = w' := by
  go_enter Tryz.func71, Tryz.ntmps71
  go_wp2
  go_ret2
  exact ⟨rfl, rfl⟩
end Go.Proofs.YtepdnkpmkhjlgaaGreat
