/- meridianref2.Length, year, month. -/
import Derived.Test.YtklahiogcpojmaaRef2Year
set_option linter.unusedSimpArgs false
set_option linter.unusedVariables false
namespace Go.Proofs.Ytklahiogcpojmaa
open Go.RowKit

set_option maxHeartbeats 400000 in
theorem ref2_length (y m : Int) (w : World) (h0 : 0 ≤ y) (h1 : y ≤ 100000) :
    Calls Try.prog 50 #[.int .i64 y, .int .i64 m] w fun e w' => e = .returned (.int .i64 (Cal.dim y m)) ∧ w = w' := by
  go_enter Try.func50, Try.ntmps50
  go_wp2
  all_goals
    go_ret
    refine ⟨ret_int ?_, rfl⟩
    unfold Cal.dim Cal.lp
    simp_all
set_option maxHeartbeats 400000 in
theorem ref2_month (y m : Int) (w : World) (h0 : 1 ≤ y) (h1 : y ≤ 100000) (m0 : 1 ≤ m) (m1 : m ≤ 13) :
    Calls Try.prog 42 #[.int .i64 y, .int .i64 m] w fun e w' => e = .returned (.int .i64 (Cal.cum y m)) ∧ w = w' := by
  have c1 := Lib.hid (Cal.cum_1 y)
  go_enter Try.func42, Try.ntmps42
  go_wp2
  go_loop [5, 6] (fun n t => ∃ i : Int, 1 ≤ i ∧ i ≤ m ∧ n = .int .i64 (Cal.cum y i) ∧ t = .int .i64 i) (fun _ t => (m - intOf t).toNat)
  case atStart => exact ⟨1, by omega, by omega, by rw [c1.out], rfl⟩
  case round =>
    obtain ⟨i, i0, i1, rfl, rfl⟩ := hrel
    have cb := Cal.cum_bd y i i0 (by omega)
    by_cases hlt : i < m
    · have db := Cal.dim_bd y i
      have HS := Lib.hid (Cal.cum_succ y i i0 (by omega))
      go_wp2_with (go_at_call 50; refine (ref2_length y i _ (by omega) (by omega)).mono ?_; rintro e w' ⟨rfl, rfl⟩)
      go_round
      case rel => exact ⟨i + 1, by omega, by omega, by rw [HS.out], rfl⟩
      case measure => simp [intOf]; omega
    · obtain rfl : i = m := by omega
      go_wp2
      go_ret
      exact ⟨rfl, rfl⟩
end Go.Proofs.Ytklahiogcpojmaa
