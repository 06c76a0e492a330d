/- scale.daysOf of a moment that is not far. -/
import Derived.Test.YtepdnkpmkhjlgaaGreatUtcMath
import Derived.Test.YtepdnkpmkhjlgaaGreatM9C
import Derived.Test.YtepdnkpmkhjlgaaGreatM9C
set_option linter.unusedSimpArgs false
set_option linter.unusedVariables false
namespace Go.Proofs.YtepdnkpmkhjlgaaGreat
open Go.RowKit

theorem tdiv_day (a : Int) : (Int.tmod a 86400000000000 < 0 → Int.tdiv a 86400000000000 = a / 86400000000000 + 1) ∧ (¬ Int.tmod a 86400000000000 < 0 → Int.tdiv a 86400000000000 = a / 86400000000000) := by
  rcases Int.le_total 0 a with h | h
  · rw [Int.tdiv_eq_ediv_of_nonneg h, Int.tmod_eq_emod_of_nonneg h]
    omega
  · obtain ⟨b, hb⟩ : ∃ b, a = -b := ⟨-a, by omega⟩
    subst hb
    rw [Int.neg_tdiv, Int.neg_tmod, Int.tdiv_eq_ediv_of_nonneg (by omega), Int.tmod_eq_emod_of_nonneg (by omega)]
    omega
set_option maxHeartbeats 1000000 in
theorem scale_days (A : Option Addr) (n c : Nat) (x a D : Int) (w : World) (hD : a / 86400000000000 = D) (h0 : -4611686018427387905 ≤ a) (h1 : a ≤ 9223372036854775806) :
    Calls Tryz.prog 83 #[.agg #[.slice A n c, .int .i64 x], .int .i64 a] w fun e w' => e = .returned (.slice (some ⟨w.heap.size + 1, 0, none⟩) 2 2) ∧ w' = (w.alloc (.cells #[.slice A n c, .int .i64 x] 24)).alloc (.cells #[.int .i64 D, .int .i64 (D - 1)] 3) := by
  have hd := tdiv_day a
  rw [hD] at hd
  have e1 : IntKind.i64.wrap D = D := IntWalk.i64_in _ (by omega)
  have e2 : IntKind.i64.wrap (D - 1) = D - 1 := IntWalk.i64_in _ (by omega)
  have e3 : IntKind.i64.wrap (D + 1 - 1) = D := by rw [show D + 1 - 1 = D from by omega]; exact e1
  have e4 : IntKind.i64.wrap (D + 1) = D + 1 := IntWalk.i64_in _ (by omega)
  have t1 : decide (-106751 < D) = true := by simp; omega
  by_cases hr : Int.tmod a 86400000000000 < 0
  · have q := hd.1 hr
    have t2 : decide (Int.tmod a 86400000000000 < 0) = true := by simpa using hr
    clear hd hD
    go_enter Tryz.func83, Tryz.ntmps83
    go_wp2
    go_ret
    exact ⟨rfl, rfl⟩
  · have q := hd.2 hr
    have t2 : decide (Int.tmod a 86400000000000 < 0) = false := by simpa using hr
    clear hd hD
    go_enter Tryz.func83, Tryz.ntmps83
    go_wp2
    go_ret
    exact ⟨rfl, rfl⟩
end Go.Proofs.YtepdnkpmkhjlgaaGreat
