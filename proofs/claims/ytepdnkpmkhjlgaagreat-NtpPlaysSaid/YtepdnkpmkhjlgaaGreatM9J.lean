/- Stage 8: SlewParts. -/
import Derived.Test.YtepdnkpmkhjlgaaGreatSlewTurn
import Derived.Test.YtepdnkpmkhjlgaaGreatArgInts
import Derived.Test.YtepdnkpmkhjlgaaGreatLow40
/- Stage 8: SlewPlain. -/
set_option linter.unusedSimpArgs false
set_option linter.unusedVariables false
namespace Go.Proofs.YtepdnkpmkhjlgaaGreat
open Go.ChangeShapes Go.WideShapes Go.ChangeAt Go.RowKit Go.Joins

theorem turn0 (g : Int) (h : 0 ≤ g) : turnOf 0 g = 0 := by unfold turnOf; split <;> (try split) <;> omega
/-- Nothing is left: the clock goes on as its count does. -/
theorem slew_read_plain (b : Nat) (c t n : Int) (w : World) (k : Ints3 w b c t 0) (h : c ≤ n) (h0 : 0 ≤ c) (h1 : n ≤ 1000000000000000) (tb : 0 ≤ t ∧ t ≤ 4000000000000000000) :
    Calls Tryz.prog 21 #[.pointer (some ⟨b, 0, none⟩), .int .i64 n] w fun e w' => e = .returned (.int .i64 (t + (n - c))) ∧ Only b w w' ∧ Ints3 w' b n (t + (n - c)) 0 := by
  by_cases hc : n = c
  · subst hc
    rw [Int.sub_self, Int.add_zero]
    exact (slew_read_old b n t 0 n w k (by omega)).mono fun e w' ⟨he, hw⟩ => by subst hw; exact ⟨he, Only.refl _ _, k⟩
  · have r := slew_read_on b c t 0 n w k (by omega) h0 (by omega) (by omega) (by omega)
    have e1 : shown t 0 (n - c) = t + (n - c) := by
      unfold shown
      rw [turn0 _ (by omega), addS_in (a := n - c) (b := 0) (by omega) (by omega), addS_in (by omega) (by omega)]
      omega
    rw [e1, turn0 _ (by omega), Int.sub_self] at r
    exact r
end Go.Proofs.YtepdnkpmkhjlgaaGreat

/- Stage 8: SlewParts. -/
namespace Go.Proofs.YtepdnkpmkhjlgaaGreat
open Go.ChangeShapes Go.WideShapes Go.ChangeAt Go.RowKit Go.Joins

/-- Read at the same count or a later one. -/
theorem slew_read_any (b : Nat) (c t l n : Int) (w : World) (k : Ints3 w b c t l) (h : c ≤ n) (h0 : 0 ≤ c) (h1 : n ≤ 9223372036854775807) (tb : 0 ≤ t ∧ t ≤ 9223372036854775807) (lb : -4611686018427387904 ≤ l ∧ l ≤ 4611686018427387904) :
    Calls Tryz.prog 21 #[.pointer (some ⟨b, 0, none⟩), .int .i64 n] w fun e w' => e = .returned (.int .i64 (shown t l (n - c))) ∧ Only b w w' ∧ Ints3 w' b n (shown t l (n - c)) (l - turnOf l (n - c)) := by
  by_cases hc : n = c
  · subst hc
    have e0 : turnOf l (n - n) = 0 := by unfold turnOf; rw [Int.sub_self]; split <;> (try split) <;> omega
    have e1 : shown t l (n - n) = t := by unfold shown; rw [e0, Int.sub_self, addS_in (a := 0) (b := 0) (by omega) (by omega), addS_in (by omega) (by omega)]; omega
    rw [e0, e1, Int.sub_zero]
    exact (slew_read_old b n t l n w k (by omega)).mono fun e w' ⟨he, hw⟩ => by subst hw; exact ⟨he, Only.refl _ _, k⟩
  · exact slew_read_on b c t l n w k (by omega) h0 h1 tb lb
/-- The same, with the turned part named, far from the ends. -/
theorem slew_read_part (b : Nat) (c t l d y l' : Int) (w : World) (k : Ints3 w b c t l) (h0 : 0 ≤ c) (hd : 0 ≤ d ∧ d ≤ 1099511627776) (h1 : c ≤ 1000000000000000) (tb : 0 ≤ t ∧ t ≤ 1000000000000000) (lb : -1000000000 ≤ l ∧ l ≤ 1000000000) (hy : turnOf l d = y) (hl : l - y = l') :
    Calls Tryz.prog 21 #[.pointer (some ⟨b, 0, none⟩), .int .i64 (c + d)] w fun e w' => e = .returned (.int .i64 (t + d + y)) ∧ Only b w w' ∧ Ints3 w' b (c + d) (t + d + y) l' := by
  subst hl
  have r := slew_read_any b c t l (c + d) w k (by omega) h0 (by omega) (by omega) (by omega)
  have e0 : c + d - c = d := by omega
  have yb : -1000000000 ≤ y ∧ y ≤ 1000000000 := by subst hy; unfold turnOf; split <;> (try split) <;> omega
  have e1 : shown t l d = t + d + y := by
    unfold shown
    rw [hy, addS_in (a := d) (by omega) (by omega), addS_in (by omega) (by omega)]
    omega
  rw [e0, e1, hy] at r
  exact r
end Go.Proofs.YtepdnkpmkhjlgaaGreat

