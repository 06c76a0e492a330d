/- scale.Add of any numbers. -/
import Derived.Test.YtklahiogcpojmaaBase
set_option linter.unusedSimpArgs false
set_option linter.unusedVariables false
namespace Go.Proofs.Ytklahiogcpojmaa
open Go.RowKit

/-- A sum, held within what may be told. -/
def addS (a b : Int) : Int := if 9223372036854775807 < a + b then 9223372036854775807 else if a + b < -9223372036854775808 then -9223372036854775808 else a + b
/-- The first k of the numbers z, added one by one, each sum held. -/
def sumS (z : Nat → Int) : Nat → Int
  | 0 => 0
  | k + 1 => addS (sumS z k) (z k)
theorem addS_bd (a b : Int) : -9223372036854775808 ≤ addS a b ∧ addS a b ≤ 9223372036854775807 := by
  unfold addS
  repeat' split
  all_goals omega
theorem sumS_bd (z : Nat → Int) (k : Nat) : -9223372036854775808 ≤ sumS z k ∧ sumS z k ≤ 9223372036854775807 := by
  cases k
  · exact ⟨by show _ ≤ (0 : Int); omega, by show (0 : Int) ≤ _; omega⟩
  · exact addS_bd _ _
theorem addS_hi {a b : Int} (h : 9223372036854775807 - b < a) : addS a b = 9223372036854775807 := by unfold addS; rw [if_pos (by omega)]
theorem addS_lo {a b : Int} (h : a < -9223372036854775808 - b) : addS a b = -9223372036854775808 := by unfold addS; rw [if_neg (by omega), if_pos (by omega)]
theorem addS_in {a b : Int} (h : a + b ≤ 9223372036854775807) (h' : -9223372036854775808 ≤ a + b) : addS a b = a + b := by unfold addS; rw [if_neg (by omega), if_neg (by omega)]
set_option maxHeartbeats 1000000 in
theorem scale_add (z : Nat → Int) (B O n c : Nat) (w : World) (hn : n ≤ 1000000000) (hz : ∀ j, j < n → -9223372036854775808 ≤ z j ∧ z j ≤ 9223372036854775807) (hcell : ∀ j, j < n → w.cell? ⟨B, O + j, none⟩ = some (.int .i64 (z j))) :
    Calls Try.prog 12 #[.slice (some ⟨B, O, none⟩) n c] w fun e w' => e = .returned (.int .i64 (sumS z n)) ∧ w = w' := by
  have HZ := Lib.hid hz
  have HC := Lib.hid hcell
  clear hz hcell
  go_enter Try.func12, Try.ntmps12
  go_wp2
  go_loop [3, 8] (fun s i => ∃ k : Nat, k ≤ n ∧ i = .int .i64 k ∧ s = .int .i64 (sumS z k)) (fun _ i => n - (intOf i).toNat)
  case atStart => exact ⟨0, Nat.zero_le _, rfl, rfl⟩
  case round =>
    obtain ⟨k, hk, rfl, rfl⟩ := hrel
    by_cases hlt : k < n
    · have hcell := HC.out k hlt
      have hzk := HZ.out k hlt
      have hsb := sumS_bd z k
      have HS : Hid (sumS z (k + 1) = addS (sumS z k) (z k)) := rfl
      generalize z k = x at *
      generalize hS : sumS z k = S at *
      rcases (show (0 < x ∧ 9223372036854775807 - x < S) ∨ (0 < x ∧ S ≤ 9223372036854775807 - x) ∨ (x < 0 ∧ S < -9223372036854775808 - x) ∨ (x < 0 ∧ -9223372036854775808 - x ≤ S) ∨ x = 0 from by omega) with ⟨p1, p2⟩ | ⟨p1, p2⟩ | ⟨p1, p2⟩ | ⟨p1, p2⟩ | p1
      · go_wp2
        go_round
        case rel => exact ⟨k + 1, by omega, by go_num, by rw [HS.out, addS_hi p2]⟩
        case measure => simp [intOf]; omega
      · go_wp2
        go_round
        case rel => exact ⟨k + 1, by omega, by go_num, by rw [HS.out, addS_in (by omega) (by omega)]⟩
        case measure => simp [intOf]; omega
      · go_wp2
        go_round
        case rel => exact ⟨k + 1, by omega, by go_num, by rw [HS.out, addS_lo p2]⟩
        case measure => simp [intOf]; omega
      · go_wp2
        go_round
        case rel => exact ⟨k + 1, by omega, by go_num, by rw [HS.out, addS_in (by omega) (by omega)]⟩
        case measure => simp [intOf]; omega
      · subst p1
        go_wp2
        go_round
        case rel => exact ⟨k + 1, by omega, by go_num, by rw [HS.out, addS_in (by omega) (by omega), Int.add_zero]⟩
        case measure => simp [intOf]; omega
    · obtain rfl : k = n := by omega
      go_wp2
      go_ret
      exact ⟨rfl, rfl⟩
/-- Two numbers. -/
theorem scale_add2 (a b : Int) (B : Nat) (w : World) (ha : -9223372036854775808 ≤ a ∧ a ≤ 9223372036854775807) (hb : -9223372036854775808 ≤ b ∧ b ≤ 9223372036854775807) (h0 : w.cell? ⟨B, 0, none⟩ = some (.int .i64 a)) (h1 : w.cell? ⟨B, 1, none⟩ = some (.int .i64 b)) :
    Calls Try.prog 12 #[.slice (some ⟨B, 0, none⟩) 2 2] w fun e w' => e = .returned (.int .i64 (addS a b)) ∧ w = w' := by
  have h := scale_add (fun j => if j = 0 then a else b) B 0 2 2 w (by omega) (by intro j hj; by_cases h : j = 0 <;> simp [h, ha, hb]) (by
    intro j hj
    rcases (show j = 0 ∨ j = 1 from by omega) with rfl | rfl
    · simpa using h0
    · simpa using h1)
  have e : sumS (fun j => if j = 0 then a else b) 2 = addS a b := by
    show addS (addS 0 a) b = _
    rw [addS_in (a := 0) (b := a) (by omega) (by omega), Int.zero_add]
  rwa [e] at h
end Go.Proofs.Ytklahiogcpojmaa
