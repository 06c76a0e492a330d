/- The reference's Add of any numbers. -/
import Derived.Test.YtepdnkpmkhjlgaaGreatM9C
set_option linter.unusedSimpArgs false
set_option linter.unusedVariables false
namespace Go.Proofs.YtepdnkpmkhjlgaaGreat
open Go.RowKit

theorem ref4_two (a b : Int) (w : World) (ha : -9223372036854775808 ≤ a ∧ a ≤ 9223372036854775807) (hb : -9223372036854775808 ≤ b ∧ b ≤ 9223372036854775807) :
    Calls Tryz.prog 64 #[.int .i64 a, .int .i64 b] w fun e w' => e = .returned (.int .i64 (addS a b)) ∧ w = w' := by
  rcases (show (0 < b ∧ 9223372036854775807 - b < a) ∨ (0 < b ∧ a ≤ 9223372036854775807 - b) ∨ (b < 0 ∧ a < -9223372036854775808 - b) ∨ (b < 0 ∧ -9223372036854775808 - b ≤ a) ∨ b = 0 from by omega) with ⟨p1, p2⟩ | ⟨p1, p2⟩ | ⟨p1, p2⟩ | ⟨p1, p2⟩ | p1
  · rw [addS_hi p2]
    go_enter Tryz.func64, Tryz.ntmps64
    go_wp2
    go_ret
    exact ⟨rfl, rfl⟩
  · rw [addS_in (by omega) (by omega)]
    go_enter Tryz.func64, Tryz.ntmps64
    go_wp2
    go_ret
    exact ⟨rfl, rfl⟩
  · rw [addS_lo p2]
    go_enter Tryz.func64, Tryz.ntmps64
    go_wp2
    go_ret
    exact ⟨rfl, rfl⟩
  · rw [addS_in (by omega) (by omega)]
    go_enter Tryz.func64, Tryz.ntmps64
    go_wp2
    go_ret
    exact ⟨rfl, rfl⟩
  · subst p1
    rw [addS_in (by omega) (by omega), Int.add_zero]
    go_enter Tryz.func64, Tryz.ntmps64
    go_wp2
    go_ret
    exact ⟨rfl, rfl⟩
set_option maxHeartbeats 1000000 in
theorem ref4_add (z : Nat → Int) (A : Option Addr) (n c : Nat) (w : World) (hn : n ≤ 1000000000) (hz : 0 < n → ∃ B O, A = some ⟨B, O, none⟩ ∧ ∀ j, j < n → w.cell? ⟨B, O + j, none⟩ = some (.int .i64 (z j)) ∧ -9223372036854775808 ≤ z j ∧ z j ≤ 9223372036854775807) :
    Calls Tryz.prog 37 #[.slice A n c] w fun e w' => e = .returned (.int .i64 (sumS z n)) ∧ w = w' := by
  have HZ := Lib.hid hz
  clear hz
  go_enter Tryz.func37, Tryz.ntmps37
  go_wp2
  go_loop [3, 4] (fun s i => ∃ k : Nat, k ≤ n ∧ i = .int .i64 k ∧ s = .int .i64 (sumS z k)) (fun _ i => n - (intOf i).toNat)
  case atStart => exact ⟨0, Nat.zero_le _, rfl, rfl⟩
  case round =>
    obtain ⟨k, hk, rfl, rfl⟩ := hrel
    by_cases hlt : k < n
    · obtain ⟨B, O, rfl, hcells⟩ := HZ.out (by omega)
      obtain ⟨x0, x1, x2⟩ := hcells k hlt
      clear hcells
      have hsb := sumS_bd z k
      have HS : Hid (sumS z (k + 1) = addS (sumS z k) (z k)) := Lib.hid rfl
      generalize z k = x at *
      generalize hS : sumS z k = S at *
      clear hS
      go_wp2_with (go_at_call 64; refine (ref4_two S x _ hsb ⟨x1, x2⟩).mono ?_; rintro e w' ⟨rfl, rfl⟩)
      go_round
      case rel => exact ⟨k + 1, by omega, by go_num, by rw [HS.out]⟩
      case measure => simp [intOf]; omega
    · obtain rfl : k = n := by omega
      go_wp2
      go_ret
      exact ⟨rfl, rfl⟩
/-- Two numbers. -/
theorem ref4_add2 (a b : Int) (B : Nat) (w : World) (ha : -9223372036854775808 ≤ a ∧ a ≤ 9223372036854775807) (hb : -9223372036854775808 ≤ b ∧ b ≤ 9223372036854775807) (h0 : w.cell? ⟨B, 0, none⟩ = some (.int .i64 a)) (h1 : w.cell? ⟨B, 1, none⟩ = some (.int .i64 b)) :
    Calls Tryz.prog 37 #[.slice (some ⟨B, 0, none⟩) 2 2] w fun e w' => e = .returned (.int .i64 (addS a b)) ∧ w = w' := by
  have h := ref4_add (fun j => if j = 0 then a else b) (some ⟨B, 0, none⟩) 2 2 w (by omega) (fun _ => ⟨B, 0, rfl, by
    intro j hj
    rcases (show j = 0 ∨ j = 1 from by omega) with rfl | rfl
    · exact ⟨by simpa using h0, by simpa using ha⟩
    · exact ⟨by simpa using h1, by simpa using hb⟩⟩)
  have e : sumS (fun j => if j = 0 then a else b) 2 = addS a b := by
    show addS (addS 0 a) b = _
    rw [addS_in (a := 0) (b := a) (by omega) (by omega), Int.zero_add]
  rwa [e] at h
end Go.Proofs.YtepdnkpmkhjlgaaGreat
