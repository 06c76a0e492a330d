/- The reference's Offset of a table. -/
import Derived.Test.YtepdnkpmkhjlgaaGreatRef3Is
set_option linter.unusedSimpArgs false
set_option linter.unusedVariables false
namespace Go.Proofs.YtepdnkpmkhjlgaaGreat
open Go.RowKit

set_option maxRecDepth 100000 in
set_option maxHeartbeats 4000000 in
theorem ref3_offset_yes (A : Option Addr) (n c : Nat) (x day : Int) (z : Nat → Int) (w : World) (hz : FlatAt w A 2 n z) (ht : IsTab z n x) :
    Calls Tryz.prog 90 #[.agg #[.slice A n c, .int .i64 x], .int .i64 day] w fun e w' => e = .returned (.int .i64 (offK z day n)) ∧ Below w.heap.size w w' := by
  have HB0 : Below w.heap.size w (w.alloc (.cells #[.slice A n c, .int .i64 x] 24)) := by (repeat' (first | (with_reducible exact Below.refl _ _) | (with_reducible assumption) | (with_reducible refine Below.trans ?_ (Below.mono (by with_reducible assumption) ?_)) | (with_reducible refine Below.alloc ?_ ?_ _) | (with_reducible refine Below.setCell ?_ ?_ _) | (with_reducible refine below_drewN ?_ _) | (with_reducible refine Below.drew ?_) | go_size))
  have n1 := ht.1
  have n100 := ht.2.1
  have HI := Lib.hid (ref3_is A n c x z (w.alloc (.cells #[.slice A n c, .int .i64 x] 24)) true (hz.below HB0) (by unfold maxLen; omega) ⟨fun _ => ht, fun _ => rfl⟩)
  obtain ⟨B, O, rfl, hB, hcells⟩ := hz (by omega)
  have HC := Lib.hid hcells
  have n1' : (0 : Int) < (n : Int) := by omega
  clear ht hz hcells
  go_enter Tryz.func90, Tryz.ntmps90
  go_wp2_with fail
  refine HI.out.mono ?_; rintro e w1 ⟨rfl, hb1⟩
  have HB1 : Below w.heap.size w w1 := HB0.trans (hb1.mono HB0.size)
  have q0 : w1.cell? ⟨w.heap.size, 0, none⟩ = some (.slice (some ⟨B, O, none⟩) n c) := (hb1.cell (p := ⟨w.heap.size, 0, none⟩) (by simp)).trans (by simp)
  have q1 : w1.cell? ⟨B, O + 1, none⟩ = some (.int .i64 (z 1)) := (HB1.cell (p := ⟨B, O + 1, none⟩) hB).trans (HC.out 1 (by omega)).1
  have l1 : w.heap.size < w1.heap.size := by have := hb1.size; simp at this; omega
  clear hb1
  go_wp2_with fail
  go_loop [5, 6] (fun o i => ∃ k : Nat, k ≤ n ∧ i = .int .i64 k ∧ o = .int .i64 (offK z day k)) (fun _ i => n - (intOf i).toNat)
  case atStart => exact ⟨0, Nat.zero_le _, rfl, rfl⟩
  case round =>
    obtain ⟨k, hk, rfl, rfl⟩ := hrel
    by_cases hlt : k < n
    · have lk : (k : Int) < (n : Int) := by omega
      have c0 : w1.cell? ⟨B, O + k * 2, none⟩ = some (.int .i64 (z (k * 2))) := (HB1.cell (p := ⟨B, O + k * 2, none⟩) hB).trans (HC.out (k * 2) (by omega)).1
      have c1 : w1.cell? ⟨B, O + k * 2 + 1, none⟩ = some (.int .i64 (z (k * 2 + 1))) := (HB1.cell (p := ⟨B, O + (k * 2 + 1), none⟩) hB).trans (HC.out (k * 2 + 1) (by omega)).1
      have HS : Hid (offK z day (k + 1) = if z (k * 2) ≤ day then z (k * 2 + 1) else offK z day k) := Lib.hid rfl
      generalize z (k * 2) = a0 at *
      generalize z (k * 2 + 1) = a1 at *
      generalize offK z day k = ok at *
      by_cases hd : a0 ≤ day
      · have HS' : Hid (offK z day (k + 1) = a1) := Lib.hid (by rw [HS.out, if_pos hd])
        clear HS
        go_wp2
        go_round
        case rel => exact ⟨k + 1, by omega, by go_num, by rw [HS'.out]⟩
        case measure => simp [intOf]; omega
      · have HS' : Hid (offK z day (k + 1) = ok) := Lib.hid (by rw [HS.out, if_neg hd])
        have hd' : day < a0 := by omega
        clear HS hd
        go_wp2
        go_round
        case rel => exact ⟨k + 1, by omega, by go_num, by rw [HS'.out]⟩
        case measure => simp [intOf]; omega
    · obtain rfl : k = n := by omega
      go_wp2
      go_ret
      exact ⟨rfl, HB1⟩
end Go.Proofs.YtepdnkpmkhjlgaaGreat
