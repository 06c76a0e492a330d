/- The contract of slew.Clock.Turn; what is known. -/
import Derived.Test.YtepdnkpmkhjlgaaGreatSlewRead
set_option linter.unusedSimpArgs false
set_option linter.unusedVariables false
namespace Go.Proofs.YtepdnkpmkhjlgaaGreat
open Go.RowKit

set_option maxHeartbeats 1000000 in
/-- At the same count or an elder one, less than a second: what is left is that. -/
theorem slew_turn_old (b : Nat) (c t l n m : Int) (w : World) (k : Ints3 w b c t l) (h : n ≤ c) (m0 : -4611686018427387904 ≤ m) (m1 : m < 1000000000) :
    Calls Tryz.prog 71 #[.pointer (some ⟨b, 0, none⟩), .int .i64 n, .int .i64 m] w fun e w' => e = .returned (.tuple #[.bool false, .int .i64 0]) ∧ Only b w w' ∧ Ints3 w' b c t m := by
  have k' := k
  obtain ⟨c0, c1, c2, f0, f1, f2, lt⟩ := k'
  go_enter Tryz.func71, Tryz.ntmps71
  go_wp2_with (go_at_call 21; refine (slew_read_old b c t l n _ k h).mono ?_; rintro e w' ⟨rfl, rfl⟩)
  go_ret2
  refine ⟨rfl, ?_, ?_⟩
  · go_light
    (repeat' (first | (with_reducible exact Only.refl _ _) | (with_reducible assumption) | (with_reducible refine Only.alloc ?_ _) | (with_reducible refine Only.setB ?_ _) | (refine Only.setCell ?_ (Or.inr ?_) _) | (with_reducible refine Only.drewN ?_ _) | (with_reducible refine Only.drew ?_) | (with_reducible refine Only.trans ?_ (by with_reducible assumption)) | (with_reducible refine Only.trans ?_ (Only.of_below (by with_reducible assumption))) | go_size))
  · go_light
    (repeat' (first | (with_reducible assumption) | (with_reducible apply Ints3.set0) | (with_reducible apply Ints3.set1) | (with_reducible apply Ints3.set2) | (with_reducible refine Ints3.other ?_ ?_ _) | (with_reducible refine Ints3.alloc ?_ _) | (with_reducible refine Ints3.drewN ?_ _) | (with_reducible refine Ints3.drew ?_) | (with_reducible exact Ints3.new _ _ _ _ _) | go_size))
set_option maxHeartbeats 1000000 in
/-- A second or more behind, at the same count or an elder one: it steps. -/
theorem slew_turn_step (b : Nat) (c t l n m : Int) (w : World) (k : Ints3 w b c t l) (h : n ≤ c) (m0 : 1000000000 ≤ m) (m1 : m ≤ 4611686018427387904) (tb : 0 ≤ t ∧ t ≤ 9223372036854775807) :
    Calls Tryz.prog 71 #[.pointer (some ⟨b, 0, none⟩), .int .i64 n, .int .i64 m] w fun e w' => e = .returned (.tuple #[.bool true, .int .i64 0]) ∧ Only b w w' ∧ Ints3 w' b c (addS t m) 0 := by
  have k' := k
  obtain ⟨c0, c1, c2, f0, f1, f2, lt⟩ := k'
  have l1 : b < w.heap.size + 1 := by omega
  have n0 : w.heap.size ≠ b := by omega
  go_enter Tryz.func71, Tryz.ntmps71
  go_wp2_with (go_at_call 21; refine (slew_read_old b c t l n _ k h).mono ?_; rintro e w' ⟨rfl, rfl⟩)
  refine (scale_add2 t m w.heap.size _ (by omega) (by omega) (by simp [go_sem]) (by simp [go_sem])).mono ?_; rintro e w' ⟨rfl, rfl⟩
  go_wp2
  go_ret2
  refine ⟨rfl, ?_, ?_⟩
  · go_light
    (repeat' (first | (with_reducible exact Only.refl _ _) | (with_reducible assumption) | (with_reducible refine Only.alloc ?_ _) | (with_reducible refine Only.setB ?_ _) | (refine Only.setCell ?_ (Or.inr ?_) _) | (with_reducible refine Only.drewN ?_ _) | (with_reducible refine Only.drew ?_) | (with_reducible refine Only.trans ?_ (by with_reducible assumption)) | (with_reducible refine Only.trans ?_ (Only.of_below (by with_reducible assumption))) | go_size))
  · go_light
    (repeat' (first | (with_reducible assumption) | (with_reducible apply Ints3.set0) | (with_reducible apply Ints3.set1) | (with_reducible apply Ints3.set2) | (with_reducible refine Ints3.other ?_ ?_ _) | (with_reducible refine Ints3.alloc ?_ _) | (with_reducible refine Ints3.drewN ?_ _) | (with_reducible refine Ints3.drew ?_) | (with_reducible exact Ints3.new _ _ _ _ _) | go_size))
theorem shown_k1 : shown 0 500 1000000 = 1000500 ∧ turnOf 500 1000000 = 500 ∧ shown 1000500 0 1000000 = 2000500 ∧ turnOf 0 1000000 = 0 := by decide
end Go.Proofs.YtepdnkpmkhjlgaaGreat
