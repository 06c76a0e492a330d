/- Stage 25: chain.Seen of a version that is told for good. -/
import Derived.Test.YtdjhpajmbddffaaHlcCmp
import Derived.Test.YtdjhpajmbddffaaBut
set_option linter.unusedSimpArgs false
set_option linter.unusedVariables false
namespace Go.Proofs.Ytdjhpajmbddffaa
open Go.RowKit

set_option maxHeartbeats 4000000 in
theorem seen25 (ml ct vo tm tc : Int) (A : Option Addr) (n c : Nat) (w : World) (hq : cmp2 ml ct tm tc ≤ 0) :
    Calls Try.prog 49 #[.agg #[.int .i64 ml, .int .i64 ct, .int .i64 vo, .slice A n c, .bool false, .int .i64 0], .agg #[.int .i64 tm, .int .i64 tc]] w fun e w' => e = .returned (.bool true) ∧ Below w.heap.size w w' := by
  have HC0 := fun W => hlc_compare ml ct tm tc W
  generalize cmp2 ml ct tm tc = q at *
  have HC := Lib.hid HC0
  have t2 : decide (0 < q) = false := by simp only [decide_eq_false_iff_not]; omega
  clear HC0 hq
  go_enter Try.func49, Try.ntmps49
  go_wp2_with (go_at_call 20; refine (HC.out _).mono ?_; rintro e w1 ⟨rfl, hb1⟩; obtain ⟨hc1, hf1⟩ := bcell hb1; (try simp only [World.size_alloc] at hc1 hf1); have q3 : w1.cell? ⟨w.heap.size, 4, none⟩ = some (.bool false) := (hc1 _ _ (by omega)).trans (by simp); have q0 : w1.cell? ⟨w.heap.size, 0, none⟩ = some (.int .i64 ml) := (hc1 _ _ (by omega)).trans (by simp); have q5 : w1.cell? ⟨w.heap.size, 5, none⟩ = some (.int .i64 0) := (hc1 _ _ (by omega)).trans (by simp); have s0 : w1.cell? ⟨w.heap.size + 1, 0, none⟩ = some (.int .i64 tm) := (hc1 _ _ (by omega)).trans (by simp); clear hc1 hf1)
  go_ret
  go_light
  exact ⟨by simp, by (repeat' (first | (with_reducible exact Below.refl _ _) | (with_reducible assumption) | (with_reducible refine Below.trans ?_ (Below.mono (by with_reducible assumption) ?_)) | (with_reducible refine Below.alloc ?_ ?_ _) | (with_reducible refine Below.setCell ?_ ?_ _) | (with_reducible refine below_drewN ?_ _) | (with_reducible refine Below.drew ?_) | go_size))⟩
end Go.Proofs.Ytdjhpajmbddffaa
