/- The reference's Is and Compare of stamps. -/
import Derived.Test.YtpflbhcgkndpcaaGreatDoorHlcCmp
set_option linter.unusedSimpArgs false
set_option linter.unusedVariables false
namespace Go.Proofs.YtpflbhcgkndpcaaGreatDoor
open Go.RowKit

set_option maxHeartbeats 1000000 in
theorem ref10_is (m c : Int) (w : World) : Calls Tryz.prog 53 #[.agg #[.int .i64 m, .int .i64 c]] w fun e w' => e = .returned (.bool (isStampB m c)) ∧ Below w.heap.size w w' := by
  unfold isStampB isMilliB
  by_cases h1 : 0 ≤ m
  · by_cases h2 : m ≤ 281474976710655
    · by_cases h3 : 0 ≤ c
      · go_enter Tryz.func53, Tryz.ntmps53
        go_wp2
        go_ret
        go_light
        exact ⟨by simp [h1, h2, h3], by (repeat' (first | (with_reducible exact Below.refl _ _) | (with_reducible assumption) | (with_reducible refine Below.trans ?_ (Below.mono (by with_reducible assumption) ?_)) | (with_reducible refine Below.alloc ?_ ?_ _) | (with_reducible refine Below.setCell ?_ ?_ _) | (with_reducible refine below_drewN ?_ _) | (with_reducible refine Below.drew ?_) | go_size))⟩
      · have h3' : decide (0 ≤ c) = false := by simpa using h3
        go_enter Tryz.func53, Tryz.ntmps53
        go_wp2
        go_ret
        go_light
        exact ⟨by simp [h3'], by (repeat' (first | (with_reducible exact Below.refl _ _) | (with_reducible assumption) | (with_reducible refine Below.trans ?_ (Below.mono (by with_reducible assumption) ?_)) | (with_reducible refine Below.alloc ?_ ?_ _) | (with_reducible refine Below.setCell ?_ ?_ _) | (with_reducible refine below_drewN ?_ _) | (with_reducible refine Below.drew ?_) | go_size))⟩
    · have h2' : decide (m ≤ 281474976710655) = false := by simpa using h2
      go_enter Tryz.func53, Tryz.ntmps53
      go_wp2
      go_ret
      go_light
      exact ⟨by simp [h2'], by (repeat' (first | (with_reducible exact Below.refl _ _) | (with_reducible assumption) | (with_reducible refine Below.trans ?_ (Below.mono (by with_reducible assumption) ?_)) | (with_reducible refine Below.alloc ?_ ?_ _) | (with_reducible refine Below.setCell ?_ ?_ _) | (with_reducible refine below_drewN ?_ _) | (with_reducible refine Below.drew ?_) | go_size))⟩
  · have h1' : decide (0 ≤ m) = false := by simpa using h1
    go_enter Tryz.func53, Tryz.ntmps53
    go_wp2
    go_ret
    go_light
    exact ⟨by simp [h1'], by (repeat' (first | (with_reducible exact Below.refl _ _) | (with_reducible assumption) | (with_reducible refine Below.trans ?_ (Below.mono (by with_reducible assumption) ?_)) | (with_reducible refine Below.alloc ?_ ?_ _) | (with_reducible refine Below.setCell ?_ ?_ _) | (with_reducible refine below_drewN ?_ _) | (with_reducible refine Below.drew ?_) | go_size))⟩
set_option maxHeartbeats 1000000 in
theorem ref10_compare (m c p q : Int) (w : World) : Calls Tryz.prog 152 #[.agg #[.int .i64 m, .int .i64 c], .agg #[.int .i64 p, .int .i64 q]] w fun e w' => e = .returned (.int .i64 (cmp2 m c p q)) ∧ Below w.heap.size w w' := by
  rcases (show m < p ∨ m = p ∨ p < m from by omega) with h | h | h
  · have e : cmp2 m c p q = -1 := by simp [cmp2, or2, cmp1, h]
    rw [e]
    go_enter Tryz.func152, Tryz.ntmps152
    go_wp2
    go_ret
    go_light
    exact ⟨rfl, by (repeat' (first | (with_reducible exact Below.refl _ _) | (with_reducible assumption) | (with_reducible refine Below.trans ?_ (Below.mono (by with_reducible assumption) ?_)) | (with_reducible refine Below.alloc ?_ ?_ _) | (with_reducible refine Below.setCell ?_ ?_ _) | (with_reducible refine below_drewN ?_ _) | (with_reducible refine Below.drew ?_) | go_size))⟩
  · subst h
    rcases (show c < q ∨ c = q ∨ q < c from by omega) with h | h | h
    · have e : cmp2 m c m q = -1 := by simp [cmp2, or2, cmp1, h]
      rw [e]
      go_enter Tryz.func152, Tryz.ntmps152
      go_wp2
      go_ret
      go_light
      exact ⟨rfl, by (repeat' (first | (with_reducible exact Below.refl _ _) | (with_reducible assumption) | (with_reducible refine Below.trans ?_ (Below.mono (by with_reducible assumption) ?_)) | (with_reducible refine Below.alloc ?_ ?_ _) | (with_reducible refine Below.setCell ?_ ?_ _) | (with_reducible refine below_drewN ?_ _) | (with_reducible refine Below.drew ?_) | go_size))⟩
    · subst h
      have e : cmp2 m c m c = 0 := by simp [cmp2, or2, cmp1]
      rw [e]
      go_enter Tryz.func152, Tryz.ntmps152
      go_wp2
      go_ret
      go_light
      exact ⟨rfl, by (repeat' (first | (with_reducible exact Below.refl _ _) | (with_reducible assumption) | (with_reducible refine Below.trans ?_ (Below.mono (by with_reducible assumption) ?_)) | (with_reducible refine Below.alloc ?_ ?_ _) | (with_reducible refine Below.setCell ?_ ?_ _) | (with_reducible refine below_drewN ?_ _) | (with_reducible refine Below.drew ?_) | go_size))⟩
    · have e : cmp2 m c m q = 1 := by simp [cmp2, or2, cmp1, h]; omega
      rw [e]
      have d1 : decide (c < q) = false := by simp; omega
      have d2 : (c == q) = false := by simp; omega
      go_enter Tryz.func152, Tryz.ntmps152
      go_wp2
      go_ret
      go_light
      exact ⟨rfl, by (repeat' (first | (with_reducible exact Below.refl _ _) | (with_reducible assumption) | (with_reducible refine Below.trans ?_ (Below.mono (by with_reducible assumption) ?_)) | (with_reducible refine Below.alloc ?_ ?_ _) | (with_reducible refine Below.setCell ?_ ?_ _) | (with_reducible refine below_drewN ?_ _) | (with_reducible refine Below.drew ?_) | go_size))⟩
  · have e : cmp2 m c p q = 1 := by simp [cmp2, or2, cmp1, h]; omega
    rw [e]
    have d1 : decide (m < p) = false := by simp; omega
    have d2 : (m == p) = false := by simp; omega
    go_enter Tryz.func152, Tryz.ntmps152
    go_wp2
    go_ret
    go_light
    exact ⟨rfl, by (repeat' (first | (with_reducible exact Below.refl _ _) | (with_reducible assumption) | (with_reducible refine Below.trans ?_ (Below.mono (by with_reducible assumption) ?_)) | (with_reducible refine Below.alloc ?_ ?_ _) | (with_reducible refine Below.setCell ?_ ?_ _) | (with_reducible refine below_drewN ?_ _) | (with_reducible refine Below.drew ?_) | go_size))⟩
end Go.Proofs.YtpflbhcgkndpcaaGreatDoor
