/- The reference's Is of stamps. -/
import Derived.Test.YtdffldlcbihjmaaDoorHlcPack
set_option linter.unusedSimpArgs false
set_option linter.unusedVariables false
namespace Go.Proofs.YtdffldlcbihjmaaDoor
open Go.RowKit

set_option maxHeartbeats 1000000 in
theorem ref10_is (m c : Int) (w : World) : Calls Tryd.prog 86 #[.agg #[.int .i64 m, .int .i64 c]] w fun e w' => e = .returned (.bool (isStampB m c)) ∧ Below w.heap.size w w' := by
  unfold isStampB isMilliB
  by_cases h1 : 0 ≤ m
  · by_cases h2 : m ≤ 281474976710655
    · by_cases h3 : 0 ≤ c
      · go_enter Tryd.func86, Tryd.ntmps86
        go_wp2
        go_ret
        go_light
        exact ⟨by simp [h1, h2, h3], by (repeat' (first | (with_reducible exact Below.refl _ _) | (with_reducible assumption) | (with_reducible refine Below.trans ?_ (Below.mono (by with_reducible assumption) ?_)) | (with_reducible refine Below.alloc ?_ ?_ _) | (with_reducible refine Below.setCell ?_ ?_ _) | (with_reducible refine below_drewN ?_ _) | (with_reducible refine Below.drew ?_) | go_size))⟩
      · have h3' : decide (0 ≤ c) = false := by simpa using h3
        go_enter Tryd.func86, Tryd.ntmps86
        go_wp2
        go_ret
        go_light
        exact ⟨by simp [h3'], by (repeat' (first | (with_reducible exact Below.refl _ _) | (with_reducible assumption) | (with_reducible refine Below.trans ?_ (Below.mono (by with_reducible assumption) ?_)) | (with_reducible refine Below.alloc ?_ ?_ _) | (with_reducible refine Below.setCell ?_ ?_ _) | (with_reducible refine below_drewN ?_ _) | (with_reducible refine Below.drew ?_) | go_size))⟩
    · have h2' : decide (m ≤ 281474976710655) = false := by simpa using h2
      go_enter Tryd.func86, Tryd.ntmps86
      go_wp2
      go_ret
      go_light
      exact ⟨by simp [h2'], by (repeat' (first | (with_reducible exact Below.refl _ _) | (with_reducible assumption) | (with_reducible refine Below.trans ?_ (Below.mono (by with_reducible assumption) ?_)) | (with_reducible refine Below.alloc ?_ ?_ _) | (with_reducible refine Below.setCell ?_ ?_ _) | (with_reducible refine below_drewN ?_ _) | (with_reducible refine Below.drew ?_) | go_size))⟩
  · have h1' : decide (0 ≤ m) = false := by simpa using h1
    go_enter Tryd.func86, Tryd.ntmps86
    go_wp2
    go_ret
    go_light
    exact ⟨by simp [h1'], by (repeat' (first | (with_reducible exact Below.refl _ _) | (with_reducible assumption) | (with_reducible refine Below.trans ?_ (Below.mono (by with_reducible assumption) ?_)) | (with_reducible refine Below.alloc ?_ ?_ _) | (with_reducible refine Below.setCell ?_ ?_ _) | (with_reducible refine below_drewN ?_ _) | (with_reducible refine Below.drew ?_) | go_size))⟩
end Go.Proofs.YtdffldlcbihjmaaDoor
