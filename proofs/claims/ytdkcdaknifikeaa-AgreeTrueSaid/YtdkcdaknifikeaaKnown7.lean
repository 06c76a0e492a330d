/- What is known of stage 7. -/
import Derived.Test.YtdkcdaknifikeaaMaj
set_option linter.unusedSimpArgs false
set_option linter.unusedVariables false
namespace Go.Proofs.Ytdkcdaknifikeaa
open Go.RowKit

set_option maxHeartbeats 1000000 in
theorem known7 (w : World) : Calls Try.prog 14 #[] w fun e w' => e = .returned (.bool true) ∧ Below w.heap.size w w' := by
  have HB0 : Below w.heap.size w (w.alloc (.cells #[.int .i64 1, .int .i64 5, .int .i64 4, .int .i64 8, .int .i64 7, .int .i64 9] 25)) := by (repeat' (first | (with_reducible exact Below.refl _ _) | (with_reducible assumption) | (with_reducible refine Below.trans ?_ (Below.mono (by with_reducible assumption) ?_)) | (with_reducible refine Below.alloc ?_ ?_ _) | (with_reducible refine Below.setCell ?_ ?_ _) | (with_reducible refine below_drewN ?_ _) | (with_reducible refine Below.drew ?_) | go_size))
  go_enter Try.func14, Try.ntmps14
  go_wp2_with fail
  refine (most_any k6 _ 3 3 _ (by omega) (flat6 w)).mono ?_; rintro e w1 ⟨a, b, m, rfl, hm, hb1⟩
  obtain ⟨rfl, rfl, rfl⟩ := hm.unique k6_is
  have HB1 : Below w.heap.size w (w1.alloc (.cells #[.int .i64 4, .int .i64 5] 25)) := (HB0.trans (hb1.mono HB0.size)).alloc (HB0.trans (hb1.mono HB0.size)).size _
  have J1 := Lib.hid (Ints2.new w1 4 5 25)
  clear hb1 hm HB0
  go_wp2_with fail
  have F4 := flat4 (w1.alloc (.cells #[.int .i64 4, .int .i64 5] 25))
  rw [World.size_alloc] at F4
  refine (maj_any k4 _ 2 2 _ (by omega) F4).mono ?_; rintro e w3 ⟨a, b, m, rfl, hm, hb3⟩
  obtain ⟨rfl, rfl, rfl⟩ := hm.unique k4_is
  rw [maj_k4.1, maj_k4.2, maj_k4.2]
  have hbb : Below (w1.heap.size + 1) (w1.alloc (.cells #[.int .i64 4, .int .i64 5] 25)) w3 := ((Below.refl (w1.heap.size + 1) (w1.alloc (.cells #[.int .i64 4, .int .i64 5] 25))).alloc (by simp) _).trans (hb3.mono (by simp))
  have J3 := J1.out.below hbb (by simp)
  have HB3 : Below w.heap.size w w3 := HB1.trans (hbb.mono (by have := HB1.size; simpa using this))
  have l3 := J3.lt
  obtain ⟨x0, x1, f0, f1, _⟩ := J3
  clear hb3 hbb hm HB1 J1 F4
  have zz3 := HB3.size
  go_wp2
  go_ret
  go_light
  exact ⟨rfl, by (repeat' (first | (with_reducible exact Below.refl _ _) | (with_reducible assumption) | (with_reducible refine Below.trans ?_ (Below.mono (by with_reducible assumption) ?_)) | (with_reducible refine Below.alloc ?_ ?_ _) | (with_reducible refine Below.setCell ?_ ?_ _) | (with_reducible refine below_drewN ?_ _) | (with_reducible refine Below.drew ?_) | go_size))⟩
end Go.Proofs.Ytdkcdaknifikeaa
