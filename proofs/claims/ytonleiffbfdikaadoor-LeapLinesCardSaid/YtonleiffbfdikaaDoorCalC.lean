/- cal.Days. -/
import Derived.Test.YtonleiffbfdikaaDoorCalA
import Derived.Test.YtonleiffbfdikaaDoorCalB
set_option linter.unusedSimpArgs false
set_option linter.unusedVariables false
namespace Go.Proofs.YtonleiffbfdikaaDoor
open Go.RowKit

theorem cal_marchYear_early (y m d : Int) (w : World) (h : Cal.Vld y m d) (h3 : m < 3) :
    Calls Tryd.prog 79 #[.agg #[.int .i64 y, .int .i64 m, .int .i64 d]] w fun e w' => e = .returned (.tuple #[.int .i64 (y - 1), .int .i64 (m + 9)]) ∧ Below w.heap.size w w' := by
  obtain ⟨a1, a2, a3, a4, a5, a6⟩ := h
  go_enter Tryd.func79, Tryd.ntmps79
  go_wp2
  go_quiet (fail)
  go_wp2
  go_ret2
  exact ⟨rfl, by (repeat' (first | (with_reducible exact Below.refl _ _) | (with_reducible assumption) | (with_reducible refine Below.trans ?_ (Below.mono (by with_reducible assumption) ?_)) | (with_reducible refine Below.alloc ?_ ?_ _) | (with_reducible refine Below.setCell ?_ ?_ _) | (with_reducible refine below_drewN ?_ _) | (with_reducible refine Below.drew ?_) | go_size))⟩
theorem cal_marchYear_late (y m d : Int) (w : World) (h : Cal.Vld y m d) (h3 : 3 ≤ m) :
    Calls Tryd.prog 79 #[.agg #[.int .i64 y, .int .i64 m, .int .i64 d]] w fun e w' => e = .returned (.tuple #[.int .i64 y, .int .i64 (m - 3)]) ∧ Below w.heap.size w w' := by
  obtain ⟨a1, a2, a3, a4, a5, a6⟩ := h
  go_enter Tryd.func79, Tryd.ntmps79
  go_wp2
  go_quiet (fail)
  go_wp2
  go_ret2
  exact ⟨rfl, by (repeat' (first | (with_reducible exact Below.refl _ _) | (with_reducible assumption) | (with_reducible refine Below.trans ?_ (Below.mono (by with_reducible assumption) ?_)) | (with_reducible refine Below.alloc ?_ ?_ _) | (with_reducible refine Below.setCell ?_ ?_ _) | (with_reducible refine below_drewN ?_ _) | (with_reducible refine Below.drew ?_) | go_size))⟩

theorem cal_days_no (y m d : Int) (w : World) (h : ¬ Cal.Vld y m d) :
    Calls Tryd.prog 66 #[.agg #[.int .i64 y, .int .i64 m, .int .i64 d]] w fun e w' => e = .returned (.tuple #[.int .i64 0, .int .i64 1]) ∧ Below w.heap.size w w' := by
  go_enter Tryd.func66, Tryd.ntmps66
  go_wp2_with (go_at_call 56; refine (cal_is_no y m d _ h).mono ?_; rintro e w1 ⟨rfl, hb1⟩; obtain ⟨hc1, hf1⟩ := bcell hb1; have hz1 := hb1.size; (try simp only [World.size_alloc, World.size_setCell, World.heap_drewN] at hb1 hc1 hf1 hz1); (try have ha01 : w.heap.size < w1.heap.size := by omega); (try have ha11 : w.heap.size + 1 < w1.heap.size := by omega); (try have ha21 : w.heap.size + 2 < w1.heap.size := by omega); (try have hal1 : w.heap.size ≤ w1.heap.size := by omega); (try have ham1 : w.heap.size < w1.heap.size + 2 := by omega))
  go_ret2
  go_light
  exact ⟨rfl, by (repeat' (first | (with_reducible exact Below.refl _ _) | (with_reducible assumption) | (with_reducible refine Below.trans ?_ (Below.mono (by with_reducible assumption) ?_)) | (with_reducible refine Below.alloc ?_ ?_ _) | (with_reducible refine Below.setCell ?_ ?_ _) | (with_reducible refine below_drewN ?_ _) | (with_reducible refine Below.drew ?_) | go_size))⟩
set_option maxHeartbeats 400000 in
theorem cal_days_late (y m d : Int) (w : World) (h : Cal.Vld y m d) (h3 : 3 ≤ m) :
    Calls Tryd.prog 66 #[.agg #[.int .i64 y, .int .i64 m, .int .i64 d]] w fun e w' => e = .returned (.tuple #[.int .i64 (Cal.num y m d), .int .i64 0]) ∧ Below w.heap.size w w' := by
  have h' := h
  obtain ⟨a1, a2, a3, a4, a5, a6⟩ := h'
  have hd := (Cal.dim_bd y m).2
  have b1 := ahead_bd (y % 400) (by omega) (by omega)
  have b2 := march_bd (m - 3) (by omega) (by omega)
  have HN := Lib.hid (Cal.num_late y m d (by omega) a4)
  go_enter Tryd.func66, Tryd.ntmps66
  go_wp2_with (first | (go_at_call 56; refine (cal_is_yes y m d _ h).mono ?_; rintro e w1 ⟨rfl, hb1⟩; obtain ⟨hc1, hf1⟩ := bcell hb1; have hz1 := hb1.size; (try simp only [World.size_alloc, World.size_setCell, World.heap_drewN] at hb1 hc1 hf1 hz1); (try have ha01 : w.heap.size < w1.heap.size := by omega); (try have ha11 : w.heap.size + 1 < w1.heap.size := by omega); (try have ha21 : w.heap.size + 2 < w1.heap.size := by omega); (try have hal1 : w.heap.size ≤ w1.heap.size := by omega); (try have ham1 : w.heap.size < w1.heap.size + 2 := by omega)) | (go_at_call 79; refine (cal_marchYear_late y m d _ h h3).mono ?_; rintro e w2 ⟨rfl, hb2⟩; obtain ⟨hc2, hf2⟩ := bcell hb2; have hz2 := hb2.size; (try simp only [World.size_alloc, World.size_setCell, World.heap_drewN] at hb2 hc2 hf2 hz2); (try have ha02 : w.heap.size < w2.heap.size := by omega); (try have ha12 : w.heap.size + 1 < w2.heap.size := by omega); (try have ha22 : w.heap.size + 2 < w2.heap.size := by omega); (try have hal2 : w.heap.size ≤ w2.heap.size := by omega); (try have ham2 : w.heap.size < w2.heap.size + 2 := by omega)))
  have e1 : IntKind.i64.wrap (y.tdiv 400) = y / 400 := ((by rw [Int.tdiv_eq_ediv_of_nonneg (by omega)]; exact IntWalk.i64_in _ (by omega)))
  have e2 : y.tmod 400 = y % 400 := Int.tmod_eq_emod_of_nonneg (by omega)
  have e3 : IntKind.i64.wrap (y / 400 * 146097) = y / 400 * 146097 := IntWalk.i64_in _ (by omega)
  have e4 : IntKind.i64.wrap (y / 400 * 146097 + Cal.ahead (y % 400)) = y / 400 * 146097 + Cal.ahead (y % 400) := IntWalk.i64_in _ (by omega)
  have e5 : IntKind.i64.wrap (y / 400 * 146097 + Cal.ahead (y % 400) + Cal.march (m - 3)) = y / 400 * 146097 + Cal.ahead (y % 400) + Cal.march (m - 3) := IntWalk.i64_in _ (by omega)
  have e6 : IntKind.i64.wrap (y / 400 * 146097 + Cal.ahead (y % 400) + Cal.march (m - 3) + d) = y / 400 * 146097 + Cal.ahead (y % 400) + Cal.march (m - 3) + d := IntWalk.i64_in _ (by omega)
  have e7 : IntKind.i64.wrap (y / 400 * 146097 + Cal.ahead (y % 400) + Cal.march (m - 3) + d - 1) = y / 400 * 146097 + Cal.ahead (y % 400) + Cal.march (m - 3) + d - 1 := IntWalk.i64_in _ (by omega)
  have e8 : IntKind.i64.wrap (y / 400 * 146097 + Cal.ahead (y % 400) + Cal.march (m - 3) + d - 1 - 719468) = Cal.num y m d := (IntWalk.i64_in _ (by omega)).trans HN.out
  go_quiet (first | (go_at_call 40; exact Calls.quiet_of_same ((cal_ahead _ _ (by clear e1 e2 e3 e4 e5 e6 e7 e8; omega) (by clear e1 e2 e3 e4 e5 e6 e7 e8; omega)).mono (fun _ _ h => ⟨h.1, h.2.symm⟩))) | (go_at_call 41; exact Calls.quiet_of_same ((cal_march _ _ (by clear e1 e2 e3 e4 e5 e6 e7 e8; omega) (by clear e1 e2 e3 e4 e5 e6 e7 e8; omega)).mono (fun _ _ h => ⟨h.1, h.2.symm⟩))))
  clear e1 e2 e3 e4 e5 e6 e7 e8
  go_wp2
  go_ret2
  go_light
  exact ⟨rfl, by (repeat' (first | (with_reducible exact Below.refl _ _) | (with_reducible assumption) | (with_reducible refine Below.trans ?_ (Below.mono (by with_reducible assumption) ?_)) | (with_reducible refine Below.alloc ?_ ?_ _) | (with_reducible refine Below.setCell ?_ ?_ _) | (with_reducible refine below_drewN ?_ _) | (with_reducible refine Below.drew ?_) | go_size))⟩
set_option maxHeartbeats 1000000 in
theorem cal_days_early (y m d : Int) (w : World) (h : Cal.Vld y m d) (h3 : m < 3) :
    Calls Tryd.prog 66 #[.agg #[.int .i64 y, .int .i64 m, .int .i64 d]] w fun e w' => e = .returned (.tuple #[.int .i64 (Cal.num y m d), .int .i64 0]) ∧ Below w.heap.size w w' := by
  have h' := h
  obtain ⟨a1, a2, a3, a4, a5, a6⟩ := h'
  have hd := (Cal.dim_bd y m).2
  have b1 := ahead_bd ((y - 1) % 400) (by omega) (by omega)
  have b2 := march_bd (m + 9) (by omega) (by omega)
  have HN := Lib.hid (Cal.num_early y m d a3 (by omega))
  go_enter Tryd.func66, Tryd.ntmps66
  go_wp2_with (first | (go_at_call 56; refine (cal_is_yes y m d _ h).mono ?_; rintro e w1 ⟨rfl, hb1⟩; obtain ⟨hc1, hf1⟩ := bcell hb1; have hz1 := hb1.size; (try simp only [World.size_alloc, World.size_setCell, World.heap_drewN] at hb1 hc1 hf1 hz1); (try have ha01 : w.heap.size < w1.heap.size := by omega); (try have ha11 : w.heap.size + 1 < w1.heap.size := by omega); (try have ha21 : w.heap.size + 2 < w1.heap.size := by omega); (try have hal1 : w.heap.size ≤ w1.heap.size := by omega); (try have ham1 : w.heap.size < w1.heap.size + 2 := by omega)) | (go_at_call 79; refine (cal_marchYear_early y m d _ h h3).mono ?_; rintro e w2 ⟨rfl, hb2⟩; obtain ⟨hc2, hf2⟩ := bcell hb2; have hz2 := hb2.size; (try simp only [World.size_alloc, World.size_setCell, World.heap_drewN] at hb2 hc2 hf2 hz2); (try have ha02 : w.heap.size < w2.heap.size := by omega); (try have ha12 : w.heap.size + 1 < w2.heap.size := by omega); (try have ha22 : w.heap.size + 2 < w2.heap.size := by omega); (try have hal2 : w.heap.size ≤ w2.heap.size := by omega); (try have ham2 : w.heap.size < w2.heap.size + 2 := by omega)))
  have e1 : IntKind.i64.wrap ((y - 1).tdiv 400) = (y - 1) / 400 := ((by rw [Int.tdiv_eq_ediv_of_nonneg (by omega)]; exact IntWalk.i64_in _ (by omega)))
  have e2 : (y - 1).tmod 400 = (y - 1) % 400 := Int.tmod_eq_emod_of_nonneg (by omega)
  have e3 : IntKind.i64.wrap ((y - 1) / 400 * 146097) = (y - 1) / 400 * 146097 := IntWalk.i64_in _ (by omega)
  have e4 : IntKind.i64.wrap ((y - 1) / 400 * 146097 + Cal.ahead ((y - 1) % 400)) = (y - 1) / 400 * 146097 + Cal.ahead ((y - 1) % 400) := IntWalk.i64_in _ (by omega)
  have e5 : IntKind.i64.wrap ((y - 1) / 400 * 146097 + Cal.ahead ((y - 1) % 400) + Cal.march (m + 9)) = (y - 1) / 400 * 146097 + Cal.ahead ((y - 1) % 400) + Cal.march (m + 9) := IntWalk.i64_in _ (by omega)
  have e6 : IntKind.i64.wrap ((y - 1) / 400 * 146097 + Cal.ahead ((y - 1) % 400) + Cal.march (m + 9) + d) = (y - 1) / 400 * 146097 + Cal.ahead ((y - 1) % 400) + Cal.march (m + 9) + d := IntWalk.i64_in _ (by omega)
  have e7 : IntKind.i64.wrap ((y - 1) / 400 * 146097 + Cal.ahead ((y - 1) % 400) + Cal.march (m + 9) + d - 1) = (y - 1) / 400 * 146097 + Cal.ahead ((y - 1) % 400) + Cal.march (m + 9) + d - 1 := IntWalk.i64_in _ (by omega)
  have e8 : IntKind.i64.wrap ((y - 1) / 400 * 146097 + Cal.ahead ((y - 1) % 400) + Cal.march (m + 9) + d - 1 - 719468) = Cal.num y m d := (IntWalk.i64_in _ (by omega)).trans HN.out
  go_quiet (first | (go_at_call 40; exact Calls.quiet_of_same ((cal_ahead _ _ (by clear e1 e2 e3 e4 e5 e6 e7 e8; omega) (by clear e1 e2 e3 e4 e5 e6 e7 e8; omega)).mono (fun _ _ h => ⟨h.1, h.2.symm⟩))) | (go_at_call 41; exact Calls.quiet_of_same ((cal_march _ _ (by clear e1 e2 e3 e4 e5 e6 e7 e8; omega) (by clear e1 e2 e3 e4 e5 e6 e7 e8; omega)).mono (fun _ _ h => ⟨h.1, h.2.symm⟩))))
  clear e1 e2 e3 e4 e5 e6 e7 e8
  go_wp2
  go_ret2
  go_light
  exact ⟨rfl, by (repeat' (first | (with_reducible exact Below.refl _ _) | (with_reducible assumption) | (with_reducible refine Below.trans ?_ (Below.mono (by with_reducible assumption) ?_)) | (with_reducible refine Below.alloc ?_ ?_ _) | (with_reducible refine Below.setCell ?_ ?_ _) | (with_reducible refine below_drewN ?_ _) | (with_reducible refine Below.drew ?_) | go_size))⟩
theorem cal_days_yes (y m d : Int) (w : World) (h : Cal.Vld y m d) :
    Calls Tryd.prog 66 #[.agg #[.int .i64 y, .int .i64 m, .int .i64 d]] w fun e w' => e = .returned (.tuple #[.int .i64 (Cal.num y m d), .int .i64 0]) ∧ Below w.heap.size w w' := by
  by_cases h3 : m < 3
  · exact cal_days_early y m d w h h3
  · exact cal_days_late y m d w h (by omega)
end Go.Proofs.YtonleiffbfdikaaDoor
