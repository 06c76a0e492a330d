/- meridianref2.Is, Days. -/
import Derived.Test.YtklahiogcpojmaaRef2A
set_option linter.unusedSimpArgs false
set_option linter.unusedVariables false
namespace Go.Proofs.Ytklahiogcpojmaa
open Go.RowKit

set_option maxHeartbeats 1000000 in
theorem ref2_is_yes (y m d : Int) (w : World) (h : Cal.Vld y m d) :
    Calls Try.prog 40 #[.agg #[.int .i64 y, .int .i64 m, .int .i64 d]] w fun e w' => e = .returned (.bool true) ∧ Below w.heap.size w w' := by
  obtain ⟨a1, a2, a3, a4, a5, a6⟩ := h
  have hd := Cal.dim_bd y m
  go_enter Try.func40, Try.ntmps40
  go_wp2
  go_quiet ((go_at_call 50; exact Calls.quiet_of_same ((ref2_length y m _ (by omega) (by omega)).mono (fun _ _ h => ⟨h.1, h.2.symm⟩))))
  go_wp2
  go_ret
  exact ⟨rfl, by (repeat' (first | (with_reducible exact Below.refl _ _) | (with_reducible assumption) | (with_reducible refine Below.trans ?_ (Below.mono (by with_reducible assumption) ?_)) | (with_reducible refine Below.alloc ?_ ?_ _) | (with_reducible refine Below.setCell ?_ ?_ _) | (with_reducible refine below_drewN ?_ _) | (with_reducible refine Below.drew ?_) | go_size))⟩
set_option maxHeartbeats 2000000 in
theorem ref2_is_no (y m d : Int) (w : World) (h : ¬ Cal.Vld y m d) :
    Calls Try.prog 40 #[.agg #[.int .i64 y, .int .i64 m, .int .i64 d]] w fun e w' => e = .returned (.bool false) ∧ Below w.heap.size w w' := by
  have hd := Cal.dim_bd y m
  by_cases a1 : 1 ≤ y
  · by_cases a2 : y ≤ 9999
    · by_cases a3 : 1 ≤ m
      · by_cases a4 : m ≤ 12
        · by_cases a5 : 1 ≤ d
          · have a6 : ¬ d ≤ Cal.dim y m := fun h6 => h ⟨a1, a2, a3, a4, a5, h6⟩
            clear h
            have b6 : decide (d ≤ Cal.dim y m) = false := by simpa using a6
            go_enter Try.func40, Try.ntmps40
            go_wp2
            go_quiet ((go_at_call 50; exact Calls.quiet_of_same ((ref2_length y m _ (by omega) (by omega)).mono (fun _ _ h => ⟨h.1, h.2.symm⟩))))
            go_wp2
            go_ret
            exact ⟨rfl, by (repeat' (first | (with_reducible exact Below.refl _ _) | (with_reducible assumption) | (with_reducible refine Below.trans ?_ (Below.mono (by with_reducible assumption) ?_)) | (with_reducible refine Below.alloc ?_ ?_ _) | (with_reducible refine Below.setCell ?_ ?_ _) | (with_reducible refine below_drewN ?_ _) | (with_reducible refine Below.drew ?_) | go_size))⟩
          · clear h
            have b5 : decide (1 ≤ d) = false := by simpa using a5
            go_enter Try.func40, Try.ntmps40
            go_wp2
            go_quiet (fail)
            go_wp2
            go_ret
            exact ⟨rfl, by (repeat' (first | (with_reducible exact Below.refl _ _) | (with_reducible assumption) | (with_reducible refine Below.trans ?_ (Below.mono (by with_reducible assumption) ?_)) | (with_reducible refine Below.alloc ?_ ?_ _) | (with_reducible refine Below.setCell ?_ ?_ _) | (with_reducible refine below_drewN ?_ _) | (with_reducible refine Below.drew ?_) | go_size))⟩
        · clear h
          have b4 : decide (m ≤ 12) = false := by simpa using a4
          go_enter Try.func40, Try.ntmps40
          go_wp2
          go_quiet (fail)
          go_wp2
          go_ret
          exact ⟨rfl, by (repeat' (first | (with_reducible exact Below.refl _ _) | (with_reducible assumption) | (with_reducible refine Below.trans ?_ (Below.mono (by with_reducible assumption) ?_)) | (with_reducible refine Below.alloc ?_ ?_ _) | (with_reducible refine Below.setCell ?_ ?_ _) | (with_reducible refine below_drewN ?_ _) | (with_reducible refine Below.drew ?_) | go_size))⟩
      · clear h
        have b3 : decide (1 ≤ m) = false := by simpa using a3
        go_enter Try.func40, Try.ntmps40
        go_wp2
        go_quiet (fail)
        go_wp2
        go_ret
        exact ⟨rfl, by (repeat' (first | (with_reducible exact Below.refl _ _) | (with_reducible assumption) | (with_reducible refine Below.trans ?_ (Below.mono (by with_reducible assumption) ?_)) | (with_reducible refine Below.alloc ?_ ?_ _) | (with_reducible refine Below.setCell ?_ ?_ _) | (with_reducible refine below_drewN ?_ _) | (with_reducible refine Below.drew ?_) | go_size))⟩
    · clear h
      have b2 : decide (y ≤ 9999) = false := by simpa using a2
      go_enter Try.func40, Try.ntmps40
      go_wp2
      go_quiet (fail)
      go_wp2
      go_ret
      exact ⟨rfl, by (repeat' (first | (with_reducible exact Below.refl _ _) | (with_reducible assumption) | (with_reducible refine Below.trans ?_ (Below.mono (by with_reducible assumption) ?_)) | (with_reducible refine Below.alloc ?_ ?_ _) | (with_reducible refine Below.setCell ?_ ?_ _) | (with_reducible refine below_drewN ?_ _) | (with_reducible refine Below.drew ?_) | go_size))⟩
  · clear h
    have b1 : decide (1 ≤ y) = false := by simpa using a1
    go_enter Try.func40, Try.ntmps40
    go_wp2
    go_quiet (fail)
    go_wp2
    go_ret
    exact ⟨rfl, by (repeat' (first | (with_reducible exact Below.refl _ _) | (with_reducible assumption) | (with_reducible refine Below.trans ?_ (Below.mono (by with_reducible assumption) ?_)) | (with_reducible refine Below.alloc ?_ ?_ _) | (with_reducible refine Below.setCell ?_ ?_ _) | (with_reducible refine below_drewN ?_ _) | (with_reducible refine Below.drew ?_) | go_size))⟩

theorem ref2_days_no (y m d : Int) (w : World) (h : ¬ Cal.Vld y m d) :
    Calls Try.prog 26 #[.agg #[.int .i64 y, .int .i64 m, .int .i64 d]] w fun e w' => e = .returned (.tuple #[.int .i64 0, .int .i64 1]) ∧ Below w.heap.size w w' := by
  go_enter Try.func26, Try.ntmps26
  go_wp2_with (go_at_call 40; refine (ref2_is_no y m d _ h).mono ?_; rintro e w1 ⟨rfl, hb1⟩; obtain ⟨hc1, hf1⟩ := bcell hb1; have hz1 := hb1.size; (try simp only [World.size_alloc, World.size_setCell, World.heap_drewN] at hb1 hc1 hf1 hz1); (try have ha01 : w.heap.size < w1.heap.size := by omega); (try have ha11 : w.heap.size + 1 < w1.heap.size := by omega); (try have ha21 : w.heap.size + 2 < w1.heap.size := by omega); (try have hal1 : w.heap.size ≤ w1.heap.size := by omega); (try have ham1 : w.heap.size < w1.heap.size + 2 := by omega))
  go_ret2
  go_light
  exact ⟨rfl, by (repeat' (first | (with_reducible exact Below.refl _ _) | (with_reducible assumption) | (with_reducible refine Below.trans ?_ (Below.mono (by with_reducible assumption) ?_)) | (with_reducible refine Below.alloc ?_ ?_ _) | (with_reducible refine Below.setCell ?_ ?_ _) | (with_reducible refine below_drewN ?_ _) | (with_reducible refine Below.drew ?_) | go_size))⟩
set_option maxHeartbeats 1000000 in
theorem ref2_days_yes (y m d : Int) (w : World) (h : Cal.Vld y m d) :
    Calls Try.prog 26 #[.agg #[.int .i64 y, .int .i64 m, .int .i64 d]] w fun e w' => e = .returned (.tuple #[.int .i64 (Cal.num y m d), .int .i64 0]) ∧ Below w.heap.size w w' := by
  have h' := h
  obtain ⟨a1, a2, a3, a4, a5, a6⟩ := h'
  have hd := (Cal.dim_bd y m).2
  have b1 := Cal.yr_bd y a1 (by omega)
  have b2 := Cal.cum_bd y m a3 (by omega)
  have HN : Hid (Cal.yr y + Cal.cum y m + d - 1 - 719162 = Cal.num y m d) := rfl
  go_enter Try.func26, Try.ntmps26
  go_wp2_with (go_at_call 40; refine (ref2_is_yes y m d _ h).mono ?_; rintro e w1 ⟨rfl, hb1⟩; obtain ⟨hc1, hf1⟩ := bcell hb1; have hz1 := hb1.size; (try simp only [World.size_alloc, World.size_setCell, World.heap_drewN] at hb1 hc1 hf1 hz1); (try have ha01 : w.heap.size < w1.heap.size := by omega); (try have ha11 : w.heap.size + 1 < w1.heap.size := by omega); (try have ha21 : w.heap.size + 2 < w1.heap.size := by omega); (try have hal1 : w.heap.size ≤ w1.heap.size := by omega); (try have ham1 : w.heap.size < w1.heap.size + 2 := by omega))
  have e5 : IntKind.i64.wrap (Cal.yr y + Cal.cum y m) = Cal.yr y + Cal.cum y m := IntWalk.i64_in _ (by omega)
  have e6 : IntKind.i64.wrap (Cal.yr y + Cal.cum y m + d) = Cal.yr y + Cal.cum y m + d := IntWalk.i64_in _ (by omega)
  have e7 : IntKind.i64.wrap (Cal.yr y + Cal.cum y m + d - 1) = Cal.yr y + Cal.cum y m + d - 1 := IntWalk.i64_in _ (by omega)
  have e8 : IntKind.i64.wrap (Cal.yr y + Cal.cum y m + d - 1 - Cal.yr 1970) = Cal.num y m d := by rw [yr_1970]; exact (IntWalk.i64_in _ (by omega)).trans HN.out
  go_quiet (first | (go_at_call 42; exact Calls.quiet_of_same ((ref2_month y m _ a1 (by clear e5 e6 e7 e8; omega) a3 (by clear e5 e6 e7 e8; omega)).mono (fun _ _ h => ⟨h.1, h.2.symm⟩))) | (go_at_call 41; exact Calls.quiet_of_same ((ref2_year _ _ (by clear e5 e6 e7 e8; omega) (by clear e5 e6 e7 e8; omega)).mono (fun _ _ h => ⟨h.1, h.2.symm⟩))))
  clear e5 e6 e7 e8
  go_wp2
  go_ret2
  go_light
  exact ⟨rfl, by (repeat' (first | (with_reducible exact Below.refl _ _) | (with_reducible assumption) | (with_reducible refine Below.trans ?_ (Below.mono (by with_reducible assumption) ?_)) | (with_reducible refine Below.alloc ?_ ?_ _) | (with_reducible refine Below.setCell ?_ ?_ _) | (with_reducible refine below_drewN ?_ _) | (with_reducible refine Below.drew ?_) | go_size))⟩
end Go.Proofs.Ytklahiogcpojmaa
