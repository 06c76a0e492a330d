/- The laws of stage 5, walked: EraBack, EraLeap, EraOrder, EraAnew. -/
import Derived.Test.YtdnogninikenlaaS5
set_option linter.unusedSimpArgs false
set_option linter.unusedVariables false
namespace Go.Proofs.Ytdnogninikenlaa
open Go.RowKit

theorem stampOf_div (day nano : Int) (h0 : 0 ≤ nano) : stampOf day nano / 4294967296 = secsOf day nano % 4294967296 ∧ stampOf day nano % 4294967296 = partOf nano ∧ 0 ≤ stampOf day nano ∧ stampOf day nano < 18446744073709551616 := by
  have p0 : 0 ≤ partOf nano ∧ partOf nano < 4294967296 := by unfold partOf cutNano; split <;> omega
  unfold stampOf; omega
theorem near_back (day nano away : Int) (h1 : dayB day = true) (h2 : dayB (day + away) = true) (n0 : 0 ≤ nano) (n1 : nano < 86400000000000) (w0 : -24820 ≤ away) (w1 : away ≤ 24820) :
    nearR (stampOf day nano) (day + away) = .tuple #[.agg #[.int .i64 day, .int .i64 nano], .int .i64 0] := by
  obtain ⟨e1, e2, _, _⟩ := stampOf_div day nano n0
  have c : cutNano nano = nano := by unfold cutNano; rw [if_pos (by omega)]
  have hS : secsOf day nano = (day + 25567) * 86400 + nano / 1000000000 := by unfold secsOf; rw [c]
  have hP : partOf nano = nano % 1000000000 * 4294967296 / 1000000000 := by unfold partOf; rw [c]
  have hT : nearT (stampOf day nano) (day + away) = secsOf day nano := by
    unfold nearT; rw [e1, hS]; split <;> omega
  have hD : nearDay (stampOf day nano) (day + away) = day := by unfold nearDay; rw [hT, hS]; omega
  have hN : nearN (stampOf day nano) = nano % 1000000000 := by
    unfold nearN; rw [e2, hP]; split <;> omega
  have hM : nearNano (stampOf day nano) (day + away) = nano := by unfold nearNano; rw [hT, hN, hS]; omega
  unfold nearR
  rw [if_pos h2, hD, if_pos h1, hM]
theorem momOk_mk {day nano : Int} (h1 : -719162 ≤ day) (h2 : day ≤ 2932896) (h3 : 0 ≤ nano) (h4 : nano < 86401000000000) : momOk day nano = true := by
  simp [momOk, dayB_mk h1 h2, h3, h4]
set_option maxHeartbeats 1000000 in
theorem eraBack_out (a b c : Int) (w : World) (h : a < -600000 ∨ (-600000 ≤ a ∧ 2900000 < a) ∨ (-600000 ≤ a ∧ a ≤ 2900000 ∧ b < 0) ∨ (-600000 ≤ a ∧ a ≤ 2900000 ∧ 0 ≤ b ∧ 86400000000000 ≤ b) ∨ (-600000 ≤ a ∧ a ≤ 2900000 ∧ 0 ≤ b ∧ b < 86400000000000 ∧ c < -24820) ∨ (-600000 ≤ a ∧ a ≤ 2900000 ∧ 0 ≤ b ∧ b < 86400000000000 ∧ -24820 ≤ c ∧ 24820 < c)) :
    Calls Try.prog 5 #[.int .i64 a, .int .i64 b, .int .i64 c] w fun e w' => e = .returned (.bool true) ∧ Below w.heap.size w w' := by
  rcases h with h | ⟨h1, h⟩ | ⟨h1, h2, h⟩ | ⟨h1, h2, h3, h⟩ | ⟨h1, h2, h3, h4, h⟩ | ⟨h1, h2, h3, h4, h5, h⟩
  all_goals
    go_enter Try.func5, Try.ntmps5
    go_wp2_with (go_at_call 11; refine (known5 _).mono ?_; rintro e w5 ⟨rfl, hb5⟩; obtain ⟨hc5, hf5⟩ := bcell hb5; have hz5 := hb5.size; (try simp only [World.size_alloc, World.size_setCell, World.heap_drewN] at hb5 hc5 hf5 hz5); (try have ha05 : w.heap.size < w5.heap.size := by omega); (try have ha15 : w.heap.size + 1 < w5.heap.size := by omega); (try have ha25 : w.heap.size + 2 < w5.heap.size := by omega); (try have hal5 : w.heap.size ≤ w5.heap.size := by omega); (try have ham5 : w.heap.size < w5.heap.size + 2 := by omega))
    go_ret
    go_light
    exact ⟨rfl, by (repeat' (first | (with_reducible exact Below.refl _ _) | (with_reducible assumption) | (with_reducible refine Below.trans ?_ (Below.mono (by with_reducible assumption) ?_)) | (with_reducible refine Below.alloc ?_ ?_ _) | (with_reducible refine Below.setCell ?_ ?_ _) | (with_reducible refine below_drewN ?_ _) | (with_reducible refine Below.drew ?_) | go_size))⟩
set_option maxHeartbeats 1000000 in
theorem eraBack_in (a b c : Int) (w : World) (h1 : -600000 ≤ a) (h2 : a ≤ 2900000) (h3 : 0 ≤ b) (h4 : b < 86400000000000) (h5 : -24820 ≤ c) (h6 : c ≤ 24820) :
    Calls Try.prog 5 #[.int .i64 a, .int .i64 b, .int .i64 c] w fun e w' => e = .returned (.bool true) ∧ Below w.heap.size w w' := by
  obtain ⟨_, _, b0, b1⟩ := stampOf_div a b h3
  have HS : Hid (momOk a b = true) := momOk_mk (by omega) (by omega) h3 (by omega)
  have HN : Hid (∀ w, Calls Try.prog 12 #[.int .u64 (stampOf a b), .int .i64 (a + c)] w fun e w' => e = .returned (.tuple #[.agg #[.int .i64 a, .int .i64 b], .int .i64 0]) ∧ Below w.heap.size w w') := by
    intro w
    have := era_near (stampOf a b) (a + c) w b0 b1
    rwa [near_back a b c (dayB_mk (by omega) (by omega)) (dayB_mk (by omega) (by omega)) h3 h4 h5 h6] at this
  go_enter Try.func5, Try.ntmps5
  go_wp2_with (first | (go_at_call 9; refine (era_stamp_yes a b _ HS.out).mono ?_; rintro e w1 ⟨rfl, hb1⟩; obtain ⟨hc1, hf1⟩ := bcell hb1; have hz1 := hb1.size; (try simp only [World.size_alloc, World.size_setCell, World.heap_drewN] at hb1 hc1 hf1 hz1); (try have ha01 : w.heap.size < w1.heap.size := by omega); (try have ha11 : w.heap.size + 1 < w1.heap.size := by omega); (try have ha21 : w.heap.size + 2 < w1.heap.size := by omega); (try have hal1 : w.heap.size ≤ w1.heap.size := by omega); (try have ham1 : w.heap.size < w1.heap.size + 2 := by omega)) | (go_at_call 12; refine (HN.out _).mono ?_; rintro e w2 ⟨rfl, hb2⟩; obtain ⟨hc2, hf2⟩ := bcell hb2; have hz2 := hb2.size; (try simp only [World.size_alloc, World.size_setCell, World.heap_drewN] at hb2 hc2 hf2 hz2); (try have ha02 : w.heap.size < w2.heap.size := by omega); (try have ha12 : w.heap.size + 1 < w2.heap.size := by omega); (try have ha22 : w.heap.size + 2 < w2.heap.size := by omega); (try have hal2 : w.heap.size ≤ w2.heap.size := by omega); (try have ham2 : w.heap.size < w2.heap.size + 2 := by omega)) | (go_at_call 11; refine (known5 _).mono ?_; rintro e w3 ⟨rfl, hb3⟩; obtain ⟨hc3, hf3⟩ := bcell hb3; have hz3 := hb3.size; (try simp only [World.size_alloc, World.size_setCell, World.heap_drewN] at hb3 hc3 hf3 hz3); (try have ha03 : w.heap.size < w3.heap.size := by omega); (try have ha13 : w.heap.size + 1 < w3.heap.size := by omega); (try have ha23 : w.heap.size + 2 < w3.heap.size := by omega); (try have hal3 : w.heap.size ≤ w3.heap.size := by omega); (try have ham3 : w.heap.size < w3.heap.size + 2 := by omega); (try have hb03 : w2.heap.size < w3.heap.size := by omega); (try have hb13 : w2.heap.size + 1 < w3.heap.size := by omega); (try have hb23 : w2.heap.size + 2 < w3.heap.size := by omega); (try have hbl3 : w2.heap.size ≤ w3.heap.size := by omega); (try have hbm3 : w2.heap.size < w3.heap.size + 2 := by omega)))
  go_ret
  go_light
  exact ⟨rfl, by (repeat' (first | (with_reducible exact Below.refl _ _) | (with_reducible assumption) | (with_reducible refine Below.trans ?_ (Below.mono (by with_reducible assumption) ?_)) | (with_reducible refine Below.alloc ?_ ?_ _) | (with_reducible refine Below.setCell ?_ ?_ _) | (with_reducible refine below_drewN ?_ _) | (with_reducible refine Below.drew ?_) | go_size))⟩
set_option maxHeartbeats 1000000 in
theorem eraLeap_out (a b : Int) (w : World) (h : a < -100000 ∨ (-100000 ≤ a ∧ 100000 < a) ∨ (-100000 ≤ a ∧ a ≤ 100000 ∧ b < 0) ∨ (-100000 ≤ a ∧ a ≤ 100000 ∧ 0 ≤ b ∧ 1000000000 ≤ b)) :
    Calls Try.prog 6 #[.int .i64 a, .int .i64 b] w fun e w' => e = .returned (.bool true) ∧ Below w.heap.size w w' := by
  rcases h with h | ⟨h1, h⟩ | ⟨h1, h2, h⟩ | ⟨h1, h2, h3, h⟩
  all_goals
    go_enter Try.func6, Try.ntmps6
    go_wp2_with (go_at_call 11; refine (known5 _).mono ?_; rintro e w5 ⟨rfl, hb5⟩; obtain ⟨hc5, hf5⟩ := bcell hb5; have hz5 := hb5.size; (try simp only [World.size_alloc, World.size_setCell, World.heap_drewN] at hb5 hc5 hf5 hz5); (try have ha05 : w.heap.size < w5.heap.size := by omega); (try have ha15 : w.heap.size + 1 < w5.heap.size := by omega); (try have ha25 : w.heap.size + 2 < w5.heap.size := by omega); (try have hal5 : w.heap.size ≤ w5.heap.size := by omega); (try have ham5 : w.heap.size < w5.heap.size + 2 := by omega))
    go_ret
    go_light
    exact ⟨rfl, by (repeat' (first | (with_reducible exact Below.refl _ _) | (with_reducible assumption) | (with_reducible refine Below.trans ?_ (Below.mono (by with_reducible assumption) ?_)) | (with_reducible refine Below.alloc ?_ ?_ _) | (with_reducible refine Below.setCell ?_ ?_ _) | (with_reducible refine below_drewN ?_ _) | (with_reducible refine Below.drew ?_) | go_size))⟩
set_option maxHeartbeats 1000000 in
theorem eraLeap_in (a b : Int) (w : World) (h1 : -100000 ≤ a) (h2 : a ≤ 100000) (h3 : 0 ≤ b) (h4 : b < 1000000000) :
    Calls Try.prog 6 #[.int .i64 a, .int .i64 b] w fun e w' => e = .returned (.bool true) ∧ Below w.heap.size w w' := by
  have H1 : Hid (momOk a (86400000000000 + b) = true) := momOk_mk (by omega) (by omega) (by omega) (by omega)
  have H2 : Hid (momOk a 86399999999999 = true) := momOk_mk (by omega) (by omega) (by omega) (by omega)
  have H3 : Hid (momOk a 86401000000000 = false) := by show _ = _; simp [momOk]
  have E : stampOf a (86400000000000 + b) = stampOf a 86399999999999 := by
    have c1 : cutNano (86400000000000 + b) = 86399999999999 := by unfold cutNano; rw [if_neg (by omega)]
    have c2 : cutNano 86399999999999 = 86399999999999 := by decide
    unfold stampOf secsOf partOf; rw [c1, c2]
  have HE := Lib.hid E
  clear E
  go_enter Try.func6, Try.ntmps6
  go_wp2_with fail
  refine (era_stamp_yes _ _ _ H1.out).mono ?_; rintro e w1 ⟨rfl, hb1⟩; obtain ⟨hc1, hf1⟩ := bcell hb1; have hz1 := hb1.size; (try simp only [World.size_alloc, World.size_setCell, World.heap_drewN] at hb1 hc1 hf1 hz1); (try have ha01 : w.heap.size < w1.heap.size := by omega); (try have ha11 : w.heap.size + 1 < w1.heap.size := by omega); (try have ha21 : w.heap.size + 2 < w1.heap.size := by omega); (try have hal1 : w.heap.size ≤ w1.heap.size := by omega); (try have ham1 : w.heap.size < w1.heap.size + 2 := by omega)
  rw [HE.out]
  go_wp2_with fail
  refine (era_stamp_yes _ _ _ H2.out).mono ?_; rintro e w2 ⟨rfl, hb2⟩; obtain ⟨hc2, hf2⟩ := bcell hb2; have hz2 := hb2.size; (try simp only [World.size_alloc, World.size_setCell, World.heap_drewN] at hb2 hc2 hf2 hz2); (try have ha02 : w.heap.size < w2.heap.size := by omega); (try have ha12 : w.heap.size + 1 < w2.heap.size := by omega); (try have ha22 : w.heap.size + 2 < w2.heap.size := by omega); (try have hal2 : w.heap.size ≤ w2.heap.size := by omega); (try have ham2 : w.heap.size < w2.heap.size + 2 := by omega)
  go_wp2_with fail
  refine (era_stamp_no _ _ _ H3.out).mono ?_; rintro e w3 ⟨rfl, hb3⟩; obtain ⟨hc3, hf3⟩ := bcell hb3; have hz3 := hb3.size; (try simp only [World.size_alloc, World.size_setCell, World.heap_drewN] at hb3 hc3 hf3 hz3); (try have ha03 : w.heap.size < w3.heap.size := by omega); (try have ha13 : w.heap.size + 1 < w3.heap.size := by omega); (try have ha23 : w.heap.size + 2 < w3.heap.size := by omega); (try have hal3 : w.heap.size ≤ w3.heap.size := by omega); (try have ham3 : w.heap.size < w3.heap.size + 2 := by omega)
  go_wp2_with (go_at_call 11; refine (known5 _).mono ?_; rintro e w5 ⟨rfl, hb5⟩; obtain ⟨hc5, hf5⟩ := bcell hb5; have hz5 := hb5.size; (try simp only [World.size_alloc, World.size_setCell, World.heap_drewN] at hb5 hc5 hf5 hz5); (try have ha05 : w.heap.size < w5.heap.size := by omega); (try have ha15 : w.heap.size + 1 < w5.heap.size := by omega); (try have ha25 : w.heap.size + 2 < w5.heap.size := by omega); (try have hal5 : w.heap.size ≤ w5.heap.size := by omega); (try have ham5 : w.heap.size < w5.heap.size + 2 := by omega))
  go_ret
  go_light
  exact ⟨rfl, by (repeat' (first | (with_reducible exact Below.refl _ _) | (with_reducible assumption) | (with_reducible refine Below.trans ?_ (Below.mono (by with_reducible assumption) ?_)) | (with_reducible refine Below.alloc ?_ ?_ _) | (with_reducible refine Below.setCell ?_ ?_ _) | (with_reducible refine below_drewN ?_ _) | (with_reducible refine Below.drew ?_) | go_size))⟩
end Go.Proofs.Ytdnogninikenlaa
