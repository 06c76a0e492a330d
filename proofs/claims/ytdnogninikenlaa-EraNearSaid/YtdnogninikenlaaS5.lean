/- The laws of stage 5, walked. -/
import Derived.Test.YtdnogninikenlaaEraNear
import Derived.Test.YtdnogninikenlaaRef2B
import Derived.Test.YtdnogninikenlaaLaw
set_option linter.unusedSimpArgs false
set_option linter.unusedVariables false
namespace Go.Proofs.Ytdnogninikenlaa
open Go.RowKit

theorem vld_era : Cal.Vld 2036 2 7 := by unfold Cal.Vld; decide
theorem num_era : Cal.num 2036 2 7 = 24143 := by decide
theorem stamp_era : stampOf 24143 23296000000000 = 0 := by decide
theorem near_era : nearR 0 24143 = .tuple #[.agg #[.int .i64 24143, .int .i64 23296000000000], .int .i64 0] := by
  have h1 : nearDay 0 24143 = 24143 := by decide
  have h2 : nearNano 0 24143 = 23296000000000 := by decide
  have h3 : dayB 24143 = true := by decide
  unfold nearR
  rw [if_pos h3, h1, if_pos h3, h2]
set_option maxHeartbeats 400000 in
theorem known5 (w : World) : Calls Try.prog 11 #[] w fun e w' => e = .returned (.bool true) ∧ Below w.heap.size w w' := by
  have HK : ∀ w : World, Calls Try.prog 18 #[.agg #[.int .i64 2036, .int .i64 2, .int .i64 7]] w fun e w' => e = .returned (.tuple #[.int .i64 24143, .int .i64 0]) ∧ Below w.heap.size w w' := fun w => by have := ref2_days_yes 2036 2 7 w vld_era; rwa [num_era] at this
  have HS : ∀ w : World, Calls Try.prog 9 #[.agg #[.int .i64 24143, .int .i64 23296000000000]] w fun e w' => e = .returned (.tuple #[.int .u64 0, .int .i64 0]) ∧ Below w.heap.size w w' := fun w => by have := era_stamp_yes 24143 23296000000000 w (by decide); rwa [stamp_era] at this
  have HN : ∀ w : World, Calls Try.prog 12 #[.int .u64 0, .int .i64 24143] w fun e w' => e = .returned (.tuple #[.agg #[.int .i64 24143, .int .i64 23296000000000], .int .i64 0]) ∧ Below w.heap.size w w' := fun w => by have := era_near 0 24143 w (by decide) (by decide); rwa [near_era] at this
  have K := Lib.hid HK
  have S := Lib.hid HS
  have N := Lib.hid HN
  clear HK HS HN
  go_enter Try.func11, Try.ntmps11
  go_wp2_with (first | (go_at_call 18; refine (K.out _).mono ?_; rintro e w1 ⟨rfl, hb1⟩; obtain ⟨hc1, hf1⟩ := bcell hb1; have hz1 := hb1.size; (try simp only [World.size_alloc, World.size_setCell, World.heap_drewN] at hb1 hc1 hf1 hz1); (try have ha01 : w.heap.size < w1.heap.size := by omega); (try have ha11 : w.heap.size + 1 < w1.heap.size := by omega); (try have ha21 : w.heap.size + 2 < w1.heap.size := by omega); (try have hal1 : w.heap.size ≤ w1.heap.size := by omega); (try have ham1 : w.heap.size < w1.heap.size + 2 := by omega)) | (go_at_call 9; refine (S.out _).mono ?_; rintro e w2 ⟨rfl, hb2⟩; obtain ⟨hc2, hf2⟩ := bcell hb2; have hz2 := hb2.size; (try simp only [World.size_alloc, World.size_setCell, World.heap_drewN] at hb2 hc2 hf2 hz2); (try have ha02 : w.heap.size < w2.heap.size := by omega); (try have ha12 : w.heap.size + 1 < w2.heap.size := by omega); (try have ha22 : w.heap.size + 2 < w2.heap.size := by omega); (try have hal2 : w.heap.size ≤ w2.heap.size := by omega); (try have ham2 : w.heap.size < w2.heap.size + 2 := by omega)) | (go_at_call 12; refine (N.out _).mono ?_; rintro e w3 ⟨rfl, hb3⟩; obtain ⟨hc3, hf3⟩ := bcell hb3; have hz3 := hb3.size; (try simp only [World.size_alloc, World.size_setCell, World.heap_drewN] at hb3 hc3 hf3 hz3); (try have ha03 : w.heap.size < w3.heap.size := by omega); (try have ha13 : w.heap.size + 1 < w3.heap.size := by omega); (try have ha23 : w.heap.size + 2 < w3.heap.size := by omega); (try have hal3 : w.heap.size ≤ w3.heap.size := by omega); (try have ham3 : w.heap.size < w3.heap.size + 2 := by omega)))
  go_ret
  go_light
  exact ⟨rfl, by (repeat' (first | (with_reducible exact Below.refl _ _) | (with_reducible assumption) | (with_reducible refine Below.trans ?_ (Below.mono (by with_reducible assumption) ?_)) | (with_reducible refine Below.alloc ?_ ?_ _) | (with_reducible refine Below.setCell ?_ ?_ _) | (with_reducible refine below_drewN ?_ _) | (with_reducible refine Below.drew ?_) | go_size))⟩
set_option maxHeartbeats 400000 in
theorem eraStamps_yes (day nano : Int) (w : World) (h : momOk day nano = true) : Calls Try.prog 3 #[.agg #[.int .i64 day, .int .i64 nano]] w fun e w' => e = .returned (.bool true) ∧ Below w.heap.size w w' := by
  have H := Lib.hid h
  clear h
  go_enter Try.func3, Try.ntmps3
  go_wp2_with (first | (go_at_call 9; refine (era_stamp_yes day nano _ H.out).mono ?_; rintro e w1 ⟨rfl, hb1⟩; obtain ⟨hc1, hf1⟩ := bcell hb1; have hz1 := hb1.size; (try simp only [World.size_alloc, World.size_setCell, World.heap_drewN] at hb1 hc1 hf1 hz1); (try have ha01 : w.heap.size < w1.heap.size := by omega); (try have ha11 : w.heap.size + 1 < w1.heap.size := by omega); (try have ha21 : w.heap.size + 2 < w1.heap.size := by omega); (try have hal1 : w.heap.size ≤ w1.heap.size := by omega); (try have ham1 : w.heap.size < w1.heap.size + 2 := by omega)) | (go_at_call 10; refine (ref5_stamp_yes day nano _ H.out).mono ?_; rintro e w2 ⟨rfl, hb2⟩; obtain ⟨hc2, hf2⟩ := bcell hb2; have hz2 := hb2.size; (try simp only [World.size_alloc, World.size_setCell, World.heap_drewN] at hb2 hc2 hf2 hz2); (try have ha02 : w.heap.size < w2.heap.size := by omega); (try have ha12 : w.heap.size + 1 < w2.heap.size := by omega); (try have ha22 : w.heap.size + 2 < w2.heap.size := by omega); (try have hal2 : w.heap.size ≤ w2.heap.size := by omega); (try have ham2 : w.heap.size < w2.heap.size + 2 := by omega)) | (go_at_call 11; refine (known5 _).mono ?_; rintro e w3 ⟨rfl, hb3⟩; obtain ⟨hc3, hf3⟩ := bcell hb3; have hz3 := hb3.size; (try simp only [World.size_alloc, World.size_setCell, World.heap_drewN] at hb3 hc3 hf3 hz3); (try have ha03 : w.heap.size < w3.heap.size := by omega); (try have ha13 : w.heap.size + 1 < w3.heap.size := by omega); (try have ha23 : w.heap.size + 2 < w3.heap.size := by omega); (try have hal3 : w.heap.size ≤ w3.heap.size := by omega); (try have ham3 : w.heap.size < w3.heap.size + 2 := by omega)))
  go_ret
  go_light
  exact ⟨rfl, by (repeat' (first | (with_reducible exact Below.refl _ _) | (with_reducible assumption) | (with_reducible refine Below.trans ?_ (Below.mono (by with_reducible assumption) ?_)) | (with_reducible refine Below.alloc ?_ ?_ _) | (with_reducible refine Below.setCell ?_ ?_ _) | (with_reducible refine below_drewN ?_ _) | (with_reducible refine Below.drew ?_) | go_size))⟩
set_option maxHeartbeats 400000 in
theorem eraStamps_no (day nano : Int) (w : World) (h : momOk day nano = false) : Calls Try.prog 3 #[.agg #[.int .i64 day, .int .i64 nano]] w fun e w' => e = .returned (.bool true) ∧ Below w.heap.size w w' := by
  have H := Lib.hid h
  clear h
  go_enter Try.func3, Try.ntmps3
  go_wp2_with (first | (go_at_call 9; refine (era_stamp_no day nano _ H.out).mono ?_; rintro e w1 ⟨rfl, hb1⟩; obtain ⟨hc1, hf1⟩ := bcell hb1; have hz1 := hb1.size; (try simp only [World.size_alloc, World.size_setCell, World.heap_drewN] at hb1 hc1 hf1 hz1); (try have ha01 : w.heap.size < w1.heap.size := by omega); (try have ha11 : w.heap.size + 1 < w1.heap.size := by omega); (try have ha21 : w.heap.size + 2 < w1.heap.size := by omega); (try have hal1 : w.heap.size ≤ w1.heap.size := by omega); (try have ham1 : w.heap.size < w1.heap.size + 2 := by omega)) | (go_at_call 10; refine (ref5_stamp_no day nano _ H.out).mono ?_; rintro e w2 ⟨rfl, hb2⟩; obtain ⟨hc2, hf2⟩ := bcell hb2; have hz2 := hb2.size; (try simp only [World.size_alloc, World.size_setCell, World.heap_drewN] at hb2 hc2 hf2 hz2); (try have ha02 : w.heap.size < w2.heap.size := by omega); (try have ha12 : w.heap.size + 1 < w2.heap.size := by omega); (try have ha22 : w.heap.size + 2 < w2.heap.size := by omega); (try have hal2 : w.heap.size ≤ w2.heap.size := by omega); (try have ham2 : w.heap.size < w2.heap.size + 2 := by omega)) | (go_at_call 11; refine (known5 _).mono ?_; rintro e w3 ⟨rfl, hb3⟩; obtain ⟨hc3, hf3⟩ := bcell hb3; have hz3 := hb3.size; (try simp only [World.size_alloc, World.size_setCell, World.heap_drewN] at hb3 hc3 hf3 hz3); (try have ha03 : w.heap.size < w3.heap.size := by omega); (try have ha13 : w.heap.size + 1 < w3.heap.size := by omega); (try have ha23 : w.heap.size + 2 < w3.heap.size := by omega); (try have hal3 : w.heap.size ≤ w3.heap.size := by omega); (try have ham3 : w.heap.size < w3.heap.size + 2 := by omega)))
  go_ret
  go_light
  exact ⟨rfl, by (repeat' (first | (with_reducible exact Below.refl _ _) | (with_reducible assumption) | (with_reducible refine Below.trans ?_ (Below.mono (by with_reducible assumption) ?_)) | (with_reducible refine Below.alloc ?_ ?_ _) | (with_reducible refine Below.setCell ?_ ?_ _) | (with_reducible refine below_drewN ?_ _) | (with_reducible refine Below.drew ?_) | go_size))⟩
theorem nearR_cases (s day : Int) : ∃ a b e : Int, nearR s day = .tuple #[.agg #[.int .i64 a, .int .i64 b], .int .i64 e] := by
  unfold nearR
  split
  · split <;> exact ⟨_, _, _, rfl⟩
  · exact ⟨_, _, _, rfl⟩
set_option maxHeartbeats 400000 in
theorem eraNear_all (s day : Int) (w : World) (s0 : 0 ≤ s) (s1 : s < 18446744073709551616) : Calls Try.prog 4 #[.int .u64 s, .int .i64 day] w fun e w' => e = .returned (.bool true) ∧ Below w.heap.size w w' := by
  obtain ⟨a, b, e, hR⟩ := nearR_cases s day
  have h1 := fun w => era_near s day w s0 s1
  have h2 := fun w => ref5_near s day w s0 s1
  rw [hR] at h1 h2
  have H1 := Lib.hid h1
  have H2 := Lib.hid h2
  clear h1 h2 hR
  go_enter Try.func4, Try.ntmps4
  go_wp2_with (first | (go_at_call 12; refine (H1.out _).mono ?_; rintro e w1 ⟨rfl, hb1⟩; obtain ⟨hc1, hf1⟩ := bcell hb1; have hz1 := hb1.size; (try simp only [World.size_alloc, World.size_setCell, World.heap_drewN] at hb1 hc1 hf1 hz1); (try have ha01 : w.heap.size < w1.heap.size := by omega); (try have ha11 : w.heap.size + 1 < w1.heap.size := by omega); (try have ha21 : w.heap.size + 2 < w1.heap.size := by omega); (try have hal1 : w.heap.size ≤ w1.heap.size := by omega); (try have ham1 : w.heap.size < w1.heap.size + 2 := by omega)) | (go_at_call 13; refine (H2.out _).mono ?_; rintro e w2 ⟨rfl, hb2⟩; obtain ⟨hc2, hf2⟩ := bcell hb2; have hz2 := hb2.size; (try simp only [World.size_alloc, World.size_setCell, World.heap_drewN] at hb2 hc2 hf2 hz2); (try have ha02 : w.heap.size < w2.heap.size := by omega); (try have ha12 : w.heap.size + 1 < w2.heap.size := by omega); (try have ha22 : w.heap.size + 2 < w2.heap.size := by omega); (try have hal2 : w.heap.size ≤ w2.heap.size := by omega); (try have ham2 : w.heap.size < w2.heap.size + 2 := by omega); (try have hb02 : w1.heap.size < w2.heap.size := by omega); (try have hb12 : w1.heap.size + 1 < w2.heap.size := by omega); (try have hb22 : w1.heap.size + 2 < w2.heap.size := by omega); (try have hbl2 : w1.heap.size ≤ w2.heap.size := by omega); (try have hbm2 : w1.heap.size < w2.heap.size + 2 := by omega)) | (go_at_call 11; refine (known5 _).mono ?_; rintro e w3 ⟨rfl, hb3⟩; obtain ⟨hc3, hf3⟩ := bcell hb3; have hz3 := hb3.size; (try simp only [World.size_alloc, World.size_setCell, World.heap_drewN] at hb3 hc3 hf3 hz3); (try have ha03 : w.heap.size < w3.heap.size := by omega); (try have ha13 : w.heap.size + 1 < w3.heap.size := by omega); (try have ha23 : w.heap.size + 2 < w3.heap.size := by omega); (try have hal3 : w.heap.size ≤ w3.heap.size := by omega); (try have ham3 : w.heap.size < w3.heap.size + 2 := by omega); (try have hb03 : w1.heap.size < w3.heap.size := by omega); (try have hb13 : w1.heap.size + 1 < w3.heap.size := by omega); (try have hb23 : w1.heap.size + 2 < w3.heap.size := by omega); (try have hbl3 : w1.heap.size ≤ w3.heap.size := by omega); (try have hbm3 : w1.heap.size < w3.heap.size + 2 := by omega); (try have hc03 : w2.heap.size < w3.heap.size := by omega); (try have hc13 : w2.heap.size + 1 < w3.heap.size := by omega); (try have hc23 : w2.heap.size + 2 < w3.heap.size := by omega); (try have hcl3 : w2.heap.size ≤ w3.heap.size := by omega); (try have hcm3 : w2.heap.size < w3.heap.size + 2 := by omega)))
  go_ret
  go_light
  exact ⟨rfl, by (repeat' (first | (with_reducible exact Below.refl _ _) | (with_reducible assumption) | (with_reducible refine Below.trans ?_ (Below.mono (by with_reducible assumption) ?_)) | (with_reducible refine Below.alloc ?_ ?_ _) | (with_reducible refine Below.setCell ?_ ?_ _) | (with_reducible refine below_drewN ?_ _) | (with_reducible refine Below.drew ?_) | go_size))⟩
end Go.Proofs.Ytdnogninikenlaa
