/- The laws of stage 5, walked: EraOrder, EraAnew. -/
import Derived.Test.YtdnogninikenlaaS5B
set_option linter.unusedSimpArgs false
set_option linter.unusedVariables false
namespace Go.Proofs.Ytdnogninikenlaa
open Go.RowKit

theorem order_stamp (a : Int) (h0 : 0 ≤ a) (h1 : a ≤ 2147483648) : stampOf (-20000 + a / 86400) (a % 86400 * 1000000000) = (480988800 + a) * 4294967296 := by
  have c : cutNano (a % 86400 * 1000000000) = a % 86400 * 1000000000 := by unfold cutNano; rw [if_pos (by omega)]
  unfold stampOf secsOf partOf; rw [c]; omega
set_option maxHeartbeats 1000000 in
theorem eraOrder_out (a b : Int) (w : World) (h : a < 0 ∨ (0 ≤ a ∧ 2147483648 < a) ∨ (0 ≤ a ∧ a ≤ 2147483648 ∧ b < 0) ∨ (0 ≤ a ∧ a ≤ 2147483648 ∧ 0 ≤ b ∧ 2147483648 < b)) :
    Calls Try.prog 7 #[.int .i64 a, .int .i64 b] w fun e w' => e = .returned (.bool true) ∧ Below w.heap.size w w' := by
  rcases h with h | ⟨h1, h⟩ | ⟨h1, h2, h⟩ | ⟨h1, h2, h3, h⟩
  all_goals
    go_enter Try.func7, Try.ntmps7
    go_wp2_with (go_at_call 11; refine (known5 _).mono ?_; rintro e w5 ⟨rfl, hb5⟩; obtain ⟨hc5, hf5⟩ := bcell hb5; have hz5 := hb5.size; (try simp only [World.size_alloc, World.size_setCell, World.heap_drewN] at hb5 hc5 hf5 hz5); (try have ha05 : w.heap.size < w5.heap.size := by omega); (try have ha15 : w.heap.size + 1 < w5.heap.size := by omega); (try have ha25 : w.heap.size + 2 < w5.heap.size := by omega); (try have hal5 : w.heap.size ≤ w5.heap.size := by omega); (try have ham5 : w.heap.size < w5.heap.size + 2 := by omega))
    go_ret
    go_light
    exact ⟨rfl, by (repeat' (first | (with_reducible exact Below.refl _ _) | (with_reducible assumption) | (with_reducible refine Below.trans ?_ (Below.mono (by with_reducible assumption) ?_)) | (with_reducible refine Below.alloc ?_ ?_ _) | (with_reducible refine Below.setCell ?_ ?_ _) | (with_reducible refine below_drewN ?_ _) | (with_reducible refine Below.drew ?_) | go_size))⟩
set_option maxHeartbeats 1000000 in
theorem eraOrder_in (a b : Int) (w : World) (h1 : 0 ≤ a) (h2 : a ≤ 2147483648) (h3 : 0 ≤ b) (h4 : b ≤ 2147483648) :
    Calls Try.prog 7 #[.int .i64 a, .int .i64 b] w fun e w' => e = .returned (.bool true) ∧ Below w.heap.size w w' := by
  have H1 : Hid (momOk (-20000 + a / 86400) (a % 86400 * 1000000000) = true) := momOk_mk (by omega) (by omega) (by omega) (by omega)
  have H2 : Hid (momOk (-20000 + b / 86400) (b % 86400 * 1000000000) = true) := momOk_mk (by omega) (by omega) (by omega) (by omega)
  have E1 := Lib.hid (order_stamp a h1 h2)
  have E2 := Lib.hid (order_stamp b h3 h4)
  rcases (show a < b ∨ a = b ∨ b < a from by omega) with h | h | h
  · have f1 : (480988800 + a) * 4294967296 < (480988800 + b) * 4294967296 := by omega
    have f2 : (a == b) = false := by simp; omega
    have f3 : ((480988800 + a) * 4294967296 == (480988800 + b) * 4294967296) = false := by simp; omega
    have f4 : decide (a < b) = true := by simpa using h
    have f5 : decide ((480988800 + a) * 4294967296 < (480988800 + b) * 4294967296) = true := by simpa using f1
    go_enter Try.func7, Try.ntmps7
    go_wp2_with fail
    refine (era_stamp_yes _ _ _ H1.out).mono ?_; rintro e w1 ⟨rfl, hb1⟩; obtain ⟨hc1, hf1⟩ := bcell hb1; have hz1 := hb1.size; (try simp only [World.size_alloc, World.size_setCell, World.heap_drewN] at hb1 hc1 hf1 hz1); (try have ha01 : w.heap.size < w1.heap.size := by omega); (try have ha11 : w.heap.size + 1 < w1.heap.size := by omega); (try have ha21 : w.heap.size + 2 < w1.heap.size := by omega); (try have hal1 : w.heap.size ≤ w1.heap.size := by omega); (try have ham1 : w.heap.size < w1.heap.size + 2 := by omega)
    rw [E1.out]
    go_wp2_with fail
    refine (era_stamp_yes _ _ _ H2.out).mono ?_; rintro e w2 ⟨rfl, hb2⟩; obtain ⟨hc2, hf2⟩ := bcell hb2; have hz2 := hb2.size; (try simp only [World.size_alloc, World.size_setCell, World.heap_drewN] at hb2 hc2 hf2 hz2); (try have ha02 : w.heap.size < w2.heap.size := by omega); (try have ha12 : w.heap.size + 1 < w2.heap.size := by omega); (try have ha22 : w.heap.size + 2 < w2.heap.size := by omega); (try have hal2 : w.heap.size ≤ w2.heap.size := by omega); (try have ham2 : w.heap.size < w2.heap.size + 2 := by omega)
    rw [E2.out]
    go_wp2_with (go_at_call 11; refine (known5 _).mono ?_; rintro e w5 ⟨rfl, hb5⟩; obtain ⟨hc5, hf5⟩ := bcell hb5; have hz5 := hb5.size; (try simp only [World.size_alloc, World.size_setCell, World.heap_drewN] at hb5 hc5 hf5 hz5); (try have ha05 : w.heap.size < w5.heap.size := by omega); (try have ha15 : w.heap.size + 1 < w5.heap.size := by omega); (try have ha25 : w.heap.size + 2 < w5.heap.size := by omega); (try have hal5 : w.heap.size ≤ w5.heap.size := by omega); (try have ham5 : w.heap.size < w5.heap.size + 2 := by omega))
    go_ret
    go_light
    exact ⟨rfl, by (repeat' (first | (with_reducible exact Below.refl _ _) | (with_reducible assumption) | (with_reducible refine Below.trans ?_ (Below.mono (by with_reducible assumption) ?_)) | (with_reducible refine Below.alloc ?_ ?_ _) | (with_reducible refine Below.setCell ?_ ?_ _) | (with_reducible refine below_drewN ?_ _) | (with_reducible refine Below.drew ?_) | go_size))⟩
  · subst h
    go_enter Try.func7, Try.ntmps7
    go_wp2_with fail
    refine (era_stamp_yes _ _ _ H1.out).mono ?_; rintro e w1 ⟨rfl, hb1⟩; obtain ⟨hc1, hf1⟩ := bcell hb1; have hz1 := hb1.size; (try simp only [World.size_alloc, World.size_setCell, World.heap_drewN] at hb1 hc1 hf1 hz1); (try have ha01 : w.heap.size < w1.heap.size := by omega); (try have ha11 : w.heap.size + 1 < w1.heap.size := by omega); (try have ha21 : w.heap.size + 2 < w1.heap.size := by omega); (try have hal1 : w.heap.size ≤ w1.heap.size := by omega); (try have ham1 : w.heap.size < w1.heap.size + 2 := by omega)
    rw [E1.out]
    go_wp2_with fail
    refine (era_stamp_yes _ _ _ H1.out).mono ?_; rintro e w2 ⟨rfl, hb2⟩; obtain ⟨hc2, hf2⟩ := bcell hb2; have hz2 := hb2.size; (try simp only [World.size_alloc, World.size_setCell, World.heap_drewN] at hb2 hc2 hf2 hz2); (try have ha02 : w.heap.size < w2.heap.size := by omega); (try have ha12 : w.heap.size + 1 < w2.heap.size := by omega); (try have ha22 : w.heap.size + 2 < w2.heap.size := by omega); (try have hal2 : w.heap.size ≤ w2.heap.size := by omega); (try have ham2 : w.heap.size < w2.heap.size + 2 := by omega)
    rw [E1.out]
    go_wp2_with (go_at_call 11; refine (known5 _).mono ?_; rintro e w5 ⟨rfl, hb5⟩; obtain ⟨hc5, hf5⟩ := bcell hb5; have hz5 := hb5.size; (try simp only [World.size_alloc, World.size_setCell, World.heap_drewN] at hb5 hc5 hf5 hz5); (try have ha05 : w.heap.size < w5.heap.size := by omega); (try have ha15 : w.heap.size + 1 < w5.heap.size := by omega); (try have ha25 : w.heap.size + 2 < w5.heap.size := by omega); (try have hal5 : w.heap.size ≤ w5.heap.size := by omega); (try have ham5 : w.heap.size < w5.heap.size + 2 := by omega))
    go_ret
    go_light
    exact ⟨rfl, by (repeat' (first | (with_reducible exact Below.refl _ _) | (with_reducible assumption) | (with_reducible refine Below.trans ?_ (Below.mono (by with_reducible assumption) ?_)) | (with_reducible refine Below.alloc ?_ ?_ _) | (with_reducible refine Below.setCell ?_ ?_ _) | (with_reducible refine below_drewN ?_ _) | (with_reducible refine Below.drew ?_) | go_size))⟩
  · have f2 : (a == b) = false := by simp; omega
    have f3 : ((480988800 + a) * 4294967296 == (480988800 + b) * 4294967296) = false := by simp; omega
    have f4 : decide (a < b) = false := by simp; omega
    have f5 : decide ((480988800 + a) * 4294967296 < (480988800 + b) * 4294967296) = false := by simp; omega
    go_enter Try.func7, Try.ntmps7
    go_wp2_with fail
    refine (era_stamp_yes _ _ _ H1.out).mono ?_; rintro e w1 ⟨rfl, hb1⟩; obtain ⟨hc1, hf1⟩ := bcell hb1; have hz1 := hb1.size; (try simp only [World.size_alloc, World.size_setCell, World.heap_drewN] at hb1 hc1 hf1 hz1); (try have ha01 : w.heap.size < w1.heap.size := by omega); (try have ha11 : w.heap.size + 1 < w1.heap.size := by omega); (try have ha21 : w.heap.size + 2 < w1.heap.size := by omega); (try have hal1 : w.heap.size ≤ w1.heap.size := by omega); (try have ham1 : w.heap.size < w1.heap.size + 2 := by omega)
    rw [E1.out]
    go_wp2_with fail
    refine (era_stamp_yes _ _ _ H2.out).mono ?_; rintro e w2 ⟨rfl, hb2⟩; obtain ⟨hc2, hf2⟩ := bcell hb2; have hz2 := hb2.size; (try simp only [World.size_alloc, World.size_setCell, World.heap_drewN] at hb2 hc2 hf2 hz2); (try have ha02 : w.heap.size < w2.heap.size := by omega); (try have ha12 : w.heap.size + 1 < w2.heap.size := by omega); (try have ha22 : w.heap.size + 2 < w2.heap.size := by omega); (try have hal2 : w.heap.size ≤ w2.heap.size := by omega); (try have ham2 : w.heap.size < w2.heap.size + 2 := by omega)
    rw [E2.out]
    go_wp2_with (go_at_call 11; refine (known5 _).mono ?_; rintro e w5 ⟨rfl, hb5⟩; obtain ⟨hc5, hf5⟩ := bcell hb5; have hz5 := hb5.size; (try simp only [World.size_alloc, World.size_setCell, World.heap_drewN] at hb5 hc5 hf5 hz5); (try have ha05 : w.heap.size < w5.heap.size := by omega); (try have ha15 : w.heap.size + 1 < w5.heap.size := by omega); (try have ha25 : w.heap.size + 2 < w5.heap.size := by omega); (try have hal5 : w.heap.size ≤ w5.heap.size := by omega); (try have ham5 : w.heap.size < w5.heap.size + 2 := by omega))
    go_ret
    go_light
    exact ⟨rfl, by (repeat' (first | (with_reducible exact Below.refl _ _) | (with_reducible assumption) | (with_reducible refine Below.trans ?_ (Below.mono (by with_reducible assumption) ?_)) | (with_reducible refine Below.alloc ?_ ?_ _) | (with_reducible refine Below.setCell ?_ ?_ _) | (with_reducible refine below_drewN ?_ _) | (with_reducible refine Below.drew ?_) | go_size))⟩
set_option maxHeartbeats 1000000 in
theorem eraAnew_out (a b c d : Int) (w : World) (h : a < -25567 ∨ (-25567 ≤ a ∧ 100000 < a) ∨ (-25567 ≤ a ∧ a ≤ 100000 ∧ b < 0) ∨ (-25567 ≤ a ∧ a ≤ 100000 ∧ 0 ≤ b ∧ 86400 ≤ b) ∨ (-25567 ≤ a ∧ a ≤ 100000 ∧ 0 ≤ b ∧ b < 86400 ∧ c < 0) ∨ (-25567 ≤ a ∧ a ≤ 100000 ∧ 0 ≤ b ∧ b < 86400 ∧ 0 ≤ c ∧ 1000000000 ≤ c)
      ∨ (-25567 ≤ a ∧ a ≤ 100000 ∧ 0 ≤ b ∧ b < 86400 ∧ 0 ≤ c ∧ c < 1000000000 ∧ d < 0) ∨ (-25567 ≤ a ∧ a ≤ 100000 ∧ 0 ≤ b ∧ b < 86400 ∧ 0 ≤ c ∧ c < 1000000000 ∧ 0 ≤ d ∧ 40 < d)) :
    Calls Try.prog 8 #[.int .i64 a, .int .i64 b, .int .i64 c, .int .i64 d] w fun e w' => e = .returned (.bool true) ∧ Below w.heap.size w w' := by
  rcases h with h | ⟨h1, h⟩ | ⟨h1, h2, h⟩ | ⟨h1, h2, h3, h⟩ | ⟨h1, h2, h3, h4, h⟩ | ⟨h1, h2, h3, h4, h5, h⟩ | ⟨h1, h2, h3, h4, h5, h6, h⟩ | ⟨h1, h2, h3, h4, h5, h6, h7, h⟩
  all_goals
    go_enter Try.func8, Try.ntmps8
    go_wp2_with (go_at_call 11; refine (known5 _).mono ?_; rintro e w5 ⟨rfl, hb5⟩; obtain ⟨hc5, hf5⟩ := bcell hb5; have hz5 := hb5.size; (try simp only [World.size_alloc, World.size_setCell, World.heap_drewN] at hb5 hc5 hf5 hz5); (try have ha05 : w.heap.size < w5.heap.size := by omega); (try have ha15 : w.heap.size + 1 < w5.heap.size := by omega); (try have ha25 : w.heap.size + 2 < w5.heap.size := by omega); (try have hal5 : w.heap.size ≤ w5.heap.size := by omega); (try have ham5 : w.heap.size < w5.heap.size + 2 := by omega))
    go_ret
    go_light
    exact ⟨rfl, by (repeat' (first | (with_reducible exact Below.refl _ _) | (with_reducible assumption) | (with_reducible refine Below.trans ?_ (Below.mono (by with_reducible assumption) ?_)) | (with_reducible refine Below.alloc ?_ ?_ _) | (with_reducible refine Below.setCell ?_ ?_ _) | (with_reducible refine below_drewN ?_ _) | (with_reducible refine Below.drew ?_) | go_size))⟩
set_option maxHeartbeats 2000000 in
theorem eraAnew_in (a b c d : Int) (w : World) (h1 : -25567 ≤ a) (h2 : a ≤ 100000) (h3 : 0 ≤ b) (h4 : b < 86400) (h5 : 0 ≤ c) (h6 : c < 1000000000) (h7 : 0 ≤ d) (h8 : d ≤ 40) :
    Calls Try.prog 8 #[.int .i64 a, .int .i64 b, .int .i64 c, .int .i64 d] w fun e w' => e = .returned (.bool true) ∧ Below w.heap.size w w' := by
  have N1 : ∀ day nano : Int, -719162 ≤ day → day ≤ 2932896 → 0 ≤ nano → nano < 86400000000000 → ∀ w, Calls Try.prog 12 #[.int .u64 (stampOf day nano), .int .i64 day] w fun e w' => e = .returned (.tuple #[.agg #[.int .i64 day, .int .i64 nano], .int .i64 0]) ∧ Below w.heap.size w w' := by
    intro day nano d0 d1 n0 n1 w
    obtain ⟨_, _, b0, b1⟩ := stampOf_div day nano n0
    have t := era_near (stampOf day nano) day w b0 b1
    have := near_back day nano 0 (dayB_mk d0 d1) (by rw [Int.add_zero]; exact dayB_mk d0 d1) n0 n1 (by omega) (by omega)
    rw [Int.add_zero] at this
    rwa [this] at t
  have S1 : Hid (momOk a (b * 1000000000 + c) = true) := momOk_mk (by omega) (by omega) (by omega) (by omega)
  have S2 : Hid (momOk (a + (b + d * 4294967296) / 86400) ((b + d * 4294967296) % 86400 * 1000000000 + c) = true) := momOk_mk (by omega) (by omega) (by omega) (by omega)
  have E : stampOf (a + (b + d * 4294967296) / 86400) ((b + d * 4294967296) % 86400 * 1000000000 + c) = stampOf a (b * 1000000000 + c) := by
    have c1 : cutNano (b * 1000000000 + c) = b * 1000000000 + c := by unfold cutNano; rw [if_pos (by omega)]
    have c2 : cutNano ((b + d * 4294967296) % 86400 * 1000000000 + c) = (b + d * 4294967296) % 86400 * 1000000000 + c := by unfold cutNano; rw [if_pos (by omega)]
    have p1 : partOf ((b + d * 4294967296) % 86400 * 1000000000 + c) = partOf (b * 1000000000 + c) := by
      unfold partOf; rw [c1, c2]
      rw [show ((b + d * 4294967296) % 86400 * 1000000000 + c) % 1000000000 = (b * 1000000000 + c) % 1000000000 from by omega]
    have p2 : secsOf (a + (b + d * 4294967296) / 86400) ((b + d * 4294967296) % 86400 * 1000000000 + c) % 4294967296 = secsOf a (b * 1000000000 + c) % 4294967296 := by
      unfold secsOf; rw [c1, c2]
      rw [show ((b + d * 4294967296) % 86400 * 1000000000 + c) / 1000000000 = (b + d * 4294967296) % 86400 from by omega, show (b * 1000000000 + c) / 1000000000 = b from by omega]
      omega
    unfold stampOf; rw [p1, p2]
  have HE := Lib.hid E
  have X1 := Lib.hid (N1 a (b * 1000000000 + c) (by omega) (by omega) (by omega) (by omega))
  have X2 := N1 (a + (b + d * 4294967296) / 86400) ((b + d * 4294967296) % 86400 * 1000000000 + c) (by omega) (by omega) (by omega) (by omega)
  rw [E] at X2
  have X2 := Lib.hid X2
  clear E N1
  go_enter Try.func8, Try.ntmps8
  go_wp2_with fail
  refine (era_stamp_yes _ _ _ S1.out).mono ?_; rintro e w1 ⟨rfl, hb1⟩; obtain ⟨hc1, hf1⟩ := bcell hb1; have hz1 := hb1.size; (try simp only [World.size_alloc, World.size_setCell, World.heap_drewN] at hb1 hc1 hf1 hz1); (try have ha01 : w.heap.size < w1.heap.size := by omega); (try have ha11 : w.heap.size + 1 < w1.heap.size := by omega); (try have ha21 : w.heap.size + 2 < w1.heap.size := by omega); (try have hal1 : w.heap.size ≤ w1.heap.size := by omega); (try have ham1 : w.heap.size < w1.heap.size + 2 := by omega)
  go_wp2_with fail
  refine (era_stamp_yes _ _ _ S2.out).mono ?_; rintro e w2 ⟨rfl, hb2⟩; obtain ⟨hc2, hf2⟩ := bcell hb2; have hz2 := hb2.size; (try simp only [World.size_alloc, World.size_setCell, World.heap_drewN] at hb2 hc2 hf2 hz2); (try have ha02 : w.heap.size < w2.heap.size := by omega); (try have ha12 : w.heap.size + 1 < w2.heap.size := by omega); (try have ha22 : w.heap.size + 2 < w2.heap.size := by omega); (try have hal2 : w.heap.size ≤ w2.heap.size := by omega); (try have ham2 : w.heap.size < w2.heap.size + 2 := by omega); (try have hb02 : w1.heap.size < w2.heap.size := by omega); (try have hb12 : w1.heap.size + 1 < w2.heap.size := by omega); (try have hb22 : w1.heap.size + 2 < w2.heap.size := by omega); (try have hbl2 : w1.heap.size ≤ w2.heap.size := by omega); (try have hbm2 : w1.heap.size < w2.heap.size + 2 := by omega)
  rw [HE.out]
  go_wp2_with fail
  refine (X1.out _).mono ?_; rintro e w3 ⟨rfl, hb3⟩; obtain ⟨hc3, hf3⟩ := bcell hb3; have hz3 := hb3.size; (try simp only [World.size_alloc, World.size_setCell, World.heap_drewN] at hb3 hc3 hf3 hz3); (try have ha03 : w.heap.size < w3.heap.size := by omega); (try have ha13 : w.heap.size + 1 < w3.heap.size := by omega); (try have ha23 : w.heap.size + 2 < w3.heap.size := by omega); (try have hal3 : w.heap.size ≤ w3.heap.size := by omega); (try have ham3 : w.heap.size < w3.heap.size + 2 := by omega); (try have hb03 : w2.heap.size < w3.heap.size := by omega); (try have hb13 : w2.heap.size + 1 < w3.heap.size := by omega); (try have hb23 : w2.heap.size + 2 < w3.heap.size := by omega); (try have hbl3 : w2.heap.size ≤ w3.heap.size := by omega); (try have hbm3 : w2.heap.size < w3.heap.size + 2 := by omega)
  go_wp2_with fail
  refine (X2.out _).mono ?_; rintro e w4 ⟨rfl, hb4⟩; obtain ⟨hc4, hf4⟩ := bcell hb4; have hz4 := hb4.size; (try simp only [World.size_alloc, World.size_setCell, World.heap_drewN] at hb4 hc4 hf4 hz4); (try have ha04 : w.heap.size < w4.heap.size := by omega); (try have ha14 : w.heap.size + 1 < w4.heap.size := by omega); (try have ha24 : w.heap.size + 2 < w4.heap.size := by omega); (try have hal4 : w.heap.size ≤ w4.heap.size := by omega); (try have ham4 : w.heap.size < w4.heap.size + 2 := by omega); (try have hb04 : w3.heap.size < w4.heap.size := by omega); (try have hb14 : w3.heap.size + 1 < w4.heap.size := by omega); (try have hb24 : w3.heap.size + 2 < w4.heap.size := by omega); (try have hbl4 : w3.heap.size ≤ w4.heap.size := by omega); (try have hbm4 : w3.heap.size < w4.heap.size + 2 := by omega)
  go_wp2_with (go_at_call 11; refine (known5 _).mono ?_; rintro e w5 ⟨rfl, hb5⟩; obtain ⟨hc5, hf5⟩ := bcell hb5; have hz5 := hb5.size; (try simp only [World.size_alloc, World.size_setCell, World.heap_drewN] at hb5 hc5 hf5 hz5); (try have ha05 : w.heap.size < w5.heap.size := by omega); (try have ha15 : w.heap.size + 1 < w5.heap.size := by omega); (try have ha25 : w.heap.size + 2 < w5.heap.size := by omega); (try have hal5 : w.heap.size ≤ w5.heap.size := by omega); (try have ham5 : w.heap.size < w5.heap.size + 2 := by omega); (try have hb05 : w3.heap.size < w5.heap.size := by omega); (try have hb15 : w3.heap.size + 1 < w5.heap.size := by omega); (try have hb25 : w3.heap.size + 2 < w5.heap.size := by omega); (try have hbl5 : w3.heap.size ≤ w5.heap.size := by omega); (try have hbm5 : w3.heap.size < w5.heap.size + 2 := by omega))
  go_ret
  go_light
  exact ⟨rfl, by (repeat' (first | (with_reducible exact Below.refl _ _) | (with_reducible assumption) | (with_reducible refine Below.trans ?_ (Below.mono (by with_reducible assumption) ?_)) | (with_reducible refine Below.alloc ?_ ?_ _) | (with_reducible refine Below.setCell ?_ ?_ _) | (with_reducible refine below_drewN ?_ _) | (with_reducible refine Below.drew ?_) | go_size))⟩
end Go.Proofs.Ytdnogninikenlaa
