/- The laws of stage 2, walked: CalDate, CalNext, CalYears. -/
import Derived.Test.YtlmbhiidbcpihaaS2A
set_option linter.unusedSimpArgs false
set_option linter.unusedVariables false
namespace Go.Proofs.Ytlmbhiidbcpihaa
open Go.RowKit

set_option maxHeartbeats 1000000 in
theorem calDate_yes (y m d n : Int) (w : World) (h : Cal.Vld y m d) (hn : n = Cal.num y m d) : Calls Try.prog 4 #[.int .i64 n] w fun e w' => e = .returned (.bool true) ∧ Below w.heap.size w w' := by
  subst hn
  go_enter Try.func4, Try.ntmps4
  go_wp2_with (first | (go_at_call 9; refine (cal_days_yes y m d _ h).mono ?_; rintro e w1 ⟨rfl, hb1⟩; obtain ⟨hc1, hf1⟩ := bcell hb1; have hz1 := hb1.size; (try simp only [World.size_alloc, World.size_setCell, World.heap_drewN] at hb1 hc1 hf1 hz1); (try have ha01 : w.heap.size < w1.heap.size := by omega); (try have ha11 : w.heap.size + 1 < w1.heap.size := by omega); (try have ha21 : w.heap.size + 2 < w1.heap.size := by omega); (try have hal1 : w.heap.size ≤ w1.heap.size := by omega); (try have ham1 : w.heap.size < w1.heap.size + 2 := by omega); (try have hb01 : w4.heap.size < w1.heap.size := by omega); (try have hb11 : w4.heap.size + 1 < w1.heap.size := by omega); (try have hb21 : w4.heap.size + 2 < w1.heap.size := by omega); (try have hbl1 : w4.heap.size ≤ w1.heap.size := by omega); (try have hbm1 : w4.heap.size < w1.heap.size + 2 := by omega); (try have hc01 : w2.heap.size < w1.heap.size := by omega); (try have hc11 : w2.heap.size + 1 < w1.heap.size := by omega); (try have hc21 : w2.heap.size + 2 < w1.heap.size := by omega); (try have hcl1 : w2.heap.size ≤ w1.heap.size := by omega); (try have hcm1 : w2.heap.size < w1.heap.size + 2 := by omega)) | (go_at_call 14; refine (ref2_date_yes y m d _ _ h rfl).mono ?_; rintro e w2 ⟨rfl, hb2⟩; obtain ⟨hc2, hf2⟩ := bcell hb2; have hz2 := hb2.size; (try simp only [World.size_alloc, World.size_setCell, World.heap_drewN] at hb2 hc2 hf2 hz2); (try have ha02 : w.heap.size < w2.heap.size := by omega); (try have ha12 : w.heap.size + 1 < w2.heap.size := by omega); (try have ha22 : w.heap.size + 2 < w2.heap.size := by omega); (try have hal2 : w.heap.size ≤ w2.heap.size := by omega); (try have ham2 : w.heap.size < w2.heap.size + 2 := by omega); (try have hb02 : w4.heap.size < w2.heap.size := by omega); (try have hb12 : w4.heap.size + 1 < w2.heap.size := by omega); (try have hb22 : w4.heap.size + 2 < w2.heap.size := by omega); (try have hbl2 : w4.heap.size ≤ w2.heap.size := by omega); (try have hbm2 : w4.heap.size < w2.heap.size + 2 := by omega)) | (go_at_call 11; refine (cal_is_yes y m d _ h).mono ?_; rintro e w3 ⟨rfl, hb3⟩; obtain ⟨hc3, hf3⟩ := bcell hb3; have hz3 := hb3.size; (try simp only [World.size_alloc, World.size_setCell, World.heap_drewN] at hb3 hc3 hf3 hz3); (try have ha03 : w.heap.size < w3.heap.size := by omega); (try have ha13 : w.heap.size + 1 < w3.heap.size := by omega); (try have ha23 : w.heap.size + 2 < w3.heap.size := by omega); (try have hal3 : w.heap.size ≤ w3.heap.size := by omega); (try have ham3 : w.heap.size < w3.heap.size + 2 := by omega); (try have hb03 : w4.heap.size < w3.heap.size := by omega); (try have hb13 : w4.heap.size + 1 < w3.heap.size := by omega); (try have hb23 : w4.heap.size + 2 < w3.heap.size := by omega); (try have hbl3 : w4.heap.size ≤ w3.heap.size := by omega); (try have hbm3 : w4.heap.size < w3.heap.size + 2 := by omega); (try have hc03 : w2.heap.size < w3.heap.size := by omega); (try have hc13 : w2.heap.size + 1 < w3.heap.size := by omega); (try have hc23 : w2.heap.size + 2 < w3.heap.size := by omega); (try have hcl3 : w2.heap.size ≤ w3.heap.size := by omega); (try have hcm3 : w2.heap.size < w3.heap.size + 2 := by omega)) | (go_at_call 13; refine (cal_date_yes y m d _ _ h rfl).mono ?_; rintro e w4 ⟨rfl, hb4⟩; obtain ⟨hc4, hf4⟩ := bcell hb4; have hz4 := hb4.size; (try simp only [World.size_alloc, World.size_setCell, World.heap_drewN] at hb4 hc4 hf4 hz4); (try have ha04 : w.heap.size < w4.heap.size := by omega); (try have ha14 : w.heap.size + 1 < w4.heap.size := by omega); (try have ha24 : w.heap.size + 2 < w4.heap.size := by omega); (try have hal4 : w.heap.size ≤ w4.heap.size := by omega); (try have ham4 : w.heap.size < w4.heap.size + 2 := by omega)) | (go_at_call 12; refine (known2 _).mono ?_; rintro e w5 ⟨rfl, hb5⟩; obtain ⟨hc5, hf5⟩ := bcell hb5; have hz5 := hb5.size; (try simp only [World.size_alloc, World.size_setCell, World.heap_drewN] at hb5 hc5 hf5 hz5); (try have ha05 : w.heap.size < w5.heap.size := by omega); (try have ha15 : w.heap.size + 1 < w5.heap.size := by omega); (try have ha25 : w.heap.size + 2 < w5.heap.size := by omega); (try have hal5 : w.heap.size ≤ w5.heap.size := by omega); (try have ham5 : w.heap.size < w5.heap.size + 2 := by omega)))
  go_ret
  go_light
  exact ⟨rfl, by (repeat' (first | (with_reducible exact Below.refl _ _) | (with_reducible assumption) | (with_reducible refine Below.trans ?_ (Below.mono (by with_reducible assumption) ?_)) | (with_reducible refine Below.alloc ?_ ?_ _) | (with_reducible refine Below.setCell ?_ ?_ _) | (with_reducible refine below_drewN ?_ _) | (with_reducible refine Below.drew ?_) | go_size))⟩
set_option maxHeartbeats 1000000 in
theorem calDate_no (n : Int) (w : World) (h : n < -719162 ∨ 2932896 < n) : Calls Try.prog 4 #[.int .i64 n] w fun e w' => e = .returned (.bool true) ∧ Below w.heap.size w w' := by
  have H := Lib.hid h
  clear h
  go_enter Try.func4, Try.ntmps4
  go_wp2_with (first | (go_at_call 14; refine (ref2_date_no n _ H.out).mono ?_; rintro e w2 ⟨rfl, hb2⟩; obtain ⟨hc2, hf2⟩ := bcell hb2; have hz2 := hb2.size; (try simp only [World.size_alloc, World.size_setCell, World.heap_drewN] at hb2 hc2 hf2 hz2); (try have ha02 : w.heap.size < w2.heap.size := by omega); (try have ha12 : w.heap.size + 1 < w2.heap.size := by omega); (try have ha22 : w.heap.size + 2 < w2.heap.size := by omega); (try have hal2 : w.heap.size ≤ w2.heap.size := by omega); (try have ham2 : w.heap.size < w2.heap.size + 2 := by omega); (try have hb02 : w4.heap.size < w2.heap.size := by omega); (try have hb12 : w4.heap.size + 1 < w2.heap.size := by omega); (try have hb22 : w4.heap.size + 2 < w2.heap.size := by omega); (try have hbl2 : w4.heap.size ≤ w2.heap.size := by omega); (try have hbm2 : w4.heap.size < w2.heap.size + 2 := by omega)) | (go_at_call 13; refine (cal_date_no n _ H.out).mono ?_; rintro e w4 ⟨rfl, hb4⟩; obtain ⟨hc4, hf4⟩ := bcell hb4; have hz4 := hb4.size; (try simp only [World.size_alloc, World.size_setCell, World.heap_drewN] at hb4 hc4 hf4 hz4); (try have ha04 : w.heap.size < w4.heap.size := by omega); (try have ha14 : w.heap.size + 1 < w4.heap.size := by omega); (try have ha24 : w.heap.size + 2 < w4.heap.size := by omega); (try have hal4 : w.heap.size ≤ w4.heap.size := by omega); (try have ham4 : w.heap.size < w4.heap.size + 2 := by omega)) | (go_at_call 12; refine (known2 _).mono ?_; rintro e w5 ⟨rfl, hb5⟩; obtain ⟨hc5, hf5⟩ := bcell hb5; have hz5 := hb5.size; (try simp only [World.size_alloc, World.size_setCell, World.heap_drewN] at hb5 hc5 hf5 hz5); (try have ha05 : w.heap.size < w5.heap.size := by omega); (try have ha15 : w.heap.size + 1 < w5.heap.size := by omega); (try have ha25 : w.heap.size + 2 < w5.heap.size := by omega); (try have hal5 : w.heap.size ≤ w5.heap.size := by omega); (try have ham5 : w.heap.size < w5.heap.size + 2 := by omega)))
  go_ret
  go_light
  exact ⟨rfl, by (repeat' (first | (with_reducible exact Below.refl _ _) | (with_reducible assumption) | (with_reducible refine Below.trans ?_ (Below.mono (by with_reducible assumption) ?_)) | (with_reducible refine Below.alloc ?_ ?_ _) | (with_reducible refine Below.setCell ?_ ?_ _) | (with_reducible refine below_drewN ?_ _) | (with_reducible refine Below.drew ?_) | go_size))⟩

set_option maxHeartbeats 1000000 in
theorem calNext_no (n : Int) (w : World) (h : n < -719162 ∨ 2932896 < n) : Calls Try.prog 5 #[.int .i64 n] w fun e w' => e = .returned (.bool true) ∧ Below w.heap.size w w' := by
  have H := Lib.hid h
  clear h
  go_enter Try.func5, Try.ntmps5
  go_wp2_with (first | (go_at_call 13; refine (cal_date_no n _ H.out).mono ?_; rintro e w4 ⟨rfl, hb4⟩; obtain ⟨hc4, hf4⟩ := bcell hb4; have hz4 := hb4.size; (try simp only [World.size_alloc, World.size_setCell, World.heap_drewN] at hb4 hc4 hf4 hz4); (try have ha04 : w.heap.size < w4.heap.size := by omega); (try have ha14 : w.heap.size + 1 < w4.heap.size := by omega); (try have ha24 : w.heap.size + 2 < w4.heap.size := by omega); (try have hal4 : w.heap.size ≤ w4.heap.size := by omega); (try have ham4 : w.heap.size < w4.heap.size + 2 := by omega)) | (go_at_call 12; refine (known2 _).mono ?_; rintro e w5 ⟨rfl, hb5⟩; obtain ⟨hc5, hf5⟩ := bcell hb5; have hz5 := hb5.size; (try simp only [World.size_alloc, World.size_setCell, World.heap_drewN] at hb5 hc5 hf5 hz5); (try have ha05 : w.heap.size < w5.heap.size := by omega); (try have ha15 : w.heap.size + 1 < w5.heap.size := by omega); (try have ha25 : w.heap.size + 2 < w5.heap.size := by omega); (try have hal5 : w.heap.size ≤ w5.heap.size := by omega); (try have ham5 : w.heap.size < w5.heap.size + 2 := by omega)))
  go_ret
  go_light
  exact ⟨rfl, by (repeat' (first | (with_reducible exact Below.refl _ _) | (with_reducible assumption) | (with_reducible refine Below.trans ?_ (Below.mono (by with_reducible assumption) ?_)) | (with_reducible refine Below.alloc ?_ ?_ _) | (with_reducible refine Below.setCell ?_ ?_ _) | (with_reducible refine below_drewN ?_ _) | (with_reducible refine Below.drew ?_) | go_size))⟩
theorem vld_last : Cal.Vld 9999 12 31 := by unfold Cal.Vld; decide
theorem num_last : (2932896 : Int) = Cal.num 9999 12 31 := by decide
set_option maxHeartbeats 1000000 in
theorem calNext_last (w : World) : Calls Try.prog 5 #[.int .i64 2932896] w fun e w' => e = .returned (.bool true) ∧ Below w.heap.size w w' := by
  go_enter Try.func5, Try.ntmps5
  go_wp2_with fail
  refine (cal_date_yes 9999 12 31 _ _ vld_last num_last).mono ?_; rintro e w1 ⟨rfl, hb1⟩; obtain ⟨hc1, hf1⟩ := bcell hb1; have hz1 := hb1.size; (try simp only [World.size_alloc, World.size_setCell, World.heap_drewN] at hb1 hc1 hf1 hz1); (try have ha01 : w.heap.size < w1.heap.size := by omega); (try have ha11 : w.heap.size + 1 < w1.heap.size := by omega); (try have ha21 : w.heap.size + 2 < w1.heap.size := by omega); (try have hal1 : w.heap.size ≤ w1.heap.size := by omega); (try have ham1 : w.heap.size < w1.heap.size + 2 := by omega)
  go_wp2_with fail
  refine (cal_date_no _ _ (Or.inr (by decide))).mono ?_; rintro e w2 ⟨rfl, hb2⟩; obtain ⟨hc2, hf2⟩ := bcell hb2; have hz2 := hb2.size; (try simp only [World.size_alloc, World.size_setCell, World.heap_drewN] at hb2 hc2 hf2 hz2); (try have ha02 : w.heap.size < w2.heap.size := by omega); (try have ha12 : w.heap.size + 1 < w2.heap.size := by omega); (try have ha22 : w.heap.size + 2 < w2.heap.size := by omega); (try have hal2 : w.heap.size ≤ w2.heap.size := by omega); (try have ham2 : w.heap.size < w2.heap.size + 2 := by omega); (try have hb02 : w1.heap.size < w2.heap.size := by omega); (try have hb12 : w1.heap.size + 1 < w2.heap.size := by omega); (try have hb22 : w1.heap.size + 2 < w2.heap.size := by omega); (try have hbl2 : w1.heap.size ≤ w2.heap.size := by omega); (try have hbm2 : w1.heap.size < w2.heap.size + 2 := by omega)
  go_wp2_with (go_at_call 12; refine (known2 _).mono ?_; rintro e w5 ⟨rfl, hb5⟩; obtain ⟨hc5, hf5⟩ := bcell hb5; have hz5 := hb5.size; (try simp only [World.size_alloc, World.size_setCell, World.heap_drewN] at hb5 hc5 hf5 hz5); (try have ha05 : w.heap.size < w5.heap.size := by omega); (try have ha15 : w.heap.size + 1 < w5.heap.size := by omega); (try have ha25 : w.heap.size + 2 < w5.heap.size := by omega); (try have hal5 : w.heap.size ≤ w5.heap.size := by omega); (try have ham5 : w.heap.size < w5.heap.size + 2 := by omega))
  go_ret
  go_light
  exact ⟨rfl, by (repeat' (first | (with_reducible exact Below.refl _ _) | (with_reducible assumption) | (with_reducible refine Below.trans ?_ (Below.mono (by with_reducible assumption) ?_)) | (with_reducible refine Below.alloc ?_ ?_ _) | (with_reducible refine Below.setCell ?_ ?_ _) | (with_reducible refine below_drewN ?_ _) | (with_reducible refine Below.drew ?_) | go_size))⟩
theorem next_ex (y m d : Int) (h : Cal.Vld y m d) (hl : Cal.num y m d < 2932896) : ∃ y' m' d', Cal.Vld y' m' d' ∧ Cal.num y' m' d' = Cal.num y m d + 1 ∧
    ((y' = y ∧ m' = m ∧ d' = d + 1) ∨ (y' = y ∧ m' = m + 1 ∧ d' = 1 ∧ 28 ≤ d) ∨ (y' = y + 1 ∧ m' = 1 ∧ d' = 1 ∧ m = 12 ∧ d = 31)) := by
  obtain ⟨a1, a2, a3, a4, a5, a6⟩ := h
  have db := Cal.dim_bd y m
  have cs := Cal.cum_succ y m a3 a4
  by_cases h1 : d < Cal.dim y m
  · exact ⟨y, m, d + 1, ⟨a1, a2, a3, a4, by omega, by omega⟩, by unfold Cal.num; omega, .inl ⟨rfl, rfl, rfl⟩⟩
  · by_cases h2 : m < 12
    · have db' := Cal.dim_bd y (m + 1)
      exact ⟨y, m + 1, 1, ⟨a1, a2, by omega, by omega, by omega, by omega⟩, by unfold Cal.num; omega, .inr (.inl ⟨rfl, rfl, rfl, by omega⟩)⟩
    · obtain rfl : m = 12 := by omega
      have hd : Cal.dim y 12 = 31 := by simp [Cal.dim]
      have hs := Cal.yr_succ y
      have h13 := Cal.cum_13 y
      have h1' := Cal.cum_1 (y + 1)
      have hy : y < 9999 := by
        rcases (show y < 9999 ∨ y = 9999 from by omega) with h | h
        · exact h
        · subst h
          have : d = 31 := by omega
          subst this
          have := num_last
          omega
      have db' := Cal.dim_bd (y + 1) 1
      have cs' : Cal.cum y 13 = Cal.cum y 12 + Cal.dim y 12 := cs
      exact ⟨y + 1, 1, 1, ⟨by omega, by omega, by omega, by omega, by omega, by omega⟩, by unfold Cal.num; omega, .inr (.inr ⟨rfl, rfl, rfl, rfl, by omega⟩)⟩
theorem beq_no {a b : Int} (h : a ≠ b) : (a == b) = false := by simpa using h
set_option maxHeartbeats 2000000 in
theorem calNext_yes (y m d n : Int) (w : World) (h : Cal.Vld y m d) (hn : n = Cal.num y m d) (hl : n < 2932896) : Calls Try.prog 5 #[.int .i64 n] w fun e w' => e = .returned (.bool true) ∧ Below w.heap.size w w' := by
  obtain ⟨y', m', d', v', n', hw⟩ := next_ex y m d h (by omega)
  have hb := Cal.num_bd h
  rw [← hn] at hb
  have b1 : 1 ≤ y ∧ y ≤ 9999 ∧ 1 ≤ m ∧ m ≤ 12 ∧ 1 ≤ d ∧ d ≤ 31 := by obtain ⟨a1, a2, a3, a4, a5, a6⟩ := h; have := Cal.dim_bd y m; omega
  have N1 := Lib.hid hn
  have N2 : Hid (n + 1 = Cal.num y' m' d') := by show n + 1 = _; omega
  clear hn n'
  rcases hw with ⟨rfl, rfl, rfl⟩ | ⟨rfl, rfl, rfl, h28⟩ | ⟨rfl, rfl, rfl, rfl, rfl⟩
  all_goals
    go_enter Try.func5, Try.ntmps5
    go_wp2_with fail
    refine (cal_date_yes _ _ _ _ _ h N1.out).mono ?_; rintro e w1 ⟨rfl, hb1⟩; obtain ⟨hc1, hf1⟩ := bcell hb1; have hz1 := hb1.size; (try simp only [World.size_alloc, World.size_setCell, World.heap_drewN] at hb1 hc1 hf1 hz1); (try have ha01 : w.heap.size < w1.heap.size := by omega); (try have ha11 : w.heap.size + 1 < w1.heap.size := by omega); (try have ha21 : w.heap.size + 2 < w1.heap.size := by omega); (try have hal1 : w.heap.size ≤ w1.heap.size := by omega); (try have ham1 : w.heap.size < w1.heap.size + 2 := by omega)
    go_wp2_with fail
    refine (cal_date_yes _ _ _ _ _ v' N2.out).mono ?_; rintro e w2 ⟨rfl, hb2⟩; obtain ⟨hc2, hf2⟩ := bcell hb2; have hz2 := hb2.size; (try simp only [World.size_alloc, World.size_setCell, World.heap_drewN] at hb2 hc2 hf2 hz2); (try have ha02 : w.heap.size < w2.heap.size := by omega); (try have ha12 : w.heap.size + 1 < w2.heap.size := by omega); (try have ha22 : w.heap.size + 2 < w2.heap.size := by omega); (try have hal2 : w.heap.size ≤ w2.heap.size := by omega); (try have ham2 : w.heap.size < w2.heap.size + 2 := by omega); (try have hb02 : w1.heap.size < w2.heap.size := by omega); (try have hb12 : w1.heap.size + 1 < w2.heap.size := by omega); (try have hb22 : w1.heap.size + 2 < w2.heap.size := by omega); (try have hbl2 : w1.heap.size ≤ w2.heap.size := by omega); (try have hbm2 : w1.heap.size < w2.heap.size + 2 := by omega)
    go_wp2_with (go_at_call 12; refine (known2 _).mono ?_; rintro e w5 ⟨rfl, hb5⟩; obtain ⟨hc5, hf5⟩ := bcell hb5; have hz5 := hb5.size; (try simp only [World.size_alloc, World.size_setCell, World.heap_drewN] at hb5 hc5 hf5 hz5); (try have ha05 : w.heap.size < w5.heap.size := by omega); (try have ha15 : w.heap.size + 1 < w5.heap.size := by omega); (try have ha25 : w.heap.size + 2 < w5.heap.size := by omega); (try have hal5 : w.heap.size ≤ w5.heap.size := by omega); (try have ham5 : w.heap.size < w5.heap.size + 2 := by omega))
    go_ret
    go_light
    exact ⟨rfl, by (repeat' (first | (with_reducible exact Below.refl _ _) | (with_reducible assumption) | (with_reducible refine Below.trans ?_ (Below.mono (by with_reducible assumption) ?_)) | (with_reducible refine Below.alloc ?_ ?_ _) | (with_reducible refine Below.setCell ?_ ?_ _) | (with_reducible refine below_drewN ?_ _) | (with_reducible refine Below.drew ?_) | go_size))⟩
set_option maxHeartbeats 400000 in
theorem calYears_out (y : Int) (w : World) (h : y < 1 ∨ 9599 < y) : Calls Try.prog 6 #[.int .i64 y] w fun e w' => e = .returned (.bool true) ∧ Below w.heap.size w w' := by
  rcases h with h | h
  all_goals
    go_enter Try.func6, Try.ntmps6
    go_wp2_with (go_at_call 12; refine (known2 _).mono ?_; rintro e w5 ⟨rfl, hb5⟩; obtain ⟨hc5, hf5⟩ := bcell hb5; have hz5 := hb5.size; (try simp only [World.size_alloc, World.size_setCell, World.heap_drewN] at hb5 hc5 hf5 hz5); (try have ha05 : w.heap.size < w5.heap.size := by omega); (try have ha15 : w.heap.size + 1 < w5.heap.size := by omega); (try have ha25 : w.heap.size + 2 < w5.heap.size := by omega); (try have hal5 : w.heap.size ≤ w5.heap.size := by omega); (try have ham5 : w.heap.size < w5.heap.size + 2 := by omega))
    go_ret
    go_light
    exact ⟨rfl, by (repeat' (first | (with_reducible exact Below.refl _ _) | (with_reducible assumption) | (with_reducible refine Below.trans ?_ (Below.mono (by with_reducible assumption) ?_)) | (with_reducible refine Below.alloc ?_ ?_ _) | (with_reducible refine Below.setCell ?_ ?_ _) | (with_reducible refine below_drewN ?_ _) | (with_reducible refine Below.drew ?_) | go_size))⟩
theorem year_facts (y : Int) (h1 : 1 ≤ y) (h2 : y ≤ 9599) : Cal.Vld y 1 1 ∧ Cal.Vld y 12 31 ∧ Cal.Vld (y + 400) 1 1 ∧ Cal.num y 12 31 - Cal.num y 1 1 = 364 + Cal.lp y ∧ Cal.num (y + 400) 1 1 - Cal.num y 1 1 = 146097 ∧ (Cal.lp y = 1 → Cal.Vld y 2 29) ∧ (Cal.lp y = 0 → ¬ Cal.Vld y 2 29) := by
  have l := Cal.lp_01 y
  refine ⟨⟨h1, by omega, by omega, by omega, by omega, by simp [Cal.dim]⟩, ⟨h1, by omega, by omega, by omega, by omega, by simp [Cal.dim]⟩, ⟨by omega, by omega, by omega, by omega, by omega, by simp [Cal.dim]⟩, by simp [Cal.num, Cal.cum]; omega, by unfold Cal.num Cal.yr; rw [Cal.cum_1, Cal.cum_1]; omega, fun h => ⟨h1, by omega, by omega, by omega, by omega, by simp [Cal.dim, h]⟩, fun h hv => by have := hv.2.2.2.2.2; simp [Cal.dim, h] at this⟩
set_option maxHeartbeats 2000000 in
theorem calYears_in (y : Int) (w : World) (h1 : 1 ≤ y) (h2 : y ≤ 9599) : Calls Try.prog 6 #[.int .i64 y] w fun e w' => e = .returned (.bool true) ∧ Below w.heap.size w w' := by
  obtain ⟨v1, v2, v3, e1, e2, f1, f2⟩ := year_facts y h1 h2
  have b1 := Cal.num_bd v1
  have b2 := Cal.num_bd v2
  have b3 := Cal.num_bd v3
  have H1 := Lib.hid v1; have H2 := Lib.hid v2; have H3 := Lib.hid v3; have F1 := Lib.hid f1; have F2 := Lib.hid f2
  clear v1 v2 v3 f1 f2
  have E2 : (Cal.num (y + 400) 1 1 - Cal.num y 1 1 == 146097) = true := by simpa using e2
  clear e2
  by_cases hl : y % 4 = 0 ∧ (y % 100 ≠ 0 ∨ y % 400 = 0)
  · have hlp : Cal.lp y = 1 := by simp [Cal.lp, hl]
    have H4 := Lib.hid (F1.out hlp)
    have E1 : (Cal.num y 12 31 - Cal.num y 1 1 == 365) = true := by rw [e1, hlp]; rfl
    clear e1 hlp F1 F2
    have E4 : y % 4 = 0 := hl.1
    by_cases h100 : y % 100 = 0
    · have h400 : y % 400 = 0 := by omega
      clear hl
      go_enter Try.func6, Try.ntmps6
      go_wp2_with fail
      refine (cal_days_yes _ _ _ _ H1.out).mono ?_; rintro e w1 ⟨rfl, hb1⟩; obtain ⟨hc1, hf1⟩ := bcell hb1; have hz1 := hb1.size; (try simp only [World.size_alloc, World.size_setCell, World.heap_drewN] at hb1 hc1 hf1 hz1); (try have ha01 : w.heap.size < w1.heap.size := by omega); (try have ha11 : w.heap.size + 1 < w1.heap.size := by omega); (try have ha21 : w.heap.size + 2 < w1.heap.size := by omega); (try have hal1 : w.heap.size ≤ w1.heap.size := by omega); (try have ham1 : w.heap.size < w1.heap.size + 2 := by omega)
      go_wp2_with fail
      refine (cal_days_yes _ _ _ _ H2.out).mono ?_; rintro e w2 ⟨rfl, hb2⟩; obtain ⟨hc2, hf2⟩ := bcell hb2; have hz2 := hb2.size; (try simp only [World.size_alloc, World.size_setCell, World.heap_drewN] at hb2 hc2 hf2 hz2); (try have ha02 : w.heap.size < w2.heap.size := by omega); (try have ha12 : w.heap.size + 1 < w2.heap.size := by omega); (try have ha22 : w.heap.size + 2 < w2.heap.size := by omega); (try have hal2 : w.heap.size ≤ w2.heap.size := by omega); (try have ham2 : w.heap.size < w2.heap.size + 2 := by omega)
      go_wp2_with fail
      refine (cal_days_yes _ _ _ _ H3.out).mono ?_; rintro e w3 ⟨rfl, hb3⟩; obtain ⟨hc3, hf3⟩ := bcell hb3; have hz3 := hb3.size; (try simp only [World.size_alloc, World.size_setCell, World.heap_drewN] at hb3 hc3 hf3 hz3); (try have ha03 : w.heap.size < w3.heap.size := by omega); (try have ha13 : w.heap.size + 1 < w3.heap.size := by omega); (try have ha23 : w.heap.size + 2 < w3.heap.size := by omega); (try have hal3 : w.heap.size ≤ w3.heap.size := by omega); (try have ham3 : w.heap.size < w3.heap.size + 2 := by omega)
      go_wp2_with (first | (go_at_call 11; refine (cal_is_yes _ _ _ _ H4.out).mono ?_; rintro e w4 ⟨rfl, hb4⟩; obtain ⟨hc4, hf4⟩ := bcell hb4; have hz4 := hb4.size; (try simp only [World.size_alloc, World.size_setCell, World.heap_drewN] at hb4 hc4 hf4 hz4); (try have ha04 : w.heap.size < w4.heap.size := by omega); (try have ha14 : w.heap.size + 1 < w4.heap.size := by omega); (try have ha24 : w.heap.size + 2 < w4.heap.size := by omega); (try have hal4 : w.heap.size ≤ w4.heap.size := by omega); (try have ham4 : w.heap.size < w4.heap.size + 2 := by omega)) | (go_at_call 12; refine (known2 _).mono ?_; rintro e w5 ⟨rfl, hb5⟩; obtain ⟨hc5, hf5⟩ := bcell hb5; have hz5 := hb5.size; (try simp only [World.size_alloc, World.size_setCell, World.heap_drewN] at hb5 hc5 hf5 hz5); (try have ha05 : w.heap.size < w5.heap.size := by omega); (try have ha15 : w.heap.size + 1 < w5.heap.size := by omega); (try have ha25 : w.heap.size + 2 < w5.heap.size := by omega); (try have hal5 : w.heap.size ≤ w5.heap.size := by omega); (try have ham5 : w.heap.size < w5.heap.size + 2 := by omega)))
      go_ret
      go_light
      exact ⟨rfl, by (repeat' (first | (with_reducible exact Below.refl _ _) | (with_reducible assumption) | (with_reducible refine Below.trans ?_ (Below.mono (by with_reducible assumption) ?_)) | (with_reducible refine Below.alloc ?_ ?_ _) | (with_reducible refine Below.setCell ?_ ?_ _) | (with_reducible refine below_drewN ?_ _) | (with_reducible refine Below.drew ?_) | go_size))⟩
    · clear hl
      go_enter Try.func6, Try.ntmps6
      go_wp2_with fail
      refine (cal_days_yes _ _ _ _ H1.out).mono ?_; rintro e w1 ⟨rfl, hb1⟩; obtain ⟨hc1, hf1⟩ := bcell hb1; have hz1 := hb1.size; (try simp only [World.size_alloc, World.size_setCell, World.heap_drewN] at hb1 hc1 hf1 hz1); (try have ha01 : w.heap.size < w1.heap.size := by omega); (try have ha11 : w.heap.size + 1 < w1.heap.size := by omega); (try have ha21 : w.heap.size + 2 < w1.heap.size := by omega); (try have hal1 : w.heap.size ≤ w1.heap.size := by omega); (try have ham1 : w.heap.size < w1.heap.size + 2 := by omega)
      go_wp2_with fail
      refine (cal_days_yes _ _ _ _ H2.out).mono ?_; rintro e w2 ⟨rfl, hb2⟩; obtain ⟨hc2, hf2⟩ := bcell hb2; have hz2 := hb2.size; (try simp only [World.size_alloc, World.size_setCell, World.heap_drewN] at hb2 hc2 hf2 hz2); (try have ha02 : w.heap.size < w2.heap.size := by omega); (try have ha12 : w.heap.size + 1 < w2.heap.size := by omega); (try have ha22 : w.heap.size + 2 < w2.heap.size := by omega); (try have hal2 : w.heap.size ≤ w2.heap.size := by omega); (try have ham2 : w.heap.size < w2.heap.size + 2 := by omega)
      go_wp2_with fail
      refine (cal_days_yes _ _ _ _ H3.out).mono ?_; rintro e w3 ⟨rfl, hb3⟩; obtain ⟨hc3, hf3⟩ := bcell hb3; have hz3 := hb3.size; (try simp only [World.size_alloc, World.size_setCell, World.heap_drewN] at hb3 hc3 hf3 hz3); (try have ha03 : w.heap.size < w3.heap.size := by omega); (try have ha13 : w.heap.size + 1 < w3.heap.size := by omega); (try have ha23 : w.heap.size + 2 < w3.heap.size := by omega); (try have hal3 : w.heap.size ≤ w3.heap.size := by omega); (try have ham3 : w.heap.size < w3.heap.size + 2 := by omega)
      go_wp2_with (first | (go_at_call 11; refine (cal_is_yes _ _ _ _ H4.out).mono ?_; rintro e w4 ⟨rfl, hb4⟩; obtain ⟨hc4, hf4⟩ := bcell hb4; have hz4 := hb4.size; (try simp only [World.size_alloc, World.size_setCell, World.heap_drewN] at hb4 hc4 hf4 hz4); (try have ha04 : w.heap.size < w4.heap.size := by omega); (try have ha14 : w.heap.size + 1 < w4.heap.size := by omega); (try have ha24 : w.heap.size + 2 < w4.heap.size := by omega); (try have hal4 : w.heap.size ≤ w4.heap.size := by omega); (try have ham4 : w.heap.size < w4.heap.size + 2 := by omega)) | (go_at_call 12; refine (known2 _).mono ?_; rintro e w5 ⟨rfl, hb5⟩; obtain ⟨hc5, hf5⟩ := bcell hb5; have hz5 := hb5.size; (try simp only [World.size_alloc, World.size_setCell, World.heap_drewN] at hb5 hc5 hf5 hz5); (try have ha05 : w.heap.size < w5.heap.size := by omega); (try have ha15 : w.heap.size + 1 < w5.heap.size := by omega); (try have ha25 : w.heap.size + 2 < w5.heap.size := by omega); (try have hal5 : w.heap.size ≤ w5.heap.size := by omega); (try have ham5 : w.heap.size < w5.heap.size + 2 := by omega)))
      go_ret
      go_light
      exact ⟨rfl, by (repeat' (first | (with_reducible exact Below.refl _ _) | (with_reducible assumption) | (with_reducible refine Below.trans ?_ (Below.mono (by with_reducible assumption) ?_)) | (with_reducible refine Below.alloc ?_ ?_ _) | (with_reducible refine Below.setCell ?_ ?_ _) | (with_reducible refine below_drewN ?_ _) | (with_reducible refine Below.drew ?_) | go_size))⟩
  · have hlp : Cal.lp y = 0 := by simp [Cal.lp, hl]
    have H4 := Lib.hid (F2.out hlp)
    have E1 : (Cal.num y 12 31 - Cal.num y 1 1 == 364) = true := by rw [e1, hlp]; rfl
    clear e1 hlp F1 F2
    rcases (show y % 4 ≠ 0 ∨ (y % 4 = 0 ∧ y % 100 = 0 ∧ y % 400 ≠ 0) from by omega) with h4 | ⟨h4, h100, h400⟩
    all_goals
      clear hl
      go_enter Try.func6, Try.ntmps6
      go_wp2_with fail
      refine (cal_days_yes _ _ _ _ H1.out).mono ?_; rintro e w1 ⟨rfl, hb1⟩; obtain ⟨hc1, hf1⟩ := bcell hb1; have hz1 := hb1.size; (try simp only [World.size_alloc, World.size_setCell, World.heap_drewN] at hb1 hc1 hf1 hz1); (try have ha01 : w.heap.size < w1.heap.size := by omega); (try have ha11 : w.heap.size + 1 < w1.heap.size := by omega); (try have ha21 : w.heap.size + 2 < w1.heap.size := by omega); (try have hal1 : w.heap.size ≤ w1.heap.size := by omega); (try have ham1 : w.heap.size < w1.heap.size + 2 := by omega)
      go_wp2_with fail
      refine (cal_days_yes _ _ _ _ H2.out).mono ?_; rintro e w2 ⟨rfl, hb2⟩; obtain ⟨hc2, hf2⟩ := bcell hb2; have hz2 := hb2.size; (try simp only [World.size_alloc, World.size_setCell, World.heap_drewN] at hb2 hc2 hf2 hz2); (try have ha02 : w.heap.size < w2.heap.size := by omega); (try have ha12 : w.heap.size + 1 < w2.heap.size := by omega); (try have ha22 : w.heap.size + 2 < w2.heap.size := by omega); (try have hal2 : w.heap.size ≤ w2.heap.size := by omega); (try have ham2 : w.heap.size < w2.heap.size + 2 := by omega)
      go_wp2_with fail
      refine (cal_days_yes _ _ _ _ H3.out).mono ?_; rintro e w3 ⟨rfl, hb3⟩; obtain ⟨hc3, hf3⟩ := bcell hb3; have hz3 := hb3.size; (try simp only [World.size_alloc, World.size_setCell, World.heap_drewN] at hb3 hc3 hf3 hz3); (try have ha03 : w.heap.size < w3.heap.size := by omega); (try have ha13 : w.heap.size + 1 < w3.heap.size := by omega); (try have ha23 : w.heap.size + 2 < w3.heap.size := by omega); (try have hal3 : w.heap.size ≤ w3.heap.size := by omega); (try have ham3 : w.heap.size < w3.heap.size + 2 := by omega)
      go_wp2_with (first | (go_at_call 11; refine (cal_is_no _ _ _ _ H4.out).mono ?_; rintro e w4 ⟨rfl, hb4⟩; obtain ⟨hc4, hf4⟩ := bcell hb4; have hz4 := hb4.size; (try simp only [World.size_alloc, World.size_setCell, World.heap_drewN] at hb4 hc4 hf4 hz4); (try have ha04 : w.heap.size < w4.heap.size := by omega); (try have ha14 : w.heap.size + 1 < w4.heap.size := by omega); (try have ha24 : w.heap.size + 2 < w4.heap.size := by omega); (try have hal4 : w.heap.size ≤ w4.heap.size := by omega); (try have ham4 : w.heap.size < w4.heap.size + 2 := by omega)) | (go_at_call 12; refine (known2 _).mono ?_; rintro e w5 ⟨rfl, hb5⟩; obtain ⟨hc5, hf5⟩ := bcell hb5; have hz5 := hb5.size; (try simp only [World.size_alloc, World.size_setCell, World.heap_drewN] at hb5 hc5 hf5 hz5); (try have ha05 : w.heap.size < w5.heap.size := by omega); (try have ha15 : w.heap.size + 1 < w5.heap.size := by omega); (try have ha25 : w.heap.size + 2 < w5.heap.size := by omega); (try have hal5 : w.heap.size ≤ w5.heap.size := by omega); (try have ham5 : w.heap.size < w5.heap.size + 2 := by omega)))
      go_ret
      go_light
      exact ⟨rfl, by (repeat' (first | (with_reducible exact Below.refl _ _) | (with_reducible assumption) | (with_reducible refine Below.trans ?_ (Below.mono (by with_reducible assumption) ?_)) | (with_reducible refine Below.alloc ?_ ?_ _) | (with_reducible refine Below.setCell ?_ ?_ _) | (with_reducible refine below_drewN ?_ _) | (with_reducible refine Below.drew ?_) | go_size))⟩
end Go.Proofs.Ytlmbhiidbcpihaa
