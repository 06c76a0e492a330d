/- The laws of stage 2, walked: CalMonths. -/
import Derived.Test.YtlmbhiidbcpihaaS2A
set_option linter.unusedSimpArgs false
set_option linter.unusedVariables false
namespace Go.Proofs.Ytlmbhiidbcpihaa
open Go.RowKit

theorem beq_of {a b : Int} (h : a = b) : (a == b) = true := by simpa using h
set_option maxHeartbeats 1000000 in
theorem calMonths_out (y m : Int) (w : World) (h : y < 1 ∨ (1 ≤ y ∧ 9998 < y) ∨ (1 ≤ y ∧ y ≤ 9998 ∧ m < 1) ∨ (1 ≤ y ∧ y ≤ 9998 ∧ 1 ≤ m ∧ 12 < m)) :
    Calls Try.prog 7 #[.int .i64 y, .int .i64 m] w fun e w' => e = .returned (.bool true) ∧ Below w.heap.size w w' := by
  rcases h with h | ⟨h1, h⟩ | ⟨h1, h2, h⟩ | ⟨h1, h2, h3, h⟩
  all_goals
    go_enter Try.func7, Try.ntmps7
    go_wp2_with (go_at_call 12; refine (known2 _).mono ?_; rintro e w5 ⟨rfl, hb5⟩; obtain ⟨hc5, hf5⟩ := bcell hb5; have hz5 := hb5.size; (try simp only [World.size_alloc, World.size_setCell, World.heap_drewN] at hb5 hc5 hf5 hz5); (try have ha05 : w.heap.size < w5.heap.size := by omega); (try have ha15 : w.heap.size + 1 < w5.heap.size := by omega); (try have ha25 : w.heap.size + 2 < w5.heap.size := by omega); (try have hal5 : w.heap.size ≤ w5.heap.size := by omega); (try have ham5 : w.heap.size < w5.heap.size + 2 := by omega))
    go_ret
    go_light
    exact ⟨rfl, by (repeat' (first | (with_reducible exact Below.refl _ _) | (with_reducible assumption) | (with_reducible refine Below.trans ?_ (Below.mono (by with_reducible assumption) ?_)) | (with_reducible refine Below.alloc ?_ ?_ _) | (with_reducible refine Below.setCell ?_ ?_ _) | (with_reducible refine below_drewN ?_ _) | (with_reducible refine Below.drew ?_) | go_size))⟩
/-- The days of the months, as the law lists them. -/
def mtab (m : Int) : Int := if m = 2 then 28 else if m = 4 ∨ m = 6 ∨ m = 9 ∨ m = 11 then 30 else 31
theorem month_facts (y m : Int) (h1 : 1 ≤ y) (h2 : y ≤ 9998) (h3 : 1 ≤ m) (h4 : m ≤ 12) : Cal.Vld y m 1 ∧ Cal.Vld (y + m / 12) (m % 12 + 1) 1 ∧ Cal.num (y + m / 12) (m % 12 + 1) 1 - Cal.num y m 1 = Cal.dim y m := by
  have d1 := Cal.dim_bd y m
  have d2 := Cal.dim_bd (y + m / 12) (m % 12 + 1)
  refine ⟨⟨h1, by omega, h3, h4, by omega, by omega⟩, ⟨by omega, by omega, by omega, by omega, by omega, by omega⟩, ?_⟩
  have cs := Cal.cum_succ y m h3 h4
  by_cases h : m = 12
  · subst h
    have e1 : y + 12 / 12 = y + 1 := by omega
    have e2 : (12 : Int) % 12 + 1 = 1 := by omega
    have e3 := Cal.yr_succ y
    have e4 := Cal.cum_13 y
    have e5 := Cal.cum_1 (y + 1)
    have cs' : Cal.cum y 13 = Cal.cum y 12 + Cal.dim y 12 := cs
    rw [e1, e2]; unfold Cal.num; omega
  · have e1 : y + m / 12 = y := by omega
    have e2 : m % 12 + 1 = m + 1 := by omega
    rw [e1, e2]; unfold Cal.num; omega
theorem mtab_cell (m : Int) (h3 : 1 ≤ m) (h4 : m ≤ 12) : ([.int .i64 31, .int .i64 28, .int .i64 31, .int .i64 30, .int .i64 31, .int .i64 30, .int .i64 31, .int .i64 31, .int .i64 30, .int .i64 31, .int .i64 30, .int .i64 31] : List Value)[m.toNat - 1]? = some (.int .i64 (mtab m)) := by
  obtain h | h | h | h | h | h | h | h | h | h | h | h : m = 1 ∨ m = 2 ∨ m = 3 ∨ m = 4 ∨ m = 5 ∨ m = 6 ∨ m = 7 ∨ m = 8 ∨ m = 9 ∨ m = 10 ∨ m = 11 ∨ m = 12 := by omega
  all_goals (subst h; simp [mtab])
set_option maxHeartbeats 2000000 in
theorem calMonths_plain (y m : Int) (w : World) (h1 : 1 ≤ y) (h2 : y ≤ 9998) (h3 : 1 ≤ m) (h4 : m ≤ 12) (hn : m ≠ 2) :
    Calls Try.prog 7 #[.int .i64 y, .int .i64 m] w fun e w' => e = .returned (.bool true) ∧ Below w.heap.size w w' := by
  obtain ⟨v1, v2, e1⟩ := month_facts y m h1 h2 h3 h4
  have V1 := Lib.hid v1
  have V2 := Lib.hid v2
  have B1 := Cal.num_bd v1
  have B2 := Cal.num_bd v2
  have E1 : (Cal.num (y + m / 12) (m % 12 + 1) 1 - Cal.num y m 1 == Cal.dim y m) = true := by simpa using e1
  clear v1 v2 e1
  have hm2 : (m == 2) = false := by simpa using hn
  have hE : mtab m = Cal.dim y m := by unfold mtab Cal.dim; rw [if_neg hn, if_neg hn]
  clear hn
  have hcell := mtab_cell m h3 h4
  rw [hE] at hcell
  clear hE
  have hd := Cal.dim_bd y m
  go_enter Try.func7, Try.ntmps7
  go_wp2
  go_loopw [6] (fun t wr => ∃ k : Int, 0 ≤ k ∧ k ≤ 34 ∧ t = .int .i64 k ∧ Below w.heap.size w wr) (fun t _ => (34 - intOf t).toNat)
  case atStart =>
    go_light
    exact ⟨0, by omega, by omega, rfl, by (repeat' (first | (with_reducible exact Below.refl _ _) | (with_reducible assumption) | (with_reducible refine Below.trans ?_ (Below.mono (by with_reducible assumption) ?_)) | (with_reducible refine Below.alloc ?_ ?_ _) | (with_reducible refine Below.setCell ?_ ?_ _) | (with_reducible refine below_drewN ?_ _) | (with_reducible refine Below.drew ?_) | go_size))⟩
  case round =>
    obtain ⟨k, k0, k1, rfl, HB⟩ := hrel
    clear hcell
    have hsz := HB.size
    by_cases hk : k ≤ 33
    · by_cases hv : 1 ≤ k
      · by_cases hv2 : k ≤ Cal.dim y m
        · have V : Hid (Cal.Vld y m k) := ⟨h1, by omega, h3, h4, hv, hv2⟩
          go_wp2_with (go_at_call 11; refine (cal_is_yes _ _ _ _ V.out).mono ?_; rintro e w1 ⟨rfl, hb1⟩; obtain ⟨hc1, hf1⟩ := bcell hb1; have hz1 := hb1.size; (try simp only [World.size_alloc, World.size_setCell, World.heap_drewN] at hb1 hc1 hf1 hz1); (try have ha01 : w.heap.size < w1.heap.size := by omega); (try have ha11 : w.heap.size + 1 < w1.heap.size := by omega); (try have ha21 : w.heap.size + 2 < w1.heap.size := by omega); (try have hal1 : w.heap.size ≤ w1.heap.size := by omega); (try have ham1 : w.heap.size < w1.heap.size + 2 := by omega))
          go_roundw
          case rel => exact ⟨k + 1, by omega, by omega, rfl, by (repeat' (first | (with_reducible exact Below.refl _ _) | (with_reducible assumption) | (with_reducible refine Below.trans ?_ (Below.mono (by with_reducible assumption) ?_)) | (with_reducible refine Below.alloc ?_ ?_ _) | (with_reducible refine Below.setCell ?_ ?_ _) | (with_reducible refine below_drewN ?_ _) | (with_reducible refine Below.drew ?_) | go_size))⟩
          case measure => simp [intOf]; omega
        · have V : Hid (¬ Cal.Vld y m k) := fun h => hv2 h.2.2.2.2.2
          have hv3 : decide (k ≤ Cal.dim y m) = false := by simpa using hv2
          go_wp2_with (go_at_call 11; refine (cal_is_no _ _ _ _ V.out).mono ?_; rintro e w1 ⟨rfl, hb1⟩; obtain ⟨hc1, hf1⟩ := bcell hb1; have hz1 := hb1.size; (try simp only [World.size_alloc, World.size_setCell, World.heap_drewN] at hb1 hc1 hf1 hz1); (try have ha01 : w.heap.size < w1.heap.size := by omega); (try have ha11 : w.heap.size + 1 < w1.heap.size := by omega); (try have ha21 : w.heap.size + 2 < w1.heap.size := by omega); (try have hal1 : w.heap.size ≤ w1.heap.size := by omega); (try have ham1 : w.heap.size < w1.heap.size + 2 := by omega))
          go_roundw
          case rel => exact ⟨k + 1, by omega, by omega, rfl, by (repeat' (first | (with_reducible exact Below.refl _ _) | (with_reducible assumption) | (with_reducible refine Below.trans ?_ (Below.mono (by with_reducible assumption) ?_)) | (with_reducible refine Below.alloc ?_ ?_ _) | (with_reducible refine Below.setCell ?_ ?_ _) | (with_reducible refine below_drewN ?_ _) | (with_reducible refine Below.drew ?_) | go_size))⟩
          case measure => simp [intOf]; omega
      · have V : Hid (¬ Cal.Vld y m k) := fun h => hv h.2.2.2.2.1
        have hv3 : decide (1 ≤ k) = false := by simpa using hv
        go_wp2_with (go_at_call 11; refine (cal_is_no _ _ _ _ V.out).mono ?_; rintro e w1 ⟨rfl, hb1⟩; obtain ⟨hc1, hf1⟩ := bcell hb1; have hz1 := hb1.size; (try simp only [World.size_alloc, World.size_setCell, World.heap_drewN] at hb1 hc1 hf1 hz1); (try have ha01 : w.heap.size < w1.heap.size := by omega); (try have ha11 : w.heap.size + 1 < w1.heap.size := by omega); (try have ha21 : w.heap.size + 2 < w1.heap.size := by omega); (try have hal1 : w.heap.size ≤ w1.heap.size := by omega); (try have ham1 : w.heap.size < w1.heap.size + 2 := by omega))
        go_roundw
        case rel => exact ⟨k + 1, by omega, by omega, rfl, by (repeat' (first | (with_reducible exact Below.refl _ _) | (with_reducible assumption) | (with_reducible refine Below.trans ?_ (Below.mono (by with_reducible assumption) ?_)) | (with_reducible refine Below.alloc ?_ ?_ _) | (with_reducible refine Below.setCell ?_ ?_ _) | (with_reducible refine below_drewN ?_ _) | (with_reducible refine Below.drew ?_) | go_size))⟩
        case measure => simp [intOf]; omega
    · go_wp2_with fail
      refine (cal_days_yes _ _ _ _ V1.out).mono ?_; rintro e w1 ⟨rfl, hb1⟩; obtain ⟨hc1, hf1⟩ := bcell hb1; have hz1 := hb1.size; (try simp only [World.size_alloc, World.size_setCell, World.heap_drewN] at hb1 hc1 hf1 hz1); (try have ha01 : w.heap.size < w1.heap.size := by omega); (try have ha11 : w.heap.size + 1 < w1.heap.size := by omega); (try have ha21 : w.heap.size + 2 < w1.heap.size := by omega); (try have hal1 : w.heap.size ≤ w1.heap.size := by omega); (try have ham1 : w.heap.size < w1.heap.size + 2 := by omega)
      go_wp2_with fail
      refine (cal_days_yes _ _ _ _ V2.out).mono ?_; rintro e w2 ⟨rfl, hb2⟩; obtain ⟨hc2, hf2⟩ := bcell hb2; have hz2 := hb2.size; (try simp only [World.size_alloc, World.size_setCell, World.heap_drewN] at hb2 hc2 hf2 hz2); (try have ha02 : w.heap.size < w2.heap.size := by omega); (try have ha12 : w.heap.size + 1 < w2.heap.size := by omega); (try have ha22 : w.heap.size + 2 < w2.heap.size := by omega); (try have hal2 : w.heap.size ≤ w2.heap.size := by omega); (try have ham2 : w.heap.size < w2.heap.size + 2 := by omega)
      go_wp2_with (go_at_call 12; refine (known2 _).mono ?_; rintro e w5 ⟨rfl, hb5⟩; obtain ⟨hc5, hf5⟩ := bcell hb5; have hz5 := hb5.size; (try simp only [World.size_alloc, World.size_setCell, World.heap_drewN] at hb5 hc5 hf5 hz5); (try have ha05 : w.heap.size < w5.heap.size := by omega); (try have ha15 : w.heap.size + 1 < w5.heap.size := by omega); (try have ha25 : w.heap.size + 2 < w5.heap.size := by omega); (try have hal5 : w.heap.size ≤ w5.heap.size := by omega); (try have ham5 : w.heap.size < w5.heap.size + 2 := by omega))
      go_ret
      go_light
      exact ⟨rfl, by (repeat' (first | (with_reducible exact Below.refl _ _) | (with_reducible assumption) | (with_reducible refine Below.trans ?_ (Below.mono (by with_reducible assumption) ?_)) | (with_reducible refine Below.alloc ?_ ?_ _) | (with_reducible refine Below.setCell ?_ ?_ _) | (with_reducible refine below_drewN ?_ _) | (with_reducible refine Below.drew ?_) | go_size))⟩
set_option maxHeartbeats 2000000 in
theorem calMonths_feb400 (y : Int) (w : World) (h1 : 1 ≤ y) (h2 : y ≤ 9998) (hl : y % 400 = 0) :
    Calls Try.prog 7 #[.int .i64 y, .int .i64 2] w fun e w' => e = .returned (.bool true) ∧ Below w.heap.size w w' := by
  obtain ⟨v1, v2, e1⟩ := month_facts y 2 h1 h2 (by omega) (by omega)
  have hD : Hid (Cal.dim y 2 = 29) := by show _ = _; simp [Cal.dim, Cal.lp]; omega
  rw [hD.out] at e1
  have ey : y + 2 / 12 = y := by omega
  have em : (2 : Int) % 12 + 1 = 3 := by omega
  rw [ey, em] at v2 e1
  clear ey em
  have V1 := Lib.hid v1
  have V2 := Lib.hid v2
  have B1 := Cal.num_bd v1
  have B2 := Cal.num_bd v2
  have E1 : (Cal.num y 3 1 - Cal.num y 2 1 == 29) = true := by simpa using e1
  clear v1 v2 e1
  have l1 : (y % 400 == 0) = true := by simpa using hl
  clear hl
  go_enter Try.func7, Try.ntmps7
  go_wp2
  go_loopw [6] (fun t wr => ∃ k : Int, 0 ≤ k ∧ k ≤ 34 ∧ t = .int .i64 k ∧ Below w.heap.size w wr) (fun t _ => (34 - intOf t).toNat)
  case atStart =>
    go_light
    exact ⟨0, by omega, by omega, rfl, by (repeat' (first | (with_reducible exact Below.refl _ _) | (with_reducible assumption) | (with_reducible refine Below.trans ?_ (Below.mono (by with_reducible assumption) ?_)) | (with_reducible refine Below.alloc ?_ ?_ _) | (with_reducible refine Below.setCell ?_ ?_ _) | (with_reducible refine below_drewN ?_ _) | (with_reducible refine Below.drew ?_) | go_size))⟩
  case round =>
    obtain ⟨k, k0, k1, rfl, HB⟩ := hrel
    have hsz := HB.size
    by_cases hk : k ≤ 33
    · by_cases hv : 1 ≤ k
      · by_cases hv2 : k ≤ 29
        · have V : Hid (Cal.Vld y 2 k) := ⟨h1, by omega, by omega, by omega, hv, by rw [hD.out]; exact hv2⟩
          go_wp2_with (go_at_call 11; refine (cal_is_yes _ _ _ _ V.out).mono ?_; rintro e w1 ⟨rfl, hb1⟩; obtain ⟨hc1, hf1⟩ := bcell hb1; have hz1 := hb1.size; (try simp only [World.size_alloc, World.size_setCell, World.heap_drewN] at hb1 hc1 hf1 hz1); (try have ha01 : w.heap.size < w1.heap.size := by omega); (try have ha11 : w.heap.size + 1 < w1.heap.size := by omega); (try have ha21 : w.heap.size + 2 < w1.heap.size := by omega); (try have hal1 : w.heap.size ≤ w1.heap.size := by omega); (try have ham1 : w.heap.size < w1.heap.size + 2 := by omega))
          go_roundw
          case rel => first | exact ⟨k + 1, by omega, by omega, rfl, by (repeat' (first | (with_reducible exact Below.refl _ _) | (with_reducible assumption) | (with_reducible refine Below.trans ?_ (Below.mono (by with_reducible assumption) ?_)) | (with_reducible refine Below.alloc ?_ ?_ _) | (with_reducible refine Below.setCell ?_ ?_ _) | (with_reducible refine below_drewN ?_ _) | (with_reducible refine Below.drew ?_) | go_size))⟩ | (go_light; (repeat apply Exists.intro); exact ⟨⟨k + 1, by omega, by omega, rfl, by (repeat' (first | (with_reducible exact Below.refl _ _) | (with_reducible assumption) | (with_reducible refine Below.trans ?_ (Below.mono (by with_reducible assumption) ?_)) | (with_reducible refine Below.alloc ?_ ?_ _) | (with_reducible refine Below.setCell ?_ ?_ _) | (with_reducible refine below_drewN ?_ _) | (with_reducible refine Below.drew ?_) | go_size))⟩, rfl⟩)
          case measure => simp [intOf]; omega
        · have V : Hid (¬ Cal.Vld y 2 k) := fun h => hv2 (by have := h.2.2.2.2.2; rw [hD.out] at this; exact this)
          have hv3 : decide (k ≤ 29) = false := by simpa using hv2
          go_wp2_with (go_at_call 11; refine (cal_is_no _ _ _ _ V.out).mono ?_; rintro e w1 ⟨rfl, hb1⟩; obtain ⟨hc1, hf1⟩ := bcell hb1; have hz1 := hb1.size; (try simp only [World.size_alloc, World.size_setCell, World.heap_drewN] at hb1 hc1 hf1 hz1); (try have ha01 : w.heap.size < w1.heap.size := by omega); (try have ha11 : w.heap.size + 1 < w1.heap.size := by omega); (try have ha21 : w.heap.size + 2 < w1.heap.size := by omega); (try have hal1 : w.heap.size ≤ w1.heap.size := by omega); (try have ham1 : w.heap.size < w1.heap.size + 2 := by omega))
          go_roundw
          case rel => first | exact ⟨k + 1, by omega, by omega, rfl, by (repeat' (first | (with_reducible exact Below.refl _ _) | (with_reducible assumption) | (with_reducible refine Below.trans ?_ (Below.mono (by with_reducible assumption) ?_)) | (with_reducible refine Below.alloc ?_ ?_ _) | (with_reducible refine Below.setCell ?_ ?_ _) | (with_reducible refine below_drewN ?_ _) | (with_reducible refine Below.drew ?_) | go_size))⟩ | (go_light; (repeat apply Exists.intro); exact ⟨⟨k + 1, by omega, by omega, rfl, by (repeat' (first | (with_reducible exact Below.refl _ _) | (with_reducible assumption) | (with_reducible refine Below.trans ?_ (Below.mono (by with_reducible assumption) ?_)) | (with_reducible refine Below.alloc ?_ ?_ _) | (with_reducible refine Below.setCell ?_ ?_ _) | (with_reducible refine below_drewN ?_ _) | (with_reducible refine Below.drew ?_) | go_size))⟩, rfl⟩)
          case measure => simp [intOf]; omega
      · have V : Hid (¬ Cal.Vld y 2 k) := fun h => hv h.2.2.2.2.1
        have hv3 : decide (1 ≤ k) = false := by simpa using hv
        go_wp2_with (go_at_call 11; refine (cal_is_no _ _ _ _ V.out).mono ?_; rintro e w1 ⟨rfl, hb1⟩; obtain ⟨hc1, hf1⟩ := bcell hb1; have hz1 := hb1.size; (try simp only [World.size_alloc, World.size_setCell, World.heap_drewN] at hb1 hc1 hf1 hz1); (try have ha01 : w.heap.size < w1.heap.size := by omega); (try have ha11 : w.heap.size + 1 < w1.heap.size := by omega); (try have ha21 : w.heap.size + 2 < w1.heap.size := by omega); (try have hal1 : w.heap.size ≤ w1.heap.size := by omega); (try have ham1 : w.heap.size < w1.heap.size + 2 := by omega))
        go_roundw
        case rel => first | exact ⟨k + 1, by omega, by omega, rfl, by (repeat' (first | (with_reducible exact Below.refl _ _) | (with_reducible assumption) | (with_reducible refine Below.trans ?_ (Below.mono (by with_reducible assumption) ?_)) | (with_reducible refine Below.alloc ?_ ?_ _) | (with_reducible refine Below.setCell ?_ ?_ _) | (with_reducible refine below_drewN ?_ _) | (with_reducible refine Below.drew ?_) | go_size))⟩ | (go_light; (repeat apply Exists.intro); exact ⟨⟨k + 1, by omega, by omega, rfl, by (repeat' (first | (with_reducible exact Below.refl _ _) | (with_reducible assumption) | (with_reducible refine Below.trans ?_ (Below.mono (by with_reducible assumption) ?_)) | (with_reducible refine Below.alloc ?_ ?_ _) | (with_reducible refine Below.setCell ?_ ?_ _) | (with_reducible refine below_drewN ?_ _) | (with_reducible refine Below.drew ?_) | go_size))⟩, rfl⟩)
        case measure => simp [intOf]; omega
    · go_wp2_with fail
      refine (cal_days_yes _ _ _ _ V1.out).mono ?_; rintro e w1 ⟨rfl, hb1⟩; obtain ⟨hc1, hf1⟩ := bcell hb1; have hz1 := hb1.size; (try simp only [World.size_alloc, World.size_setCell, World.heap_drewN] at hb1 hc1 hf1 hz1); (try have ha01 : w.heap.size < w1.heap.size := by omega); (try have ha11 : w.heap.size + 1 < w1.heap.size := by omega); (try have ha21 : w.heap.size + 2 < w1.heap.size := by omega); (try have hal1 : w.heap.size ≤ w1.heap.size := by omega); (try have ham1 : w.heap.size < w1.heap.size + 2 := by omega)
      go_wp2_with fail
      refine (cal_days_yes _ _ _ _ V2.out).mono ?_; rintro e w2 ⟨rfl, hb2⟩; obtain ⟨hc2, hf2⟩ := bcell hb2; have hz2 := hb2.size; (try simp only [World.size_alloc, World.size_setCell, World.heap_drewN] at hb2 hc2 hf2 hz2); (try have ha02 : w.heap.size < w2.heap.size := by omega); (try have ha12 : w.heap.size + 1 < w2.heap.size := by omega); (try have ha22 : w.heap.size + 2 < w2.heap.size := by omega); (try have hal2 : w.heap.size ≤ w2.heap.size := by omega); (try have ham2 : w.heap.size < w2.heap.size + 2 := by omega)
      go_wp2_with (go_at_call 12; refine (known2 _).mono ?_; rintro e w5 ⟨rfl, hb5⟩; obtain ⟨hc5, hf5⟩ := bcell hb5; have hz5 := hb5.size; (try simp only [World.size_alloc, World.size_setCell, World.heap_drewN] at hb5 hc5 hf5 hz5); (try have ha05 : w.heap.size < w5.heap.size := by omega); (try have ha15 : w.heap.size + 1 < w5.heap.size := by omega); (try have ha25 : w.heap.size + 2 < w5.heap.size := by omega); (try have hal5 : w.heap.size ≤ w5.heap.size := by omega); (try have ham5 : w.heap.size < w5.heap.size + 2 := by omega))
      go_ret
      go_light
      exact ⟨rfl, by (repeat' (first | (with_reducible exact Below.refl _ _) | (with_reducible assumption) | (with_reducible refine Below.trans ?_ (Below.mono (by with_reducible assumption) ?_)) | (with_reducible refine Below.alloc ?_ ?_ _) | (with_reducible refine Below.setCell ?_ ?_ _) | (with_reducible refine below_drewN ?_ _) | (with_reducible refine Below.drew ?_) | go_size))⟩
set_option maxHeartbeats 2000000 in
theorem calMonths_feb29 (y : Int) (w : World) (h1 : 1 ≤ y) (h2 : y ≤ 9998) (hl : y % 400 ≠ 0) (hl4 : y % 4 = 0) (hl1 : y % 100 ≠ 0) :
    Calls Try.prog 7 #[.int .i64 y, .int .i64 2] w fun e w' => e = .returned (.bool true) ∧ Below w.heap.size w w' := by
  obtain ⟨v1, v2, e1⟩ := month_facts y 2 h1 h2 (by omega) (by omega)
  have hD : Hid (Cal.dim y 2 = 29) := by show _ = _; simp [Cal.dim, Cal.lp]; omega
  rw [hD.out] at e1
  have ey : y + 2 / 12 = y := by omega
  have em : (2 : Int) % 12 + 1 = 3 := by omega
  rw [ey, em] at v2 e1
  clear ey em
  have V1 := Lib.hid v1
  have V2 := Lib.hid v2
  have B1 := Cal.num_bd v1
  have B2 := Cal.num_bd v2
  have E1 : (Cal.num y 3 1 - Cal.num y 2 1 == 29) = true := by simpa using e1
  clear v1 v2 e1
  have l1 : (y % 400 == 0) = false := by simpa using hl
  have l2 : (y % 4 == 0) = true := by simpa using hl4
  have l3 : (y % 100 != 0) = true := by simpa using hl1
  have l5 : (y % 100 == 0) = false := by simpa using hl1
  have l6 : decide (y % 100 = 0) = false := by simpa using hl1
  clear hl hl4 hl1
  go_enter Try.func7, Try.ntmps7
  go_wp2
  go_loopw [6] (fun t wr => ∃ k : Int, 0 ≤ k ∧ k ≤ 34 ∧ t = .int .i64 k ∧ Below w.heap.size w wr) (fun t _ => (34 - intOf t).toNat)
  case atStart =>
    go_light
    exact ⟨0, by omega, by omega, rfl, by (repeat' (first | (with_reducible exact Below.refl _ _) | (with_reducible assumption) | (with_reducible refine Below.trans ?_ (Below.mono (by with_reducible assumption) ?_)) | (with_reducible refine Below.alloc ?_ ?_ _) | (with_reducible refine Below.setCell ?_ ?_ _) | (with_reducible refine below_drewN ?_ _) | (with_reducible refine Below.drew ?_) | go_size))⟩
  case round =>
    obtain ⟨k, k0, k1, rfl, HB⟩ := hrel
    have hsz := HB.size
    by_cases hk : k ≤ 33
    · by_cases hv : 1 ≤ k
      · by_cases hv2 : k ≤ 29
        · have V : Hid (Cal.Vld y 2 k) := ⟨h1, by omega, by omega, by omega, hv, by rw [hD.out]; exact hv2⟩
          go_wp2_with (go_at_call 11; refine (cal_is_yes _ _ _ _ V.out).mono ?_; rintro e w1 ⟨rfl, hb1⟩; obtain ⟨hc1, hf1⟩ := bcell hb1; have hz1 := hb1.size; (try simp only [World.size_alloc, World.size_setCell, World.heap_drewN] at hb1 hc1 hf1 hz1); (try have ha01 : w.heap.size < w1.heap.size := by omega); (try have ha11 : w.heap.size + 1 < w1.heap.size := by omega); (try have ha21 : w.heap.size + 2 < w1.heap.size := by omega); (try have hal1 : w.heap.size ≤ w1.heap.size := by omega); (try have ham1 : w.heap.size < w1.heap.size + 2 := by omega))
          go_roundw
          case rel => first | exact ⟨k + 1, by omega, by omega, rfl, by (repeat' (first | (with_reducible exact Below.refl _ _) | (with_reducible assumption) | (with_reducible refine Below.trans ?_ (Below.mono (by with_reducible assumption) ?_)) | (with_reducible refine Below.alloc ?_ ?_ _) | (with_reducible refine Below.setCell ?_ ?_ _) | (with_reducible refine below_drewN ?_ _) | (with_reducible refine Below.drew ?_) | go_size))⟩ | (go_light; (repeat apply Exists.intro); exact ⟨⟨k + 1, by omega, by omega, rfl, by (repeat' (first | (with_reducible exact Below.refl _ _) | (with_reducible assumption) | (with_reducible refine Below.trans ?_ (Below.mono (by with_reducible assumption) ?_)) | (with_reducible refine Below.alloc ?_ ?_ _) | (with_reducible refine Below.setCell ?_ ?_ _) | (with_reducible refine below_drewN ?_ _) | (with_reducible refine Below.drew ?_) | go_size))⟩, rfl⟩)
          case measure => simp [intOf]; omega
        · have V : Hid (¬ Cal.Vld y 2 k) := fun h => hv2 (by have := h.2.2.2.2.2; rw [hD.out] at this; exact this)
          have hv3 : decide (k ≤ 29) = false := by simpa using hv2
          go_wp2_with (go_at_call 11; refine (cal_is_no _ _ _ _ V.out).mono ?_; rintro e w1 ⟨rfl, hb1⟩; obtain ⟨hc1, hf1⟩ := bcell hb1; have hz1 := hb1.size; (try simp only [World.size_alloc, World.size_setCell, World.heap_drewN] at hb1 hc1 hf1 hz1); (try have ha01 : w.heap.size < w1.heap.size := by omega); (try have ha11 : w.heap.size + 1 < w1.heap.size := by omega); (try have ha21 : w.heap.size + 2 < w1.heap.size := by omega); (try have hal1 : w.heap.size ≤ w1.heap.size := by omega); (try have ham1 : w.heap.size < w1.heap.size + 2 := by omega))
          go_roundw
          case rel => first | exact ⟨k + 1, by omega, by omega, rfl, by (repeat' (first | (with_reducible exact Below.refl _ _) | (with_reducible assumption) | (with_reducible refine Below.trans ?_ (Below.mono (by with_reducible assumption) ?_)) | (with_reducible refine Below.alloc ?_ ?_ _) | (with_reducible refine Below.setCell ?_ ?_ _) | (with_reducible refine below_drewN ?_ _) | (with_reducible refine Below.drew ?_) | go_size))⟩ | (go_light; (repeat apply Exists.intro); exact ⟨⟨k + 1, by omega, by omega, rfl, by (repeat' (first | (with_reducible exact Below.refl _ _) | (with_reducible assumption) | (with_reducible refine Below.trans ?_ (Below.mono (by with_reducible assumption) ?_)) | (with_reducible refine Below.alloc ?_ ?_ _) | (with_reducible refine Below.setCell ?_ ?_ _) | (with_reducible refine below_drewN ?_ _) | (with_reducible refine Below.drew ?_) | go_size))⟩, rfl⟩)
          case measure => simp [intOf]; omega
      · have V : Hid (¬ Cal.Vld y 2 k) := fun h => hv h.2.2.2.2.1
        have hv3 : decide (1 ≤ k) = false := by simpa using hv
        go_wp2_with (go_at_call 11; refine (cal_is_no _ _ _ _ V.out).mono ?_; rintro e w1 ⟨rfl, hb1⟩; obtain ⟨hc1, hf1⟩ := bcell hb1; have hz1 := hb1.size; (try simp only [World.size_alloc, World.size_setCell, World.heap_drewN] at hb1 hc1 hf1 hz1); (try have ha01 : w.heap.size < w1.heap.size := by omega); (try have ha11 : w.heap.size + 1 < w1.heap.size := by omega); (try have ha21 : w.heap.size + 2 < w1.heap.size := by omega); (try have hal1 : w.heap.size ≤ w1.heap.size := by omega); (try have ham1 : w.heap.size < w1.heap.size + 2 := by omega))
        go_roundw
        case rel => first | exact ⟨k + 1, by omega, by omega, rfl, by (repeat' (first | (with_reducible exact Below.refl _ _) | (with_reducible assumption) | (with_reducible refine Below.trans ?_ (Below.mono (by with_reducible assumption) ?_)) | (with_reducible refine Below.alloc ?_ ?_ _) | (with_reducible refine Below.setCell ?_ ?_ _) | (with_reducible refine below_drewN ?_ _) | (with_reducible refine Below.drew ?_) | go_size))⟩ | (go_light; (repeat apply Exists.intro); exact ⟨⟨k + 1, by omega, by omega, rfl, by (repeat' (first | (with_reducible exact Below.refl _ _) | (with_reducible assumption) | (with_reducible refine Below.trans ?_ (Below.mono (by with_reducible assumption) ?_)) | (with_reducible refine Below.alloc ?_ ?_ _) | (with_reducible refine Below.setCell ?_ ?_ _) | (with_reducible refine below_drewN ?_ _) | (with_reducible refine Below.drew ?_) | go_size))⟩, rfl⟩)
        case measure => simp [intOf]; omega
    · go_wp2_with fail
      refine (cal_days_yes _ _ _ _ V1.out).mono ?_; rintro e w1 ⟨rfl, hb1⟩; obtain ⟨hc1, hf1⟩ := bcell hb1; have hz1 := hb1.size; (try simp only [World.size_alloc, World.size_setCell, World.heap_drewN] at hb1 hc1 hf1 hz1); (try have ha01 : w.heap.size < w1.heap.size := by omega); (try have ha11 : w.heap.size + 1 < w1.heap.size := by omega); (try have ha21 : w.heap.size + 2 < w1.heap.size := by omega); (try have hal1 : w.heap.size ≤ w1.heap.size := by omega); (try have ham1 : w.heap.size < w1.heap.size + 2 := by omega)
      go_wp2_with fail
      refine (cal_days_yes _ _ _ _ V2.out).mono ?_; rintro e w2 ⟨rfl, hb2⟩; obtain ⟨hc2, hf2⟩ := bcell hb2; have hz2 := hb2.size; (try simp only [World.size_alloc, World.size_setCell, World.heap_drewN] at hb2 hc2 hf2 hz2); (try have ha02 : w.heap.size < w2.heap.size := by omega); (try have ha12 : w.heap.size + 1 < w2.heap.size := by omega); (try have ha22 : w.heap.size + 2 < w2.heap.size := by omega); (try have hal2 : w.heap.size ≤ w2.heap.size := by omega); (try have ham2 : w.heap.size < w2.heap.size + 2 := by omega)
      go_wp2_with (go_at_call 12; refine (known2 _).mono ?_; rintro e w5 ⟨rfl, hb5⟩; obtain ⟨hc5, hf5⟩ := bcell hb5; have hz5 := hb5.size; (try simp only [World.size_alloc, World.size_setCell, World.heap_drewN] at hb5 hc5 hf5 hz5); (try have ha05 : w.heap.size < w5.heap.size := by omega); (try have ha15 : w.heap.size + 1 < w5.heap.size := by omega); (try have ha25 : w.heap.size + 2 < w5.heap.size := by omega); (try have hal5 : w.heap.size ≤ w5.heap.size := by omega); (try have ham5 : w.heap.size < w5.heap.size + 2 := by omega))
      go_ret
      go_light
      exact ⟨rfl, by (repeat' (first | (with_reducible exact Below.refl _ _) | (with_reducible assumption) | (with_reducible refine Below.trans ?_ (Below.mono (by with_reducible assumption) ?_)) | (with_reducible refine Below.alloc ?_ ?_ _) | (with_reducible refine Below.setCell ?_ ?_ _) | (with_reducible refine below_drewN ?_ _) | (with_reducible refine Below.drew ?_) | go_size))⟩
set_option maxHeartbeats 2000000 in
theorem calMonths_feb28a (y : Int) (w : World) (h1 : 1 ≤ y) (h2 : y ≤ 9998) (hl4 : y % 4 ≠ 0) :
    Calls Try.prog 7 #[.int .i64 y, .int .i64 2] w fun e w' => e = .returned (.bool true) ∧ Below w.heap.size w w' := by
  obtain ⟨v1, v2, e1⟩ := month_facts y 2 h1 h2 (by omega) (by omega)
  have hD : Hid (Cal.dim y 2 = 28) := by show _ = _; simp [Cal.dim, Cal.lp]; omega
  rw [hD.out] at e1
  have ey : y + 2 / 12 = y := by omega
  have em : (2 : Int) % 12 + 1 = 3 := by omega
  rw [ey, em] at v2 e1
  clear ey em
  have V1 := Lib.hid v1
  have V2 := Lib.hid v2
  have B1 := Cal.num_bd v1
  have B2 := Cal.num_bd v2
  have E1 : (Cal.num y 3 1 - Cal.num y 2 1 == 28) = true := by simpa using e1
  clear v1 v2 e1
  have l1 : (y % 400 == 0) = false := by have : y % 400 ≠ 0 := by omega
                                         simpa using this
  have l2 : (y % 4 == 0) = false := by simpa using hl4
  go_enter Try.func7, Try.ntmps7
  go_wp2
  go_loopw [6] (fun t wr => ∃ k : Int, 0 ≤ k ∧ k ≤ 34 ∧ t = .int .i64 k ∧ Below w.heap.size w wr) (fun t _ => (34 - intOf t).toNat)
  case atStart =>
    go_light
    exact ⟨0, by omega, by omega, rfl, by (repeat' (first | (with_reducible exact Below.refl _ _) | (with_reducible assumption) | (with_reducible refine Below.trans ?_ (Below.mono (by with_reducible assumption) ?_)) | (with_reducible refine Below.alloc ?_ ?_ _) | (with_reducible refine Below.setCell ?_ ?_ _) | (with_reducible refine below_drewN ?_ _) | (with_reducible refine Below.drew ?_) | go_size))⟩
  case round =>
    obtain ⟨k, k0, k1, rfl, HB⟩ := hrel
    have hsz := HB.size
    by_cases hk : k ≤ 33
    · by_cases hv : 1 ≤ k
      · by_cases hv2 : k ≤ 28
        · have V : Hid (Cal.Vld y 2 k) := ⟨h1, by omega, by omega, by omega, hv, by rw [hD.out]; exact hv2⟩
          go_wp2_with (go_at_call 11; refine (cal_is_yes _ _ _ _ V.out).mono ?_; rintro e w1 ⟨rfl, hb1⟩; obtain ⟨hc1, hf1⟩ := bcell hb1; have hz1 := hb1.size; (try simp only [World.size_alloc, World.size_setCell, World.heap_drewN] at hb1 hc1 hf1 hz1); (try have ha01 : w.heap.size < w1.heap.size := by omega); (try have ha11 : w.heap.size + 1 < w1.heap.size := by omega); (try have ha21 : w.heap.size + 2 < w1.heap.size := by omega); (try have hal1 : w.heap.size ≤ w1.heap.size := by omega); (try have ham1 : w.heap.size < w1.heap.size + 2 := by omega))
          go_roundw
          case rel => first | exact ⟨k + 1, by omega, by omega, rfl, by (repeat' (first | (with_reducible exact Below.refl _ _) | (with_reducible assumption) | (with_reducible refine Below.trans ?_ (Below.mono (by with_reducible assumption) ?_)) | (with_reducible refine Below.alloc ?_ ?_ _) | (with_reducible refine Below.setCell ?_ ?_ _) | (with_reducible refine below_drewN ?_ _) | (with_reducible refine Below.drew ?_) | go_size))⟩ | (go_light; (repeat apply Exists.intro); exact ⟨⟨k + 1, by omega, by omega, rfl, by (repeat' (first | (with_reducible exact Below.refl _ _) | (with_reducible assumption) | (with_reducible refine Below.trans ?_ (Below.mono (by with_reducible assumption) ?_)) | (with_reducible refine Below.alloc ?_ ?_ _) | (with_reducible refine Below.setCell ?_ ?_ _) | (with_reducible refine below_drewN ?_ _) | (with_reducible refine Below.drew ?_) | go_size))⟩, rfl⟩)
          case measure => simp [intOf]; omega
        · have V : Hid (¬ Cal.Vld y 2 k) := fun h => hv2 (by have := h.2.2.2.2.2; rw [hD.out] at this; exact this)
          have hv3 : decide (k ≤ 28) = false := by simpa using hv2
          go_wp2_with (go_at_call 11; refine (cal_is_no _ _ _ _ V.out).mono ?_; rintro e w1 ⟨rfl, hb1⟩; obtain ⟨hc1, hf1⟩ := bcell hb1; have hz1 := hb1.size; (try simp only [World.size_alloc, World.size_setCell, World.heap_drewN] at hb1 hc1 hf1 hz1); (try have ha01 : w.heap.size < w1.heap.size := by omega); (try have ha11 : w.heap.size + 1 < w1.heap.size := by omega); (try have ha21 : w.heap.size + 2 < w1.heap.size := by omega); (try have hal1 : w.heap.size ≤ w1.heap.size := by omega); (try have ham1 : w.heap.size < w1.heap.size + 2 := by omega))
          go_roundw
          case rel => first | exact ⟨k + 1, by omega, by omega, rfl, by (repeat' (first | (with_reducible exact Below.refl _ _) | (with_reducible assumption) | (with_reducible refine Below.trans ?_ (Below.mono (by with_reducible assumption) ?_)) | (with_reducible refine Below.alloc ?_ ?_ _) | (with_reducible refine Below.setCell ?_ ?_ _) | (with_reducible refine below_drewN ?_ _) | (with_reducible refine Below.drew ?_) | go_size))⟩ | (go_light; (repeat apply Exists.intro); exact ⟨⟨k + 1, by omega, by omega, rfl, by (repeat' (first | (with_reducible exact Below.refl _ _) | (with_reducible assumption) | (with_reducible refine Below.trans ?_ (Below.mono (by with_reducible assumption) ?_)) | (with_reducible refine Below.alloc ?_ ?_ _) | (with_reducible refine Below.setCell ?_ ?_ _) | (with_reducible refine below_drewN ?_ _) | (with_reducible refine Below.drew ?_) | go_size))⟩, rfl⟩)
          case measure => simp [intOf]; omega
      · have V : Hid (¬ Cal.Vld y 2 k) := fun h => hv h.2.2.2.2.1
        have hv3 : decide (1 ≤ k) = false := by simpa using hv
        go_wp2_with (go_at_call 11; refine (cal_is_no _ _ _ _ V.out).mono ?_; rintro e w1 ⟨rfl, hb1⟩; obtain ⟨hc1, hf1⟩ := bcell hb1; have hz1 := hb1.size; (try simp only [World.size_alloc, World.size_setCell, World.heap_drewN] at hb1 hc1 hf1 hz1); (try have ha01 : w.heap.size < w1.heap.size := by omega); (try have ha11 : w.heap.size + 1 < w1.heap.size := by omega); (try have ha21 : w.heap.size + 2 < w1.heap.size := by omega); (try have hal1 : w.heap.size ≤ w1.heap.size := by omega); (try have ham1 : w.heap.size < w1.heap.size + 2 := by omega))
        go_roundw
        case rel => first | exact ⟨k + 1, by omega, by omega, rfl, by (repeat' (first | (with_reducible exact Below.refl _ _) | (with_reducible assumption) | (with_reducible refine Below.trans ?_ (Below.mono (by with_reducible assumption) ?_)) | (with_reducible refine Below.alloc ?_ ?_ _) | (with_reducible refine Below.setCell ?_ ?_ _) | (with_reducible refine below_drewN ?_ _) | (with_reducible refine Below.drew ?_) | go_size))⟩ | (go_light; (repeat apply Exists.intro); exact ⟨⟨k + 1, by omega, by omega, rfl, by (repeat' (first | (with_reducible exact Below.refl _ _) | (with_reducible assumption) | (with_reducible refine Below.trans ?_ (Below.mono (by with_reducible assumption) ?_)) | (with_reducible refine Below.alloc ?_ ?_ _) | (with_reducible refine Below.setCell ?_ ?_ _) | (with_reducible refine below_drewN ?_ _) | (with_reducible refine Below.drew ?_) | go_size))⟩, rfl⟩)
        case measure => simp [intOf]; omega
    · go_wp2_with fail
      refine (cal_days_yes _ _ _ _ V1.out).mono ?_; rintro e w1 ⟨rfl, hb1⟩; obtain ⟨hc1, hf1⟩ := bcell hb1; have hz1 := hb1.size; (try simp only [World.size_alloc, World.size_setCell, World.heap_drewN] at hb1 hc1 hf1 hz1); (try have ha01 : w.heap.size < w1.heap.size := by omega); (try have ha11 : w.heap.size + 1 < w1.heap.size := by omega); (try have ha21 : w.heap.size + 2 < w1.heap.size := by omega); (try have hal1 : w.heap.size ≤ w1.heap.size := by omega); (try have ham1 : w.heap.size < w1.heap.size + 2 := by omega)
      go_wp2_with fail
      refine (cal_days_yes _ _ _ _ V2.out).mono ?_; rintro e w2 ⟨rfl, hb2⟩; obtain ⟨hc2, hf2⟩ := bcell hb2; have hz2 := hb2.size; (try simp only [World.size_alloc, World.size_setCell, World.heap_drewN] at hb2 hc2 hf2 hz2); (try have ha02 : w.heap.size < w2.heap.size := by omega); (try have ha12 : w.heap.size + 1 < w2.heap.size := by omega); (try have ha22 : w.heap.size + 2 < w2.heap.size := by omega); (try have hal2 : w.heap.size ≤ w2.heap.size := by omega); (try have ham2 : w.heap.size < w2.heap.size + 2 := by omega)
      go_wp2_with (go_at_call 12; refine (known2 _).mono ?_; rintro e w5 ⟨rfl, hb5⟩; obtain ⟨hc5, hf5⟩ := bcell hb5; have hz5 := hb5.size; (try simp only [World.size_alloc, World.size_setCell, World.heap_drewN] at hb5 hc5 hf5 hz5); (try have ha05 : w.heap.size < w5.heap.size := by omega); (try have ha15 : w.heap.size + 1 < w5.heap.size := by omega); (try have ha25 : w.heap.size + 2 < w5.heap.size := by omega); (try have hal5 : w.heap.size ≤ w5.heap.size := by omega); (try have ham5 : w.heap.size < w5.heap.size + 2 := by omega))
      go_ret
      go_light
      exact ⟨rfl, by (repeat' (first | (with_reducible exact Below.refl _ _) | (with_reducible assumption) | (with_reducible refine Below.trans ?_ (Below.mono (by with_reducible assumption) ?_)) | (with_reducible refine Below.alloc ?_ ?_ _) | (with_reducible refine Below.setCell ?_ ?_ _) | (with_reducible refine below_drewN ?_ _) | (with_reducible refine Below.drew ?_) | go_size))⟩
set_option maxHeartbeats 2000000 in
theorem calMonths_feb28b (y : Int) (w : World) (h1 : 1 ≤ y) (h2 : y ≤ 9998) (hl : y % 400 ≠ 0) (hl4 : y % 4 = 0) (hl1 : y % 100 = 0) :
    Calls Try.prog 7 #[.int .i64 y, .int .i64 2] w fun e w' => e = .returned (.bool true) ∧ Below w.heap.size w w' := by
  obtain ⟨v1, v2, e1⟩ := month_facts y 2 h1 h2 (by omega) (by omega)
  have hD : Hid (Cal.dim y 2 = 28) := by show _ = _; simp [Cal.dim, Cal.lp]; omega
  rw [hD.out] at e1
  have ey : y + 2 / 12 = y := by omega
  have em : (2 : Int) % 12 + 1 = 3 := by omega
  rw [ey, em] at v2 e1
  clear ey em
  have V1 := Lib.hid v1
  have V2 := Lib.hid v2
  have B1 := Cal.num_bd v1
  have B2 := Cal.num_bd v2
  have E1 : (Cal.num y 3 1 - Cal.num y 2 1 == 28) = true := by simpa using e1
  clear v1 v2 e1
  have l1 : (y % 400 == 0) = false := by simpa using hl
  have l2 : (y % 4 == 0) = true := by simpa using hl4
  have l3 : (y % 100 != 0) = false := by simpa using hl1
  have l5 : (y % 100 == 0) = true := by simpa using hl1
  have l6 : decide (y % 100 = 0) = true := by simpa using hl1
  clear hl hl4 hl1
  go_enter Try.func7, Try.ntmps7
  go_wp2
  go_loopw [6] (fun t wr => ∃ k : Int, 0 ≤ k ∧ k ≤ 34 ∧ t = .int .i64 k ∧ Below w.heap.size w wr) (fun t _ => (34 - intOf t).toNat)
  case atStart =>
    go_light
    exact ⟨0, by omega, by omega, rfl, by (repeat' (first | (with_reducible exact Below.refl _ _) | (with_reducible assumption) | (with_reducible refine Below.trans ?_ (Below.mono (by with_reducible assumption) ?_)) | (with_reducible refine Below.alloc ?_ ?_ _) | (with_reducible refine Below.setCell ?_ ?_ _) | (with_reducible refine below_drewN ?_ _) | (with_reducible refine Below.drew ?_) | go_size))⟩
  case round =>
    obtain ⟨k, k0, k1, rfl, HB⟩ := hrel
    have hsz := HB.size
    by_cases hk : k ≤ 33
    · by_cases hv : 1 ≤ k
      · by_cases hv2 : k ≤ 28
        · have V : Hid (Cal.Vld y 2 k) := ⟨h1, by omega, by omega, by omega, hv, by rw [hD.out]; exact hv2⟩
          go_wp2_with (go_at_call 11; refine (cal_is_yes _ _ _ _ V.out).mono ?_; rintro e w1 ⟨rfl, hb1⟩; obtain ⟨hc1, hf1⟩ := bcell hb1; have hz1 := hb1.size; (try simp only [World.size_alloc, World.size_setCell, World.heap_drewN] at hb1 hc1 hf1 hz1); (try have ha01 : w.heap.size < w1.heap.size := by omega); (try have ha11 : w.heap.size + 1 < w1.heap.size := by omega); (try have ha21 : w.heap.size + 2 < w1.heap.size := by omega); (try have hal1 : w.heap.size ≤ w1.heap.size := by omega); (try have ham1 : w.heap.size < w1.heap.size + 2 := by omega))
          go_roundw
          case rel => first | exact ⟨k + 1, by omega, by omega, rfl, by (repeat' (first | (with_reducible exact Below.refl _ _) | (with_reducible assumption) | (with_reducible refine Below.trans ?_ (Below.mono (by with_reducible assumption) ?_)) | (with_reducible refine Below.alloc ?_ ?_ _) | (with_reducible refine Below.setCell ?_ ?_ _) | (with_reducible refine below_drewN ?_ _) | (with_reducible refine Below.drew ?_) | go_size))⟩ | (go_light; (repeat apply Exists.intro); exact ⟨⟨k + 1, by omega, by omega, rfl, by (repeat' (first | (with_reducible exact Below.refl _ _) | (with_reducible assumption) | (with_reducible refine Below.trans ?_ (Below.mono (by with_reducible assumption) ?_)) | (with_reducible refine Below.alloc ?_ ?_ _) | (with_reducible refine Below.setCell ?_ ?_ _) | (with_reducible refine below_drewN ?_ _) | (with_reducible refine Below.drew ?_) | go_size))⟩, rfl⟩)
          case measure => simp [intOf]; omega
        · have V : Hid (¬ Cal.Vld y 2 k) := fun h => hv2 (by have := h.2.2.2.2.2; rw [hD.out] at this; exact this)
          have hv3 : decide (k ≤ 28) = false := by simpa using hv2
          go_wp2_with (go_at_call 11; refine (cal_is_no _ _ _ _ V.out).mono ?_; rintro e w1 ⟨rfl, hb1⟩; obtain ⟨hc1, hf1⟩ := bcell hb1; have hz1 := hb1.size; (try simp only [World.size_alloc, World.size_setCell, World.heap_drewN] at hb1 hc1 hf1 hz1); (try have ha01 : w.heap.size < w1.heap.size := by omega); (try have ha11 : w.heap.size + 1 < w1.heap.size := by omega); (try have ha21 : w.heap.size + 2 < w1.heap.size := by omega); (try have hal1 : w.heap.size ≤ w1.heap.size := by omega); (try have ham1 : w.heap.size < w1.heap.size + 2 := by omega))
          go_roundw
          case rel => first | exact ⟨k + 1, by omega, by omega, rfl, by (repeat' (first | (with_reducible exact Below.refl _ _) | (with_reducible assumption) | (with_reducible refine Below.trans ?_ (Below.mono (by with_reducible assumption) ?_)) | (with_reducible refine Below.alloc ?_ ?_ _) | (with_reducible refine Below.setCell ?_ ?_ _) | (with_reducible refine below_drewN ?_ _) | (with_reducible refine Below.drew ?_) | go_size))⟩ | (go_light; (repeat apply Exists.intro); exact ⟨⟨k + 1, by omega, by omega, rfl, by (repeat' (first | (with_reducible exact Below.refl _ _) | (with_reducible assumption) | (with_reducible refine Below.trans ?_ (Below.mono (by with_reducible assumption) ?_)) | (with_reducible refine Below.alloc ?_ ?_ _) | (with_reducible refine Below.setCell ?_ ?_ _) | (with_reducible refine below_drewN ?_ _) | (with_reducible refine Below.drew ?_) | go_size))⟩, rfl⟩)
          case measure => simp [intOf]; omega
      · have V : Hid (¬ Cal.Vld y 2 k) := fun h => hv h.2.2.2.2.1
        have hv3 : decide (1 ≤ k) = false := by simpa using hv
        go_wp2_with (go_at_call 11; refine (cal_is_no _ _ _ _ V.out).mono ?_; rintro e w1 ⟨rfl, hb1⟩; obtain ⟨hc1, hf1⟩ := bcell hb1; have hz1 := hb1.size; (try simp only [World.size_alloc, World.size_setCell, World.heap_drewN] at hb1 hc1 hf1 hz1); (try have ha01 : w.heap.size < w1.heap.size := by omega); (try have ha11 : w.heap.size + 1 < w1.heap.size := by omega); (try have ha21 : w.heap.size + 2 < w1.heap.size := by omega); (try have hal1 : w.heap.size ≤ w1.heap.size := by omega); (try have ham1 : w.heap.size < w1.heap.size + 2 := by omega))
        go_roundw
        case rel => first | exact ⟨k + 1, by omega, by omega, rfl, by (repeat' (first | (with_reducible exact Below.refl _ _) | (with_reducible assumption) | (with_reducible refine Below.trans ?_ (Below.mono (by with_reducible assumption) ?_)) | (with_reducible refine Below.alloc ?_ ?_ _) | (with_reducible refine Below.setCell ?_ ?_ _) | (with_reducible refine below_drewN ?_ _) | (with_reducible refine Below.drew ?_) | go_size))⟩ | (go_light; (repeat apply Exists.intro); exact ⟨⟨k + 1, by omega, by omega, rfl, by (repeat' (first | (with_reducible exact Below.refl _ _) | (with_reducible assumption) | (with_reducible refine Below.trans ?_ (Below.mono (by with_reducible assumption) ?_)) | (with_reducible refine Below.alloc ?_ ?_ _) | (with_reducible refine Below.setCell ?_ ?_ _) | (with_reducible refine below_drewN ?_ _) | (with_reducible refine Below.drew ?_) | go_size))⟩, rfl⟩)
        case measure => simp [intOf]; omega
    · go_wp2_with fail
      refine (cal_days_yes _ _ _ _ V1.out).mono ?_; rintro e w1 ⟨rfl, hb1⟩; obtain ⟨hc1, hf1⟩ := bcell hb1; have hz1 := hb1.size; (try simp only [World.size_alloc, World.size_setCell, World.heap_drewN] at hb1 hc1 hf1 hz1); (try have ha01 : w.heap.size < w1.heap.size := by omega); (try have ha11 : w.heap.size + 1 < w1.heap.size := by omega); (try have ha21 : w.heap.size + 2 < w1.heap.size := by omega); (try have hal1 : w.heap.size ≤ w1.heap.size := by omega); (try have ham1 : w.heap.size < w1.heap.size + 2 := by omega)
      go_wp2_with fail
      refine (cal_days_yes _ _ _ _ V2.out).mono ?_; rintro e w2 ⟨rfl, hb2⟩; obtain ⟨hc2, hf2⟩ := bcell hb2; have hz2 := hb2.size; (try simp only [World.size_alloc, World.size_setCell, World.heap_drewN] at hb2 hc2 hf2 hz2); (try have ha02 : w.heap.size < w2.heap.size := by omega); (try have ha12 : w.heap.size + 1 < w2.heap.size := by omega); (try have ha22 : w.heap.size + 2 < w2.heap.size := by omega); (try have hal2 : w.heap.size ≤ w2.heap.size := by omega); (try have ham2 : w.heap.size < w2.heap.size + 2 := by omega)
      go_wp2_with (go_at_call 12; refine (known2 _).mono ?_; rintro e w5 ⟨rfl, hb5⟩; obtain ⟨hc5, hf5⟩ := bcell hb5; have hz5 := hb5.size; (try simp only [World.size_alloc, World.size_setCell, World.heap_drewN] at hb5 hc5 hf5 hz5); (try have ha05 : w.heap.size < w5.heap.size := by omega); (try have ha15 : w.heap.size + 1 < w5.heap.size := by omega); (try have ha25 : w.heap.size + 2 < w5.heap.size := by omega); (try have hal5 : w.heap.size ≤ w5.heap.size := by omega); (try have ham5 : w.heap.size < w5.heap.size + 2 := by omega))
      go_ret
      go_light
      exact ⟨rfl, by (repeat' (first | (with_reducible exact Below.refl _ _) | (with_reducible assumption) | (with_reducible refine Below.trans ?_ (Below.mono (by with_reducible assumption) ?_)) | (with_reducible refine Below.alloc ?_ ?_ _) | (with_reducible refine Below.setCell ?_ ?_ _) | (with_reducible refine below_drewN ?_ _) | (with_reducible refine Below.drew ?_) | go_size))⟩
end Go.Proofs.Ytlmbhiidbcpihaa
