/- Stage 21: LeaseRenews (written by gen/s21r.py). -/
import Derived.Test.YtacchkokbibeaaaLeaseMore
import Derived.Test.YtacchkokbibeaaaStampArg
set_option linter.unusedSimpArgs false
set_option linter.unusedVariables false
namespace Go.Proofs.Ytacchkokbibeaaa
open Go.ChangeShapes Go.WideShapes Go.ChangeAt Go.RowKit Go.Joins

set_option maxHeartbeats 4000000 in
theorem renews_out (m c u now l : Int) (w : World) (h : ¬ (0 ≤ u ∧ u ≤ 1099511627776 ∧ 0 ≤ now ∧ now ≤ 1099511627776 ∧ 0 ≤ l ∧ l ≤ 1099511627776 ∧ 0 ≤ m ∧ m ≤ 1099511627776 ∧ 0 ≤ c ∧ c ≤ 9)) :
    Calls Try.prog 7 #[.agg #[.int .i64 m, .int .i64 c], .int .i64 u, .int .i64 now, .int .i64 l] w fun e w' => e = .returned (.bool true) ∧ Below w.heap.size w w' := by
  by_cases c0 : u < 0
  · have t0 : decide (u < 0) = true := decide_eq_true c0
    clear h c0
    go_enter Try.func7, Try.ntmps7
    go_wp2_with (go_at_call 23; refine (known21 _).mono ?_; rintro e w5 ⟨rfl, hb5⟩; obtain ⟨hc5, hf5⟩ := bcell hb5; have hz5 := hb5.size; (try simp only [World.size_alloc, World.size_setCell, World.heap_drewN] at hb5 hc5 hf5 hz5); (try have ha05 : w.heap.size < w5.heap.size := by omega); (try have ha15 : w.heap.size + 1 < w5.heap.size := by omega); (try have ha25 : w.heap.size + 2 < w5.heap.size := by omega); (try have hal5 : w.heap.size ≤ w5.heap.size := by omega); (try have ham5 : w.heap.size < w5.heap.size + 2 := by omega))
    go_ret
    go_light
    exact ⟨rfl, by (repeat' (first | (with_reducible exact Below.refl _ _) | (with_reducible assumption) | (with_reducible refine Below.trans ?_ (Below.mono (by with_reducible assumption) ?_)) | (with_reducible refine Below.alloc ?_ ?_ _) | (with_reducible refine Below.setCell ?_ ?_ _) | (with_reducible refine below_drewN ?_ _) | (with_reducible refine Below.drew ?_) | go_size))⟩
  have t0 : decide (u < 0) = false := decide_eq_false c0
  by_cases c1 : 1099511627776 < u
  · have t1 : decide (1099511627776 < u) = true := decide_eq_true c1
    clear h c0 c1
    go_enter Try.func7, Try.ntmps7
    go_wp2_with (go_at_call 23; refine (known21 _).mono ?_; rintro e w5 ⟨rfl, hb5⟩; obtain ⟨hc5, hf5⟩ := bcell hb5; have hz5 := hb5.size; (try simp only [World.size_alloc, World.size_setCell, World.heap_drewN] at hb5 hc5 hf5 hz5); (try have ha05 : w.heap.size < w5.heap.size := by omega); (try have ha15 : w.heap.size + 1 < w5.heap.size := by omega); (try have ha25 : w.heap.size + 2 < w5.heap.size := by omega); (try have hal5 : w.heap.size ≤ w5.heap.size := by omega); (try have ham5 : w.heap.size < w5.heap.size + 2 := by omega))
    go_ret
    go_light
    exact ⟨rfl, by (repeat' (first | (with_reducible exact Below.refl _ _) | (with_reducible assumption) | (with_reducible refine Below.trans ?_ (Below.mono (by with_reducible assumption) ?_)) | (with_reducible refine Below.alloc ?_ ?_ _) | (with_reducible refine Below.setCell ?_ ?_ _) | (with_reducible refine below_drewN ?_ _) | (with_reducible refine Below.drew ?_) | go_size))⟩
  have t1 : decide (1099511627776 < u) = false := decide_eq_false c1
  by_cases c2 : now < 0
  · have t2 : decide (now < 0) = true := decide_eq_true c2
    clear h c0 c1 c2
    go_enter Try.func7, Try.ntmps7
    go_wp2_with (go_at_call 23; refine (known21 _).mono ?_; rintro e w5 ⟨rfl, hb5⟩; obtain ⟨hc5, hf5⟩ := bcell hb5; have hz5 := hb5.size; (try simp only [World.size_alloc, World.size_setCell, World.heap_drewN] at hb5 hc5 hf5 hz5); (try have ha05 : w.heap.size < w5.heap.size := by omega); (try have ha15 : w.heap.size + 1 < w5.heap.size := by omega); (try have ha25 : w.heap.size + 2 < w5.heap.size := by omega); (try have hal5 : w.heap.size ≤ w5.heap.size := by omega); (try have ham5 : w.heap.size < w5.heap.size + 2 := by omega))
    go_ret
    go_light
    exact ⟨rfl, by (repeat' (first | (with_reducible exact Below.refl _ _) | (with_reducible assumption) | (with_reducible refine Below.trans ?_ (Below.mono (by with_reducible assumption) ?_)) | (with_reducible refine Below.alloc ?_ ?_ _) | (with_reducible refine Below.setCell ?_ ?_ _) | (with_reducible refine below_drewN ?_ _) | (with_reducible refine Below.drew ?_) | go_size))⟩
  have t2 : decide (now < 0) = false := decide_eq_false c2
  by_cases c3 : 1099511627776 < now
  · have t3 : decide (1099511627776 < now) = true := decide_eq_true c3
    clear h c0 c1 c2 c3
    go_enter Try.func7, Try.ntmps7
    go_wp2_with (go_at_call 23; refine (known21 _).mono ?_; rintro e w5 ⟨rfl, hb5⟩; obtain ⟨hc5, hf5⟩ := bcell hb5; have hz5 := hb5.size; (try simp only [World.size_alloc, World.size_setCell, World.heap_drewN] at hb5 hc5 hf5 hz5); (try have ha05 : w.heap.size < w5.heap.size := by omega); (try have ha15 : w.heap.size + 1 < w5.heap.size := by omega); (try have ha25 : w.heap.size + 2 < w5.heap.size := by omega); (try have hal5 : w.heap.size ≤ w5.heap.size := by omega); (try have ham5 : w.heap.size < w5.heap.size + 2 := by omega))
    go_ret
    go_light
    exact ⟨rfl, by (repeat' (first | (with_reducible exact Below.refl _ _) | (with_reducible assumption) | (with_reducible refine Below.trans ?_ (Below.mono (by with_reducible assumption) ?_)) | (with_reducible refine Below.alloc ?_ ?_ _) | (with_reducible refine Below.setCell ?_ ?_ _) | (with_reducible refine below_drewN ?_ _) | (with_reducible refine Below.drew ?_) | go_size))⟩
  have t3 : decide (1099511627776 < now) = false := decide_eq_false c3
  by_cases c4 : l < 0
  · have t4 : decide (l < 0) = true := decide_eq_true c4
    clear h c0 c1 c2 c3 c4
    go_enter Try.func7, Try.ntmps7
    go_wp2_with (go_at_call 23; refine (known21 _).mono ?_; rintro e w5 ⟨rfl, hb5⟩; obtain ⟨hc5, hf5⟩ := bcell hb5; have hz5 := hb5.size; (try simp only [World.size_alloc, World.size_setCell, World.heap_drewN] at hb5 hc5 hf5 hz5); (try have ha05 : w.heap.size < w5.heap.size := by omega); (try have ha15 : w.heap.size + 1 < w5.heap.size := by omega); (try have ha25 : w.heap.size + 2 < w5.heap.size := by omega); (try have hal5 : w.heap.size ≤ w5.heap.size := by omega); (try have ham5 : w.heap.size < w5.heap.size + 2 := by omega))
    go_ret
    go_light
    exact ⟨rfl, by (repeat' (first | (with_reducible exact Below.refl _ _) | (with_reducible assumption) | (with_reducible refine Below.trans ?_ (Below.mono (by with_reducible assumption) ?_)) | (with_reducible refine Below.alloc ?_ ?_ _) | (with_reducible refine Below.setCell ?_ ?_ _) | (with_reducible refine below_drewN ?_ _) | (with_reducible refine Below.drew ?_) | go_size))⟩
  have t4 : decide (l < 0) = false := decide_eq_false c4
  by_cases c5 : 1099511627776 < l
  · have t5 : decide (1099511627776 < l) = true := decide_eq_true c5
    clear h c0 c1 c2 c3 c4 c5
    go_enter Try.func7, Try.ntmps7
    go_wp2_with (go_at_call 23; refine (known21 _).mono ?_; rintro e w5 ⟨rfl, hb5⟩; obtain ⟨hc5, hf5⟩ := bcell hb5; have hz5 := hb5.size; (try simp only [World.size_alloc, World.size_setCell, World.heap_drewN] at hb5 hc5 hf5 hz5); (try have ha05 : w.heap.size < w5.heap.size := by omega); (try have ha15 : w.heap.size + 1 < w5.heap.size := by omega); (try have ha25 : w.heap.size + 2 < w5.heap.size := by omega); (try have hal5 : w.heap.size ≤ w5.heap.size := by omega); (try have ham5 : w.heap.size < w5.heap.size + 2 := by omega))
    go_ret
    go_light
    exact ⟨rfl, by (repeat' (first | (with_reducible exact Below.refl _ _) | (with_reducible assumption) | (with_reducible refine Below.trans ?_ (Below.mono (by with_reducible assumption) ?_)) | (with_reducible refine Below.alloc ?_ ?_ _) | (with_reducible refine Below.setCell ?_ ?_ _) | (with_reducible refine below_drewN ?_ _) | (with_reducible refine Below.drew ?_) | go_size))⟩
  have t5 : decide (1099511627776 < l) = false := decide_eq_false c5
  by_cases c6 : m < 0
  · have t6 : decide (m < 0) = true := decide_eq_true c6
    clear h c0 c1 c2 c3 c4 c5 c6
    go_enter Try.func7, Try.ntmps7
    go_wp2_with (go_at_call 23; refine (known21 _).mono ?_; rintro e w5 ⟨rfl, hb5⟩; obtain ⟨hc5, hf5⟩ := bcell hb5; have hz5 := hb5.size; (try simp only [World.size_alloc, World.size_setCell, World.heap_drewN] at hb5 hc5 hf5 hz5); (try have ha05 : w.heap.size < w5.heap.size := by omega); (try have ha15 : w.heap.size + 1 < w5.heap.size := by omega); (try have ha25 : w.heap.size + 2 < w5.heap.size := by omega); (try have hal5 : w.heap.size ≤ w5.heap.size := by omega); (try have ham5 : w.heap.size < w5.heap.size + 2 := by omega))
    go_ret
    go_light
    exact ⟨rfl, by (repeat' (first | (with_reducible exact Below.refl _ _) | (with_reducible assumption) | (with_reducible refine Below.trans ?_ (Below.mono (by with_reducible assumption) ?_)) | (with_reducible refine Below.alloc ?_ ?_ _) | (with_reducible refine Below.setCell ?_ ?_ _) | (with_reducible refine below_drewN ?_ _) | (with_reducible refine Below.drew ?_) | go_size))⟩
  have t6 : decide (m < 0) = false := decide_eq_false c6
  by_cases c7 : 1099511627776 < m
  · have t7 : decide (1099511627776 < m) = true := decide_eq_true c7
    clear h c0 c1 c2 c3 c4 c5 c6 c7
    go_enter Try.func7, Try.ntmps7
    go_wp2_with (go_at_call 23; refine (known21 _).mono ?_; rintro e w5 ⟨rfl, hb5⟩; obtain ⟨hc5, hf5⟩ := bcell hb5; have hz5 := hb5.size; (try simp only [World.size_alloc, World.size_setCell, World.heap_drewN] at hb5 hc5 hf5 hz5); (try have ha05 : w.heap.size < w5.heap.size := by omega); (try have ha15 : w.heap.size + 1 < w5.heap.size := by omega); (try have ha25 : w.heap.size + 2 < w5.heap.size := by omega); (try have hal5 : w.heap.size ≤ w5.heap.size := by omega); (try have ham5 : w.heap.size < w5.heap.size + 2 := by omega))
    go_ret
    go_light
    exact ⟨rfl, by (repeat' (first | (with_reducible exact Below.refl _ _) | (with_reducible assumption) | (with_reducible refine Below.trans ?_ (Below.mono (by with_reducible assumption) ?_)) | (with_reducible refine Below.alloc ?_ ?_ _) | (with_reducible refine Below.setCell ?_ ?_ _) | (with_reducible refine below_drewN ?_ _) | (with_reducible refine Below.drew ?_) | go_size))⟩
  have t7 : decide (1099511627776 < m) = false := decide_eq_false c7
  by_cases c8 : c < 0
  · have t8 : decide (c < 0) = true := decide_eq_true c8
    clear h c0 c1 c2 c3 c4 c5 c6 c7 c8
    go_enter Try.func7, Try.ntmps7
    go_wp2_with (go_at_call 23; refine (known21 _).mono ?_; rintro e w5 ⟨rfl, hb5⟩; obtain ⟨hc5, hf5⟩ := bcell hb5; have hz5 := hb5.size; (try simp only [World.size_alloc, World.size_setCell, World.heap_drewN] at hb5 hc5 hf5 hz5); (try have ha05 : w.heap.size < w5.heap.size := by omega); (try have ha15 : w.heap.size + 1 < w5.heap.size := by omega); (try have ha25 : w.heap.size + 2 < w5.heap.size := by omega); (try have hal5 : w.heap.size ≤ w5.heap.size := by omega); (try have ham5 : w.heap.size < w5.heap.size + 2 := by omega))
    go_ret
    go_light
    exact ⟨rfl, by (repeat' (first | (with_reducible exact Below.refl _ _) | (with_reducible assumption) | (with_reducible refine Below.trans ?_ (Below.mono (by with_reducible assumption) ?_)) | (with_reducible refine Below.alloc ?_ ?_ _) | (with_reducible refine Below.setCell ?_ ?_ _) | (with_reducible refine below_drewN ?_ _) | (with_reducible refine Below.drew ?_) | go_size))⟩
  have t8 : decide (c < 0) = false := decide_eq_false c8
  by_cases c9 : 9 < c
  · have t9 : decide (9 < c) = true := decide_eq_true c9
    clear h c0 c1 c2 c3 c4 c5 c6 c7 c8 c9
    go_enter Try.func7, Try.ntmps7
    go_wp2_with (go_at_call 23; refine (known21 _).mono ?_; rintro e w5 ⟨rfl, hb5⟩; obtain ⟨hc5, hf5⟩ := bcell hb5; have hz5 := hb5.size; (try simp only [World.size_alloc, World.size_setCell, World.heap_drewN] at hb5 hc5 hf5 hz5); (try have ha05 : w.heap.size < w5.heap.size := by omega); (try have ha15 : w.heap.size + 1 < w5.heap.size := by omega); (try have ha25 : w.heap.size + 2 < w5.heap.size := by omega); (try have hal5 : w.heap.size ≤ w5.heap.size := by omega); (try have ham5 : w.heap.size < w5.heap.size + 2 := by omega))
    go_ret
    go_light
    exact ⟨rfl, by (repeat' (first | (with_reducible exact Below.refl _ _) | (with_reducible assumption) | (with_reducible refine Below.trans ?_ (Below.mono (by with_reducible assumption) ?_)) | (with_reducible refine Below.alloc ?_ ?_ _) | (with_reducible refine Below.setCell ?_ ?_ _) | (with_reducible refine below_drewN ?_ _) | (with_reducible refine Below.drew ?_) | go_size))⟩
  have t9 : decide (9 < c) = false := decide_eq_false c9
  exact absurd (by omega) h
set_option maxRecDepth 100000 in
set_option maxHeartbeats 4000000 in
theorem renews_lt (m c u now l : Int) (w : World) (hs : isStampB m c = true) (hu : 0 ≤ u) (hu' : u ≤ 1099511627776) (hn : 0 ≤ now) (hl : 0 ≤ l) (hl' : l ≤ 1099511627776) (t0 : decide (u < 0) = false) (t1 : decide (1099511627776 < u) = false) (t2 : decide (now < 0) = false) (t3 : decide (1099511627776 < now) = false) (t4 : decide (l < 0) = false) (t5 : decide (1099511627776 < l) = false) (t6 : decide (m < 0) = false) (t7 : decide (1099511627776 < m) = false) (t8 : decide (c < 0) = false) (t9 : decide (9 < c) = false) (hr : now < u) (hq : u < l) :
    Calls Try.prog 7 #[.agg #[.int .i64 m, .int .i64 c], .int .i64 u, .int .i64 now, .int .i64 l] w fun e w' => e = .returned (.bool true) ∧ Below w.heap.size w w' := by
  have N0 : Hid (None0 ((w.alloc (.cells #[.int .i64 m, .int .i64 c] 30)).alloc (.cells #[.slice none 0 0, .int .i64 0] 60)) (w.heap.size + 1)) := Lib.hid (by have h := none_new (w.alloc (.cells #[.int .i64 m, .int .i64 c] 30)); rwa [World.size_alloc] at h)
  have J0 := Lib.hid ((Ints2.new w m c 30).alloc (.cells #[.slice none 0 0, .int .i64 0] 60))
  have HB0 : Hid (Below w.heap.size w ((w.alloc (.cells #[.int .i64 m, .int .i64 c] 30)).alloc (.cells #[.slice none 0 0, .int .i64 0] 60))) := Lib.hid (by (repeat' (first | (with_reducible exact Below.refl _ _) | (with_reducible assumption) | (with_reducible refine Below.trans ?_ (Below.mono (by with_reducible assumption) ?_)) | (with_reducible refine Below.alloc ?_ ?_ _) | (with_reducible refine Below.setCell ?_ ?_ _) | (with_reducible refine below_drewN ?_ _) | (with_reducible refine Below.drew ?_) | go_size)))
  have r1 : decide (now < u) = true := by simpa using hr
  have r2 : decide (u < l) = true := by simpa using hq
  have r3 : decide (l < u) = false := by simp only [decide_eq_false_iff_not]; omega
  have p1 : decide (0 < l) = true := by simp only [decide_eq_true_eq]; omega
  have p2 : IntKind.i64.wrap (l - 1) = l - 1 := IntWalk.i64_in _ (by omega)
  go_enter Try.func7, Try.ntmps7
  go_wp2_with fail
  refine (lease_new _).mono ?_; rintro e w' ⟨rfl, rfl⟩
  go_wp2_with fail
  refine (lease_open (w.heap.size + 1) m c _ _ N0.out hs hu).mono ?_; rintro e w3 ⟨rfl, ho3, g, cap, hg, O3⟩
  have J3 := J0.out.only ho3 (by omega)
  have HB3 : Below w.heap.size w w3 := HB0.out.trans (ho3.below (by omega) HB0.out.size)
  have zg : w.heap.size ≤ g := Nat.le_trans HB0.out.size hg
  have nJ : w.heap.size ≠ g := by simp at hg; omega
  clear ho3 N0 J0 HB0
  go_wp2_with fail
  refine (lease_renew_ok _ g cap m c u now l _ O3 hr).mono ?_; rintro e w4 ⟨rfl, ho4, O4⟩
  have O4 : One w4 (w.heap.size + 1) g cap m c l := by have h := O4; rwa [show mxI u l = l from by unfold mxI; first | rw [if_pos hq] | rw [if_neg (by omega)]] at h
  have J4 := J3.only ho4 nJ
  have HB4 : Below w.heap.size w w4 := HB3.trans (ho4.below zg HB3.size)
  clear ho4 O3 J3 HB3
  go_wp2_with fail
  refine (lease_At_old _ g cap m c l l _ O4 (Int.le_refl _)).mono ?_; rintro e w5 ⟨rfl, hb5⟩
  have SB := hb5.trans (((Below.refl w5.heap.size w5).alloc (Nat.le_refl _) (.cells #[.int .i64 0, .int .i64 0] 30)).mono hb5.size)
  have O5 := O4.below SB
  have J5 := J4.below SB J4.lt
  have HB5 := HB4.trans (SB.mono HB4.size)
  clear hb5 SB O4 J4 HB4
  go_wp2_with fail
  refine (lease_At_ok _ g cap m c l (l - 1) _ O5 (by omega)).mono ?_; rintro e w6 ⟨rfl, hb6⟩
  have SB := hb6.trans (((Below.refl w6.heap.size w6).alloc (Nat.le_refl _) (.cells #[.int .i64 m, .int .i64 c] 30)).mono hb6.size)
  have O6 := O5.below SB
  have J6 := J5.below SB J5.lt
  have HB6 := HB5.trans (SB.mono HB5.size)
  have K6 := Ints2.new w6 m c 30
  obtain ⟨x0, x1, _, _, x4⟩ := J6
  obtain ⟨y0, y1, _, _, y4⟩ := K6
  clear hb6 SB O5 J5 HB5
  go_wp2_with fail
  refine (lease_expire _ g cap m c l l _ O6 (Int.le_refl _)).mono ?_; rintro e w7 ⟨rfl, hb7, M7⟩
  have HB7 : Below w.heap.size w w7 := HB6.trans (hb7 w.heap.size (by omega) zg HB6.size)
  clear hb7 O6 HB6
  go_wp2_with fail
  refine (lease_renew_none _ g cap 0 9 _ M7).mono ?_; rintro e w' ⟨rfl, rfl⟩
  have z7 := HB7.size
  clear M7
  go_wp2_with (go_at_call 23; refine (known21 _).mono ?_; rintro e w8 ⟨rfl, hb8⟩; obtain ⟨hc8, hf8⟩ := bcell hb8; have hz8 := hb8.size; (try simp only [World.size_alloc, World.size_setCell, World.heap_drewN] at hb8 hc8 hf8 hz8); (try have ha08 : w.heap.size < w8.heap.size := by omega); (try have ha18 : w.heap.size + 1 < w8.heap.size := by omega); (try have ha28 : w.heap.size + 2 < w8.heap.size := by omega); (try have hal8 : w.heap.size ≤ w8.heap.size := by omega); (try have ham8 : w.heap.size < w8.heap.size + 2 := by omega))
  go_ret
  go_light
  exact ⟨rfl, by (repeat' (first | (with_reducible exact Below.refl _ _) | (with_reducible assumption) | (with_reducible refine Below.trans ?_ (Below.mono (by with_reducible assumption) ?_)) | (with_reducible refine Below.alloc ?_ ?_ _) | (with_reducible refine Below.setCell ?_ ?_ _) | (with_reducible refine below_drewN ?_ _) | (with_reducible refine Below.drew ?_) | go_size))⟩
set_option maxRecDepth 100000 in
set_option maxHeartbeats 4000000 in
theorem renews_ge (m c u now l : Int) (w : World) (hs : isStampB m c = true) (hu : 0 ≤ u) (hu' : u ≤ 1099511627776) (hn : 0 ≤ now) (hl : 0 ≤ l) (hl' : l ≤ 1099511627776) (t0 : decide (u < 0) = false) (t1 : decide (1099511627776 < u) = false) (t2 : decide (now < 0) = false) (t3 : decide (1099511627776 < now) = false) (t4 : decide (l < 0) = false) (t5 : decide (1099511627776 < l) = false) (t6 : decide (m < 0) = false) (t7 : decide (1099511627776 < m) = false) (t8 : decide (c < 0) = false) (t9 : decide (9 < c) = false) (hr : now < u) (hq : l ≤ u) :
    Calls Try.prog 7 #[.agg #[.int .i64 m, .int .i64 c], .int .i64 u, .int .i64 now, .int .i64 l] w fun e w' => e = .returned (.bool true) ∧ Below w.heap.size w w' := by
  have N0 : Hid (None0 ((w.alloc (.cells #[.int .i64 m, .int .i64 c] 30)).alloc (.cells #[.slice none 0 0, .int .i64 0] 60)) (w.heap.size + 1)) := Lib.hid (by have h := none_new (w.alloc (.cells #[.int .i64 m, .int .i64 c] 30)); rwa [World.size_alloc] at h)
  have J0 := Lib.hid ((Ints2.new w m c 30).alloc (.cells #[.slice none 0 0, .int .i64 0] 60))
  have HB0 : Hid (Below w.heap.size w ((w.alloc (.cells #[.int .i64 m, .int .i64 c] 30)).alloc (.cells #[.slice none 0 0, .int .i64 0] 60))) := Lib.hid (by (repeat' (first | (with_reducible exact Below.refl _ _) | (with_reducible assumption) | (with_reducible refine Below.trans ?_ (Below.mono (by with_reducible assumption) ?_)) | (with_reducible refine Below.alloc ?_ ?_ _) | (with_reducible refine Below.setCell ?_ ?_ _) | (with_reducible refine below_drewN ?_ _) | (with_reducible refine Below.drew ?_) | go_size)))
  have r1 : decide (now < u) = true := by simpa using hr
  have r2 : decide (u < l) = false := by simp only [decide_eq_false_iff_not]; omega
  have p1 : decide (0 < u) = true := by simp only [decide_eq_true_eq]; omega
  have p2 : IntKind.i64.wrap (u - 1) = u - 1 := IntWalk.i64_in _ (by omega)
  go_enter Try.func7, Try.ntmps7
  go_wp2_with fail
  refine (lease_new _).mono ?_; rintro e w' ⟨rfl, rfl⟩
  go_wp2_with fail
  refine (lease_open (w.heap.size + 1) m c _ _ N0.out hs hu).mono ?_; rintro e w3 ⟨rfl, ho3, g, cap, hg, O3⟩
  have J3 := J0.out.only ho3 (by omega)
  have HB3 : Below w.heap.size w w3 := HB0.out.trans (ho3.below (by omega) HB0.out.size)
  have zg : w.heap.size ≤ g := Nat.le_trans HB0.out.size hg
  have nJ : w.heap.size ≠ g := by simp at hg; omega
  clear ho3 N0 J0 HB0
  go_wp2_with fail
  refine (lease_renew_ok _ g cap m c u now l _ O3 hr).mono ?_; rintro e w4 ⟨rfl, ho4, O4⟩
  have O4 : One w4 (w.heap.size + 1) g cap m c u := by have h := O4; rwa [show mxI u l = u from by unfold mxI; first | rw [if_pos hq] | rw [if_neg (by omega)]] at h
  have J4 := J3.only ho4 nJ
  have HB4 : Below w.heap.size w w4 := HB3.trans (ho4.below zg HB3.size)
  clear ho4 O3 J3 HB3
  go_wp2_with fail
  refine (lease_At_old _ g cap m c u u _ O4 (Int.le_refl _)).mono ?_; rintro e w5 ⟨rfl, hb5⟩
  have SB := hb5.trans (((Below.refl w5.heap.size w5).alloc (Nat.le_refl _) (.cells #[.int .i64 0, .int .i64 0] 30)).mono hb5.size)
  have O5 := O4.below SB
  have J5 := J4.below SB J4.lt
  have HB5 := HB4.trans (SB.mono HB4.size)
  clear hb5 SB O4 J4 HB4
  go_wp2_with fail
  refine (lease_At_ok _ g cap m c u (u - 1) _ O5 (by omega)).mono ?_; rintro e w6 ⟨rfl, hb6⟩
  have SB := hb6.trans (((Below.refl w6.heap.size w6).alloc (Nat.le_refl _) (.cells #[.int .i64 m, .int .i64 c] 30)).mono hb6.size)
  have O6 := O5.below SB
  have J6 := J5.below SB J5.lt
  have HB6 := HB5.trans (SB.mono HB5.size)
  have K6 := Ints2.new w6 m c 30
  obtain ⟨x0, x1, _, _, x4⟩ := J6
  obtain ⟨y0, y1, _, _, y4⟩ := K6
  clear hb6 SB O5 J5 HB5
  go_wp2_with fail
  refine (lease_expire _ g cap m c u u _ O6 (Int.le_refl _)).mono ?_; rintro e w7 ⟨rfl, hb7, M7⟩
  have HB7 : Below w.heap.size w w7 := HB6.trans (hb7 w.heap.size (by omega) zg HB6.size)
  clear hb7 O6 HB6
  go_wp2_with fail
  refine (lease_renew_none _ g cap 0 9 _ M7).mono ?_; rintro e w' ⟨rfl, rfl⟩
  have z7 := HB7.size
  clear M7
  go_wp2_with (go_at_call 23; refine (known21 _).mono ?_; rintro e w8 ⟨rfl, hb8⟩; obtain ⟨hc8, hf8⟩ := bcell hb8; have hz8 := hb8.size; (try simp only [World.size_alloc, World.size_setCell, World.heap_drewN] at hb8 hc8 hf8 hz8); (try have ha08 : w.heap.size < w8.heap.size := by omega); (try have ha18 : w.heap.size + 1 < w8.heap.size := by omega); (try have ha28 : w.heap.size + 2 < w8.heap.size := by omega); (try have hal8 : w.heap.size ≤ w8.heap.size := by omega); (try have ham8 : w.heap.size < w8.heap.size + 2 := by omega))
  go_ret
  go_light
  exact ⟨rfl, by (repeat' (first | (with_reducible exact Below.refl _ _) | (with_reducible assumption) | (with_reducible refine Below.trans ?_ (Below.mono (by with_reducible assumption) ?_)) | (with_reducible refine Below.alloc ?_ ?_ _) | (with_reducible refine Below.setCell ?_ ?_ _) | (with_reducible refine below_drewN ?_ _) | (with_reducible refine Below.drew ?_) | go_size))⟩
set_option maxRecDepth 100000 in
set_option maxHeartbeats 4000000 in
theorem renews_old (m c u now l : Int) (w : World) (hs : isStampB m c = true) (hu : 0 ≤ u) (hu' : u ≤ 1099511627776) (hn : 0 ≤ now) (hl : 0 ≤ l) (hl' : l ≤ 1099511627776) (t0 : decide (u < 0) = false) (t1 : decide (1099511627776 < u) = false) (t2 : decide (now < 0) = false) (t3 : decide (1099511627776 < now) = false) (t4 : decide (l < 0) = false) (t5 : decide (1099511627776 < l) = false) (t6 : decide (m < 0) = false) (t7 : decide (1099511627776 < m) = false) (t8 : decide (c < 0) = false) (t9 : decide (9 < c) = false) (hr : u ≤ now) (hq : 0 < u) :
    Calls Try.prog 7 #[.agg #[.int .i64 m, .int .i64 c], .int .i64 u, .int .i64 now, .int .i64 l] w fun e w' => e = .returned (.bool true) ∧ Below w.heap.size w w' := by
  have N0 : Hid (None0 ((w.alloc (.cells #[.int .i64 m, .int .i64 c] 30)).alloc (.cells #[.slice none 0 0, .int .i64 0] 60)) (w.heap.size + 1)) := Lib.hid (by have h := none_new (w.alloc (.cells #[.int .i64 m, .int .i64 c] 30)); rwa [World.size_alloc] at h)
  have J0 := Lib.hid ((Ints2.new w m c 30).alloc (.cells #[.slice none 0 0, .int .i64 0] 60))
  have HB0 : Hid (Below w.heap.size w ((w.alloc (.cells #[.int .i64 m, .int .i64 c] 30)).alloc (.cells #[.slice none 0 0, .int .i64 0] 60))) := Lib.hid (by (repeat' (first | (with_reducible exact Below.refl _ _) | (with_reducible assumption) | (with_reducible refine Below.trans ?_ (Below.mono (by with_reducible assumption) ?_)) | (with_reducible refine Below.alloc ?_ ?_ _) | (with_reducible refine Below.setCell ?_ ?_ _) | (with_reducible refine below_drewN ?_ _) | (with_reducible refine Below.drew ?_) | go_size)))
  have r1 : decide (now < u) = false := by simp only [decide_eq_false_iff_not]; omega
  have p1 : decide (0 < u) = true := by simp only [decide_eq_true_eq]; omega
  have p2 : IntKind.i64.wrap (u - 1) = u - 1 := IntWalk.i64_in _ (by omega)
  go_enter Try.func7, Try.ntmps7
  go_wp2_with fail
  refine (lease_new _).mono ?_; rintro e w' ⟨rfl, rfl⟩
  go_wp2_with fail
  refine (lease_open (w.heap.size + 1) m c _ _ N0.out hs hu).mono ?_; rintro e w3 ⟨rfl, ho3, g, cap, hg, O3⟩
  have J3 := J0.out.only ho3 (by omega)
  have HB3 : Below w.heap.size w w3 := HB0.out.trans (ho3.below (by omega) HB0.out.size)
  have zg : w.heap.size ≤ g := Nat.le_trans HB0.out.size hg
  have nJ : w.heap.size ≠ g := by simp at hg; omega
  clear ho3 N0 J0 HB0
  go_wp2_with fail
  refine (lease_renew_old _ g cap m c _ now l _ O3 hr).mono ?_; rintro e w4 ⟨rfl, hb4⟩
  have O4 := O3.below hb4
  have J4 := J3.below hb4 J3.lt
  have HB4 : Below w.heap.size w w4 := HB3.trans (hb4.mono HB3.size)
  clear hb4 O3 J3 HB3
  go_wp2_with fail
  refine (lease_At_old _ g cap m c u u _ O4 (Int.le_refl _)).mono ?_; rintro e w5 ⟨rfl, hb5⟩
  have SB := hb5.trans (((Below.refl w5.heap.size w5).alloc (Nat.le_refl _) (.cells #[.int .i64 0, .int .i64 0] 30)).mono hb5.size)
  have O5 := O4.below SB
  have J5 := J4.below SB J4.lt
  have HB5 := HB4.trans (SB.mono HB4.size)
  clear hb5 SB O4 J4 HB4
  go_wp2_with fail
  refine (lease_At_ok _ g cap m c u (u - 1) _ O5 (by omega)).mono ?_; rintro e w6 ⟨rfl, hb6⟩
  have SB := hb6.trans (((Below.refl w6.heap.size w6).alloc (Nat.le_refl _) (.cells #[.int .i64 m, .int .i64 c] 30)).mono hb6.size)
  have O6 := O5.below SB
  have J6 := J5.below SB J5.lt
  have HB6 := HB5.trans (SB.mono HB5.size)
  have K6 := Ints2.new w6 m c 30
  obtain ⟨x0, x1, _, _, x4⟩ := J6
  obtain ⟨y0, y1, _, _, y4⟩ := K6
  clear hb6 SB O5 J5 HB5
  go_wp2_with fail
  refine (lease_expire _ g cap m c u u _ O6 (Int.le_refl _)).mono ?_; rintro e w7 ⟨rfl, hb7, M7⟩
  have HB7 : Below w.heap.size w w7 := HB6.trans (hb7 w.heap.size (by omega) zg HB6.size)
  clear hb7 O6 HB6
  go_wp2_with fail
  refine (lease_renew_none _ g cap 0 9 _ M7).mono ?_; rintro e w' ⟨rfl, rfl⟩
  have z7 := HB7.size
  clear M7
  go_wp2_with (go_at_call 23; refine (known21 _).mono ?_; rintro e w8 ⟨rfl, hb8⟩; obtain ⟨hc8, hf8⟩ := bcell hb8; have hz8 := hb8.size; (try simp only [World.size_alloc, World.size_setCell, World.heap_drewN] at hb8 hc8 hf8 hz8); (try have ha08 : w.heap.size < w8.heap.size := by omega); (try have ha18 : w.heap.size + 1 < w8.heap.size := by omega); (try have ha28 : w.heap.size + 2 < w8.heap.size := by omega); (try have hal8 : w.heap.size ≤ w8.heap.size := by omega); (try have ham8 : w.heap.size < w8.heap.size + 2 := by omega))
  go_ret
  go_light
  exact ⟨rfl, by (repeat' (first | (with_reducible exact Below.refl _ _) | (with_reducible assumption) | (with_reducible refine Below.trans ?_ (Below.mono (by with_reducible assumption) ?_)) | (with_reducible refine Below.alloc ?_ ?_ _) | (with_reducible refine Below.setCell ?_ ?_ _) | (with_reducible refine below_drewN ?_ _) | (with_reducible refine Below.drew ?_) | go_size))⟩
set_option maxRecDepth 100000 in
set_option maxHeartbeats 4000000 in
theorem renews_zero (m c u now l : Int) (w : World) (hs : isStampB m c = true) (hu : 0 ≤ u) (hu' : u ≤ 1099511627776) (hn : 0 ≤ now) (hl : 0 ≤ l) (hl' : l ≤ 1099511627776) (t0 : decide (u < 0) = false) (t1 : decide (1099511627776 < u) = false) (t2 : decide (now < 0) = false) (t3 : decide (1099511627776 < now) = false) (t4 : decide (l < 0) = false) (t5 : decide (1099511627776 < l) = false) (t6 : decide (m < 0) = false) (t7 : decide (1099511627776 < m) = false) (t8 : decide (c < 0) = false) (t9 : decide (9 < c) = false) (hr : u ≤ now) (hq : u = 0) :
    Calls Try.prog 7 #[.agg #[.int .i64 m, .int .i64 c], .int .i64 u, .int .i64 now, .int .i64 l] w fun e w' => e = .returned (.bool true) ∧ Below w.heap.size w w' := by
  have N0 : Hid (None0 ((w.alloc (.cells #[.int .i64 m, .int .i64 c] 30)).alloc (.cells #[.slice none 0 0, .int .i64 0] 60)) (w.heap.size + 1)) := Lib.hid (by have h := none_new (w.alloc (.cells #[.int .i64 m, .int .i64 c] 30)); rwa [World.size_alloc] at h)
  have J0 := Lib.hid ((Ints2.new w m c 30).alloc (.cells #[.slice none 0 0, .int .i64 0] 60))
  have HB0 : Hid (Below w.heap.size w ((w.alloc (.cells #[.int .i64 m, .int .i64 c] 30)).alloc (.cells #[.slice none 0 0, .int .i64 0] 60))) := Lib.hid (by (repeat' (first | (with_reducible exact Below.refl _ _) | (with_reducible assumption) | (with_reducible refine Below.trans ?_ (Below.mono (by with_reducible assumption) ?_)) | (with_reducible refine Below.alloc ?_ ?_ _) | (with_reducible refine Below.setCell ?_ ?_ _) | (with_reducible refine below_drewN ?_ _) | (with_reducible refine Below.drew ?_) | go_size)))
  subst hq
  have r1 : decide (now < 0) = false := t2
  go_enter Try.func7, Try.ntmps7
  go_wp2_with fail
  refine (lease_new _).mono ?_; rintro e w' ⟨rfl, rfl⟩
  go_wp2_with fail
  refine (lease_open (w.heap.size + 1) m c _ _ N0.out hs hu).mono ?_; rintro e w3 ⟨rfl, ho3, g, cap, hg, O3⟩
  have J3 := J0.out.only ho3 (by omega)
  have HB3 : Below w.heap.size w w3 := HB0.out.trans (ho3.below (by omega) HB0.out.size)
  have zg : w.heap.size ≤ g := Nat.le_trans HB0.out.size hg
  have nJ : w.heap.size ≠ g := by simp at hg; omega
  clear ho3 N0 J0 HB0
  go_wp2_with fail
  refine (lease_renew_old _ g cap m c _ now l _ O3 hr).mono ?_; rintro e w4 ⟨rfl, hb4⟩
  have O4 := O3.below hb4
  have J4 := J3.below hb4 J3.lt
  have HB4 : Below w.heap.size w w4 := HB3.trans (hb4.mono HB3.size)
  clear hb4 O3 J3 HB3
  go_wp2_with fail
  refine (lease_At_old _ g cap m c 0 0 _ O4 (Int.le_refl _)).mono ?_; rintro e w5 ⟨rfl, hb5⟩
  have SB := hb5.trans (((Below.refl w5.heap.size w5).alloc (Nat.le_refl _) (.cells #[.int .i64 0, .int .i64 0] 30)).mono hb5.size)
  have O5 := O4.below SB
  have J5 := J4.below SB J4.lt
  have HB5 := HB4.trans (SB.mono HB4.size)
  clear hb5 SB O4 J4 HB4
  go_wp2_with fail
  refine (lease_expire _ g cap m c 0 0 _ O5 (Int.le_refl _)).mono ?_; rintro e w7 ⟨rfl, hb7, M7⟩
  have HB7 : Below w.heap.size w w7 := HB5.trans (hb7 w.heap.size (by omega) zg HB5.size)
  clear hb7 O5 HB5
  go_wp2_with fail
  refine (lease_renew_none _ g cap 0 9 _ M7).mono ?_; rintro e w' ⟨rfl, rfl⟩
  have z7 := HB7.size
  clear M7
  go_wp2_with (go_at_call 23; refine (known21 _).mono ?_; rintro e w8 ⟨rfl, hb8⟩; obtain ⟨hc8, hf8⟩ := bcell hb8; have hz8 := hb8.size; (try simp only [World.size_alloc, World.size_setCell, World.heap_drewN] at hb8 hc8 hf8 hz8); (try have ha08 : w.heap.size < w8.heap.size := by omega); (try have ha18 : w.heap.size + 1 < w8.heap.size := by omega); (try have ha28 : w.heap.size + 2 < w8.heap.size := by omega); (try have hal8 : w.heap.size ≤ w8.heap.size := by omega); (try have ham8 : w.heap.size < w8.heap.size + 2 := by omega))
  go_ret
  go_light
  exact ⟨rfl, by (repeat' (first | (with_reducible exact Below.refl _ _) | (with_reducible assumption) | (with_reducible refine Below.trans ?_ (Below.mono (by with_reducible assumption) ?_)) | (with_reducible refine Below.alloc ?_ ?_ _) | (with_reducible refine Below.setCell ?_ ?_ _) | (with_reducible refine below_drewN ?_ _) | (with_reducible refine Below.drew ?_) | go_size))⟩
set_option maxRecDepth 100000 in
theorem leaseRenews_lifted (os : Os) (started : os.Started) (H : Type) (enc : TypeId × Value → H) :
    ReturnsInHanded {} Try.checked os 7 .any (Rows.leaseRenewsSpec.pre6 enc Try.prog Try.f7 Rows.leaseRenewsRow.domain false) (Rows.leaseRenewsSpec.post enc Try.prog Try.f7 false true false false) := by
  refine returnsInHanded_of_change_sized (C := Try.checked) law_own started (by kernel_rfl) Try.func7
    (ChangeSpec.witness6 (enc := enc) (C := Try.checked) false ⟨#[], #[.agg #[.int .i64 0, .int .i64 0], .int .i64 0, .int .i64 0, .int .i64 0], []⟩ 8 (by kernel_rfl) (by kernel_rfl) (by kernel_rfl) (by kernel_rfl)) ?_
  intro W base args ds gs before hval0 hW hcnd hsz0 _
  have hval : ∀ (j : Nat) t v, Try.f7.params[j]? = some t → args[j]? = some v → Value.okWide Try.prog W .any base t v := hval0
  have hsz : (DataW.weightsEach Try.prog (Try.f7.params.toList ++ Rows.leaseRenewsSpec.plain.varTypes Try.prog) (ds ++ gs)).all (· ≤ reachBytes) = true := hsz0
  have hW' := hW
  obtain ⟨p, q, hA0, hV, rfl, hfz, hnd⟩ := hW
  have hA : DataW.TrodAll enc Try.prog W 0 (fun _ => true) true Try.f7.params.toList args.toList ds p := hA0
  rw [Try.params7] at hA hval hsz
  have hsame : (Rows.leaseRenewsSpec.fn H (ds ++ gs)).results = [.lit (.bool true)] ∧ (Rows.leaseRenewsSpec.fn H (ds ++ gs)).args = ds ∧ (Rows.leaseRenewsSpec.fn H (ds ++ gs)).vars = [] → ∀ W', Below W.heap.size W W' → Rows.leaseRenewsSpec.post enc Try.prog Try.f7 false true false false W args (.bool true) W' :=
    fun h W' hb => law_post (tb := 4) hW' law_laid (by kernel_rfl) rfl Try.underlying4 h.1 h.2.1 rfl h.2.2 hb
  obtain ⟨v0, vs0, d0, ds0, p0, q0, hargs, rfl, rfl, h0, r0⟩ := trodAll_cons hA
  obtain ⟨v1, vs1, d1, ds1, p1, q1, rfl, rfl, rfl, h1, r1⟩ := trodAll_cons r0
  obtain ⟨v2, vs2, d2, ds2, p2, q2, rfl, rfl, rfl, h2, r2⟩ := trodAll_cons r1
  obtain ⟨v3, vs3, d3, ds3, p3, q3, rfl, rfl, rfl, h3, r3⟩ := trodAll_cons r2
  obtain ⟨rfl, rfl, rfl⟩ := trodAll_nil r3
  obtain rfl : args = #[v0, v1, v2, v3] := by cases args; simp_all
  obtain ⟨rfl, rfl⟩ := trodVars_none hV
  have hpost := hsame ⟨rfl, rfl, rfl⟩
  clear hsame hA0 hval0 hsz0
  obtain ⟨m, c, rfl, _, _⟩ := open_stamp (hval 0 30 v0 rfl rfl) h0
  obtain ⟨u, rfl, _, _, _⟩ := open_int Try.underlying3 (hval 1 3 v1 rfl rfl) h1
  obtain ⟨now, rfl, _, _, _⟩ := open_int Try.underlying3 (hval 2 3 v2 rfl rfl) h2
  obtain ⟨l, rfl, _, _, _⟩ := open_int Try.underlying3 (hval 3 3 v3 rfl rfl) h3
  by_cases h : 0 ≤ u ∧ u ≤ 1099511627776 ∧ 0 ≤ now ∧ now ≤ 1099511627776 ∧ 0 ≤ l ∧ l ≤ 1099511627776 ∧ 0 ≤ m ∧ m ≤ 1099511627776 ∧ 0 ≤ c ∧ c ≤ 9
  · obtain ⟨a1, a2, a3, a4, a5, a6, a7, a8, a9, a10⟩ := h
    have hs : isStampB m c = true := by simp [isStampB, isMilliB]; omega
    by_cases hr : now < u
    · by_cases hq : u < l
      · exact (renews_lt m c u now l W hs a1 a2 a3 a5 a6 (by simp only [decide_eq_false_iff_not]; omega) (by simp only [decide_eq_false_iff_not]; omega) (by simp only [decide_eq_false_iff_not]; omega) (by simp only [decide_eq_false_iff_not]; omega) (by simp only [decide_eq_false_iff_not]; omega) (by simp only [decide_eq_false_iff_not]; omega) (by simp only [decide_eq_false_iff_not]; omega) (by simp only [decide_eq_false_iff_not]; omega) (by simp only [decide_eq_false_iff_not]; omega) (by simp only [decide_eq_false_iff_not]; omega) hr hq).mono fun e W' ⟨he, hb⟩ => ⟨_, he, hpost W' hb⟩
      · exact (renews_ge m c u now l W hs a1 a2 a3 a5 a6 (by simp only [decide_eq_false_iff_not]; omega) (by simp only [decide_eq_false_iff_not]; omega) (by simp only [decide_eq_false_iff_not]; omega) (by simp only [decide_eq_false_iff_not]; omega) (by simp only [decide_eq_false_iff_not]; omega) (by simp only [decide_eq_false_iff_not]; omega) (by simp only [decide_eq_false_iff_not]; omega) (by simp only [decide_eq_false_iff_not]; omega) (by simp only [decide_eq_false_iff_not]; omega) (by simp only [decide_eq_false_iff_not]; omega) hr (by omega)).mono fun e W' ⟨he, hb⟩ => ⟨_, he, hpost W' hb⟩
    · by_cases hq : 0 < u
      · exact (renews_old m c u now l W hs a1 a2 a3 a5 a6 (by simp only [decide_eq_false_iff_not]; omega) (by simp only [decide_eq_false_iff_not]; omega) (by simp only [decide_eq_false_iff_not]; omega) (by simp only [decide_eq_false_iff_not]; omega) (by simp only [decide_eq_false_iff_not]; omega) (by simp only [decide_eq_false_iff_not]; omega) (by simp only [decide_eq_false_iff_not]; omega) (by simp only [decide_eq_false_iff_not]; omega) (by simp only [decide_eq_false_iff_not]; omega) (by simp only [decide_eq_false_iff_not]; omega) (by omega) hq).mono fun e W' ⟨he, hb⟩ => ⟨_, he, hpost W' hb⟩
      · exact (renews_zero m c u now l W hs a1 a2 a3 a5 a6 (by simp only [decide_eq_false_iff_not]; omega) (by simp only [decide_eq_false_iff_not]; omega) (by simp only [decide_eq_false_iff_not]; omega) (by simp only [decide_eq_false_iff_not]; omega) (by simp only [decide_eq_false_iff_not]; omega) (by simp only [decide_eq_false_iff_not]; omega) (by simp only [decide_eq_false_iff_not]; omega) (by simp only [decide_eq_false_iff_not]; omega) (by simp only [decide_eq_false_iff_not]; omega) (by simp only [decide_eq_false_iff_not]; omega) (by omega) (by omega)).mono fun e W' ⟨he, hb⟩ => ⟨_, he, hpost W' hb⟩
  · exact (renews_out m c u now l W h).mono fun e W' ⟨he, hb⟩ => ⟨_, he, hpost W' hb⟩
theorem leaseRenews_holds : Rows.LeaseRenewsSaid :=
  OpenClaim.holds_of_wide 7 Try.f7 rfl rfl rfl rfl rfl rfl rfl ⟨rfl, rfl, rfl, rfl, rfl⟩ rfl rfl rfl rfl rfl (by kernel_rfl) Try.func7 (by kernel_rfl)
    (of_decide_eq_true (by kernel_rfl)) (by unfold Func.isWrapper; first | (rw [if_pos (by decide +kernel)]; kernel_rfl) | (rw [if_neg (by decide +kernel)]; exact ⟨rfl, rfl⟩))
    (fun os started H enc _ => leaseRenews_lifted os started H enc)
end Go.Proofs.Ytacchkokbibeaaa
