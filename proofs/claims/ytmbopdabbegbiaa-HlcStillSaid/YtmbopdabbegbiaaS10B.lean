/- Stage 10: HlcPacks, HlcOrders. -/
import Derived.Test.YtmbopdabbegbiaaS10A
set_option linter.unusedSimpArgs false
set_option linter.unusedVariables false
namespace Go.Proofs.Ytmbopdabbegbiaa
open Go.RowKit

theorem unpack_stamp (m c : Int) (w : World) (h : isStampB m c = true) : Calls Try.prog 29 #[.int .u64 (m * 65536 + c)] w fun e w' => e = .returned (.agg #[.int .i64 m, .int .i64 c]) ∧ Below w.heap.size w w' := by
  obtain ⟨m0, m1, c0, c1⟩ := stamp_bd h
  have := hlc_unpack (m * 65536 + c) w (by omega) (by omega)
  rwa [show (m * 65536 + c) / 65536 = m from by omega, show (m * 65536 + c) % 65536 = c from by omega] at this
theorem pack_word (x : Int) (w : World) (h0 : 0 ≤ x) (h1 : x < 18446744073709551616) : Calls Try.prog 27 #[.agg #[.int .i64 (x / 65536), .int .i64 (x % 65536)]] w fun e w' => e = .returned (.tuple #[.int .u64 x, .int .i64 0]) ∧ Below w.heap.size w w' := by
  have hs : isStampB (x / 65536) (x % 65536) = true := by simp [isStampB, isMilliB]; omega
  have := hlc_pack_yes (x / 65536) (x % 65536) w hs
  rwa [show x / 65536 * 65536 + x % 65536 = x from by omega] at this
set_option maxHeartbeats 1000000 in
theorem hlcPacks_all (m c x : Int) (w : World) (h0 : 0 ≤ x) (h1 : x < 18446744073709551616) : Calls Try.prog 6 #[.agg #[.int .i64 m, .int .i64 c], .int .u64 x] w fun e w' => e = .returned (.bool true) ∧ Below w.heap.size w w' := by
  have H0 := Lib.hid h0
  have H1 := Lib.hid h1
  cases hs : isStampB m c
  · have HS := Lib.hid hs
    clear hs h0 h1
    go_enter Try.func6, Try.ntmps6
    go_wp2_with fail
    refine (hlc_pack_no m c _ HS.out).mono ?_; rintro e w1 ⟨rfl, hb1⟩; obtain ⟨hc1, hf1⟩ := bcell hb1; have hz1 := hb1.size; (try simp only [World.size_alloc, World.size_setCell, World.heap_drewN] at hb1 hc1 hf1 hz1); (try have ha01 : w.heap.size < w1.heap.size := by omega); (try have ha11 : w.heap.size + 1 < w1.heap.size := by omega); (try have ha21 : w.heap.size + 2 < w1.heap.size := by omega); (try have hal1 : w.heap.size ≤ w1.heap.size := by omega); (try have ham1 : w.heap.size < w1.heap.size + 2 := by omega)
    go_wp2_with fail
    refine (ref10_pack_no m c _ HS.out).mono ?_; rintro e w2 ⟨rfl, hb2⟩; obtain ⟨hc2, hf2⟩ := bcell hb2; have hz2 := hb2.size; (try simp only [World.size_alloc, World.size_setCell, World.heap_drewN] at hb2 hc2 hf2 hz2); (try have ha02 : w.heap.size < w2.heap.size := by omega); (try have ha12 : w.heap.size + 1 < w2.heap.size := by omega); (try have ha22 : w.heap.size + 2 < w2.heap.size := by omega); (try have hal2 : w.heap.size ≤ w2.heap.size := by omega); (try have ham2 : w.heap.size < w2.heap.size + 2 := by omega); (try have hb02 : w1.heap.size < w2.heap.size := by omega); (try have hb12 : w1.heap.size + 1 < w2.heap.size := by omega); (try have hb22 : w1.heap.size + 2 < w2.heap.size := by omega); (try have hbl2 : w1.heap.size ≤ w2.heap.size := by omega); (try have hbm2 : w1.heap.size < w2.heap.size + 2 := by omega)
    go_wp2_with fail
    go_quiet (fail)
    go_wp2_with fail
    refine (hlc_unpack x _ H0.out H1.out).mono ?_; rintro e w3 ⟨rfl, hb3⟩; obtain ⟨hc3, hf3⟩ := bcell hb3; have hz3 := hb3.size; (try simp only [World.size_alloc, World.size_setCell, World.heap_drewN] at hb3 hc3 hf3 hz3); (try have ha03 : w.heap.size < w3.heap.size := by omega); (try have ha13 : w.heap.size + 1 < w3.heap.size := by omega); (try have ha23 : w.heap.size + 2 < w3.heap.size := by omega); (try have hal3 : w.heap.size ≤ w3.heap.size := by omega); (try have ham3 : w.heap.size < w3.heap.size + 2 := by omega); (try have hb03 : w2.heap.size < w3.heap.size := by omega); (try have hb13 : w2.heap.size + 1 < w3.heap.size := by omega); (try have hb23 : w2.heap.size + 2 < w3.heap.size := by omega); (try have hbl3 : w2.heap.size ≤ w3.heap.size := by omega); (try have hbm3 : w2.heap.size < w3.heap.size + 2 := by omega)
    go_wp2_with fail
    refine (pack_word x _ H0.out H1.out).mono ?_; rintro e w4 ⟨rfl, hb4⟩; obtain ⟨hc4, hf4⟩ := bcell hb4; have hz4 := hb4.size; (try simp only [World.size_alloc, World.size_setCell, World.heap_drewN] at hb4 hc4 hf4 hz4); (try have ha04 : w.heap.size < w4.heap.size := by omega); (try have ha14 : w.heap.size + 1 < w4.heap.size := by omega); (try have ha24 : w.heap.size + 2 < w4.heap.size := by omega); (try have hal4 : w.heap.size ≤ w4.heap.size := by omega); (try have ham4 : w.heap.size < w4.heap.size + 2 := by omega); (try have hb04 : w3.heap.size < w4.heap.size := by omega); (try have hb14 : w3.heap.size + 1 < w4.heap.size := by omega); (try have hb24 : w3.heap.size + 2 < w4.heap.size := by omega); (try have hbl4 : w3.heap.size ≤ w4.heap.size := by omega); (try have hbm4 : w3.heap.size < w4.heap.size + 2 := by omega)
    go_wp2_with fail
    have u0 : w4.cell? ⟨w3.heap.size, 0, none⟩ = some (.int .i64 (x / 65536)) := by rw [hc4 _ _ (by omega)]; simp [go_sem]
    have u1 : w4.cell? ⟨w3.heap.size, 1, none⟩ = some (.int .i64 (x % 65536)) := by rw [hc4 _ _ (by omega)]; simp [go_sem]
    have u2 : w3.heap.size < w4.heap.size := by omega
    go_region_held3 (fun w' => w'.cell? ⟨w3.heap.size, 0, none⟩ = some (.int .i64 (x / 65536)) ∧ w'.cell? ⟨w3.heap.size, 1, none⟩ = some (.int .i64 (x % 65536))) (first | (simp [go_sem, u0, u1]; done) | exact ⟨p0, p1⟩ | exact ⟨q0, q1⟩)
      (first
        | (go_at_call 30; refine (ref10_unpack x _ H0.out H1.out).mono ?_; rintro e w5 ⟨rfl, hb5⟩; obtain ⟨hc5, hf5⟩ := bcell hb5; have hz5 : w4.heap.size ≤ w5.heap.size := hb5.size; have p0 : w5.cell? ⟨w3.heap.size, 0, none⟩ = some (.int .i64 (x / 65536)) := (hc5 _ _ u2).trans u0; have p1 : w5.cell? ⟨w3.heap.size, 1, none⟩ = some (.int .i64 (x % 65536)) := (hc5 _ _ u2).trans u1)
        | (go_at_call 16; refine (known10 _).mono ?_; rintro e w6 ⟨rfl, hb6⟩; obtain ⟨hc6, hf6⟩ := bcell hb6; have q0 : w6.cell? ⟨w3.heap.size, 0, none⟩ = some (.int .i64 (x / 65536)) := (hc6 _ _ (Nat.lt_of_lt_of_le u2 hz5)).trans p0; have q1 : w6.cell? ⟨w3.heap.size, 1, none⟩ = some (.int .i64 (x % 65536)) := (hc6 _ _ (Nat.lt_of_lt_of_le u2 hz5)).trans p1))
    go_wp2
    go_ret
    go_light
    exact ⟨rfl, by (repeat' (first | (with_reducible exact Below.refl _ _) | (with_reducible assumption) | (with_reducible refine Below.trans ?_ (Below.mono (by with_reducible assumption) ?_)) | (with_reducible refine Below.alloc ?_ ?_ _) | (with_reducible refine Below.setCell ?_ ?_ _) | (with_reducible refine below_drewN ?_ _) | (with_reducible refine Below.drew ?_) | go_size))⟩
  · have HS := Lib.hid hs
    clear hs h0 h1
    go_enter Try.func6, Try.ntmps6
    go_wp2_with fail
    refine (hlc_pack_yes m c _ HS.out).mono ?_; rintro e w1 ⟨rfl, hb1⟩; obtain ⟨hc1, hf1⟩ := bcell hb1; have hz1 := hb1.size; (try simp only [World.size_alloc, World.size_setCell, World.heap_drewN] at hb1 hc1 hf1 hz1); (try have ha01 : w.heap.size < w1.heap.size := by omega); (try have ha11 : w.heap.size + 1 < w1.heap.size := by omega); (try have ha21 : w.heap.size + 2 < w1.heap.size := by omega); (try have hal1 : w.heap.size ≤ w1.heap.size := by omega); (try have ham1 : w.heap.size < w1.heap.size + 2 := by omega)
    go_wp2_with fail
    refine (ref10_pack_yes m c _ HS.out).mono ?_; rintro e w2 ⟨rfl, hb2⟩; obtain ⟨hc2, hf2⟩ := bcell hb2; have hz2 := hb2.size; (try simp only [World.size_alloc, World.size_setCell, World.heap_drewN] at hb2 hc2 hf2 hz2); (try have ha02 : w.heap.size < w2.heap.size := by omega); (try have ha12 : w.heap.size + 1 < w2.heap.size := by omega); (try have ha22 : w.heap.size + 2 < w2.heap.size := by omega); (try have hal2 : w.heap.size ≤ w2.heap.size := by omega); (try have ham2 : w.heap.size < w2.heap.size + 2 := by omega); (try have hb02 : w1.heap.size < w2.heap.size := by omega); (try have hb12 : w1.heap.size + 1 < w2.heap.size := by omega); (try have hb22 : w1.heap.size + 2 < w2.heap.size := by omega); (try have hbl2 : w1.heap.size ≤ w2.heap.size := by omega); (try have hbm2 : w1.heap.size < w2.heap.size + 2 := by omega)
    go_wp2_with fail
    have x0 : w2.cell? ⟨w.heap.size, 0, none⟩ = some (.int .i64 m) := by rw [hc2 _ _ (by omega), hc1 _ _ (by omega)]; simp [go_sem]
    have x1 : w2.cell? ⟨w.heap.size, 1, none⟩ = some (.int .i64 c) := by rw [hc2 _ _ (by omega), hc1 _ _ (by omega)]; simp [go_sem]
    go_region_held3 (fun w' => w'.cell? ⟨w.heap.size, 0, none⟩ = some (.int .i64 m) ∧ w'.cell? ⟨w.heap.size, 1, none⟩ = some (.int .i64 c)) (first | (simp [go_sem, *]; done) | exact ⟨y0, y1⟩)
      (first
        | (go_at_call 29; refine (unpack_stamp m c _ HS.out).mono ?_; rintro e w7 ⟨rfl, hb7⟩; obtain ⟨hc7, hf7⟩ := bcell hb7; have hz7 : w2.heap.size ≤ w7.heap.size := hb7.size; have y0 : w7.cell? ⟨w.heap.size, 0, none⟩ = some (.int .i64 m) := (hc7 _ _ (by simp; omega)).trans x0; have y1 : w7.cell? ⟨w.heap.size, 1, none⟩ = some (.int .i64 c) := (hc7 _ _ (by simp; omega)).trans x1))
    go_wp2_with fail
    refine (hlc_unpack x _ H0.out H1.out).mono ?_; rintro e w3 ⟨rfl, hb3⟩; obtain ⟨hc3, hf3⟩ := bcell hb3; have hz3 := hb3.size; (try simp only [World.size_alloc, World.size_setCell, World.heap_drewN] at hb3 hc3 hf3 hz3); (try have ha03 : w.heap.size < w3.heap.size := by omega); (try have ha13 : w.heap.size + 1 < w3.heap.size := by omega); (try have ha23 : w.heap.size + 2 < w3.heap.size := by omega); (try have hal3 : w.heap.size ≤ w3.heap.size := by omega); (try have ham3 : w.heap.size < w3.heap.size + 2 := by omega); (try have hb03 : w2.heap.size < w3.heap.size := by omega); (try have hb13 : w2.heap.size + 1 < w3.heap.size := by omega); (try have hb23 : w2.heap.size + 2 < w3.heap.size := by omega); (try have hbl3 : w2.heap.size ≤ w3.heap.size := by omega); (try have hbm3 : w2.heap.size < w3.heap.size + 2 := by omega)
    go_wp2_with fail
    refine (pack_word x _ H0.out H1.out).mono ?_; rintro e w4 ⟨rfl, hb4⟩; obtain ⟨hc4, hf4⟩ := bcell hb4; have hz4 := hb4.size; (try simp only [World.size_alloc, World.size_setCell, World.heap_drewN] at hb4 hc4 hf4 hz4); (try have ha04 : w.heap.size < w4.heap.size := by omega); (try have ha14 : w.heap.size + 1 < w4.heap.size := by omega); (try have ha24 : w.heap.size + 2 < w4.heap.size := by omega); (try have hal4 : w.heap.size ≤ w4.heap.size := by omega); (try have ham4 : w.heap.size < w4.heap.size + 2 := by omega); (try have hb04 : w3.heap.size < w4.heap.size := by omega); (try have hb14 : w3.heap.size + 1 < w4.heap.size := by omega); (try have hb24 : w3.heap.size + 2 < w4.heap.size := by omega); (try have hbl4 : w3.heap.size ≤ w4.heap.size := by omega); (try have hbm4 : w3.heap.size < w4.heap.size + 2 := by omega)
    go_wp2_with fail
    have u0 : w4.cell? ⟨w3.heap.size, 0, none⟩ = some (.int .i64 (x / 65536)) := by rw [hc4 _ _ (by omega)]; simp [go_sem]
    have u1 : w4.cell? ⟨w3.heap.size, 1, none⟩ = some (.int .i64 (x % 65536)) := by rw [hc4 _ _ (by omega)]; simp [go_sem]
    have u2 : w3.heap.size < w4.heap.size := by omega
    go_region_held3 (fun w' => w'.cell? ⟨w3.heap.size, 0, none⟩ = some (.int .i64 (x / 65536)) ∧ w'.cell? ⟨w3.heap.size, 1, none⟩ = some (.int .i64 (x % 65536))) (first | (simp [go_sem, u0, u1]; done) | exact ⟨p0, p1⟩ | exact ⟨q0, q1⟩)
      (first
        | (go_at_call 30; refine (ref10_unpack x _ H0.out H1.out).mono ?_; rintro e w5 ⟨rfl, hb5⟩; obtain ⟨hc5, hf5⟩ := bcell hb5; have hz5 : w4.heap.size ≤ w5.heap.size := hb5.size; have p0 : w5.cell? ⟨w3.heap.size, 0, none⟩ = some (.int .i64 (x / 65536)) := (hc5 _ _ u2).trans u0; have p1 : w5.cell? ⟨w3.heap.size, 1, none⟩ = some (.int .i64 (x % 65536)) := (hc5 _ _ u2).trans u1)
        | (go_at_call 16; refine (known10 _).mono ?_; rintro e w6 ⟨rfl, hb6⟩; obtain ⟨hc6, hf6⟩ := bcell hb6; have q0 : w6.cell? ⟨w3.heap.size, 0, none⟩ = some (.int .i64 (x / 65536)) := (hc6 _ _ (Nat.lt_of_lt_of_le u2 hz5)).trans p0; have q1 : w6.cell? ⟨w3.heap.size, 1, none⟩ = some (.int .i64 (x % 65536)) := (hc6 _ _ (Nat.lt_of_lt_of_le u2 hz5)).trans p1))
    go_wp2
    go_ret
    go_light
    exact ⟨rfl, by (repeat' (first | (with_reducible exact Below.refl _ _) | (with_reducible assumption) | (with_reducible refine Below.trans ?_ (Below.mono (by with_reducible assumption) ?_)) | (with_reducible refine Below.alloc ?_ ?_ _) | (with_reducible refine Below.setCell ?_ ?_ _) | (with_reducible refine below_drewN ?_ _) | (with_reducible refine Below.drew ?_) | go_size))⟩
theorem cmp2_swap (m c p q : Int) : cmp2 p q m c = -cmp2 m c p q := by
  unfold cmp2 or2 cmp1
  repeat' split
  all_goals omega
theorem cmp2_bd (m c p q : Int) : -1 ≤ cmp2 m c p q ∧ cmp2 m c p q ≤ 1 := by
  unfold cmp2 or2 cmp1
  repeat' split
  all_goals omega
theorem cmp2_lt (m c p q : Int) (h1 : isStampB m c = true) (h2 : isStampB p q = true) : decide (m * 65536 + c < p * 65536 + q) = decide (cmp2 m c p q < 0) ∧ (m * 65536 + c == p * 65536 + q) = (cmp2 m c p q == 0) := by
  obtain ⟨a1, a2, a3, a4⟩ := stamp_bd h1
  obtain ⟨b1, b2, b3, b4⟩ := stamp_bd h2
  constructor
  · apply decide_eq_decide.2
    unfold cmp2 or2 cmp1
    repeat' split
    all_goals omega
  · rw [Bool.eq_iff_iff, beq_iff_eq, beq_iff_eq]
    unfold cmp2 or2 cmp1
    repeat' split
    all_goals omega
set_option maxHeartbeats 1000000 in
theorem hlcOrders_all (m c p q : Int) (w : World) : Calls Try.prog 7 #[.agg #[.int .i64 m, .int .i64 c], .agg #[.int .i64 p, .int .i64 q]] w fun e w' => e = .returned (.bool true) ∧ Below w.heap.size w w' := by
  have hsw := cmp2_swap m c p q
  have hbd := cmp2_bd m c p q
  have hlt := cmp2_lt m c p q
  have c1 : ∀ w, Calls Try.prog 31 #[.agg #[.int .i64 m, .int .i64 c], .agg #[.int .i64 p, .int .i64 q]] w fun e w' => e = .returned (.int .i64 (cmp2 m c p q)) ∧ Below w.heap.size w w' := fun w => hlc_compare m c p q w
  have c2 : ∀ w, Calls Try.prog 26 #[.agg #[.int .i64 m, .int .i64 c], .agg #[.int .i64 p, .int .i64 q]] w fun e w' => e = .returned (.int .i64 (cmp2 m c p q)) ∧ Below w.heap.size w w' := fun w => ref10_compare m c p q w
  have c3 : ∀ w, Calls Try.prog 31 #[.agg #[.int .i64 p, .int .i64 q], .agg #[.int .i64 m, .int .i64 c]] w fun e w' => e = .returned (.int .i64 (-cmp2 m c p q)) ∧ Below w.heap.size w w' := fun w => by rw [← hsw]; exact hlc_compare p q m c w
  clear hsw
  generalize cmp2 m c p q = n at *
  have C1 := Lib.hid c1
  have C2 := Lib.hid c2
  have C3 := Lib.hid c3
  clear c1 c2 c3
  cases hs : isStampB m c
  · have HS := Lib.hid hs
    clear hs hlt
    go_enter Try.func7, Try.ntmps7
    go_wp2_with fail
    refine (C1.out _).mono ?_; rintro e w1 ⟨rfl, hb1⟩; obtain ⟨hc1, hf1⟩ := bcell hb1; have hz1 := hb1.size; (try simp only [World.size_alloc, World.size_setCell, World.heap_drewN] at hb1 hc1 hf1 hz1); (try have ha01 : w.heap.size < w1.heap.size := by omega); (try have ha11 : w.heap.size + 1 < w1.heap.size := by omega); (try have ha21 : w.heap.size + 2 < w1.heap.size := by omega); (try have hal1 : w.heap.size ≤ w1.heap.size := by omega); (try have ham1 : w.heap.size < w1.heap.size + 2 := by omega)
    go_wp2_with fail
    refine (C2.out _).mono ?_; rintro e w2 ⟨rfl, hb2⟩; obtain ⟨hc2, hf2⟩ := bcell hb2; have hz2 := hb2.size; (try simp only [World.size_alloc, World.size_setCell, World.heap_drewN] at hb2 hc2 hf2 hz2); (try have ha02 : w.heap.size < w2.heap.size := by omega); (try have ha12 : w.heap.size + 1 < w2.heap.size := by omega); (try have ha22 : w.heap.size + 2 < w2.heap.size := by omega); (try have hal2 : w.heap.size ≤ w2.heap.size := by omega); (try have ham2 : w.heap.size < w2.heap.size + 2 := by omega)
    go_wp2_with fail
    refine (C3.out _).mono ?_; rintro e w3 ⟨rfl, hb3⟩; obtain ⟨hc3, hf3⟩ := bcell hb3; have hz3 := hb3.size; (try simp only [World.size_alloc, World.size_setCell, World.heap_drewN] at hb3 hc3 hf3 hz3); (try have ha03 : w.heap.size < w3.heap.size := by omega); (try have ha13 : w.heap.size + 1 < w3.heap.size := by omega); (try have ha23 : w.heap.size + 2 < w3.heap.size := by omega); (try have hal3 : w.heap.size ≤ w3.heap.size := by omega); (try have ham3 : w.heap.size < w3.heap.size + 2 := by omega)
    go_wp2_with fail
    refine (hlc_pack_no m c _ HS.out).mono ?_; rintro e w4 ⟨rfl, hb4⟩; obtain ⟨hc4, hf4⟩ := bcell hb4; have hz4 := hb4.size; (try simp only [World.size_alloc, World.size_setCell, World.heap_drewN] at hb4 hc4 hf4 hz4); (try have ha04 : w.heap.size < w4.heap.size := by omega); (try have ha14 : w.heap.size + 1 < w4.heap.size := by omega); (try have ha24 : w.heap.size + 2 < w4.heap.size := by omega); (try have hal4 : w.heap.size ≤ w4.heap.size := by omega); (try have ham4 : w.heap.size < w4.heap.size + 2 := by omega)
    cases hs2 : isStampB p q
    · have HS2 := Lib.hid hs2
      clear hs2
      go_wp2_with fail
      refine (hlc_pack_no p q _ HS2.out).mono ?_; rintro e w5 ⟨rfl, hb5⟩; obtain ⟨hc5, hf5⟩ := bcell hb5; have hz5 := hb5.size; (try simp only [World.size_alloc, World.size_setCell, World.heap_drewN] at hb5 hc5 hf5 hz5); (try have ha05 : w.heap.size < w5.heap.size := by omega); (try have ha15 : w.heap.size + 1 < w5.heap.size := by omega); (try have ha25 : w.heap.size + 2 < w5.heap.size := by omega); (try have hal5 : w.heap.size ≤ w5.heap.size := by omega); (try have ham5 : w.heap.size < w5.heap.size + 2 := by omega)
      go_wp2_with (go_at_call 16; refine (known10 _).mono ?_; rintro e w6 ⟨rfl, hb6⟩; obtain ⟨hc6, hf6⟩ := bcell hb6; have hz6 := hb6.size; (try simp only [World.size_alloc, World.size_setCell, World.heap_drewN] at hb6 hc6 hf6 hz6); (try have ha06 : w.heap.size < w6.heap.size := by omega); (try have ha16 : w.heap.size + 1 < w6.heap.size := by omega); (try have ha26 : w.heap.size + 2 < w6.heap.size := by omega); (try have hal6 : w.heap.size ≤ w6.heap.size := by omega); (try have ham6 : w.heap.size < w6.heap.size + 2 := by omega))
      go_ret
      go_light
      exact ⟨rfl, by (repeat' (first | (with_reducible exact Below.refl _ _) | (with_reducible assumption) | (with_reducible refine Below.trans ?_ (Below.mono (by with_reducible assumption) ?_)) | (with_reducible refine Below.alloc ?_ ?_ _) | (with_reducible refine Below.setCell ?_ ?_ _) | (with_reducible refine below_drewN ?_ _) | (with_reducible refine Below.drew ?_) | go_size))⟩
    · have HS2 := Lib.hid hs2
      clear hs2
      go_wp2_with fail
      refine (hlc_pack_yes p q _ HS2.out).mono ?_; rintro e w5 ⟨rfl, hb5⟩; obtain ⟨hc5, hf5⟩ := bcell hb5; have hz5 := hb5.size; (try simp only [World.size_alloc, World.size_setCell, World.heap_drewN] at hb5 hc5 hf5 hz5); (try have ha05 : w.heap.size < w5.heap.size := by omega); (try have ha15 : w.heap.size + 1 < w5.heap.size := by omega); (try have ha25 : w.heap.size + 2 < w5.heap.size := by omega); (try have hal5 : w.heap.size ≤ w5.heap.size := by omega); (try have ham5 : w.heap.size < w5.heap.size + 2 := by omega)
      go_wp2_with (go_at_call 16; refine (known10 _).mono ?_; rintro e w6 ⟨rfl, hb6⟩; obtain ⟨hc6, hf6⟩ := bcell hb6; have hz6 := hb6.size; (try simp only [World.size_alloc, World.size_setCell, World.heap_drewN] at hb6 hc6 hf6 hz6); (try have ha06 : w.heap.size < w6.heap.size := by omega); (try have ha16 : w.heap.size + 1 < w6.heap.size := by omega); (try have ha26 : w.heap.size + 2 < w6.heap.size := by omega); (try have hal6 : w.heap.size ≤ w6.heap.size := by omega); (try have ham6 : w.heap.size < w6.heap.size + 2 := by omega))
      go_ret
      go_light
      exact ⟨rfl, by (repeat' (first | (with_reducible exact Below.refl _ _) | (with_reducible assumption) | (with_reducible refine Below.trans ?_ (Below.mono (by with_reducible assumption) ?_)) | (with_reducible refine Below.alloc ?_ ?_ _) | (with_reducible refine Below.setCell ?_ ?_ _) | (with_reducible refine below_drewN ?_ _) | (with_reducible refine Below.drew ?_) | go_size))⟩
  · have HS := Lib.hid hs
    have hlt := hlt hs
    clear hs
    go_enter Try.func7, Try.ntmps7
    go_wp2_with fail
    refine (C1.out _).mono ?_; rintro e w1 ⟨rfl, hb1⟩; obtain ⟨hc1, hf1⟩ := bcell hb1; have hz1 := hb1.size; (try simp only [World.size_alloc, World.size_setCell, World.heap_drewN] at hb1 hc1 hf1 hz1); (try have ha01 : w.heap.size < w1.heap.size := by omega); (try have ha11 : w.heap.size + 1 < w1.heap.size := by omega); (try have ha21 : w.heap.size + 2 < w1.heap.size := by omega); (try have hal1 : w.heap.size ≤ w1.heap.size := by omega); (try have ham1 : w.heap.size < w1.heap.size + 2 := by omega)
    go_wp2_with fail
    refine (C2.out _).mono ?_; rintro e w2 ⟨rfl, hb2⟩; obtain ⟨hc2, hf2⟩ := bcell hb2; have hz2 := hb2.size; (try simp only [World.size_alloc, World.size_setCell, World.heap_drewN] at hb2 hc2 hf2 hz2); (try have ha02 : w.heap.size < w2.heap.size := by omega); (try have ha12 : w.heap.size + 1 < w2.heap.size := by omega); (try have ha22 : w.heap.size + 2 < w2.heap.size := by omega); (try have hal2 : w.heap.size ≤ w2.heap.size := by omega); (try have ham2 : w.heap.size < w2.heap.size + 2 := by omega)
    go_wp2_with fail
    refine (C3.out _).mono ?_; rintro e w3 ⟨rfl, hb3⟩; obtain ⟨hc3, hf3⟩ := bcell hb3; have hz3 := hb3.size; (try simp only [World.size_alloc, World.size_setCell, World.heap_drewN] at hb3 hc3 hf3 hz3); (try have ha03 : w.heap.size < w3.heap.size := by omega); (try have ha13 : w.heap.size + 1 < w3.heap.size := by omega); (try have ha23 : w.heap.size + 2 < w3.heap.size := by omega); (try have hal3 : w.heap.size ≤ w3.heap.size := by omega); (try have ham3 : w.heap.size < w3.heap.size + 2 := by omega)
    go_wp2_with fail
    refine (hlc_pack_yes m c _ HS.out).mono ?_; rintro e w4 ⟨rfl, hb4⟩; obtain ⟨hc4, hf4⟩ := bcell hb4; have hz4 := hb4.size; (try simp only [World.size_alloc, World.size_setCell, World.heap_drewN] at hb4 hc4 hf4 hz4); (try have ha04 : w.heap.size < w4.heap.size := by omega); (try have ha14 : w.heap.size + 1 < w4.heap.size := by omega); (try have ha24 : w.heap.size + 2 < w4.heap.size := by omega); (try have hal4 : w.heap.size ≤ w4.heap.size := by omega); (try have ham4 : w.heap.size < w4.heap.size + 2 := by omega)
    cases hs2 : isStampB p q
    · have HS2 := Lib.hid hs2
      clear hs2 hlt
      go_wp2_with fail
      refine (hlc_pack_no p q _ HS2.out).mono ?_; rintro e w5 ⟨rfl, hb5⟩; obtain ⟨hc5, hf5⟩ := bcell hb5; have hz5 := hb5.size; (try simp only [World.size_alloc, World.size_setCell, World.heap_drewN] at hb5 hc5 hf5 hz5); (try have ha05 : w.heap.size < w5.heap.size := by omega); (try have ha15 : w.heap.size + 1 < w5.heap.size := by omega); (try have ha25 : w.heap.size + 2 < w5.heap.size := by omega); (try have hal5 : w.heap.size ≤ w5.heap.size := by omega); (try have ham5 : w.heap.size < w5.heap.size + 2 := by omega)
      go_wp2_with (go_at_call 16; refine (known10 _).mono ?_; rintro e w6 ⟨rfl, hb6⟩; obtain ⟨hc6, hf6⟩ := bcell hb6; have hz6 := hb6.size; (try simp only [World.size_alloc, World.size_setCell, World.heap_drewN] at hb6 hc6 hf6 hz6); (try have ha06 : w.heap.size < w6.heap.size := by omega); (try have ha16 : w.heap.size + 1 < w6.heap.size := by omega); (try have ha26 : w.heap.size + 2 < w6.heap.size := by omega); (try have hal6 : w.heap.size ≤ w6.heap.size := by omega); (try have ham6 : w.heap.size < w6.heap.size + 2 := by omega))
      go_ret
      go_light
      exact ⟨rfl, by (repeat' (first | (with_reducible exact Below.refl _ _) | (with_reducible assumption) | (with_reducible refine Below.trans ?_ (Below.mono (by with_reducible assumption) ?_)) | (with_reducible refine Below.alloc ?_ ?_ _) | (with_reducible refine Below.setCell ?_ ?_ _) | (with_reducible refine below_drewN ?_ _) | (with_reducible refine Below.drew ?_) | go_size))⟩
    · have HS2 := Lib.hid hs2
      obtain ⟨e1, e2⟩ := hlt hs2
      clear hs2 hlt
      go_wp2_with fail
      refine (hlc_pack_yes p q _ HS2.out).mono ?_; rintro e w5 ⟨rfl, hb5⟩; obtain ⟨hc5, hf5⟩ := bcell hb5; have hz5 := hb5.size; (try simp only [World.size_alloc, World.size_setCell, World.heap_drewN] at hb5 hc5 hf5 hz5); (try have ha05 : w.heap.size < w5.heap.size := by omega); (try have ha15 : w.heap.size + 1 < w5.heap.size := by omega); (try have ha25 : w.heap.size + 2 < w5.heap.size := by omega); (try have hal5 : w.heap.size ≤ w5.heap.size := by omega); (try have ham5 : w.heap.size < w5.heap.size + 2 := by omega)
      go_wp2_with (go_at_call 16; refine (known10 _).mono ?_; rintro e w6 ⟨rfl, hb6⟩; obtain ⟨hc6, hf6⟩ := bcell hb6; have hz6 := hb6.size; (try simp only [World.size_alloc, World.size_setCell, World.heap_drewN] at hb6 hc6 hf6 hz6); (try have ha06 : w.heap.size < w6.heap.size := by omega); (try have ha16 : w.heap.size + 1 < w6.heap.size := by omega); (try have ha26 : w.heap.size + 2 < w6.heap.size := by omega); (try have hal6 : w.heap.size ≤ w6.heap.size := by omega); (try have ham6 : w.heap.size < w6.heap.size + 2 := by omega))
      go_ret
      go_light
      exact ⟨rfl, by (repeat' (first | (with_reducible exact Below.refl _ _) | (with_reducible assumption) | (with_reducible refine Below.trans ?_ (Below.mono (by with_reducible assumption) ?_)) | (with_reducible refine Below.alloc ?_ ?_ _) | (with_reducible refine Below.setCell ?_ ?_ _) | (with_reducible refine below_drewN ?_ _) | (with_reducible refine Below.drew ?_) | go_size))⟩
end Go.Proofs.Ytmbopdabbegbiaa
