/- Stage 20: what is known; VecOfNothing. -/
import Derived.Test.YtpelglclkfabkaaVecB
set_option linter.unusedSimpArgs false
set_option linter.unusedVariables false
namespace Go.Proofs.Ytpelglclkfabkaa
open Go.RowKit

def zr : Nat → Int := fun _ => 0
theorem k20a : cmp2 5 0 (zr 0) (zr 0) = 1 ∧ mnS (upd zr 0 5) (upd zr 0 0) 2 = (0, 0) := by decide
theorem k20b : cmp2 3 1 (upd zr 0 5 1) (upd zr 0 0 1) = 1 ∧ mnS (upd (upd zr 0 5) 1 3) (upd (upd zr 0 0) 1 1) 2 = (3, 1) := by decide
set_option maxHeartbeats 2000000 in
theorem known20 (w : World) : Calls Try.prog 10 #[] w fun e w' => e = .returned (.bool true) ∧ Below w.heap.size w w' := by
  have HA := Lib.hid k20a
  have HBB := Lib.hid k20b
  go_enter Try.func10, Try.ntmps10
  go_wp2_with fail
  refine (vec_new2 _).mono ?_; rintro e w1 ⟨b, ka, fl, rfl, HB1, b0, b1, b2, V1⟩
  go_wp2_with fail
  refine (vec_reach_yes b ka fl 2 0 zr zr _ _ 5 0 _ V1 (by omega) (by omega) (by decide) HA.out.1).mono ?_; rintro e w2 ⟨rfl, ho2, V2⟩
  have HB2 : Below w.heap.size w w2 := HB1.trans (ho2.below b1 HB1.size)
  go_wp2_with fail
  refine (vec_stable b ka fl 2 _ _ _ _ _ V2 (by omega)).mono ?_; rintro e w3 ⟨rfl, hb3⟩
  have HB3 : Below w.heap.size w w3 := HB2.trans (hb3.mono HB2.size)
  have V3 := (V2.belowW hb3).belowW ((Below.refl _ _).alloc (Nat.le_refl _) (.cells #[.int .i64 0, .int .i64 0] 32))
  have S3 := Ints2.new w3 0 0 32
  have HB3' : Below w.heap.size w (w3.alloc (.cells #[.int .i64 0, .int .i64 0] 32)) := HB3.alloc HB3.size _
  have l3 : ka < w3.heap.size := (V2.belowW hb3).K.lt
  rw [HA.out.2]
  clear ho2 hb3 V1 V2
  go_wp2_with fail
  refine (vec_reach_yes b ka fl 2 1 _ _ _ _ 3 1 _ V3 (by omega) (by omega) (by decide) HBB.out.1).mono ?_; rintro e w4 ⟨rfl, ho4, V4⟩
  have HB4 : Below w.heap.size w w4 := HB3'.trans (ho4.below b1 HB3'.size)
  have S4 := S3.only ho4 (by omega)
  have A0 := S4.c0
  have A1 := S4.c1
  clear ho4 V3 S3
  go_wp2_with fail
  refine (vec_stable b ka fl 2 _ _ _ _ _ V4 (by omega)).mono ?_; rintro e w5 ⟨rfl, hb5⟩
  have HB5 : Below w.heap.size w w5 := HB4.trans (hb5.mono HB4.size)
  rw [HBB.out.2]
  clear hb5 V4
  go_wp2
  go_ret
  go_light
  exact ⟨rfl, HB5⟩
theorem vec_reach_nil (n x y : Int) (w : World) : Calls Try.prog 11 #[.pointer none, .int .i64 n, .agg #[.int .i64 x, .int .i64 y]] w fun e w' => e = .returned (.bool false) ∧ Below w.heap.size w w' := by
  go_enter Try.func11, Try.ntmps11
  go_wp2
  go_quiet (fail)
  go_wp2
  go_ret
  go_light
  exact ⟨rfl, by (repeat' (first | (with_reducible exact Below.refl _ _) | (with_reducible assumption) | (with_reducible refine Below.trans ?_ (Below.mono (by with_reducible assumption) ?_)) | (with_reducible refine Below.alloc ?_ ?_ _) | (with_reducible refine Below.setCell ?_ ?_ _) | (with_reducible refine below_drewN ?_ _) | (with_reducible refine Below.drew ?_) | go_size))⟩
theorem vec_floor_nil (n x y : Int) (w : World) : Calls Try.prog 13 #[.pointer none, .int .i64 n, .agg #[.int .i64 x, .int .i64 y]] w fun e w' => e = .returned (.bool false) ∧ Below w.heap.size w w' := by
  go_enter Try.func13, Try.ntmps13
  go_wp2
  go_quiet (fail)
  go_wp2
  go_ret
  go_light
  exact ⟨rfl, by (repeat' (first | (with_reducible exact Below.refl _ _) | (with_reducible assumption) | (with_reducible refine Below.trans ?_ (Below.mono (by with_reducible assumption) ?_)) | (with_reducible refine Below.alloc ?_ ?_ _) | (with_reducible refine Below.setCell ?_ ?_ _) | (with_reducible refine below_drewN ?_ _) | (with_reducible refine Below.drew ?_) | go_size))⟩
theorem vec_known_nil (n : Int) (w : World) : Calls Try.prog 15 #[.pointer none, .int .i64 n] w fun e w' => e = .returned (.agg #[.int .i64 0, .int .i64 0]) ∧ Below w.heap.size w w' := by
  go_enter Try.func15, Try.ntmps15
  go_wp2
  refine bodyPost_ret (v := .agg #[.int .i64 0, .int .i64 0]) (by simp [results, Try.results15, go_sem]) rfl ⟨rfl, ?_⟩
  go_light
  (repeat' (first | (with_reducible exact Below.refl _ _) | (with_reducible assumption) | (with_reducible refine Below.trans ?_ (Below.mono (by with_reducible assumption) ?_)) | (with_reducible refine Below.alloc ?_ ?_ _) | (with_reducible refine Below.setCell ?_ ?_ _) | (with_reducible refine below_drewN ?_ _) | (with_reducible refine Below.drew ?_) | go_size))
theorem vec_stable_nil (w : World) : Calls Try.prog 17 #[.pointer none] w fun e w' => e = .returned (.agg #[.int .i64 0, .int .i64 0]) ∧ Below w.heap.size w w' := by
  go_enter Try.func17, Try.ntmps17
  go_wp2
  refine bodyPost_ret (v := .agg #[.int .i64 0, .int .i64 0]) (by simp [results, Try.results17, go_sem]) rfl ⟨rfl, ?_⟩
  go_light
  (repeat' (first | (with_reducible exact Below.refl _ _) | (with_reducible assumption) | (with_reducible refine Below.trans ?_ (Below.mono (by with_reducible assumption) ?_)) | (with_reducible refine Below.alloc ?_ ?_ _) | (with_reducible refine Below.setCell ?_ ?_ _) | (with_reducible refine below_drewN ?_ _) | (with_reducible refine Below.drew ?_) | go_size))
theorem vec_mark_nil (w : World) : Calls Try.prog 19 #[.pointer none] w fun e w' => e = .returned (.agg #[.int .i64 0, .int .i64 0]) ∧ Below w.heap.size w w' := by
  go_enter Try.func19, Try.ntmps19
  go_wp2
  refine bodyPost_ret (v := .agg #[.int .i64 0, .int .i64 0]) (by simp [results, Try.results19, go_sem]) rfl ⟨rfl, ?_⟩
  go_light
  (repeat' (first | (with_reducible exact Below.refl _ _) | (with_reducible assumption) | (with_reducible refine Below.trans ?_ (Below.mono (by with_reducible assumption) ?_)) | (with_reducible refine Below.alloc ?_ ?_ _) | (with_reducible refine Below.setCell ?_ ?_ _) | (with_reducible refine below_drewN ?_ _) | (with_reducible refine Below.drew ?_) | go_size))
set_option maxHeartbeats 2000000 in
theorem vecOfNothing_all (n x y : Int) (w : World) : Calls Try.prog 6 #[.int .i64 n, .agg #[.int .i64 x, .int .i64 y]] w fun e w' => e = .returned (.bool true) ∧ Below w.heap.size w w' := by
  go_enter Try.func6, Try.ntmps6
  go_wp2_with (first | (go_at_call 11; refine (vec_reach_nil _ _ _ _).mono ?_; rintro e w1 ⟨rfl, hb1⟩; obtain ⟨hc1, hf1⟩ := bcell hb1; have hz1 := hb1.size; (try simp only [World.size_alloc, World.size_setCell, World.heap_drewN] at hb1 hc1 hf1 hz1); (try have ha01 : w.heap.size < w1.heap.size := by omega); (try have ha11 : w.heap.size + 1 < w1.heap.size := by omega); (try have ha21 : w.heap.size + 2 < w1.heap.size := by omega); (try have hal1 : w.heap.size ≤ w1.heap.size := by omega); (try have ham1 : w.heap.size < w1.heap.size + 2 := by omega)) | (go_at_call 13; refine (vec_floor_nil _ _ _ _).mono ?_; rintro e w2 ⟨rfl, hb2⟩; obtain ⟨hc2, hf2⟩ := bcell hb2; have hz2 := hb2.size; (try simp only [World.size_alloc, World.size_setCell, World.heap_drewN] at hb2 hc2 hf2 hz2); (try have ha02 : w.heap.size < w2.heap.size := by omega); (try have ha12 : w.heap.size + 1 < w2.heap.size := by omega); (try have ha22 : w.heap.size + 2 < w2.heap.size := by omega); (try have hal2 : w.heap.size ≤ w2.heap.size := by omega); (try have ham2 : w.heap.size < w2.heap.size + 2 := by omega); (try have hb02 : w1.heap.size < w2.heap.size := by omega); (try have hb12 : w1.heap.size + 1 < w2.heap.size := by omega); (try have hb22 : w1.heap.size + 2 < w2.heap.size := by omega); (try have hbl2 : w1.heap.size ≤ w2.heap.size := by omega); (try have hbm2 : w1.heap.size < w2.heap.size + 2 := by omega)) | (go_at_call 15; refine (vec_known_nil _ _).mono ?_; rintro e w3 ⟨rfl, hb3⟩; obtain ⟨hc3, hf3⟩ := bcell hb3; have hz3 := hb3.size; (try simp only [World.size_alloc, World.size_setCell, World.heap_drewN] at hb3 hc3 hf3 hz3); (try have ha03 : w.heap.size < w3.heap.size := by omega); (try have ha13 : w.heap.size + 1 < w3.heap.size := by omega); (try have ha23 : w.heap.size + 2 < w3.heap.size := by omega); (try have hal3 : w.heap.size ≤ w3.heap.size := by omega); (try have ham3 : w.heap.size < w3.heap.size + 2 := by omega); (try have hb03 : w2.heap.size < w3.heap.size := by omega); (try have hb13 : w2.heap.size + 1 < w3.heap.size := by omega); (try have hb23 : w2.heap.size + 2 < w3.heap.size := by omega); (try have hbl3 : w2.heap.size ≤ w3.heap.size := by omega); (try have hbm3 : w2.heap.size < w3.heap.size + 2 := by omega)) | (go_at_call 17; refine (vec_stable_nil _).mono ?_; rintro e w4 ⟨rfl, hb4⟩; obtain ⟨hc4, hf4⟩ := bcell hb4; have hz4 := hb4.size; (try simp only [World.size_alloc, World.size_setCell, World.heap_drewN] at hb4 hc4 hf4 hz4); (try have ha04 : w.heap.size < w4.heap.size := by omega); (try have ha14 : w.heap.size + 1 < w4.heap.size := by omega); (try have ha24 : w.heap.size + 2 < w4.heap.size := by omega); (try have hal4 : w.heap.size ≤ w4.heap.size := by omega); (try have ham4 : w.heap.size < w4.heap.size + 2 := by omega); (try have hb04 : w3.heap.size < w4.heap.size := by omega); (try have hb14 : w3.heap.size + 1 < w4.heap.size := by omega); (try have hb24 : w3.heap.size + 2 < w4.heap.size := by omega); (try have hbl4 : w3.heap.size ≤ w4.heap.size := by omega); (try have hbm4 : w3.heap.size < w4.heap.size + 2 := by omega)) | (go_at_call 19; refine (vec_mark_nil _).mono ?_; rintro e w5 ⟨rfl, hb5⟩; obtain ⟨hc5, hf5⟩ := bcell hb5; have hz5 := hb5.size; (try simp only [World.size_alloc, World.size_setCell, World.heap_drewN] at hb5 hc5 hf5 hz5); (try have ha05 : w.heap.size < w5.heap.size := by omega); (try have ha15 : w.heap.size + 1 < w5.heap.size := by omega); (try have ha25 : w.heap.size + 2 < w5.heap.size := by omega); (try have hal5 : w.heap.size ≤ w5.heap.size := by omega); (try have ham5 : w.heap.size < w5.heap.size + 2 := by omega); (try have hb05 : w4.heap.size < w5.heap.size := by omega); (try have hb15 : w4.heap.size + 1 < w5.heap.size := by omega); (try have hb25 : w4.heap.size + 2 < w5.heap.size := by omega); (try have hbl5 : w4.heap.size ≤ w5.heap.size := by omega); (try have hbm5 : w4.heap.size < w5.heap.size + 2 := by omega)) | (go_at_call 10; refine (known20 _).mono ?_; rintro e w6 ⟨rfl, hb6⟩; obtain ⟨hc6, hf6⟩ := bcell hb6; have hz6 := hb6.size; (try simp only [World.size_alloc, World.size_setCell, World.heap_drewN] at hb6 hc6 hf6 hz6); (try have ha06 : w.heap.size < w6.heap.size := by omega); (try have ha16 : w.heap.size + 1 < w6.heap.size := by omega); (try have ha26 : w.heap.size + 2 < w6.heap.size := by omega); (try have hal6 : w.heap.size ≤ w6.heap.size := by omega); (try have ham6 : w.heap.size < w6.heap.size + 2 := by omega)))
  go_ret
  go_light
  exact ⟨rfl, by (repeat' (first | (with_reducible exact Below.refl _ _) | (with_reducible assumption) | (with_reducible refine Below.trans ?_ (Below.mono (by with_reducible assumption) ?_)) | (with_reducible refine Below.alloc ?_ ?_ _) | (with_reducible refine Below.setCell ?_ ?_ _) | (with_reducible refine below_drewN ?_ _) | (with_reducible refine Below.drew ?_) | go_size))⟩
end Go.Proofs.Ytpelglclkfabkaa
