/- Stage 4: ScaleAdds, ScaleMilli, ScaleMuls. -/
import Derived.Test.YtklahiogcpojmaaKnown4
import Derived.Test.YtklahiogcpojmaaRef4Add
import Derived.Test.YtklahiogcpojmaaArgInts
set_option linter.unusedSimpArgs false
set_option linter.unusedVariables false
namespace Go.Proofs.Ytklahiogcpojmaa
open Go.ChangeShapes Go.WideShapes Go.ChangeAt Go.RowKit Go.Joins

theorem scale_add_any (z : Nat → Int) (A : Option Addr) (n c : Nat) (w : World) (hn : n ≤ 1000000000) (hz : IntsAt w A n z) :
    Calls Try.prog 12 #[.slice A n c] w fun e w' => e = .returned (.int .i64 (sumS z n)) ∧ w = w' := by
  rcases Nat.eq_zero_or_pos n with rfl | h0
  · have d : decide ((0 : Int) < ((0 : Nat) : Int)) = false := by decide
    go_enter Try.func12, Try.ntmps12
    go_wp2
    refine wp_loop_rounds 1 ?_
    rw [rounds_succ]
    go_wp2
    go_ret
    exact ⟨rfl, rfl⟩
  · obtain ⟨B, O, rfl, hB, hc⟩ := hz h0
    have h := scale_add z B O n c w hn (fun j hj => (hc j hj).2) (fun j hj => (hc j hj).1)
    exact h
theorem ref4_add_any (z : Nat → Int) (A : Option Addr) (n c : Nat) (w : World) (hn : n ≤ 1000000000) (hz : IntsAt w A n z) :
    Calls Try.prog 13 #[.slice A n c] w fun e w' => e = .returned (.int .i64 (sumS z n)) ∧ w = w' :=
  ref4_add z A n c w hn fun h0 => by
    obtain ⟨B, O, e, _, hc⟩ := hz h0
    exact ⟨B, O, e, hc⟩
set_option maxHeartbeats 1000000 in
theorem scaleAdds_all (A : Option Addr) (n c : Nat) (z : Nat → Int) (w : World) (hz : IntsAt w A n z) (hn : n ≤ maxLen) :
    Calls Try.prog 3 #[.slice A n c] w fun e w' => e = .returned (.bool true) ∧ Below w.heap.size w w' := by
  unfold maxLen at hn
  by_cases h : n ≤ 1000
  · have h' : (n : Int) ≤ 1000 := by omega
    have C1 := Lib.hid (scale_add_any z A n c w (by omega) hz)
    have C2 := Lib.hid (ref4_add_any z A n c w (by omega) hz)
    have C3 := Lib.hid (scale_add_any z none 0 0 w (by omega) (fun h => absurd h (by omega)))
    generalize sumS z n = s at *
    clear hz
    go_enter Try.func3, Try.ntmps3
    go_wp2_with fail
    refine C1.out.mono ?_; rintro e w' ⟨rfl, rfl⟩
    go_wp2_with fail
    refine C2.out.mono ?_; rintro e w' ⟨rfl, rfl⟩
    go_wp2_with fail
    refine C3.out.mono ?_; rintro e w' ⟨rfl, rfl⟩
    rw [show sumS z 0 = 0 from rfl]
    go_wp2_with (go_at_call 14; refine (known4 _).mono ?_; rintro e w5 ⟨rfl, hb5⟩; obtain ⟨hc5, hf5⟩ := bcell hb5; have hz5 := hb5.size; (try simp only [World.size_alloc, World.size_setCell, World.heap_drewN] at hb5 hc5 hf5 hz5); (try have ha05 : w.heap.size < w5.heap.size := by omega); (try have ha15 : w.heap.size + 1 < w5.heap.size := by omega); (try have ha25 : w.heap.size + 2 < w5.heap.size := by omega); (try have hal5 : w.heap.size ≤ w5.heap.size := by omega); (try have ham5 : w.heap.size < w5.heap.size + 2 := by omega))
    go_ret
    go_light
    exact ⟨rfl, by (repeat' (first | (with_reducible exact Below.refl _ _) | (with_reducible assumption) | (with_reducible refine Below.trans ?_ (Below.mono (by with_reducible assumption) ?_)) | (with_reducible refine Below.alloc ?_ ?_ _) | (with_reducible refine Below.setCell ?_ ?_ _) | (with_reducible refine below_drewN ?_ _) | (with_reducible refine Below.drew ?_) | go_size))⟩
  · have h' : (1000 : Int) < (n : Int) := by omega
    go_enter Try.func3, Try.ntmps3
    go_wp2
    go_ret
    exact ⟨rfl, Below.refl _ _⟩
def milliV (t : Int) : Int := if t ≤ 0 then 0 else if t / 1000000 ≤ 281474976710655 then t / 1000000 else 281474976710655
theorem scale_milli (t : Int) (w : World) (h : t ≤ 9223372036854775807) : Calls Try.prog 23 #[.int .i64 t] w fun e w' => e = .returned (.int .i64 (milliV t)) ∧ w = w' := by
  unfold milliV
  rcases (show t ≤ 0 ∨ (0 < t ∧ t / 1000000 ≤ 281474976710655) ∨ (0 < t ∧ 281474976710655 < t / 1000000) from by omega) with h1 | ⟨h1, h2⟩ | ⟨h1, h2⟩
  · rw [if_pos h1]
    go_enter Try.func23, Try.ntmps23
    go_wp2
    all_goals
      go_ret
      first | exact ⟨rfl, rfl⟩ | exact ⟨ret_int (by omega), rfl⟩
  · rw [if_neg (by omega), if_pos h2]
    go_enter Try.func23, Try.ntmps23
    go_wp2
    go_ret
    exact ⟨rfl, rfl⟩
  · rw [if_neg (by omega), if_neg (by omega)]
    go_enter Try.func23, Try.ntmps23
    go_wp2
    go_ret
    exact ⟨rfl, rfl⟩
theorem ref4_floor (t : Int) (w : World) (h0 : -9223372036854775808 ≤ t) (h : t ≤ 9223372036854775807) : Calls Try.prog 39 #[.int .i64 t, .int .i64 1000000] w fun e w' => e = .returned (.int .i64 (t / 1000000)) ∧ w = w' := by
  by_cases h1 : 0 ≤ t
  · have d0 : decide (t % 1000000 < 0) = false := by simp; omega
    go_enter Try.func39, Try.ntmps39
    go_wp2
    go_ret
    exact ⟨rfl, rfl⟩
  · obtain ⟨u, hu⟩ : ∃ u, t = -u := ⟨-t, by omega⟩
    have hq : t.tdiv 1000000 = -(u / 1000000) := by subst hu; rw [Int.neg_tdiv, Int.tdiv_eq_ediv_of_nonneg (by omega)]
    have hr : t.tmod 1000000 = -(u % 1000000) := by subst hu; rw [Int.neg_tmod, Int.tmod_eq_emod_of_nonneg (by omega)]
    obtain ⟨q, hq'⟩ : ∃ q, -(u / 1000000) = q := ⟨_, rfl⟩
    obtain ⟨r, hr'⟩ : ∃ r, -(u % 1000000) = r := ⟨_, rfl⟩
    rw [hq'] at hq
    rw [hr'] at hr
    have qb : -9223372036855 ≤ q ∧ q ≤ 0 := by omega
    have wq : IntKind.i64.wrap q = q := IntWalk.i64_in _ (by omega)
    by_cases hr0 : r < 0
    · have HE : Hid (q - 1 = t / 1000000) := Lib.hid (by omega)
      have d0 : decide (r < 0) = true := by simpa using hr0
      clear hq' hr' hu
      go_enter Try.func39, Try.ntmps39
      go_wp2
      go_ret
      exact ⟨ret_int HE.out, rfl⟩
    · have HE : Hid (q = t / 1000000) := Lib.hid (by omega)
      have d0 : decide (r < 0) = false := by simpa using hr0
      clear hq' hr' hu
      go_enter Try.func39, Try.ntmps39
      go_wp2
      go_ret
      exact ⟨ret_int HE.out, rfl⟩
theorem ref4_milli (t : Int) (w : World) (h0 : -9223372036854775808 ≤ t) (h : t ≤ 9223372036854775807) : Calls Try.prog 24 #[.int .i64 t] w fun e w' => e = .returned (.int .i64 (milliV t)) ∧ w = w' := by
  rcases (show t / 1000000 ≤ 0 ∨ (0 < t / 1000000 ∧ t / 1000000 ≤ 281474976710655) ∨ (281474976710655 < t / 1000000) from by omega) with h1 | ⟨h1, h2⟩ | h1
  · rw [show milliV t = 0 from by unfold milliV; split <;> (try split) <;> omega]
    have d1 : t / 1000000 ≤ 281474976710655 := by omega
    go_enter Try.func24, Try.ntmps24
    go_wp2_with (go_at_call 39; refine (ref4_floor t _ h0 h).mono ?_; rintro e w' ⟨rfl, rfl⟩)
    go_ret
    exact ⟨rfl, rfl⟩
  · rw [show milliV t = t / 1000000 from by unfold milliV; split <;> (try split) <;> omega]
    go_enter Try.func24, Try.ntmps24
    go_wp2_with (go_at_call 39; refine (ref4_floor t _ h0 h).mono ?_; rintro e w' ⟨rfl, rfl⟩)
    go_ret
    exact ⟨rfl, rfl⟩
  · rw [show milliV t = 281474976710655 from by unfold milliV; split <;> (try split) <;> omega]
    go_enter Try.func24, Try.ntmps24
    go_wp2_with (go_at_call 39; refine (ref4_floor t _ h0 h).mono ?_; rintro e w' ⟨rfl, rfl⟩)
    go_ret
    exact ⟨rfl, rfl⟩
theorem milliV_mono {a b : Int} (h : a ≤ b) : milliV a ≤ milliV b := by
  unfold milliV
  split <;> split <;> (try split) <;> (try split) <;> omega
set_option maxHeartbeats 1000000 in
theorem scaleMilli_all (a b : Int) (w : World) (a0 : -9223372036854775808 ≤ a) (a1 : a ≤ 9223372036854775807) (b0 : -9223372036854775808 ≤ b) (b1 : b ≤ 9223372036854775807) :
    Calls Try.prog 8 #[.int .i64 a, .int .i64 b] w fun e w' => e = .returned (.bool true) ∧ Below w.heap.size w w' := by
  have A1 := Lib.hid fun w : World => scale_milli a w a1
  have A2 := Lib.hid fun w : World => ref4_milli a w a0 a1
  have B1 := Lib.hid fun w : World => scale_milli b w b1
  have B2 := Lib.hid fun w : World => ref4_milli b w b0 b1
  have M0 := Lib.hid fun w : World => scale_milli (-9223372036854775808) w (by decide)
  rw [show milliV (-9223372036854775808) = 0 from by decide] at M0
  have hm : a ≤ b → milliV a ≤ milliV b := milliV_mono
  generalize milliV a = x at *
  generalize milliV b = y at *
  by_cases h : b < a
  · clear hm
    go_enter Try.func8, Try.ntmps8
    go_wp2_with (first | (go_at_call 23; refine (A1.out _).mono ?_; rintro e w' ⟨rfl, rfl⟩) | (go_at_call 24; refine (A2.out _).mono ?_; rintro e w' ⟨rfl, rfl⟩) | (go_at_call 23; refine (B1.out _).mono ?_; rintro e w' ⟨rfl, rfl⟩) | (go_at_call 24; refine (B2.out _).mono ?_; rintro e w' ⟨rfl, rfl⟩) | (go_at_call 23; refine (M0.out _).mono ?_; rintro e w' ⟨rfl, rfl⟩) | (go_at_call 14; refine (known4 _).mono ?_; rintro e w5 ⟨rfl, hb5⟩; obtain ⟨hc5, hf5⟩ := bcell hb5; have hz5 := hb5.size; (try simp only [World.size_alloc, World.size_setCell, World.heap_drewN] at hb5 hc5 hf5 hz5); (try have ha05 : w.heap.size < w5.heap.size := by omega); (try have ha15 : w.heap.size + 1 < w5.heap.size := by omega); (try have ha25 : w.heap.size + 2 < w5.heap.size := by omega); (try have hal5 : w.heap.size ≤ w5.heap.size := by omega); (try have ham5 : w.heap.size < w5.heap.size + 2 := by omega)))
    go_ret
    go_light
    exact ⟨rfl, by (repeat' (first | (with_reducible exact Below.refl _ _) | (with_reducible assumption) | (with_reducible refine Below.trans ?_ (Below.mono (by with_reducible assumption) ?_)) | (with_reducible refine Below.alloc ?_ ?_ _) | (with_reducible refine Below.setCell ?_ ?_ _) | (with_reducible refine below_drewN ?_ _) | (with_reducible refine Below.drew ?_) | go_size))⟩
  · have hm := hm (by omega)
    have h' : a ≤ b := by omega
    go_enter Try.func8, Try.ntmps8
    go_wp2_with (first | (go_at_call 23; refine (A1.out _).mono ?_; rintro e w' ⟨rfl, rfl⟩) | (go_at_call 24; refine (A2.out _).mono ?_; rintro e w' ⟨rfl, rfl⟩) | (go_at_call 23; refine (B1.out _).mono ?_; rintro e w' ⟨rfl, rfl⟩) | (go_at_call 24; refine (B2.out _).mono ?_; rintro e w' ⟨rfl, rfl⟩) | (go_at_call 23; refine (M0.out _).mono ?_; rintro e w' ⟨rfl, rfl⟩) | (go_at_call 14; refine (known4 _).mono ?_; rintro e w5 ⟨rfl, hb5⟩; obtain ⟨hc5, hf5⟩ := bcell hb5; have hz5 := hb5.size; (try simp only [World.size_alloc, World.size_setCell, World.heap_drewN] at hb5 hc5 hf5 hz5); (try have ha05 : w.heap.size < w5.heap.size := by omega); (try have ha15 : w.heap.size + 1 < w5.heap.size := by omega); (try have ha25 : w.heap.size + 2 < w5.heap.size := by omega); (try have hal5 : w.heap.size ≤ w5.heap.size := by omega); (try have ham5 : w.heap.size < w5.heap.size + 2 := by omega)))
    go_ret
    go_light
    exact ⟨rfl, by (repeat' (first | (with_reducible exact Below.refl _ _) | (with_reducible assumption) | (with_reducible refine Below.trans ?_ (Below.mono (by with_reducible assumption) ?_)) | (with_reducible refine Below.alloc ?_ ?_ _) | (with_reducible refine Below.setCell ?_ ?_ _) | (with_reducible refine below_drewN ?_ _) | (with_reducible refine Below.drew ?_) | go_size))⟩
end Go.Proofs.Ytklahiogcpojmaa
