/- Stage 4: the reference's Mul; ScaleMuls. -/
import Derived.Test.YtklahiogcpojmaaS4A
set_option linter.unusedSimpArgs false
set_option linter.unusedVariables false
namespace Go.Proofs.Ytklahiogcpojmaa
open Go.RowKit

theorem ref4_size (a : Int) (w : World) (h0 : -9223372036854775808 ≤ a) (h1 : a ≤ 9223372036854775807) :
    Calls Try.prog 30 #[.int .i64 a] w fun e w' => e = .returned (.int .u64 (absI a)) ∧ w = w' := by
  unfold absI
  by_cases h : a < 0
  · rw [if_pos h]
    have e1 : IntKind.u64.wrap (-IntKind.u64.wrap a) = -a := by
      show (-(a % 18446744073709551616)) % 18446744073709551616 = -a
      omega
    go_enter Try.func30, Try.ntmps30
    go_wp2
    go_ret
    exact ⟨rfl, rfl⟩
  · rw [if_neg h]
    have h' : 0 ≤ a := by omega
    go_enter Try.func30, Try.ntmps30
    go_wp2
    go_ret
    exact ⟨rfl, rfl⟩
set_option maxHeartbeats 1000000 in
theorem ref4_mul_zero (a b x y : Int) (w : World) (A : Hid (∀ w : World, Calls Try.prog 30 #[.int .i64 a] w fun e w' => e = .returned (.int .u64 x) ∧ w = w')) (B : Hid (∀ w : World, Calls Try.prog 30 #[.int .i64 b] w fun e w' => e = .returned (.int .u64 y) ∧ w = w')) (h : x = 0 ∨ (0 < x ∧ y = 0)) :
    Calls Try.prog 16 #[.int .i64 a, .int .i64 b] w fun e w' => e = .returned (.int .i64 0) ∧ w = w' := by
  rcases h with h | ⟨h, h'⟩
  · have d1 : (x == 0) = true := by simpa using h
    clear h
    go_enter Try.func16, Try.ntmps16
    go_wp2_with fail
    refine (A.out _).mono ?_; rintro e w' ⟨rfl, rfl⟩
    go_wp2_with fail
    refine (B.out _).mono ?_; rintro e w' ⟨rfl, rfl⟩
    go_wp2
    go_ret
    exact ⟨rfl, rfl⟩
  · have d1 : (x == 0) = false := by simp; omega
    have d2 : (y == 0) = true := by simpa using h'
    clear h'
    go_enter Try.func16, Try.ntmps16
    go_wp2_with fail
    refine (A.out _).mono ?_; rintro e w' ⟨rfl, rfl⟩
    go_wp2_with fail
    refine (B.out _).mono ?_; rintro e w' ⟨rfl, rfl⟩
    go_wp2
    go_ret
    exact ⟨rfl, rfl⟩
set_option maxHeartbeats 2000000 in
theorem ref4_mul_same (a b x y q : Int) (w : World) (A : Hid (∀ w : World, Calls Try.prog 30 #[.int .i64 a] w fun e w' => e = .returned (.int .u64 x) ∧ w = w')) (B : Hid (∀ w : World, Calls Try.prog 30 #[.int .i64 b] w fun e w' => e = .returned (.int .u64 y) ∧ w = w')) (hx : 0 < x) (hx' : x ≤ 9223372036854775808) (hy : 0 < y) (hy' : y ≤ 9223372036854775808)
    (hs : (decide (a < 0) == decide (b < 0)) = true) (hq : 9223372036854775807 / y = q) (q0 : 0 ≤ q) :
    Calls Try.prog 16 #[.int .i64 a, .int .i64 b] w fun e w' => e = .returned (.int .i64 (if q < x then 9223372036854775807 else wrap64 (IntKind.u64.wrap (x * y)))) ∧ w = w' := by
  have d1 : (x == 0) = false := by simp; omega
  have d2 : (y == 0) = false := by simp; omega
  have s1 : (!(decide (a < 0) == decide (b < 0))) = false := by rw [hs]; rfl
  clear hs
  by_cases h : q < x
  · rw [if_pos h]
    go_enter Try.func16, Try.ntmps16
    go_wp2_with fail
    refine (A.out _).mono ?_; rintro e w' ⟨rfl, rfl⟩
    go_wp2_with fail
    refine (B.out _).mono ?_; rintro e w' ⟨rfl, rfl⟩
    go_wp2
    go_ret
    exact ⟨rfl, rfl⟩
  · rw [if_neg h]
    have h' : x ≤ q := by omega
    clear h
    go_enter Try.func16, Try.ntmps16
    go_wp2_with fail
    refine (A.out _).mono ?_; rintro e w' ⟨rfl, rfl⟩
    go_wp2_with fail
    refine (B.out _).mono ?_; rintro e w' ⟨rfl, rfl⟩
    go_wp2
    go_ret
    exact ⟨rfl, rfl⟩
set_option maxHeartbeats 2000000 in
theorem ref4_mul_unlike (a b x y q : Int) (w : World) (A : Hid (∀ w : World, Calls Try.prog 30 #[.int .i64 a] w fun e w' => e = .returned (.int .u64 x) ∧ w = w')) (B : Hid (∀ w : World, Calls Try.prog 30 #[.int .i64 b] w fun e w' => e = .returned (.int .u64 y) ∧ w = w')) (hx : 0 < x) (hx' : x ≤ 9223372036854775808) (hy : 0 < y) (hy' : y ≤ 9223372036854775808)
    (hs : (decide (a < 0) == decide (b < 0)) = false) (hq : 9223372036854775808 / y = q) (q0 : 0 ≤ q) :
    Calls Try.prog 16 #[.int .i64 a, .int .i64 b] w fun e w' => e = .returned (.int .i64 (if q < x then -9223372036854775808 else wrap64 (IntKind.u64.wrap (-IntKind.u64.wrap (x * y))))) ∧ w = w' := by
  have d1 : (x == 0) = false := by simp; omega
  have d2 : (y == 0) = false := by simp; omega
  have s1 : (!(decide (a < 0) == decide (b < 0))) = true := by rw [hs]; rfl
  clear hs
  by_cases h : q < x
  · rw [if_pos h]
    go_enter Try.func16, Try.ntmps16
    go_wp2_with fail
    refine (A.out _).mono ?_; rintro e w' ⟨rfl, rfl⟩
    go_wp2_with fail
    refine (B.out _).mono ?_; rintro e w' ⟨rfl, rfl⟩
    go_wp2
    go_ret
    exact ⟨rfl, rfl⟩
  · rw [if_neg h]
    have h' : x ≤ q := by omega
    clear h
    go_enter Try.func16, Try.ntmps16
    go_wp2_with fail
    refine (A.out _).mono ?_; rintro e w' ⟨rfl, rfl⟩
    go_wp2_with fail
    refine (B.out _).mono ?_; rintro e w' ⟨rfl, rfl⟩
    go_wp2
    go_ret
    exact ⟨rfl, rfl⟩
theorem ref4_mul (a b : Int) (w : World) (a0 : -9223372036854775808 ≤ a) (a1 : a ≤ 9223372036854775807) (b0 : -9223372036854775808 ≤ b) (b1 : b ≤ 9223372036854775807) :
    Calls Try.prog 16 #[.int .i64 a, .int .i64 b] w fun e w' => e = .returned (.int .i64 (mulS a b)) ∧ w = w' := by
  have ba := abs_bd a a0 a1
  have bb := abs_bd b b0 b1
  have hm := abs_mul a b
  have A := Lib.hid fun w : World => ref4_size a w a0 a1
  have B := Lib.hid fun w : World => ref4_size b w b0 b1
  have hp0 : 0 ≤ absI a * absI b := Int.mul_nonneg ba.1 bb.1
  have hab : a * b = absI a * absI b ∨ a * b = -(absI a * absI b) := by
    cases hs : (decide (a < 0) == decide (b < 0))
    · have := hm.2 (by simpa using hs); omega
    · have := hm.1 (by simpa using hs); omega
  by_cases hz : absI a = 0 ∨ (0 < absI a ∧ absI b = 0)
  · have e : mulS a b = 0 := by
      have h0 : absI a * absI b = 0 := by rcases hz with h | ⟨_, h⟩ <;> rw [h] <;> simp
      rw [h0] at hab
      unfold mulS
      rw [show a * b = 0 from by omega]
      decide
    rw [e]
    exact ref4_mul_zero a b _ _ w A B hz
  · have hx : 0 < absI a := by omega
    have hy : 0 < absI b := by omega
    cases hs : (decide (a < 0) == decide (b < 0))
    · have h2 := hm.2 (by simpa using hs)
      have r := ref4_mul_unlike a b _ _ _ w A B hx ba.2 hy bb.2 hs rfl (Int.ediv_nonneg (by decide) (by omega))
      have hl := Int.ediv_lt_iff_lt_mul (a := 9223372036854775808) (b := absI a) (c := absI b) hy
      generalize absI a * absI b = p at *
      have e : mulS a b = if 9223372036854775808 / absI b < absI a then -9223372036854775808 else wrap64 (IntKind.u64.wrap (-IntKind.u64.wrap p)) := by
        by_cases hc : 9223372036854775808 < p
        · rw [if_pos (hl.2 hc)]
          unfold mulS
          rw [if_neg (by omega), if_pos (by omega)]
        · rw [if_neg (fun h => hc (hl.1 h)), IntWalk.u64_in p (by omega), neg_back p hp0 (by omega)]
          unfold mulS
          rw [if_neg (by omega), if_neg (by omega)]
          omega
      rw [e]
      exact r
    · have h2 := hm.1 (by simpa using hs)
      have r := ref4_mul_same a b _ _ _ w A B hx ba.2 hy bb.2 hs rfl (Int.ediv_nonneg (by decide) (by omega))
      have hl := Int.ediv_lt_iff_lt_mul (a := 9223372036854775807) (b := absI a) (c := absI b) hy
      generalize absI a * absI b = p at *
      have e : mulS a b = if 9223372036854775807 / absI b < absI a then 9223372036854775807 else wrap64 (IntKind.u64.wrap p) := by
        by_cases hc : 9223372036854775807 < p
        · rw [if_pos (hl.2 hc)]
          unfold mulS
          rw [if_pos (by omega)]
        · rw [if_neg (fun h => hc (hl.1 h)), IntWalk.u64_in p (by omega), IntWalk.wrap64_in p (by omega)]
          unfold mulS
          rw [if_neg (by omega), if_neg (by omega)]
          omega
      rw [e]
      exact r
theorem mulS_comm (a b : Int) : mulS a b = mulS b a := by unfold mulS; rw [Int.mul_comm]
set_option maxHeartbeats 2000000 in
theorem scaleMuls_all (a b : Int) (w : World) (a0 : -9223372036854775808 ≤ a) (a1 : a ≤ 9223372036854775807) (b0 : -9223372036854775808 ≤ b) (b1 : b ≤ 9223372036854775807) :
    Calls Try.prog 4 #[.int .i64 a, .int .i64 b] w fun e w' => e = .returned (.bool true) ∧ Below w.heap.size w w' := by
  have C1 := Lib.hid fun w : World => scale_mul a b w a0 a1 b0 b1
  have C2 := Lib.hid fun w : World => ref4_mul a b w a0 a1 b0 b1
  have C3 := Lib.hid fun w : World => scale_mul b a w b0 b1 a0 a1
  have C4 := Lib.hid fun w : World => scale_mul a 1 w a0 a1 (by decide) (by decide)
  have C5 := Lib.hid fun w : World => scale_mul a 0 w a0 a1 (by decide) (by decide)
  rw [mulS_comm b a] at C3
  rw [show mulS a 1 = a from by unfold mulS; rw [Int.mul_one, if_neg (by omega), if_neg (by omega)]] at C4
  rw [show mulS a 0 = 0 from by unfold mulS; rw [Int.mul_zero]; decide] at C5
  generalize mulS a b = p at *
  go_enter Try.func4, Try.ntmps4
  go_wp2_with fail
  refine (C1.out _).mono ?_; rintro e w' ⟨rfl, rfl⟩
  go_wp2_with fail
  refine (C2.out _).mono ?_; rintro e w' ⟨rfl, rfl⟩
  go_wp2_with fail
  refine (C1.out _).mono ?_; rintro e w' ⟨rfl, rfl⟩
  go_wp2_with fail
  refine (C3.out _).mono ?_; rintro e w' ⟨rfl, rfl⟩
  go_wp2_with fail
  refine (C4.out _).mono ?_; rintro e w' ⟨rfl, rfl⟩
  go_wp2_with fail
  refine (C5.out _).mono ?_; rintro e w' ⟨rfl, rfl⟩
  go_wp2_with (go_at_call 14; refine (known4 _).mono ?_; rintro e w5 ⟨rfl, hb5⟩; obtain ⟨hc5, hf5⟩ := bcell hb5; have hz5 := hb5.size; (try simp only [World.size_alloc, World.size_setCell, World.heap_drewN] at hb5 hc5 hf5 hz5); (try have ha05 : w.heap.size < w5.heap.size := by omega); (try have ha15 : w.heap.size + 1 < w5.heap.size := by omega); (try have ha25 : w.heap.size + 2 < w5.heap.size := by omega); (try have hal5 : w.heap.size ≤ w5.heap.size := by omega); (try have ham5 : w.heap.size < w5.heap.size + 2 := by omega))
  go_ret
  go_light
  exact ⟨rfl, by (repeat' (first | (with_reducible exact Below.refl _ _) | (with_reducible assumption) | (with_reducible refine Below.trans ?_ (Below.mono (by with_reducible assumption) ?_)) | (with_reducible refine Below.alloc ?_ ?_ _) | (with_reducible refine Below.setCell ?_ ?_ _) | (with_reducible refine below_drewN ?_ _) | (with_reducible refine Below.drew ?_) | go_size))⟩
end Go.Proofs.Ytklahiogcpojmaa
