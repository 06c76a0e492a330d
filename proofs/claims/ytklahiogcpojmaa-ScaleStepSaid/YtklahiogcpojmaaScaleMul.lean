/- scale.Mul, and the reference's. -/
import Derived.Test.YtklahiogcpojmaaScaleAdd
set_option linter.unusedSimpArgs false
set_option linter.unusedVariables false
namespace Go.Proofs.Ytklahiogcpojmaa
open Go.RowKit

theorem u64_low32 (x : Int) (h0 : 0 ≤ x) (h1 : x < 18446744073709551616) : bits .and .u64 x 4294967295 = x % 4294967296 := by
  obtain ⟨x, rfl⟩ := Int.eq_ofNat_of_zero_le h0
  show IntKind.u64.wrap ((BitVec.ofInt 64 (x : Int) &&& BitVec.ofInt 64 (4294967295 : Int)).toNat : Int) = _
  have e1 : (BitVec.ofInt 64 (x : Int)).toNat = x := by rw [BitVec.ofInt_natCast, BitVec.toNat_ofNat]; exact Nat.mod_eq_of_lt (by omega)
  have e2 : (BitVec.ofInt 64 (4294967295 : Int)).toNat = 4294967295 := by decide
  have e3 : x &&& 4294967295 = x % 4294967296 := Nat.and_two_pow_sub_one_eq_mod x 32
  rw [BitVec.toNat_and, e1, e2, e3, IntWalk.u64_in _ (by omega)]
  omega
theorem prod_bd (a b : Int) (a0 : 0 ≤ a) (a1 : a ≤ 4294967295) (b0 : 0 ≤ b) (b1 : b ≤ 4294967295) : 0 ≤ a * b ∧ a * b ≤ 18446744065119617025 := by
  refine ⟨Int.mul_nonneg a0 b0, ?_⟩
  have h := Int.mul_le_mul a1 b1 b0 (by decide)
  exact Int.le_trans h (by decide)
theorem prod_split (x y x0 x1 y0 y1 : Int) (hx : x = x1 * 4294967296 + x0) (hy : y = y1 * 4294967296 + y0) : x * y = x1 * y1 * 18446744073709551616 + (x1 * y0 + x0 * y1) * 4294967296 + x0 * y0 := by
  subst hx hy
  rw [Int.add_mul, Int.mul_add, Int.mul_add]
  have e1 : x1 * 4294967296 * (y1 * 4294967296) = x1 * y1 * 18446744073709551616 := by
    rw [Int.mul_assoc, Int.mul_left_comm 4294967296 y1 4294967296, ← Int.mul_assoc]
    rfl
  have e2 : x1 * 4294967296 * y0 = x1 * y0 * 4294967296 := Int.mul_right_comm _ _ _
  have e3 : x0 * (y1 * 4294967296) = x0 * y1 * 4294967296 := (Int.mul_assoc _ _ _).symm
  rw [e1, e2, e3, Int.add_mul]
  omega
set_option maxHeartbeats 2000000 in
theorem bits_mul64 (x y : Int) (w : World) (hx0 : 0 ≤ x) (hx1 : x < 18446744073709551616) (hy0 : 0 ≤ y) (hy1 : y < 18446744073709551616) :
    Calls Try.prog 28 #[.int .u64 x, .int .u64 y] w fun e w' => e = .returned (.tuple #[.int .u64 (x * y / 18446744073709551616), .int .u64 (x * y % 18446744073709551616)]) ∧ w = w' := by
  have ax := u64_low32 x hx0 hx1
  have ay := u64_low32 y hy0 hy1
  obtain ⟨x1, hx2⟩ : ∃ x1, x / 4294967296 = x1 := ⟨_, rfl⟩
  obtain ⟨x2, hx3⟩ : ∃ x2, x % 4294967296 = x2 := ⟨_, rfl⟩
  obtain ⟨y1, hy2⟩ : ∃ y1, y / 4294967296 = y1 := ⟨_, rfl⟩
  obtain ⟨y2, hy3⟩ : ∃ y2, y % 4294967296 = y2 := ⟨_, rfl⟩
  rw [hx3] at ax
  rw [hy3] at ay
  have sp := prod_split x y x2 x1 y2 y1 (by omega) (by omega)
  have b00 := prod_bd x2 y2 (by omega) (by omega) (by omega) (by omega)
  have b10 := prod_bd x1 y2 (by omega) (by omega) (by omega) (by omega)
  have b01 := prod_bd x2 y1 (by omega) (by omega) (by omega) (by omega)
  have b11 := prod_bd x1 y1 (by omega) (by omega) (by omega) (by omega)
  generalize hp00 : x2 * y2 = p00 at *
  generalize hp10 : x1 * y2 = p10 at *
  generalize hp01 : x2 * y1 = p01 at *
  generalize hp11 : x1 * y1 = p11 at *
  have e00 : IntKind.u64.wrap (x2 * y2) = p00 := by rw [hp00]; exact IntWalk.u64_in _ (by omega)
  have e10 : IntKind.u64.wrap (x1 * y2) = p10 := by rw [hp10]; exact IntWalk.u64_in _ (by omega)
  have e01 : IntKind.u64.wrap (x2 * y1) = p01 := by rw [hp01]; exact IntWalk.u64_in _ (by omega)
  have e11 : IntKind.u64.wrap (x1 * y1) = p11 := by rw [hp11]; exact IntWalk.u64_in _ (by omega)
  have exy : IntKind.u64.wrap (x * y) = x * y % 18446744073709551616 := rfl
  have t0 : 0 ≤ p10 + p00 / 4294967296 ∧ p10 + p00 / 4294967296 ≤ 18446744069414584320 := by omega
  have at_ := u64_low32 (p10 + p00 / 4294967296) t0.1 (by omega)
  have SP := Lib.hid sp
  clear sp hp00 hp10 hp01 hp11
  obtain ⟨xy, HXY⟩ : ∃ xy, x * y = xy := ⟨_, rfl⟩
  rw [HXY] at SP exy
  have HX := Lib.hid HXY
  rw [HXY]
  clear HXY
  go_enter Try.func28, Try.ntmps28
  go_wp2

  go_ret2
  refine ⟨?_, rfl⟩
  show Ending.returned (.tuple #[.int .u64 (p11 + (p10 + p00 / 4294967296) / 4294967296 + ((p10 + p00 / 4294967296) % 4294967296 + p01) / 4294967296), .int .u64 (IntKind.u64.wrap (x * y))]) = _
  have hs := SP.out
  rw [HX.out, exy, show p11 + (p10 + p00 / 4294967296) / 4294967296 + ((p10 + p00 / 4294967296) % 4294967296 + p01) / 4294967296 = xy / 18446744073709551616 from by omega]
/-- A number without its sign. -/
def absI (a : Int) : Int := if a < 0 then -a else a
theorem scale_size (a : Int) (w : World) (h0 : -9223372036854775808 ≤ a) (h1 : a ≤ 9223372036854775807) :
    Calls Try.prog 29 #[.int .i64 a] w fun e w' => e = .returned (.int .u64 (absI a)) ∧ w = w' := by
  unfold absI
  by_cases h : a < 0
  · rw [if_pos h]
    have e1 : IntKind.u64.wrap (-IntKind.u64.wrap a) = -a := by
      show (-(a % 18446744073709551616)) % 18446744073709551616 = -a
      omega
    go_enter Try.func29, Try.ntmps29
    go_wp2
    go_ret
    exact ⟨rfl, rfl⟩
  · rw [if_neg h]
    have h' : 0 ≤ a := by omega
    go_enter Try.func29, Try.ntmps29
    go_wp2
    go_ret
    exact ⟨rfl, rfl⟩
/-- A product, held within what may be told. -/
def mulS (a b : Int) : Int := if 9223372036854775807 < a * b then 9223372036854775807 else if a * b < -9223372036854775808 then -9223372036854775808 else a * b
theorem abs_mul (a b : Int) : (decide (a < 0) = decide (b < 0) → absI a * absI b = a * b) ∧ (decide (a < 0) ≠ decide (b < 0) → absI a * absI b = -(a * b)) := by
  unfold absI
  by_cases ha : a < 0 <;> by_cases hb : b < 0 <;> simp [ha, hb, Int.neg_mul, Int.mul_neg]
theorem abs_bd (a : Int) (h0 : -9223372036854775808 ≤ a) (h1 : a ≤ 9223372036854775807) : 0 ≤ absI a ∧ absI a ≤ 9223372036854775808 := by unfold absI; split <;> omega
theorem neg_back (p : Int) (h0 : 0 ≤ p) (h1 : p ≤ 9223372036854775808) : wrap64 (IntKind.u64.wrap (-p)) = -p := by
  have e : IntKind.u64.wrap (-p) = (-p) % 18446744073709551616 := rfl
  rw [e]
  unfold wrap64
  omega
set_option maxHeartbeats 1000000 in
theorem mul_same (a b hi lo v : Int) (w : World) (a0 : -9223372036854775808 ≤ a) (a1 : a ≤ 9223372036854775807) (b0 : -9223372036854775808 ≤ b) (b1 : b ≤ 9223372036854775807) (hs : (decide (a < 0) == decide (b < 0)) = true) (hi0 : 0 ≤ hi) (lo0 : 0 ≤ lo)
    (HM : Hid (∀ w' : World, Calls Try.prog 28 #[.int .u64 (absI a), .int .u64 (absI b)] w' fun e w'' => e = .returned (.tuple #[.int .u64 hi, .int .u64 lo]) ∧ w' = w'')) (hv : (0 < hi ∧ v = 9223372036854775807) ∨ (hi ≤ 0 ∧ 9223372036854775807 < lo ∧ v = 9223372036854775807) ∨ (hi ≤ 0 ∧ lo ≤ 9223372036854775807 ∧ v = lo)) :
    Calls Try.prog 15 #[.int .i64 a, .int .i64 b] w fun e w' => e = .returned (.int .i64 v) ∧ w = w' := by
  rcases hv with ⟨h, rfl⟩ | ⟨h, h', rfl⟩ | ⟨h, h', rfl⟩
  · have d1 : decide (0 < hi) = true := by simpa using h
    go_enter Try.func15, Try.ntmps15
    go_wp2_with fail
    refine (scale_size a _ a0 a1).mono ?_; rintro e w' ⟨rfl, rfl⟩
    go_wp2_with fail
    refine (scale_size b _ b0 b1).mono ?_; rintro e w' ⟨rfl, rfl⟩
    go_wp2_with fail
    refine (HM.out _).mono ?_; rintro e w' ⟨rfl, rfl⟩
    go_wp2
    go_ret
    exact ⟨rfl, rfl⟩
  · have d1 : decide (0 < hi) = false := by simpa using h
    have d2 : decide (9223372036854775807 < lo) = true := by simpa using h'
    go_enter Try.func15, Try.ntmps15
    go_wp2_with fail
    refine (scale_size a _ a0 a1).mono ?_; rintro e w' ⟨rfl, rfl⟩
    go_wp2_with fail
    refine (scale_size b _ b0 b1).mono ?_; rintro e w' ⟨rfl, rfl⟩
    go_wp2_with fail
    refine (HM.out _).mono ?_; rintro e w' ⟨rfl, rfl⟩
    go_wp2
    go_ret
    exact ⟨rfl, rfl⟩
  · have d1 : decide (0 < hi) = false := by simpa using h
    have d2 : decide (9223372036854775807 < v) = false := by simpa using h'
    go_enter Try.func15, Try.ntmps15
    go_wp2_with fail
    refine (scale_size a _ a0 a1).mono ?_; rintro e w' ⟨rfl, rfl⟩
    go_wp2_with fail
    refine (scale_size b _ b0 b1).mono ?_; rintro e w' ⟨rfl, rfl⟩
    go_wp2_with fail
    refine (HM.out _).mono ?_; rintro e w' ⟨rfl, rfl⟩
    go_wp2
    go_ret
    exact ⟨rfl, rfl⟩
set_option maxHeartbeats 1000000 in
theorem mul_unlike (a b hi lo v : Int) (w : World) (a0 : -9223372036854775808 ≤ a) (a1 : a ≤ 9223372036854775807) (b0 : -9223372036854775808 ≤ b) (b1 : b ≤ 9223372036854775807) (hs : (decide (a < 0) == decide (b < 0)) = false) (hi0 : 0 ≤ hi) (lo0 : 0 ≤ lo)
    (HM : Hid (∀ w' : World, Calls Try.prog 28 #[.int .u64 (absI a), .int .u64 (absI b)] w' fun e w'' => e = .returned (.tuple #[.int .u64 hi, .int .u64 lo]) ∧ w' = w'')) (hv : (0 < hi ∧ v = -9223372036854775808) ∨ (hi ≤ 0 ∧ 9223372036854775808 < lo ∧ v = -9223372036854775808) ∨ (hi ≤ 0 ∧ lo ≤ 9223372036854775808 ∧ v = -lo)) :
    Calls Try.prog 15 #[.int .i64 a, .int .i64 b] w fun e w' => e = .returned (.int .i64 v) ∧ w = w' := by
  rcases hv with ⟨h, rfl⟩ | ⟨h, h', rfl⟩ | ⟨h, h', rfl⟩
  · have d1 : decide (0 < hi) = true := by simpa using h
    go_enter Try.func15, Try.ntmps15
    go_wp2_with fail
    refine (scale_size a _ a0 a1).mono ?_; rintro e w' ⟨rfl, rfl⟩
    go_wp2_with fail
    refine (scale_size b _ b0 b1).mono ?_; rintro e w' ⟨rfl, rfl⟩
    go_wp2_with fail
    refine (HM.out _).mono ?_; rintro e w' ⟨rfl, rfl⟩
    go_wp2
    go_ret
    exact ⟨rfl, rfl⟩
  · have d1 : decide (0 < hi) = false := by simpa using h
    have d2 : decide (9223372036854775808 < lo) = true := by simpa using h'
    go_enter Try.func15, Try.ntmps15
    go_wp2_with fail
    refine (scale_size a _ a0 a1).mono ?_; rintro e w' ⟨rfl, rfl⟩
    go_wp2_with fail
    refine (scale_size b _ b0 b1).mono ?_; rintro e w' ⟨rfl, rfl⟩
    go_wp2_with fail
    refine (HM.out _).mono ?_; rintro e w' ⟨rfl, rfl⟩
    go_wp2
    go_ret
    exact ⟨rfl, rfl⟩
  · have d1 : decide (0 < hi) = false := by simpa using h
    have d2 : decide (9223372036854775808 < lo) = false := by simpa using h'
    have nb := Lib.hid (neg_back lo lo0 h')
    clear h'
    go_enter Try.func15, Try.ntmps15
    go_wp2_with fail
    refine (scale_size a _ a0 a1).mono ?_; rintro e w' ⟨rfl, rfl⟩
    go_wp2_with fail
    refine (scale_size b _ b0 b1).mono ?_; rintro e w' ⟨rfl, rfl⟩
    go_wp2_with fail
    refine (HM.out _).mono ?_; rintro e w' ⟨rfl, rfl⟩
    go_wp2
    go_ret
    exact ⟨ret_int nb.out, rfl⟩
theorem scale_mul (a b : Int) (w : World) (a0 : -9223372036854775808 ≤ a) (a1 : a ≤ 9223372036854775807) (b0 : -9223372036854775808 ≤ b) (b1 : b ≤ 9223372036854775807) :
    Calls Try.prog 15 #[.int .i64 a, .int .i64 b] w fun e w' => e = .returned (.int .i64 (mulS a b)) ∧ w = w' := by
  have ba := abs_bd a a0 a1
  have bb := abs_bd b b0 b1
  have hp0 : 0 ≤ absI a * absI b := Int.mul_nonneg ba.1 bb.1
  have M := Lib.hid fun w' : World => bits_mul64 (absI a) (absI b) w' ba.1 (by omega) bb.1 (by omega)
  have hm := abs_mul a b
  cases hs : (decide (a < 0) == decide (b < 0))
  · have h2 := hm.2 (by simpa using hs)
    refine mul_unlike a b _ _ _ w a0 a1 b0 b1 hs (by omega) (by omega) M ?_
    unfold mulS
    generalize absI a * absI b = p at *
    generalize a * b = q at *
    split
    · omega
    · split <;> omega
  · have h2 := hm.1 (by simpa using hs)
    refine mul_same a b _ _ _ w a0 a1 b0 b1 hs (by omega) (by omega) M ?_
    unfold mulS
    generalize absI a * absI b = p at *
    generalize a * b = q at *
    split
    · omega
    · split <;> omega
end Go.Proofs.Ytklahiogcpojmaa
