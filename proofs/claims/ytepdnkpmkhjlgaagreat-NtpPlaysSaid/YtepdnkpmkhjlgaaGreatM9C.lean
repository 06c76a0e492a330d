/- scale.TAI of what is refused. -/
import Derived.Test.YtepdnkpmkhjlgaaGreatBase
import Derived.Test.YtepdnkpmkhjlgaaGreatM9B
import Derived.Test.YtepdnkpmkhjlgaaGreatM9B
/- scale.Add of any numbers. -/
set_option linter.unusedSimpArgs false
set_option linter.unusedVariables false
namespace Go.Proofs.YtepdnkpmkhjlgaaGreat
open Go.RowKit

/-- A sum, held within what may be told. -/
def addS (a b : Int) : Int := if 9223372036854775807 < a + b then 9223372036854775807 else if a + b < -9223372036854775808 then -9223372036854775808 else a + b
/-- The first k of the numbers z, added one by one, each sum held. -/
def sumS (z : Nat → Int) : Nat → Int
  | 0 => 0
  | k + 1 => addS (sumS z k) (z k)
theorem addS_bd (a b : Int) : -9223372036854775808 ≤ addS a b ∧ addS a b ≤ 9223372036854775807 := by
  unfold addS
  repeat' split
  all_goals omega
theorem sumS_bd (z : Nat → Int) (k : Nat) : -9223372036854775808 ≤ sumS z k ∧ sumS z k ≤ 9223372036854775807 := by
  cases k
  · exact ⟨by show _ ≤ (0 : Int); omega, by show (0 : Int) ≤ _; omega⟩
  · exact addS_bd _ _
theorem addS_hi {a b : Int} (h : 9223372036854775807 - b < a) : addS a b = 9223372036854775807 := by unfold addS; rw [if_pos (by omega)]
theorem addS_lo {a b : Int} (h : a < -9223372036854775808 - b) : addS a b = -9223372036854775808 := by unfold addS; rw [if_neg (by omega), if_pos (by omega)]
theorem addS_in {a b : Int} (h : a + b ≤ 9223372036854775807) (h' : -9223372036854775808 ≤ a + b) : addS a b = a + b := by unfold addS; rw [if_neg (by omega), if_neg (by omega)]
set_option maxHeartbeats 1000000 in
theorem scale_add (z : Nat → Int) (B O n c : Nat) (w : World) (hn : n ≤ 1000000000) (hz : ∀ j, j < n → -9223372036854775808 ≤ z j ∧ z j ≤ 9223372036854775807) (hcell : ∀ j, j < n → w.cell? ⟨B, O + j, none⟩ = some (.int .i64 (z j))) :
    Calls Tryz.prog 52 #[.slice (some ⟨B, O, none⟩) n c] w fun e w' => e = .returned (.int .i64 (sumS z n)) ∧ w = w' := by
  have HZ := Lib.hid hz
  have HC := Lib.hid hcell
  clear hz hcell
  go_enter Tryz.func52, Tryz.ntmps52
  go_wp2
  go_loop [3, 8] (fun s i => ∃ k : Nat, k ≤ n ∧ i = .int .i64 k ∧ s = .int .i64 (sumS z k)) (fun _ i => n - (intOf i).toNat)
  case atStart => exact ⟨0, Nat.zero_le _, rfl, rfl⟩
  case round =>
    obtain ⟨k, hk, rfl, rfl⟩ := hrel
    by_cases hlt : k < n
    · have hcell := HC.out k hlt
      have hzk := HZ.out k hlt
      have hsb := sumS_bd z k
      have HS : Hid (sumS z (k + 1) = addS (sumS z k) (z k)) := rfl
      generalize z k = x at *
      generalize hS : sumS z k = S at *
      rcases (show (0 < x ∧ 9223372036854775807 - x < S) ∨ (0 < x ∧ S ≤ 9223372036854775807 - x) ∨ (x < 0 ∧ S < -9223372036854775808 - x) ∨ (x < 0 ∧ -9223372036854775808 - x ≤ S) ∨ x = 0 from by omega) with ⟨p1, p2⟩ | ⟨p1, p2⟩ | ⟨p1, p2⟩ | ⟨p1, p2⟩ | p1
      · go_wp2
        go_round
        case rel => exact ⟨k + 1, by omega, by go_num, by rw [HS.out, addS_hi p2]⟩
        case measure => simp [intOf]; omega
      · go_wp2
        go_round
        case rel => exact ⟨k + 1, by omega, by go_num, by rw [HS.out, addS_in (by omega) (by omega)]⟩
        case measure => simp [intOf]; omega
      · go_wp2
        go_round
        case rel => exact ⟨k + 1, by omega, by go_num, by rw [HS.out, addS_lo p2]⟩
        case measure => simp [intOf]; omega
      · go_wp2
        go_round
        case rel => exact ⟨k + 1, by omega, by go_num, by rw [HS.out, addS_in (by omega) (by omega)]⟩
        case measure => simp [intOf]; omega
      · subst p1
        go_wp2
        go_round
        case rel => exact ⟨k + 1, by omega, by go_num, by rw [HS.out, addS_in (by omega) (by omega), Int.add_zero]⟩
        case measure => simp [intOf]; omega
    · obtain rfl : k = n := by omega
      go_wp2
      go_ret
      exact ⟨rfl, rfl⟩
/-- Two numbers. -/
theorem scale_add2 (a b : Int) (B : Nat) (w : World) (ha : -9223372036854775808 ≤ a ∧ a ≤ 9223372036854775807) (hb : -9223372036854775808 ≤ b ∧ b ≤ 9223372036854775807) (h0 : w.cell? ⟨B, 0, none⟩ = some (.int .i64 a)) (h1 : w.cell? ⟨B, 1, none⟩ = some (.int .i64 b)) :
    Calls Tryz.prog 52 #[.slice (some ⟨B, 0, none⟩) 2 2] w fun e w' => e = .returned (.int .i64 (addS a b)) ∧ w = w' := by
  have h := scale_add (fun j => if j = 0 then a else b) B 0 2 2 w (by omega) (by intro j hj; by_cases h : j = 0 <;> simp [h, ha, hb]) (by
    intro j hj
    rcases (show j = 0 ∨ j = 1 from by omega) with rfl | rfl
    · simpa using h0
    · simpa using h1)
  have e : sumS (fun j => if j = 0 then a else b) 2 = addS a b := by
    show addS (addS 0 a) b = _
    rw [addS_in (a := 0) (b := a) (by omega) (by omega), Int.zero_add]
  rwa [e] at h
end Go.Proofs.YtepdnkpmkhjlgaaGreat

/- scale.Mul, and the reference's. -/
namespace Go.Proofs.YtepdnkpmkhjlgaaGreat
open Go.RowKit

theorem u64_low32 (x : Int) (h0 : 0 ≤ x) (h1 : x < 18446744073709551616) : bits .and .u64 x 4294967295 = x % 4294967296 := by
  obtain ⟨x, rfl⟩ := Int.eq_ofNat_of_zero_le h0
  show IntKind.u64.wrap ((BitVec.ofInt 64 (x : Int) &&& BitVec.ofInt 64 (4294967295 : Int)).toNat : Int) = _
  have e1 : (BitVec.ofInt 64 (x : Int)).toNat = x := by rw [BitVec.ofInt_natCast, BitVec.toNat_ofNat]; exact Nat.mod_eq_of_lt (by omega)
  have e2 : (BitVec.ofInt 64 (4294967295 : Int)).toNat = 4294967295 := by decide
  have e3 : x &&& 4294967295 = x % 4294967296 := Nat.and_two_pow_sub_one_eq_mod x 32
  rw [BitVec.toNat_and, e1, e2, e3, IntWalk.u64_in _ (by omega)]
  omega
theorem prod_bd (a b : Int) (a0 : 0 ≤ a) (a1 : a ≤ 4294967295) (b0 : 0 ≤ b) (b1 : b ≤ 4294967295) : 0 ≤ a * b ∧ a * b ≤ 18446744065119617025 := by
  refine ⟨Int.mul_nonneg a0 b0, ?_⟩
  have h := Int.mul_le_mul a1 b1 b0 (by decide)
  exact Int.le_trans h (by decide)
theorem prod_split (x y x0 x1 y0 y1 : Int) (hx : x = x1 * 4294967296 + x0) (hy : y = y1 * 4294967296 + y0) : x * y = x1 * y1 * 18446744073709551616 + (x1 * y0 + x0 * y1) * 4294967296 + x0 * y0 := by
  subst hx hy
  rw [Int.add_mul, Int.mul_add, Int.mul_add]
  have e1 : x1 * 4294967296 * (y1 * 4294967296) = x1 * y1 * 18446744073709551616 := by
    rw [Int.mul_assoc, Int.mul_left_comm 4294967296 y1 4294967296, ← Int.mul_assoc]
    rfl
  have e2 : x1 * 4294967296 * y0 = x1 * y0 * 4294967296 := Int.mul_right_comm _ _ _
  have e3 : x0 * (y1 * 4294967296) = x0 * y1 * 4294967296 := (Int.mul_assoc _ _ _).symm
  rw [e1, e2, e3, Int.add_mul]
  omega
set_option maxHeartbeats 2000000 in
theorem bits_mul64 (x y : Int) (w : World) (hx0 : 0 ≤ x) (hx1 : x < 18446744073709551616) (hy0 : 0 ≤ y) (hy1 : y < 18446744073709551616) :
    Calls Tryz.prog 106 #[.int .u64 x, .int .u64 y] w fun e w' => e = .returned (.tuple #[.int .u64 (x * y / 18446744073709551616), .int .u64 (x * y % 18446744073709551616)]) ∧ w = w' := by
  have ax := u64_low32 x hx0 hx1
  have ay := u64_low32 y hy0 hy1
  obtain ⟨x1, hx2⟩ : ∃ x1, x / 4294967296 = x1 := ⟨_, rfl⟩
  obtain ⟨x2, hx3⟩ : ∃ x2, x % 4294967296 = x2 := ⟨_, rfl⟩
  obtain ⟨y1, hy2⟩ : ∃ y1, y / 4294967296 = y1 := ⟨_, rfl⟩
  obtain ⟨y2, hy3⟩ : ∃ y2, y % 4294967296 = y2 := ⟨_, rfl⟩
  rw [hx3] at ax
  rw [hy3] at ay
  have sp := prod_split x y x2 x1 y2 y1 (by omega) (by omega)
  have b00 := prod_bd x2 y2 (by omega) (by omega) (by omega) (by omega)
  have b10 := prod_bd x1 y2 (by omega) (by omega) (by omega) (by omega)
  have b01 := prod_bd x2 y1 (by omega) (by omega) (by omega) (by omega)
  have b11 := prod_bd x1 y1 (by omega) (by omega) (by omega) (by omega)
  generalize hp00 : x2 * y2 = p00 at *
  generalize hp10 : x1 * y2 = p10 at *
  generalize hp01 : x2 * y1 = p01 at *
  generalize hp11 : x1 * y1 = p11 at *
  have e00 : IntKind.u64.wrap (x2 * y2) = p00 := by rw [hp00]; exact IntWalk.u64_in _ (by omega)
  have e10 : IntKind.u64.wrap (x1 * y2) = p10 := by rw [hp10]; exact IntWalk.u64_in _ (by omega)
  have e01 : IntKind.u64.wrap (x2 * y1) = p01 := by rw [hp01]; exact IntWalk.u64_in _ (by omega)
  have e11 : IntKind.u64.wrap (x1 * y1) = p11 := by rw [hp11]; exact IntWalk.u64_in _ (by omega)
  have exy : IntKind.u64.wrap (x * y) = x * y % 18446744073709551616 := rfl
  have t0 : 0 ≤ p10 + p00 / 4294967296 ∧ p10 + p00 / 4294967296 ≤ 18446744069414584320 := by omega
  have at_ := u64_low32 (p10 + p00 / 4294967296) t0.1 (by omega)
  have SP := Lib.hid sp
  clear sp hp00 hp10 hp01 hp11
  obtain ⟨xy, HXY⟩ : ∃ xy, x * y = xy := ⟨_, rfl⟩
  rw [HXY] at SP exy
  have HX := Lib.hid HXY
  rw [HXY]
  clear HXY
  go_enter Tryz.func106, Tryz.ntmps106
  go_wp2

  go_ret2
  refine ⟨?_, rfl⟩
  show Ending.returned (.tuple #[.int .u64 (p11 + (p10 + p00 / 4294967296) / 4294967296 + ((p10 + p00 / 4294967296) % 4294967296 + p01) / 4294967296), .int .u64 (IntKind.u64.wrap (x * y))]) = _
  have hs := SP.out
  rw [HX.out, exy, show p11 + (p10 + p00 / 4294967296) / 4294967296 + ((p10 + p00 / 4294967296) % 4294967296 + p01) / 4294967296 = xy / 18446744073709551616 from by omega]
/-- A number without its sign. -/
def absI (a : Int) : Int := if a < 0 then -a else a
theorem scale_size (a : Int) (w : World) (h0 : -9223372036854775808 ≤ a) (h1 : a ≤ 9223372036854775807) :
    Calls Tryz.prog 107 #[.int .i64 a] w fun e w' => e = .returned (.int .u64 (absI a)) ∧ w = w' := by
  unfold absI
  by_cases h : a < 0
  · rw [if_pos h]
    have e1 : IntKind.u64.wrap (-IntKind.u64.wrap a) = -a := by
      show (-(a % 18446744073709551616)) % 18446744073709551616 = -a
      omega
    go_enter Tryz.func107, Tryz.ntmps107
    go_wp2
    go_ret
    exact ⟨rfl, rfl⟩
  · rw [if_neg h]
    have h' : 0 ≤ a := by omega
    go_enter Tryz.func107, Tryz.ntmps107
    go_wp2
    go_ret
    exact ⟨rfl, rfl⟩
/-- A product, held within what may be told. -/
def mulS (a b : Int) : Int := if 9223372036854775807 < a * b then 9223372036854775807 else if a * b < -9223372036854775808 then -9223372036854775808 else a * b
theorem abs_mul (a b : Int) : (decide (a < 0) = decide (b < 0) → absI a * absI b = a * b) ∧ (decide (a < 0) ≠ decide (b < 0) → absI a * absI b = -(a * b)) := by
  unfold absI
  by_cases ha : a < 0 <;> by_cases hb : b < 0 <;> simp [ha, hb, Int.neg_mul, Int.mul_neg]
theorem abs_bd (a : Int) (h0 : -9223372036854775808 ≤ a) (h1 : a ≤ 9223372036854775807) : 0 ≤ absI a ∧ absI a ≤ 9223372036854775808 := by unfold absI; split <;> omega
theorem neg_back (p : Int) (h0 : 0 ≤ p) (h1 : p ≤ 9223372036854775808) : wrap64 (IntKind.u64.wrap (-p)) = -p := by
  have e : IntKind.u64.wrap (-p) = (-p) % 18446744073709551616 := rfl
  rw [e]
  unfold wrap64
  omega
set_option maxHeartbeats 1000000 in
theorem mul_same (a b hi lo v : Int) (w : World) (a0 : -9223372036854775808 ≤ a) (a1 : a ≤ 9223372036854775807) (b0 : -9223372036854775808 ≤ b) (b1 : b ≤ 9223372036854775807) (hs : (decide (a < 0) == decide (b < 0)) = true) (hi0 : 0 ≤ hi) (lo0 : 0 ≤ lo)
    (HM : Hid (∀ w' : World, Calls Tryz.prog 106 #[.int .u64 (absI a), .int .u64 (absI b)] w' fun e w'' => e = .returned (.tuple #[.int .u64 hi, .int .u64 lo]) ∧ w' = w'')) (hv : (0 < hi ∧ v = 9223372036854775807) ∨ (hi ≤ 0 ∧ 9223372036854775807 < lo ∧ v = 9223372036854775807) ∨ (hi ≤ 0 ∧ lo ≤ 9223372036854775807 ∧ v = lo)) :
    Calls Tryz.prog 97 #[.int .i64 a, .int .i64 b] w fun e w' => e = .returned (.int .i64 v) ∧ w = w' := by
  rcases hv with ⟨h, rfl⟩ | ⟨h, h', rfl⟩ | ⟨h, h', rfl⟩
  · have d1 : decide (0 < hi) = true := by simpa using h
    go_enter Tryz.func97, Tryz.ntmps97
    go_wp2_with fail
    refine (scale_size a _ a0 a1).mono ?_; rintro e w' ⟨rfl, rfl⟩
    go_wp2_with fail
    refine (scale_size b _ b0 b1).mono ?_; rintro e w' ⟨rfl, rfl⟩
    go_wp2_with fail
    refine (HM.out _).mono ?_; rintro e w' ⟨rfl, rfl⟩
    go_wp2
    go_ret
    exact ⟨rfl, rfl⟩
  · have d1 : decide (0 < hi) = false := by simpa using h
    have d2 : decide (9223372036854775807 < lo) = true := by simpa using h'
    go_enter Tryz.func97, Tryz.ntmps97
    go_wp2_with fail
    refine (scale_size a _ a0 a1).mono ?_; rintro e w' ⟨rfl, rfl⟩
    go_wp2_with fail
    refine (scale_size b _ b0 b1).mono ?_; rintro e w' ⟨rfl, rfl⟩
    go_wp2_with fail
    refine (HM.out _).mono ?_; rintro e w' ⟨rfl, rfl⟩
    go_wp2
    go_ret
    exact ⟨rfl, rfl⟩
  · have d1 : decide (0 < hi) = false := by simpa using h
    have d2 : decide (9223372036854775807 < v) = false := by simpa using h'
    go_enter Tryz.func97, Tryz.ntmps97
    go_wp2_with fail
    refine (scale_size a _ a0 a1).mono ?_; rintro e w' ⟨rfl, rfl⟩
    go_wp2_with fail
    refine (scale_size b _ b0 b1).mono ?_; rintro e w' ⟨rfl, rfl⟩
    go_wp2_with fail
    refine (HM.out _).mono ?_; rintro e w' ⟨rfl, rfl⟩
    go_wp2
    go_ret
    exact ⟨rfl, rfl⟩
set_option maxHeartbeats 1000000 in
theorem mul_unlike (a b hi lo v : Int) (w : World) (a0 : -9223372036854775808 ≤ a) (a1 : a ≤ 9223372036854775807) (b0 : -9223372036854775808 ≤ b) (b1 : b ≤ 9223372036854775807) (hs : (decide (a < 0) == decide (b < 0)) = false) (hi0 : 0 ≤ hi) (lo0 : 0 ≤ lo)
    (HM : Hid (∀ w' : World, Calls Tryz.prog 106 #[.int .u64 (absI a), .int .u64 (absI b)] w' fun e w'' => e = .returned (.tuple #[.int .u64 hi, .int .u64 lo]) ∧ w' = w'')) (hv : (0 < hi ∧ v = -9223372036854775808) ∨ (hi ≤ 0 ∧ 9223372036854775808 < lo ∧ v = -9223372036854775808) ∨ (hi ≤ 0 ∧ lo ≤ 9223372036854775808 ∧ v = -lo)) :
    Calls Tryz.prog 97 #[.int .i64 a, .int .i64 b] w fun e w' => e = .returned (.int .i64 v) ∧ w = w' := by
  rcases hv with ⟨h, rfl⟩ | ⟨h, h', rfl⟩ | ⟨h, h', rfl⟩
  · have d1 : decide (0 < hi) = true := by simpa using h
    go_enter Tryz.func97, Tryz.ntmps97
    go_wp2_with fail
    refine (scale_size a _ a0 a1).mono ?_; rintro e w' ⟨rfl, rfl⟩
    go_wp2_with fail
    refine (scale_size b _ b0 b1).mono ?_; rintro e w' ⟨rfl, rfl⟩
    go_wp2_with fail
    refine (HM.out _).mono ?_; rintro e w' ⟨rfl, rfl⟩
    go_wp2
    go_ret
    exact ⟨rfl, rfl⟩
  · have d1 : decide (0 < hi) = false := by simpa using h
    have d2 : decide (9223372036854775808 < lo) = true := by simpa using h'
    go_enter Tryz.func97, Tryz.ntmps97
    go_wp2_with fail
    refine (scale_size a _ a0 a1).mono ?_; rintro e w' ⟨rfl, rfl⟩
    go_wp2_with fail
    refine (scale_size b _ b0 b1).mono ?_; rintro e w' ⟨rfl, rfl⟩
    go_wp2_with fail
    refine (HM.out _).mono ?_; rintro e w' ⟨rfl, rfl⟩
    go_wp2
    go_ret
    exact ⟨rfl, rfl⟩
  · have d1 : decide (0 < hi) = false := by simpa using h
    have d2 : decide (9223372036854775808 < lo) = false := by simpa using h'
    have nb := Lib.hid (neg_back lo lo0 h')
    clear h'
    go_enter Tryz.func97, Tryz.ntmps97
    go_wp2_with fail
    refine (scale_size a _ a0 a1).mono ?_; rintro e w' ⟨rfl, rfl⟩
    go_wp2_with fail
    refine (scale_size b _ b0 b1).mono ?_; rintro e w' ⟨rfl, rfl⟩
    go_wp2_with fail
    refine (HM.out _).mono ?_; rintro e w' ⟨rfl, rfl⟩
    go_wp2
    go_ret
    exact ⟨ret_int nb.out, rfl⟩
theorem scale_mul (a b : Int) (w : World) (a0 : -9223372036854775808 ≤ a) (a1 : a ≤ 9223372036854775807) (b0 : -9223372036854775808 ≤ b) (b1 : b ≤ 9223372036854775807) :
    Calls Tryz.prog 97 #[.int .i64 a, .int .i64 b] w fun e w' => e = .returned (.int .i64 (mulS a b)) ∧ w = w' := by
  have ba := abs_bd a a0 a1
  have bb := abs_bd b b0 b1
  have hp0 : 0 ≤ absI a * absI b := Int.mul_nonneg ba.1 bb.1
  have M := Lib.hid fun w' : World => bits_mul64 (absI a) (absI b) w' ba.1 (by omega) bb.1 (by omega)
  have hm := abs_mul a b
  cases hs : (decide (a < 0) == decide (b < 0))
  · have h2 := hm.2 (by simpa using hs)
    refine mul_unlike a b _ _ _ w a0 a1 b0 b1 hs (by omega) (by omega) M ?_
    unfold mulS
    generalize absI a * absI b = p at *
    generalize a * b = q at *
    split
    · omega
    · split <;> omega
  · have h2 := hm.1 (by simpa using hs)
    refine mul_same a b _ _ _ w a0 a1 b0 b1 hs (by omega) (by omega) M ?_
    unfold mulS
    generalize absI a * absI b = p at *
    generalize a * b = q at *
    split
    · omega
    · split <;> omega
end Go.Proofs.YtepdnkpmkhjlgaaGreat

/- scale.TAI of a table and a moment that is one. -/
namespace Go.Proofs.YtepdnkpmkhjlgaaGreat
open Go.RowKit

theorem mulS_bd (a b : Int) : -9223372036854775808 ≤ mulS a b ∧ mulS a b ≤ 9223372036854775807 := by
  unfold mulS
  split
  · omega
  · split <;> omega
theorem scale_begins (d : Int) (w : World) (h0 : -9223372036854775808 ≤ d) (h1 : d ≤ 9223372036854775807) :
    Calls Tryz.prog 84 #[.int .i64 d] w fun e w' => e = .returned (.int .i64 (mulS d 86400000000000)) ∧ w = w' := by
  go_enter Tryz.func84, Tryz.ntmps84
  go_wp2_with (go_at_call 97; refine (scale_mul d 86400000000000 _ h0 h1 (by decide) (by decide)).mono ?_; rintro e w' ⟨rfl, rfl⟩)
  go_ret
  exact ⟨rfl, rfl⟩
set_option maxHeartbeats 1000000 in
theorem scale_offset_yes (A : Option Addr) (n c : Nat) (x day : Int) (z : Nat → Int) (w : World) (hz : FlatAt w A 2 n z) (ht : IsTab z n x) :
    Calls Tryz.prog 85 #[.agg #[.slice A n c, .int .i64 x], .int .i64 day] w fun e w' => e = .returned (.int .i64 (mulS (offK z day n) 1000000000)) ∧ Below w.heap.size w w' := by
  have HB0 : Below w.heap.size w (w.alloc (.cells #[.slice A n c, .int .i64 x] 24)) := by (repeat' (first | (with_reducible exact Below.refl _ _) | (with_reducible assumption) | (with_reducible refine Below.trans ?_ (Below.mono (by with_reducible assumption) ?_)) | (with_reducible refine Below.alloc ?_ ?_ _) | (with_reducible refine Below.setCell ?_ ?_ _) | (with_reducible refine below_drewN ?_ _) | (with_reducible refine Below.drew ?_) | go_size))
  have ob := offK_bd ht day n (Nat.le_refl _)
  have HL := Lib.hid fun (W : World) (hB : Below w.heap.size w W) => leap_offset_yes A n c x day z W (hz.below hB) ht
  clear hz ht
  generalize offK z day n = o at *
  go_enter Tryz.func85, Tryz.ntmps85
  go_wp2_with fail
  refine (HL.out _ HB0).mono ?_; rintro e w1 ⟨rfl, hb1⟩
  have HB1 : Below w.heap.size w w1 := HB0.trans (hb1.mono HB0.size)
  clear hb1
  go_wp2_with (go_at_call 97; refine (scale_mul o 1000000000 _ (by omega) (by omega) (by decide) (by decide)).mono ?_; rintro e w' ⟨rfl, rfl⟩)
  go_ret
  exact ⟨rfl, HB1⟩
/-- Three numbers. -/
theorem scale_add3 (a b d : Int) (B : Nat) (w : World) (ha : -9223372036854775808 ≤ a ∧ a ≤ 9223372036854775807) (hb : -9223372036854775808 ≤ b ∧ b ≤ 9223372036854775807) (hd : -9223372036854775808 ≤ d ∧ d ≤ 9223372036854775807) (h0 : w.cell? ⟨B, 0, none⟩ = some (.int .i64 a)) (h1 : w.cell? ⟨B, 1, none⟩ = some (.int .i64 b)) (h2 : w.cell? ⟨B, 2, none⟩ = some (.int .i64 d)) :
    Calls Tryz.prog 52 #[.slice (some ⟨B, 0, none⟩) 3 3] w fun e w' => e = .returned (.int .i64 (addS (addS a b) d)) ∧ w = w' := by
  have h := scale_add (fun j => if j = 0 then a else if j = 1 then b else d) B 0 3 3 w (by omega) (by intro j hj; rcases (show j = 0 ∨ j = 1 ∨ j = 2 from by omega) with rfl | rfl | rfl <;> simp [ha, hb, hd]) (by
    intro j hj
    rcases (show j = 0 ∨ j = 1 ∨ j = 2 from by omega) with rfl | rfl | rfl
    · simpa using h0
    · simpa using h1
    · simpa using h2)
  have e : sumS (fun j => if j = 0 then a else if j = 1 then b else d) 3 = addS (addS a b) d := by
    show addS (addS (addS 0 a) b) d = _
    rw [addS_in (a := 0) (b := a) (by omega) (by omega), Int.zero_add]
  rwa [e] at h
set_option maxRecDepth 100000 in
set_option maxHeartbeats 8000000 in
theorem scale_tai_ok (A : Option Addr) (n c : Nat) (x day nano : Int) (z : Nat → Int) (w : World) (hz : FlatAt w A 2 n z) (ht : IsTab z n x) (d0 : -719162 ≤ day) (d1 : day ≤ 2932896) (n0 : 0 ≤ nano) (n1 : nano < (86400 + offK z (day + 1) n - offK z day n) * 1000000000) :
    Calls Tryz.prog 86 #[.agg #[.slice A n c, .int .i64 x], .agg #[.int .i64 day, .int .i64 nano]] w fun e w' => e = .returned (.tuple #[.int .i64 (addS (addS (mulS day 86400000000000) nano) (mulS (offK z day n) 1000000000)), .int .i64 0]) ∧ Below w.heap.size w w' := by
  have HB0 : Below w.heap.size w ((w.alloc (.cells #[.slice A n c, .int .i64 x] 24)).alloc (.cells #[.int .i64 day, .int .i64 nano] 105)) := by (repeat' (first | (with_reducible exact Below.refl _ _) | (with_reducible assumption) | (with_reducible refine Below.trans ?_ (Below.mono (by with_reducible assumption) ?_)) | (with_reducible refine Below.alloc ?_ ?_ _) | (with_reducible refine Below.setCell ?_ ?_ _) | (with_reducible refine below_drewN ?_ _) | (with_reducible refine Below.drew ?_) | go_size))
  have b0 := offK_bd ht day n (Nat.le_refl _)
  have b1 := offK_bd ht (day + 1) n (Nat.le_refl _)
  obtain ⟨y, m, d, _, _, _, hd⟩ := cal_date_some day d0 d1
  have HD := Lib.hid hd
  have HT := Lib.hid ht
  have HZ := Lib.hid hz
  have M1 := mulS_bd day 86400000000000
  have M2 := mulS_bd (offK z day n) 1000000000
  clear hz ht hd
  have HL := Lib.hid fun (W : World) (hB : Below w.heap.size w W) => leap_length_yes A n c x day z W (HZ.out.below hB) HT.out (by omega) (by omega)
  have HO := Lib.hid fun (W : World) (hB : Below w.heap.size w W) => scale_offset_yes A n c x day z W (HZ.out.below hB) HT.out
  generalize mulS (offK z day n) 1000000000 = mo at *
  generalize hO1 : offK z (day + 1) n = o1 at *
  generalize hO0 : offK z day n = o0 at *
  generalize hLL : 86400 + o1 - o0 = L at *
  have hL : 0 ≤ L ∧ L ≤ 100000 := by omega
  clear hO1 hO0 hLL b0 b1
  have hw : IntKind.i64.wrap (L * 1000000000) = L * 1000000000 := IntWalk.i64_in _ (by omega)
  have HW := Lib.hid hw
  clear hw
  have hBg := Lib.hid fun W : World => scale_begins day W (by omega) (by omega)
  generalize mulS day 86400000000000 = md at *
  go_enter Tryz.func86, Tryz.ntmps86
  go_wp2_with fail
  refine (leap_is_yes A n c x z _ (HZ.out.below HB0) HT.out).mono ?_; rintro e w1 ⟨rfl, hb1⟩
  have HB1 : Below w.heap.size w w1 := HB0.trans (hb1.mono HB0.size)
  have q0 : w1.cell? ⟨w.heap.size, 0, none⟩ = some (.slice A n c) := (hb1.cell (p := ⟨w.heap.size, 0, none⟩) (by simp; omega)).trans (by simp [go_sem])
  have q1 : w1.cell? ⟨w.heap.size, 1, none⟩ = some (.int .i64 x) := (hb1.cell (p := ⟨w.heap.size, 1, none⟩) (by simp; omega)).trans (by simp [go_sem])
  have q2 : w1.cell? ⟨w.heap.size + 1, 0, none⟩ = some (.int .i64 day) := (hb1.cell (p := ⟨w.heap.size + 1, 0, none⟩) (by simp)).trans (by simp [go_sem])
  have q3 : w1.cell? ⟨w.heap.size + 1, 1, none⟩ = some (.int .i64 nano) := (hb1.cell (p := ⟨w.heap.size + 1, 1, none⟩) (by simp)).trans (by simp [go_sem])
  have l1 : w.heap.size + 1 < w1.heap.size := by have := hb1.size; simp at this; omega
  clear hb1
  go_wp2_with fail
  refine (HD.out _).mono ?_; rintro e w2 ⟨rfl, hb2⟩
  have HB2 : Below w.heap.size w w2 := HB1.trans (hb2.mono HB1.size)
  have l0 : w.heap.size < w1.heap.size := by omega
  have p0 := (hb2.cell (p := ⟨w.heap.size, 0, none⟩) l0).trans q0
  have p1 := (hb2.cell (p := ⟨w.heap.size, 1, none⟩) l0).trans q1
  have p2 := (hb2.cell (p := ⟨w.heap.size + 1, 0, none⟩) l1).trans q2
  have p3 := (hb2.cell (p := ⟨w.heap.size + 1, 1, none⟩) l1).trans q3
  have l2 : w.heap.size + 1 < w2.heap.size := Nat.lt_of_lt_of_le l1 hb2.size
  clear hb2 q0 q1 q2 q3 l0 l1
  have a0 : w.heap.size < w2.heap.size := by omega
  go_wp2
  have P0 : (w2.alloc (.cells #[.int .i64 y, .int .i64 m, .int .i64 d] 88)).cell? ⟨w.heap.size, 0, none⟩ = some (.slice A n c) := (World.cell?_alloc_past _ _ _ a0).trans p0
  have P1 : (w2.alloc (.cells #[.int .i64 y, .int .i64 m, .int .i64 d] 88)).cell? ⟨w.heap.size, 1, none⟩ = some (.int .i64 x) := (World.cell?_alloc_past _ _ _ a0).trans p1
  have P2 : (w2.alloc (.cells #[.int .i64 y, .int .i64 m, .int .i64 d] 88)).cell? ⟨w.heap.size + 1, 0, none⟩ = some (.int .i64 day) := (World.cell?_alloc_past _ _ _ l2).trans p2
  have P3 : (w2.alloc (.cells #[.int .i64 y, .int .i64 m, .int .i64 d] 88)).cell? ⟨w.heap.size + 1, 1, none⟩ = some (.int .i64 nano) := (World.cell?_alloc_past _ _ _ l2).trans p3
  have HB2' : Below w.heap.size w (w2.alloc (.cells #[.int .i64 y, .int .i64 m, .int .i64 d] 88)) := HB2.alloc HB2.size _
  have l2' : w.heap.size + 1 < (w2.alloc (.cells #[.int .i64 y, .int .i64 m, .int .i64 d] 88)).heap.size := by simp; omega
  generalize w2.alloc (.cells #[.int .i64 y, .int .i64 m, .int .i64 d] 88) = w3 at *
  clear p0 p1 p2 p3 l2 a0 HB2
  have a0 : w.heap.size < w3.heap.size := by omega
  have t1 : decide (L * 1000000000 ≤ nano) = false := by simp; omega
  have t0 : decide (nano < 0) = false := by simpa using n0
  have hw := HW.out
  go_region_held3 (fun w' => w'.cell? ⟨w.heap.size, 0, none⟩ = some (.slice A n c) ∧ w'.cell? ⟨w.heap.size, 1, none⟩ = some (.int .i64 x) ∧ w'.cell? ⟨w.heap.size + 1, 0, none⟩ = some (.int .i64 day) ∧ w'.cell? ⟨w.heap.size + 1, 1, none⟩ = some (.int .i64 nano)) (first | exact ⟨P0, P1, P2, P3⟩ | exact ⟨r0, r1, r2, r3⟩)
    (first | (go_at_call 99; refine (HL.out _ (by (repeat' (first | (with_reducible exact Below.refl _ _) | (with_reducible assumption) | (with_reducible refine Below.trans ?_ (Below.mono (by with_reducible assumption) ?_)) | (with_reducible refine Below.alloc ?_ ?_ _) | (with_reducible refine Below.setCell ?_ ?_ _) | (with_reducible refine below_drewN ?_ _) | (with_reducible refine Below.drew ?_) | go_size)))).mono ?_; rintro e w5 ⟨rfl, hb5⟩; have r0 := (hb5.cell (p := ⟨w.heap.size, 0, none⟩) a0).trans P0; have r1 := (hb5.cell (p := ⟨w.heap.size, 1, none⟩) a0).trans P1; have r2 := (hb5.cell (p := ⟨w.heap.size + 1, 0, none⟩) l2').trans P2; have r3 := (hb5.cell (p := ⟨w.heap.size + 1, 1, none⟩) l2').trans P3; have l5 : w.heap.size + 1 < w5.heap.size := Nat.lt_of_lt_of_le l2' hb5.size; have HB5 : Below w.heap.size w w5 := HB2'.trans (Below.trans (by (repeat' (first | (with_reducible exact Below.refl _ _) | (with_reducible assumption) | (with_reducible refine Below.trans ?_ (Below.mono (by with_reducible assumption) ?_)) | (with_reducible refine Below.alloc ?_ ?_ _) | (with_reducible refine Below.setCell ?_ ?_ _) | (with_reducible refine below_drewN ?_ _) | (with_reducible refine Below.drew ?_) | go_size))) (hb5.mono (Nat.le_of_lt a0)))))
  have a5 : w.heap.size < w5.heap.size := by omega
  clear hw P0 P1 P2 P3 hb5
  go_wp2
  go_region_held3 (fun w' => w'.cell? ⟨w.heap.size, 0, none⟩ = some (.slice A n c) ∧ w'.cell? ⟨w.heap.size, 1, none⟩ = some (.int .i64 x) ∧ w'.cell? ⟨w.heap.size + 1, 0, none⟩ = some (.int .i64 day) ∧ w'.cell? ⟨w.heap.size + 1, 1, none⟩ = some (.int .i64 nano)) (first | exact ⟨r0, r1, r2, r3⟩ | exact ⟨s0, s1, s2, s3⟩ | exact ⟨(World.cell?_alloc_past _ _ _ a6).trans s0, (World.cell?_alloc_past _ _ _ a6).trans s1, (World.cell?_alloc_past _ _ _ l6).trans s2, (World.cell?_alloc_past _ _ _ l6).trans s3⟩)
    (first
      | (go_at_call 84; refine (hBg.out _).mono ?_; rintro e w' ⟨rfl, rfl⟩)
      | (go_at_call 85; refine (HO.out _ (by (repeat' (first | (with_reducible exact Below.refl _ _) | (with_reducible assumption) | (with_reducible refine Below.trans ?_ (Below.mono (by with_reducible assumption) ?_)) | (with_reducible refine Below.alloc ?_ ?_ _) | (with_reducible refine Below.setCell ?_ ?_ _) | (with_reducible refine below_drewN ?_ _) | (with_reducible refine Below.drew ?_) | go_size)))).mono ?_; rintro e w6 ⟨rfl, hb6⟩; have s0 := (hb6.cell (p := ⟨w.heap.size, 0, none⟩) a5).trans r0; have s1 := (hb6.cell (p := ⟨w.heap.size, 1, none⟩) a5).trans r1; have s2 := (hb6.cell (p := ⟨w.heap.size + 1, 0, none⟩) l5).trans r2; have s3 := (hb6.cell (p := ⟨w.heap.size + 1, 1, none⟩) l5).trans r3; have l6 : w.heap.size + 1 < w6.heap.size := Nat.lt_of_lt_of_le l5 hb6.size; have a6 : w.heap.size < w6.heap.size := Nat.lt_of_lt_of_le a5 hb6.size; have HB6 : Below w.heap.size w w6 := HB5.trans (Below.trans (by (repeat' (first | (with_reducible exact Below.refl _ _) | (with_reducible assumption) | (with_reducible refine Below.trans ?_ (Below.mono (by with_reducible assumption) ?_)) | (with_reducible refine Below.alloc ?_ ?_ _) | (with_reducible refine Below.setCell ?_ ?_ _) | (with_reducible refine below_drewN ?_ _) | (with_reducible refine Below.drew ?_) | go_size))) (hb6.mono (Nat.le_of_lt a5))))
      | (go_at_call 52; refine (scale_add3 md nano mo w6.heap.size _ M1 (by omega) M2 (by simp [go_sem]) (by simp [go_sem]) (by simp [go_sem])).mono ?_; rintro e w' ⟨rfl, rfl⟩))
  go_wp2
  go_ret2
  go_light
  exact ⟨rfl, by (repeat' (first | (with_reducible exact Below.refl _ _) | (with_reducible assumption) | (with_reducible refine Below.trans ?_ (Below.mono (by with_reducible assumption) ?_)) | (with_reducible refine Below.alloc ?_ ?_ _) | (with_reducible refine Below.setCell ?_ ?_ _) | (with_reducible refine below_drewN ?_ _) | (with_reducible refine Below.drew ?_) | go_size))⟩
end Go.Proofs.YtepdnkpmkhjlgaaGreat

/- scale.TAI of what is refused. -/
namespace Go.Proofs.YtepdnkpmkhjlgaaGreat
open Go.RowKit

set_option maxRecDepth 100000 in
set_option maxHeartbeats 8000000 in
theorem scale_tai_late (A : Option Addr) (n c : Nat) (x day nano : Int) (z : Nat → Int) (w : World) (hz : FlatAt w A 2 n z) (ht : IsTab z n x) (d0 : -719162 ≤ day) (d1 : day ≤ 2932896) (n0 : 0 ≤ nano) (n1 : (86400 + offK z (day + 1) n - offK z day n) * 1000000000 ≤ nano) :
    Calls Tryz.prog 86 #[.agg #[.slice A n c, .int .i64 x], .agg #[.int .i64 day, .int .i64 nano]] w fun e w' => e = .returned (.tuple #[.int .i64 0, .int .i64 1]) ∧ Below w.heap.size w w' := by
  have HB0 : Below w.heap.size w ((w.alloc (.cells #[.slice A n c, .int .i64 x] 24)).alloc (.cells #[.int .i64 day, .int .i64 nano] 105)) := by (repeat' (first | (with_reducible exact Below.refl _ _) | (with_reducible assumption) | (with_reducible refine Below.trans ?_ (Below.mono (by with_reducible assumption) ?_)) | (with_reducible refine Below.alloc ?_ ?_ _) | (with_reducible refine Below.setCell ?_ ?_ _) | (with_reducible refine below_drewN ?_ _) | (with_reducible refine Below.drew ?_) | go_size))
  have b0 := offK_bd ht day n (Nat.le_refl _)
  have b1 := offK_bd ht (day + 1) n (Nat.le_refl _)
  obtain ⟨y, m, d, _, _, _, hd⟩ := cal_date_some day d0 d1
  have HD := Lib.hid hd
  have HT := Lib.hid ht
  have HZ := Lib.hid hz
  clear hz ht hd
  have HL := Lib.hid fun (W : World) (hB : Below w.heap.size w W) => leap_length_yes A n c x day z W (HZ.out.below hB) HT.out (by omega) (by omega)
  generalize hO1 : offK z (day + 1) n = o1 at *
  generalize hO0 : offK z day n = o0 at *
  generalize hLL : 86400 + o1 - o0 = L at *
  have hL : 0 ≤ L ∧ L ≤ 100000 := by omega
  clear hO1 hO0 hLL b0 b1
  have hw : IntKind.i64.wrap (L * 1000000000) = L * 1000000000 := IntWalk.i64_in _ (by omega)
  have HW := Lib.hid hw
  clear hw
  go_enter Tryz.func86, Tryz.ntmps86
  go_wp2_with fail
  refine (leap_is_yes A n c x z _ (HZ.out.below HB0) HT.out).mono ?_; rintro e w1 ⟨rfl, hb1⟩
  have HB1 : Below w.heap.size w w1 := HB0.trans (hb1.mono HB0.size)
  have q0 : w1.cell? ⟨w.heap.size, 0, none⟩ = some (.slice A n c) := (hb1.cell (p := ⟨w.heap.size, 0, none⟩) (by simp; omega)).trans (by simp [go_sem])
  have q1 : w1.cell? ⟨w.heap.size, 1, none⟩ = some (.int .i64 x) := (hb1.cell (p := ⟨w.heap.size, 1, none⟩) (by simp; omega)).trans (by simp [go_sem])
  have q2 : w1.cell? ⟨w.heap.size + 1, 0, none⟩ = some (.int .i64 day) := (hb1.cell (p := ⟨w.heap.size + 1, 0, none⟩) (by simp)).trans (by simp [go_sem])
  have q3 : w1.cell? ⟨w.heap.size + 1, 1, none⟩ = some (.int .i64 nano) := (hb1.cell (p := ⟨w.heap.size + 1, 1, none⟩) (by simp)).trans (by simp [go_sem])
  have l1 : w.heap.size + 1 < w1.heap.size := by have := hb1.size; simp at this; omega
  clear hb1
  go_wp2_with fail
  refine (HD.out _).mono ?_; rintro e w2 ⟨rfl, hb2⟩
  have HB2 : Below w.heap.size w w2 := HB1.trans (hb2.mono HB1.size)
  have l0 : w.heap.size < w1.heap.size := by omega
  have p0 := (hb2.cell (p := ⟨w.heap.size, 0, none⟩) l0).trans q0
  have p1 := (hb2.cell (p := ⟨w.heap.size, 1, none⟩) l0).trans q1
  have p2 := (hb2.cell (p := ⟨w.heap.size + 1, 0, none⟩) l1).trans q2
  have p3 := (hb2.cell (p := ⟨w.heap.size + 1, 1, none⟩) l1).trans q3
  have l2 : w.heap.size + 1 < w2.heap.size := Nat.lt_of_lt_of_le l1 hb2.size
  clear hb2 q0 q1 q2 q3 l0 l1
  have a0 : w.heap.size < w2.heap.size := by omega
  go_wp2
  have P0 : (w2.alloc (.cells #[.int .i64 y, .int .i64 m, .int .i64 d] 88)).cell? ⟨w.heap.size, 0, none⟩ = some (.slice A n c) := (World.cell?_alloc_past _ _ _ a0).trans p0
  have P1 : (w2.alloc (.cells #[.int .i64 y, .int .i64 m, .int .i64 d] 88)).cell? ⟨w.heap.size, 1, none⟩ = some (.int .i64 x) := (World.cell?_alloc_past _ _ _ a0).trans p1
  have P2 : (w2.alloc (.cells #[.int .i64 y, .int .i64 m, .int .i64 d] 88)).cell? ⟨w.heap.size + 1, 0, none⟩ = some (.int .i64 day) := (World.cell?_alloc_past _ _ _ l2).trans p2
  have P3 : (w2.alloc (.cells #[.int .i64 y, .int .i64 m, .int .i64 d] 88)).cell? ⟨w.heap.size + 1, 1, none⟩ = some (.int .i64 nano) := (World.cell?_alloc_past _ _ _ l2).trans p3
  have HB2' : Below w.heap.size w (w2.alloc (.cells #[.int .i64 y, .int .i64 m, .int .i64 d] 88)) := HB2.alloc HB2.size _
  have l2' : w.heap.size + 1 < (w2.alloc (.cells #[.int .i64 y, .int .i64 m, .int .i64 d] 88)).heap.size := by simp; omega
  generalize w2.alloc (.cells #[.int .i64 y, .int .i64 m, .int .i64 d] 88) = w3 at *
  clear p0 p1 p2 p3 l2 a0 HB2
  have a0 : w.heap.size < w3.heap.size := by omega
  have t1 : decide (L * 1000000000 ≤ nano) = true := by simp; omega
  have t0 : decide (nano < 0) = false := by simpa using n0
  have hw := HW.out
  go_region_held3 (fun w' => w'.cell? ⟨w.heap.size, 0, none⟩ = some (.slice A n c) ∧ w'.cell? ⟨w.heap.size, 1, none⟩ = some (.int .i64 x) ∧ w'.cell? ⟨w.heap.size + 1, 0, none⟩ = some (.int .i64 day) ∧ w'.cell? ⟨w.heap.size + 1, 1, none⟩ = some (.int .i64 nano)) (first | exact ⟨P0, P1, P2, P3⟩ | exact ⟨r0, r1, r2, r3⟩)
    (first | (go_at_call 99; refine (HL.out _ (by (repeat' (first | (with_reducible exact Below.refl _ _) | (with_reducible assumption) | (with_reducible refine Below.trans ?_ (Below.mono (by with_reducible assumption) ?_)) | (with_reducible refine Below.alloc ?_ ?_ _) | (with_reducible refine Below.setCell ?_ ?_ _) | (with_reducible refine below_drewN ?_ _) | (with_reducible refine Below.drew ?_) | go_size)))).mono ?_; rintro e w5 ⟨rfl, hb5⟩; have r0 := (hb5.cell (p := ⟨w.heap.size, 0, none⟩) a0).trans P0; have r1 := (hb5.cell (p := ⟨w.heap.size, 1, none⟩) a0).trans P1; have r2 := (hb5.cell (p := ⟨w.heap.size + 1, 0, none⟩) l2').trans P2; have r3 := (hb5.cell (p := ⟨w.heap.size + 1, 1, none⟩) l2').trans P3; have l5 : w.heap.size + 1 < w5.heap.size := Nat.lt_of_lt_of_le l2' hb5.size; have HB5 : Below w.heap.size w w5 := HB2'.trans (Below.trans (by (repeat' (first | (with_reducible exact Below.refl _ _) | (with_reducible assumption) | (with_reducible refine Below.trans ?_ (Below.mono (by with_reducible assumption) ?_)) | (with_reducible refine Below.alloc ?_ ?_ _) | (with_reducible refine Below.setCell ?_ ?_ _) | (with_reducible refine below_drewN ?_ _) | (with_reducible refine Below.drew ?_) | go_size))) (hb5.mono (Nat.le_of_lt a0)))))
  go_wp2
  go_ret2
  go_light
  exact ⟨rfl, HB5⟩
set_option maxRecDepth 100000 in
set_option maxHeartbeats 8000000 in
theorem scale_tai_neg (A : Option Addr) (n c : Nat) (x day nano : Int) (z : Nat → Int) (w : World) (hz : FlatAt w A 2 n z) (ht : IsTab z n x) (d0 : -719162 ≤ day) (d1 : day ≤ 2932896) (n0 : nano < 0) :
    Calls Tryz.prog 86 #[.agg #[.slice A n c, .int .i64 x], .agg #[.int .i64 day, .int .i64 nano]] w fun e w' => e = .returned (.tuple #[.int .i64 0, .int .i64 1]) ∧ Below w.heap.size w w' := by
  have HB0 : Below w.heap.size w ((w.alloc (.cells #[.slice A n c, .int .i64 x] 24)).alloc (.cells #[.int .i64 day, .int .i64 nano] 105)) := by (repeat' (first | (with_reducible exact Below.refl _ _) | (with_reducible assumption) | (with_reducible refine Below.trans ?_ (Below.mono (by with_reducible assumption) ?_)) | (with_reducible refine Below.alloc ?_ ?_ _) | (with_reducible refine Below.setCell ?_ ?_ _) | (with_reducible refine below_drewN ?_ _) | (with_reducible refine Below.drew ?_) | go_size))
  obtain ⟨y, m, d, _, _, _, hd⟩ := cal_date_some day d0 d1
  have HD := Lib.hid hd
  have HT := Lib.hid ht
  have HZ := Lib.hid hz
  clear hz ht hd
  go_enter Tryz.func86, Tryz.ntmps86
  go_wp2_with fail
  refine (leap_is_yes A n c x z _ (HZ.out.below HB0) HT.out).mono ?_; rintro e w1 ⟨rfl, hb1⟩
  have HB1 : Below w.heap.size w w1 := HB0.trans (hb1.mono HB0.size)
  have q0 : w1.cell? ⟨w.heap.size, 0, none⟩ = some (.slice A n c) := (hb1.cell (p := ⟨w.heap.size, 0, none⟩) (by simp; omega)).trans (by simp [go_sem])
  have q1 : w1.cell? ⟨w.heap.size, 1, none⟩ = some (.int .i64 x) := (hb1.cell (p := ⟨w.heap.size, 1, none⟩) (by simp; omega)).trans (by simp [go_sem])
  have q2 : w1.cell? ⟨w.heap.size + 1, 0, none⟩ = some (.int .i64 day) := (hb1.cell (p := ⟨w.heap.size + 1, 0, none⟩) (by simp)).trans (by simp [go_sem])
  have q3 : w1.cell? ⟨w.heap.size + 1, 1, none⟩ = some (.int .i64 nano) := (hb1.cell (p := ⟨w.heap.size + 1, 1, none⟩) (by simp)).trans (by simp [go_sem])
  have l1 : w.heap.size + 1 < w1.heap.size := by have := hb1.size; simp at this; omega
  clear hb1
  go_wp2_with fail
  refine (HD.out _).mono ?_; rintro e w2 ⟨rfl, hb2⟩
  have HB2 : Below w.heap.size w w2 := HB1.trans (hb2.mono HB1.size)
  have l0 : w.heap.size < w1.heap.size := by omega
  have p0 := (hb2.cell (p := ⟨w.heap.size, 0, none⟩) l0).trans q0
  have p1 := (hb2.cell (p := ⟨w.heap.size, 1, none⟩) l0).trans q1
  have p2 := (hb2.cell (p := ⟨w.heap.size + 1, 0, none⟩) l1).trans q2
  have p3 := (hb2.cell (p := ⟨w.heap.size + 1, 1, none⟩) l1).trans q3
  have l2 : w.heap.size + 1 < w2.heap.size := Nat.lt_of_lt_of_le l1 hb2.size
  clear hb2 q0 q1 q2 q3 l0 l1
  have a0 : w.heap.size < w2.heap.size := by omega
  go_wp2
  have P0 : (w2.alloc (.cells #[.int .i64 y, .int .i64 m, .int .i64 d] 88)).cell? ⟨w.heap.size, 0, none⟩ = some (.slice A n c) := (World.cell?_alloc_past _ _ _ a0).trans p0
  have P1 : (w2.alloc (.cells #[.int .i64 y, .int .i64 m, .int .i64 d] 88)).cell? ⟨w.heap.size, 1, none⟩ = some (.int .i64 x) := (World.cell?_alloc_past _ _ _ a0).trans p1
  have P2 : (w2.alloc (.cells #[.int .i64 y, .int .i64 m, .int .i64 d] 88)).cell? ⟨w.heap.size + 1, 0, none⟩ = some (.int .i64 day) := (World.cell?_alloc_past _ _ _ l2).trans p2
  have P3 : (w2.alloc (.cells #[.int .i64 y, .int .i64 m, .int .i64 d] 88)).cell? ⟨w.heap.size + 1, 1, none⟩ = some (.int .i64 nano) := (World.cell?_alloc_past _ _ _ l2).trans p3
  have HB2' : Below w.heap.size w (w2.alloc (.cells #[.int .i64 y, .int .i64 m, .int .i64 d] 88)) := HB2.alloc HB2.size _
  have l2' : w.heap.size + 1 < (w2.alloc (.cells #[.int .i64 y, .int .i64 m, .int .i64 d] 88)).heap.size := by simp; omega
  generalize w2.alloc (.cells #[.int .i64 y, .int .i64 m, .int .i64 d] 88) = w3 at *
  clear p0 p1 p2 p3 l2 a0 HB2
  have a0 : w.heap.size < w3.heap.size := by omega
  have t0 : decide (nano < 0) = true := by simpa using n0
  have z3 := HB2'.size
  go_quiet (fail)
  go_wp2
  go_ret2
  go_light
  exact ⟨rfl, by (repeat' (first | (with_reducible exact Below.refl _ _) | (with_reducible assumption) | (with_reducible refine Below.trans ?_ (Below.mono (by with_reducible assumption) ?_)) | (with_reducible refine Below.alloc ?_ ?_ _) | (with_reducible refine Below.setCell ?_ ?_ _) | (with_reducible refine below_drewN ?_ _) | (with_reducible refine Below.drew ?_) | go_size))⟩
set_option maxHeartbeats 1000000 in
theorem scale_tai_notab (A : Option Addr) (n c : Nat) (x day nano : Int) (z : Nat → Int) (w : World) (hz : FlatAt w A 2 n z) (hn : n ≤ maxLen) (ht : ¬ IsTab z n x) :
    Calls Tryz.prog 86 #[.agg #[.slice A n c, .int .i64 x], .agg #[.int .i64 day, .int .i64 nano]] w fun e w' => e = .returned (.tuple #[.int .i64 0, .int .i64 1]) ∧ Below w.heap.size w w' := by
  have HB0 : Below w.heap.size w ((w.alloc (.cells #[.slice A n c, .int .i64 x] 24)).alloc (.cells #[.int .i64 day, .int .i64 nano] 105)) := by (repeat' (first | (with_reducible exact Below.refl _ _) | (with_reducible assumption) | (with_reducible refine Below.trans ?_ (Below.mono (by with_reducible assumption) ?_)) | (with_reducible refine Below.alloc ?_ ?_ _) | (with_reducible refine Below.setCell ?_ ?_ _) | (with_reducible refine below_drewN ?_ _) | (with_reducible refine Below.drew ?_) | go_size))
  have HI := Lib.hid (leap_is_no A n c x z _ (hz.below HB0) hn ht)
  clear hz ht hn
  go_enter Tryz.func86, Tryz.ntmps86
  go_wp2_with fail
  refine HI.out.mono ?_; rintro e w1 ⟨rfl, hb1⟩
  have HB1 : Below w.heap.size w w1 := HB0.trans (hb1.mono HB0.size)
  clear hb1
  go_wp2
  go_ret2
  exact ⟨rfl, HB1⟩
end Go.Proofs.YtepdnkpmkhjlgaaGreat

