/- The reference's Length of a table (written by gen/ref3len.py). -/
import Derived.Test.YtepdnkpmkhjlgaaGreatTab9
import Derived.Test.YtepdnkpmkhjlgaaGreatRef4Add
import Derived.Test.YtepdnkpmkhjlgaaGreatArgInts
import Derived.Test.YtepdnkpmkhjlgaaGreatM9C
import Derived.Test.YtepdnkpmkhjlgaaGreatM9B
import Derived.Test.YtepdnkpmkhjlgaaGreatArgTable
import Derived.Test.YtepdnkpmkhjlgaaGreatLaw
import Derived.Test.YtepdnkpmkhjlgaaGreatRef3Off
import Derived.BigGuard
import Derived.BigGuardPart
import Derived.BigCall
/- Stage 4: ScaleAdds, ScaleMilli, ScaleMuls. -/
set_option linter.unusedSimpArgs false
set_option linter.unusedVariables false
namespace Go.Proofs.YtepdnkpmkhjlgaaGreat
open Go.ChangeShapes Go.WideShapes Go.ChangeAt Go.RowKit Go.Joins

theorem scale_add_any (z : Nat → Int) (A : Option Addr) (n c : Nat) (w : World) (hn : n ≤ 1000000000) (hz : IntsAt w A n z) :
    Calls Tryz.prog 52 #[.slice A n c] w fun e w' => e = .returned (.int .i64 (sumS z n)) ∧ w = w' := by
  rcases Nat.eq_zero_or_pos n with rfl | h0
  · have d : decide ((0 : Int) < ((0 : Nat) : Int)) = false := by decide
    go_enter Tryz.func52, Tryz.ntmps52
    go_wp2
    refine wp_loop_rounds 1 ?_
    rw [rounds_succ]
    go_wp2
    go_ret
    exact ⟨rfl, rfl⟩
  · obtain ⟨B, O, rfl, hB, hc⟩ := hz h0
    have h := scale_add z B O n c w hn (fun j hj => (hc j hj).2) (fun j hj => (hc j hj).1)
    exact h
theorem ref4_add_any (z : Nat → Int) (A : Option Addr) (n c : Nat) (w : World) (hn : n ≤ 1000000000) (hz : IntsAt w A n z) :
    Calls Tryz.prog 37 #[.slice A n c] w fun e w' => e = .returned (.int .i64 (sumS z n)) ∧ w = w' :=
  ref4_add z A n c w hn fun h0 => by
    obtain ⟨B, O, e, _, hc⟩ := hz h0
    exact ⟨B, O, e, hc⟩
def milliV (t : Int) : Int := if t ≤ 0 then 0 else if t / 1000000 ≤ 281474976710655 then t / 1000000 else 281474976710655
theorem ref4_floorA (t : Int) (w : World) (h0 : -9223372036854775808 ≤ t) (h : t ≤ 9223372036854775807) : Calls Tryz.prog 49 #[.int .i64 t, .int .i64 1000000] w fun e w' => e = .returned (.int .i64 (t / 1000000)) ∧ w = w' := by
  by_cases h1 : 0 ≤ t
  · have d0 : decide (t % 1000000 < 0) = false := by simp; omega
    go_enter Tryz.func49, Tryz.ntmps49
    go_wp2
    go_ret
    exact ⟨rfl, rfl⟩
  · obtain ⟨u, hu⟩ : ∃ u, t = -u := ⟨-t, by omega⟩
    have hq : t.tdiv 1000000 = -(u / 1000000) := by subst hu; rw [Int.neg_tdiv, Int.tdiv_eq_ediv_of_nonneg (by omega)]
    have hr : t.tmod 1000000 = -(u % 1000000) := by subst hu; rw [Int.neg_tmod, Int.tmod_eq_emod_of_nonneg (by omega)]
    obtain ⟨q, hq'⟩ : ∃ q, -(u / 1000000) = q := ⟨_, rfl⟩
    obtain ⟨r, hr'⟩ : ∃ r, -(u % 1000000) = r := ⟨_, rfl⟩
    rw [hq'] at hq
    rw [hr'] at hr
    have qb : -9223372036855 ≤ q ∧ q ≤ 0 := by omega
    have wq : IntKind.i64.wrap q = q := IntWalk.i64_in _ (by omega)
    by_cases hr0 : r < 0
    · have HE : Hid (q - 1 = t / 1000000) := Lib.hid (by omega)
      have d0 : decide (r < 0) = true := by simpa using hr0
      clear hq' hr' hu
      go_enter Tryz.func49, Tryz.ntmps49
      go_wp2
      go_ret
      exact ⟨ret_int HE.out, rfl⟩
    · have HE : Hid (q = t / 1000000) := Lib.hid (by omega)
      have d0 : decide (r < 0) = false := by simpa using hr0
      clear hq' hr' hu
      go_enter Tryz.func49, Tryz.ntmps49
      go_wp2
      go_ret
      exact ⟨ret_int HE.out, rfl⟩
theorem milliV_mono {a b : Int} (h : a ≤ b) : milliV a ≤ milliV b := by
  unfold milliV
  split <;> split <;> (try split) <;> (try split) <;> omega
end Go.Proofs.YtepdnkpmkhjlgaaGreat

/- Stage 4: the reference's Mul; ScaleMuls. -/
namespace Go.Proofs.YtepdnkpmkhjlgaaGreat
open Go.RowKit

theorem ref4_size (a : Int) (w : World) (h0 : -9223372036854775808 ≤ a) (h1 : a ≤ 9223372036854775807) :
    Calls Tryz.prog 105 #[.int .i64 a] w fun e w' => e = .returned (.int .u64 (absI a)) ∧ w = w' := by
  unfold absI
  by_cases h : a < 0
  · rw [if_pos h]
    have e1 : IntKind.u64.wrap (-IntKind.u64.wrap a) = -a := by
      show (-(a % 18446744073709551616)) % 18446744073709551616 = -a
      omega
    go_enter Tryz.func105, Tryz.ntmps105
    go_wp2
    go_ret
    exact ⟨rfl, rfl⟩
  · rw [if_neg h]
    have h' : 0 ≤ a := by omega
    go_enter Tryz.func105, Tryz.ntmps105
    go_wp2
    go_ret
    exact ⟨rfl, rfl⟩
set_option maxHeartbeats 1000000 in
theorem ref4_mul_zero (a b x y : Int) (w : World) (A : Hid (∀ w : World, Calls Tryz.prog 105 #[.int .i64 a] w fun e w' => e = .returned (.int .u64 x) ∧ w = w')) (B : Hid (∀ w : World, Calls Tryz.prog 105 #[.int .i64 b] w fun e w' => e = .returned (.int .u64 y) ∧ w = w')) (h : x = 0 ∨ (0 < x ∧ y = 0)) :
    Calls Tryz.prog 89 #[.int .i64 a, .int .i64 b] w fun e w' => e = .returned (.int .i64 0) ∧ w = w' := by
  rcases h with h | ⟨h, h'⟩
  · have d1 : (x == 0) = true := by simpa using h
    clear h
    go_enter Tryz.func89, Tryz.ntmps89
    go_wp2_with fail
    refine (A.out _).mono ?_; rintro e w' ⟨rfl, rfl⟩
    go_wp2_with fail
    refine (B.out _).mono ?_; rintro e w' ⟨rfl, rfl⟩
    go_wp2
    go_ret
    exact ⟨rfl, rfl⟩
  · have d1 : (x == 0) = false := by simp; omega
    have d2 : (y == 0) = true := by simpa using h'
    clear h'
    go_enter Tryz.func89, Tryz.ntmps89
    go_wp2_with fail
    refine (A.out _).mono ?_; rintro e w' ⟨rfl, rfl⟩
    go_wp2_with fail
    refine (B.out _).mono ?_; rintro e w' ⟨rfl, rfl⟩
    go_wp2
    go_ret
    exact ⟨rfl, rfl⟩
set_option maxHeartbeats 2000000 in
theorem ref4_mul_same (a b x y q : Int) (w : World) (A : Hid (∀ w : World, Calls Tryz.prog 105 #[.int .i64 a] w fun e w' => e = .returned (.int .u64 x) ∧ w = w')) (B : Hid (∀ w : World, Calls Tryz.prog 105 #[.int .i64 b] w fun e w' => e = .returned (.int .u64 y) ∧ w = w')) (hx : 0 < x) (hx' : x ≤ 9223372036854775808) (hy : 0 < y) (hy' : y ≤ 9223372036854775808)
    (hs : (decide (a < 0) == decide (b < 0)) = true) (hq : 9223372036854775807 / y = q) (q0 : 0 ≤ q) :
    Calls Tryz.prog 89 #[.int .i64 a, .int .i64 b] w fun e w' => e = .returned (.int .i64 (if q < x then 9223372036854775807 else wrap64 (IntKind.u64.wrap (x * y)))) ∧ w = w' := by
  have d1 : (x == 0) = false := by simp; omega
  have d2 : (y == 0) = false := by simp; omega
  have s1 : (!(decide (a < 0) == decide (b < 0))) = false := by rw [hs]; rfl
  clear hs
  by_cases h : q < x
  · rw [if_pos h]
    go_enter Tryz.func89, Tryz.ntmps89
    go_wp2_with fail
    refine (A.out _).mono ?_; rintro e w' ⟨rfl, rfl⟩
    go_wp2_with fail
    refine (B.out _).mono ?_; rintro e w' ⟨rfl, rfl⟩
    go_wp2
    go_ret
    exact ⟨rfl, rfl⟩
  · rw [if_neg h]
    have h' : x ≤ q := by omega
    clear h
    go_enter Tryz.func89, Tryz.ntmps89
    go_wp2_with fail
    refine (A.out _).mono ?_; rintro e w' ⟨rfl, rfl⟩
    go_wp2_with fail
    refine (B.out _).mono ?_; rintro e w' ⟨rfl, rfl⟩
    go_wp2
    go_ret
    exact ⟨rfl, rfl⟩
set_option maxHeartbeats 2000000 in
theorem ref4_mul_unlike (a b x y q : Int) (w : World) (A : Hid (∀ w : World, Calls Tryz.prog 105 #[.int .i64 a] w fun e w' => e = .returned (.int .u64 x) ∧ w = w')) (B : Hid (∀ w : World, Calls Tryz.prog 105 #[.int .i64 b] w fun e w' => e = .returned (.int .u64 y) ∧ w = w')) (hx : 0 < x) (hx' : x ≤ 9223372036854775808) (hy : 0 < y) (hy' : y ≤ 9223372036854775808)
    (hs : (decide (a < 0) == decide (b < 0)) = false) (hq : 9223372036854775808 / y = q) (q0 : 0 ≤ q) :
    Calls Tryz.prog 89 #[.int .i64 a, .int .i64 b] w fun e w' => e = .returned (.int .i64 (if q < x then -9223372036854775808 else wrap64 (IntKind.u64.wrap (-IntKind.u64.wrap (x * y))))) ∧ w = w' := by
  have d1 : (x == 0) = false := by simp; omega
  have d2 : (y == 0) = false := by simp; omega
  have s1 : (!(decide (a < 0) == decide (b < 0))) = true := by rw [hs]; rfl
  clear hs
  by_cases h : q < x
  · rw [if_pos h]
    go_enter Tryz.func89, Tryz.ntmps89
    go_wp2_with fail
    refine (A.out _).mono ?_; rintro e w' ⟨rfl, rfl⟩
    go_wp2_with fail
    refine (B.out _).mono ?_; rintro e w' ⟨rfl, rfl⟩
    go_wp2
    go_ret
    exact ⟨rfl, rfl⟩
  · rw [if_neg h]
    have h' : x ≤ q := by omega
    clear h
    go_enter Tryz.func89, Tryz.ntmps89
    go_wp2_with fail
    refine (A.out _).mono ?_; rintro e w' ⟨rfl, rfl⟩
    go_wp2_with fail
    refine (B.out _).mono ?_; rintro e w' ⟨rfl, rfl⟩
    go_wp2
    go_ret
    exact ⟨rfl, rfl⟩
theorem ref4_mul (a b : Int) (w : World) (a0 : -9223372036854775808 ≤ a) (a1 : a ≤ 9223372036854775807) (b0 : -9223372036854775808 ≤ b) (b1 : b ≤ 9223372036854775807) :
    Calls Tryz.prog 89 #[.int .i64 a, .int .i64 b] w fun e w' => e = .returned (.int .i64 (mulS a b)) ∧ w = w' := by
  have ba := abs_bd a a0 a1
  have bb := abs_bd b b0 b1
  have hm := abs_mul a b
  have A := Lib.hid fun w : World => ref4_size a w a0 a1
  have B := Lib.hid fun w : World => ref4_size b w b0 b1
  have hp0 : 0 ≤ absI a * absI b := Int.mul_nonneg ba.1 bb.1
  have hab : a * b = absI a * absI b ∨ a * b = -(absI a * absI b) := by
    cases hs : (decide (a < 0) == decide (b < 0))
    · have := hm.2 (by simpa using hs); omega
    · have := hm.1 (by simpa using hs); omega
  by_cases hz : absI a = 0 ∨ (0 < absI a ∧ absI b = 0)
  · have e : mulS a b = 0 := by
      have h0 : absI a * absI b = 0 := by rcases hz with h | ⟨_, h⟩ <;> rw [h] <;> simp
      rw [h0] at hab
      unfold mulS
      rw [show a * b = 0 from by omega]
      decide
    rw [e]
    exact ref4_mul_zero a b _ _ w A B hz
  · have hx : 0 < absI a := by omega
    have hy : 0 < absI b := by omega
    cases hs : (decide (a < 0) == decide (b < 0))
    · have h2 := hm.2 (by simpa using hs)
      have r := ref4_mul_unlike a b _ _ _ w A B hx ba.2 hy bb.2 hs rfl (Int.ediv_nonneg (by decide) (by omega))
      have hl := Int.ediv_lt_iff_lt_mul (a := 9223372036854775808) (b := absI a) (c := absI b) hy
      generalize absI a * absI b = p at *
      have e : mulS a b = if 9223372036854775808 / absI b < absI a then -9223372036854775808 else wrap64 (IntKind.u64.wrap (-IntKind.u64.wrap p)) := by
        by_cases hc : 9223372036854775808 < p
        · rw [if_pos (hl.2 hc)]
          unfold mulS
          rw [if_neg (by omega), if_pos (by omega)]
        · rw [if_neg (fun h => hc (hl.1 h)), IntWalk.u64_in p (by omega), neg_back p hp0 (by omega)]
          unfold mulS
          rw [if_neg (by omega), if_neg (by omega)]
          omega
      rw [e]
      exact r
    · have h2 := hm.1 (by simpa using hs)
      have r := ref4_mul_same a b _ _ _ w A B hx ba.2 hy bb.2 hs rfl (Int.ediv_nonneg (by decide) (by omega))
      have hl := Int.ediv_lt_iff_lt_mul (a := 9223372036854775807) (b := absI a) (c := absI b) hy
      generalize absI a * absI b = p at *
      have e : mulS a b = if 9223372036854775807 / absI b < absI a then 9223372036854775807 else wrap64 (IntKind.u64.wrap p) := by
        by_cases hc : 9223372036854775807 < p
        · rw [if_pos (hl.2 hc)]
          unfold mulS
          rw [if_pos (by omega)]
        · rw [if_neg (fun h => hc (hl.1 h)), IntWalk.u64_in p (by omega), IntWalk.wrap64_in p (by omega)]
          unfold mulS
          rw [if_neg (by omega), if_neg (by omega)]
          omega
      rw [e]
      exact r
theorem mulS_comm (a b : Int) : mulS a b = mulS b a := by unfold mulS; rw [Int.mul_comm]
end Go.Proofs.YtepdnkpmkhjlgaaGreat

/- Stage 4: ScaleOrder. -/
namespace Go.Proofs.YtepdnkpmkhjlgaaGreat
open Go.ChangeShapes Go.WideShapes Go.ChangeAt Go.RowKit Go.Joins

def lenS (z : Nat → Int) (n : Nat) (d : Int) : Int := 86400 + offK z (d + 1) n - offK z d n
def taiV (z : Nat → Int) (n : Nat) (d nano : Int) : Int := begS z n d * 1000000000 + nano
theorem tai_val {z : Nat → Int} {n : Nat} {x d nano : Int} (h : IsTab z n x) (d0 : -100000 ≤ d) (d1 : d ≤ 100000) (n0 : 0 ≤ nano) (n1 : nano < lenS z n d * 1000000000) :
    addS (addS (mulS d 86400000000000) nano) (mulS (offK z d n) 1000000000) = taiV z n d nano := by
  have b0 := offK_bd h d n (Nat.le_refl _)
  have b1 := offK_bd h (d + 1) n (Nat.le_refl _)
  unfold lenS at n1
  have e1 : mulS d 86400000000000 = d * 86400000000000 := by unfold mulS; rw [if_neg (by omega), if_neg (by omega)]
  have e2 : mulS (offK z d n) 1000000000 = offK z d n * 1000000000 := by unfold mulS; rw [if_neg (by omega), if_neg (by omega)]
  rw [e1, e2, addS_in (a := d * 86400000000000) (b := nano) (by omega) (by omega), addS_in (by omega) (by omega)]
  unfold taiV begS
  omega
/-- What TAI tells of a moment not far from now. -/
theorem tai_some (A : Option Addr) (n c : Nat) (x day nano : Int) (z : Nat → Int) (hn : n ≤ maxLen) (d0 : -100000 ≤ day) (d1 : day ≤ 100000) :
    (IsTab z n x ∧ 0 ≤ nano ∧ nano < lenS z n day * 1000000000 ∧ ∀ w : World, FlatAt w A 2 n z → Calls Tryz.prog 86 #[.agg #[.slice A n c, .int .i64 x], .agg #[.int .i64 day, .int .i64 nano]] w fun e w' => e = .returned (.tuple #[.int .i64 (taiV z n day nano), .int .i64 0]) ∧ Below w.heap.size w w') ∨
    (∀ w : World, FlatAt w A 2 n z → Calls Tryz.prog 86 #[.agg #[.slice A n c, .int .i64 x], .agg #[.int .i64 day, .int .i64 nano]] w fun e w' => e = .returned (.tuple #[.int .i64 0, .int .i64 1]) ∧ Below w.heap.size w w') := by
  by_cases ht : IsTab z n x
  · by_cases h0 : nano < 0
    · exact .inr fun w hz => scale_tai_neg A n c x day nano z w hz ht (by omega) (by omega) h0
    · by_cases h1 : nano < lenS z n day * 1000000000
      · refine .inl ⟨ht, by omega, h1, fun w hz => ?_⟩
        have r := scale_tai_ok A n c x day nano z w hz ht (by omega) (by omega) (by omega) h1
        rwa [tai_val ht d0 d1 (by omega) h1] at r
      · exact .inr fun w hz => scale_tai_late A n c x day nano z w hz ht (by omega) (by omega) (by omega) (by unfold lenS at h1; omega)
  · exact .inr fun w hz => scale_tai_notab A n c x day nano z w hz hn ht
theorem tai_lt {z : Nat → Int} {n : Nat} {x d d' m m' : Int} (h : IsTab z n x) (hd : d < d') (m1 : m < lenS z n d * 1000000000) (m0 : 0 ≤ m') : taiV z n d m < taiV z n d' m' := by
  have s := (begS_step h d).1
  have g := begS_mono h (show d + 1 ≤ d' from by omega)
  unfold lenS at m1
  unfold taiV
  omega
end Go.Proofs.YtepdnkpmkhjlgaaGreat

/- The reference's Length of a table (written by gen/ref3len.py). -/
namespace Go.Proofs.YtepdnkpmkhjlgaaGreat
open Go.RowKit

def LenAns (A : Option Addr) (n c : Nat) (x : Int) (z : Nat → Int) : Prop := ∀ (d : Int) (w : World), -1000000000 ≤ d → d ≤ 1000000000 → FlatAt w A 2 n z → Calls Tryz.prog 91 #[.agg #[.slice A n c, .int .i64 x], .int .i64 d] w fun e w' => e = .returned (.int .i64 (lenS z n d)) ∧ Below w.heap.size w w'
set_option maxRecDepth 100000 in
set_option maxHeartbeats 8000000 in
theorem ref3_length_yes (A : Option Addr) (n c : Nat) (x day : Int) (z : Nat → Int) (w : World) (hz : FlatAt w A 2 n z) (ht : IsTab z n x) (d0 : -1000000000 ≤ day) (d1 : day ≤ 1000000000) :
    Calls Tryz.prog 91 #[.agg #[.slice A n c, .int .i64 x], .int .i64 day] w fun e w' => e = .returned (.int .i64 (lenS z n day)) ∧ Below w.heap.size w w' := by
  unfold lenS
  have HB0 : Below w.heap.size w (w.alloc (.cells #[.slice A n c, .int .i64 x] 24)) := by (repeat' (first | (with_reducible exact Below.refl _ _) | (with_reducible assumption) | (with_reducible refine Below.trans ?_ (Below.mono (by with_reducible assumption) ?_)) | (with_reducible refine Below.alloc ?_ ?_ _) | (with_reducible refine Below.setCell ?_ ?_ _) | (with_reducible refine below_drewN ?_ _) | (with_reducible refine Below.drew ?_) | go_size))
  have b0 := offK_bd ht day n (Nat.le_refl _)
  have b1 := offK_bd ht (day + 1) n (Nat.le_refl _)
  have HT := Lib.hid ht
  have HZ := Lib.hid hz
  have HO := Lib.hid fun (d : Int) (W : World) (hw : FlatAt W A 2 n z) => ref3_offset_yes A n c x d z W hw ht
  clear hz ht
  have q0 : (w.alloc (.cells #[.slice A n c, .int .i64 x] 24)).cell? ⟨w.heap.size, 0, none⟩ = some (.slice A n c) := by simp
  have q1 : (w.alloc (.cells #[.slice A n c, .int .i64 x] 24)).cell? ⟨w.heap.size, 1, none⟩ = some (.int .i64 x) := by simp
  have l1 : w.heap.size < (w.alloc (.cells #[.slice A n c, .int .i64 x] 24)).heap.size := by simp
  have s1 : IntKind.i64.wrap (86400 + offK z (day + 1) n) = 86400 + offK z (day + 1) n := IntWalk.i64_in _ (by omega)
  have s2 : IntKind.i64.wrap (86400 + offK z (day + 1) n - offK z day n) = 86400 + offK z (day + 1) n - offK z day n := IntWalk.i64_in _ (by omega)
  have dd : day < 9223372036854775807 := by omega
  have s0 : IntKind.i64.wrap (day + 1) = day + 1 := IntWalk.i64_in _ (by omega)
  go_enter Tryz.func91, Tryz.ntmps91
  go_wp2
  refine wp_region_held_drew (S := (fun w' => w'.cell? ⟨w.heap.size, 0, none⟩ = some (.slice A n c) ∧ w'.cell? ⟨w.heap.size, 1, none⟩ = some (.int .i64 x))) (by kernel_rfl) ?_ (fun hHeld => ?_)
  · exact ⟨q0, q1⟩
  refine wpAnyH_take (i := 0) (v := ?_) rfl (by kernel_rfl) (by kernel_rfl) (by kernel_rfl) (fun _ _ _ h => h) (Or.inl ⟨by rfl, ?_⟩) (by assumption) ?_
  rotate_left
  · intro w' hSw; (try dsimp only at hSw); go_simp; (try with_reducible rfl)
  (try simp only [Act.put, List.setIfInBounds_toArray, List.set_cons_zero, List.set_cons_succ, List.getElem_toArray, List.getElem_cons_succ, List.getElem_cons_zero])
  refine wpAnyH_take (i := 1) (v := ?_) rfl (by kernel_rfl) (by kernel_rfl) (by kernel_rfl) (fun _ _ _ h => h) (Or.inl ⟨by rfl, ?_⟩) (by assumption) ?_
  rotate_left
  · intro w' hSw; (try dsimp only at hSw); go_simp; (try with_reducible rfl)
  (try simp only [Act.put, List.setIfInBounds_toArray, List.set_cons_zero, List.set_cons_succ, List.getElem_toArray, List.getElem_cons_succ, List.getElem_cons_zero])
  refine wpAnyH_take (i := 4) (v := ?_) rfl (by kernel_rfl) (by kernel_rfl) (by kernel_rfl) (fun _ _ _ h => h) (Or.inl ⟨by rfl, ?_⟩) (by assumption) ?_
  rotate_left
  · intro w' hSw; (try dsimp only at hSw); go_simp; (try with_reducible rfl)
  (try simp only [Act.put, List.setIfInBounds_toArray, List.set_cons_zero, List.set_cons_succ, List.getElem_toArray, List.getElem_cons_succ, List.getElem_cons_zero])
  refine wpAnyH_take (i := 5) (v := ?_) rfl (by kernel_rfl) (by kernel_rfl) (by kernel_rfl) (fun _ _ _ h => h) (Or.inl ⟨by rfl, ?_⟩) (by assumption) ?_
  rotate_left
  · intro w' hSw; (try dsimp only at hSw); go_simp; (try with_reducible rfl)
  (try simp only [Act.put, List.setIfInBounds_toArray, List.set_cons_zero, List.set_cons_succ, List.getElem_toArray, List.getElem_cons_succ, List.getElem_cons_zero])
  refine wpAnyH_ready (rs := [2]) (by kernel_rfl) (by simp) ?_
  refine AllReadyH.cons rfl (fun K hK => ?_) AllReadyH.nil
  go_simp
  (go_at_call 90; refine (HO.out (day + 1) _ (HZ.out.below (by (repeat' (first | (with_reducible exact Below.refl _ _) | (with_reducible assumption) | (with_reducible refine Below.trans ?_ (Below.mono (by with_reducible assumption) ?_)) | (with_reducible refine Below.alloc ?_ ?_ _) | (with_reducible refine Below.setCell ?_ ?_ _) | (with_reducible refine below_drewN ?_ _) | (with_reducible refine Below.drew ?_) | go_size))))).mono ?_; rintro e wa ⟨rfl, hba⟩; have a0 := (hba.cell (p := ⟨w.heap.size, 0, none⟩) l1).trans q0; have a1 := (hba.cell (p := ⟨w.heap.size, 1, none⟩) l1).trans q1; have za := Nat.lt_of_lt_of_le l1 hba.size; have HBa : Below w.heap.size w wa := Below.trans (by (repeat' (first | (with_reducible exact Below.refl _ _) | (with_reducible assumption) | (with_reducible refine Below.trans ?_ (Below.mono (by with_reducible assumption) ?_)) | (with_reducible refine Below.alloc ?_ ?_ _) | (with_reducible refine Below.setCell ?_ ?_ _) | (with_reducible refine below_drewN ?_ _) | (with_reducible refine Below.drew ?_) | go_size))) (hba.mono (Below.size (show Below w.heap.size w _ from (by (repeat' (first | (with_reducible exact Below.refl _ _) | (with_reducible assumption) | (with_reducible refine Below.trans ?_ (Below.mono (by with_reducible assumption) ?_)) | (with_reducible refine Below.alloc ?_ ?_ _) | (with_reducible refine Below.setCell ?_ ?_ _) | (with_reducible refine below_drewN ?_ _) | (with_reducible refine Below.drew ?_) | go_size)))))))
  (try dsimp only)
  refine hK.out _ _ ?_ (fun hHeld => ?_)
  · exact ⟨a0, a1⟩
  clear hK K
  (try simp only [Act.put, List.setIfInBounds_toArray, List.set_cons_zero, List.set_cons_succ, List.getElem_toArray, List.getElem_cons_succ, List.getElem_cons_zero])
  refine wpAnyH_take (i := 3) (v := ?_) rfl (by kernel_rfl) (by kernel_rfl) (by kernel_rfl) (fun _ _ _ h => h) (Or.inl ⟨by rfl, ?_⟩) (by assumption) ?_
  rotate_left
  · intro w' hSw; (try dsimp only at hSw); go_simp; (try with_reducible rfl)
  (try simp only [Act.put, List.setIfInBounds_toArray, List.set_cons_zero, List.set_cons_succ, List.getElem_toArray, List.getElem_cons_succ, List.getElem_cons_zero])
  refine wpAnyH_ready (rs := [6]) (by kernel_rfl) (by simp) ?_
  refine AllReadyH.cons rfl (fun K hK => ?_) AllReadyH.nil
  go_simp
  (go_at_call 90; refine (HO.out day _ (HZ.out.below (by (repeat' (first | (with_reducible exact Below.refl _ _) | (with_reducible assumption) | (with_reducible refine Below.trans ?_ (Below.mono (by with_reducible assumption) ?_)) | (with_reducible refine Below.alloc ?_ ?_ _) | (with_reducible refine Below.setCell ?_ ?_ _) | (with_reducible refine below_drewN ?_ _) | (with_reducible refine Below.drew ?_) | go_size))))).mono ?_; rintro e wb ⟨rfl, hbb⟩; have b0 := (hbb.cell (p := ⟨w.heap.size, 0, none⟩) za).trans a0; have b1 := (hbb.cell (p := ⟨w.heap.size, 1, none⟩) za).trans a1; have zb := Nat.lt_of_lt_of_le za hbb.size; have HBb : Below w.heap.size w wb := Below.trans (by (repeat' (first | (with_reducible exact Below.refl _ _) | (with_reducible assumption) | (with_reducible refine Below.trans ?_ (Below.mono (by with_reducible assumption) ?_)) | (with_reducible refine Below.alloc ?_ ?_ _) | (with_reducible refine Below.setCell ?_ ?_ _) | (with_reducible refine below_drewN ?_ _) | (with_reducible refine Below.drew ?_) | go_size))) (hbb.mono (Below.size (show Below w.heap.size w _ from (by (repeat' (first | (with_reducible exact Below.refl _ _) | (with_reducible assumption) | (with_reducible refine Below.trans ?_ (Below.mono (by with_reducible assumption) ?_)) | (with_reducible refine Below.alloc ?_ ?_ _) | (with_reducible refine Below.setCell ?_ ?_ _) | (with_reducible refine below_drewN ?_ _) | (with_reducible refine Below.drew ?_) | go_size)))))))
  (try dsimp only)
  refine hK.out _ _ ?_ (fun hHeld => ?_)
  · exact ⟨b0, b1⟩
  clear hK K
  (try simp only [Act.put, List.setIfInBounds_toArray, List.set_cons_zero, List.set_cons_succ, List.getElem_toArray, List.getElem_cons_succ, List.getElem_cons_zero])
  refine wpAnyH_take (i := 7) (v := ?_) rfl (by kernel_rfl) (by kernel_rfl) (by kernel_rfl) (fun _ _ _ h => h) (Or.inl ⟨by rfl, ?_⟩) (by assumption) ?_
  rotate_left
  · intro w' hSw; (try dsimp only at hSw); go_simp; (try with_reducible rfl)
  (try simp only [Act.put, List.setIfInBounds_toArray, List.set_cons_zero, List.set_cons_succ, List.getElem_toArray, List.getElem_cons_succ, List.getElem_cons_zero])
  refine wpAnyH_take (i := 8) (v := ?_) rfl (by kernel_rfl) (by kernel_rfl) (by kernel_rfl) (fun _ _ _ h => h) (Or.inl ⟨by rfl, ?_⟩) (by assumption) ?_
  rotate_left
  · intro w' hSw; (try dsimp only at hSw); go_simp; (try with_reducible rfl)
  (try simp only [Act.put, List.setIfInBounds_toArray, List.set_cons_zero, List.set_cons_succ, List.getElem_toArray, List.getElem_cons_succ, List.getElem_cons_zero])
  refine wpAnyH_done (by kernel_rfl) ?_ _
  go_wp2
  go_ret
  go_light
  exact ⟨rfl, by (repeat' (first | (with_reducible exact Below.refl _ _) | (with_reducible assumption) | (with_reducible refine Below.trans ?_ (Below.mono (by with_reducible assumption) ?_)) | (with_reducible refine Below.alloc ?_ ?_ _) | (with_reducible refine Below.setCell ?_ ?_ _) | (with_reducible refine below_drewN ?_ _) | (with_reducible refine Below.drew ?_) | go_size))⟩
end Go.Proofs.YtepdnkpmkhjlgaaGreat

