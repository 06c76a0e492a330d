/- What leap.Offset and leap.Length, and the reference's, answer of any leaps, a table or none, at any day. -/
import Derived.Test.YtonleiffbfdikaaDoorLeapLen
import Derived.Test.YtonleiffbfdikaaDoorLeapNo
import Derived.Test.YtonleiffbfdikaaDoorRef3Off
set_option linter.unusedSimpArgs false
set_option linter.unusedVariables false
namespace Go.Proofs.YtonleiffbfdikaaDoor
open Go.RowKit

theorem leap_offset_no (A : Option Addr) (n c : Nat) (x day : Int) (z : Nat → Int) (w : World) (hz : FlatAt w A 2 n z) (hn : n ≤ maxLen) (ht : ¬ IsTab z n x) :
    Calls Tryd.prog 16 #[.agg #[.slice A n c, .int .i64 x], .int .i64 day] w fun e w' => e = .returned (.int .i64 0) ∧ Below w.heap.size w w' := by
  have HB0 : Below w.heap.size w (w.alloc (.cells #[.slice A n c, .int .i64 x] 24)) := by (repeat' (first | (with_reducible exact Below.refl _ _) | (with_reducible assumption) | (with_reducible refine Below.trans ?_ (Below.mono (by with_reducible assumption) ?_)) | (with_reducible refine Below.alloc ?_ ?_ _) | (with_reducible refine Below.setCell ?_ ?_ _) | (with_reducible refine below_drewN ?_ _) | (with_reducible refine Below.drew ?_) | go_size))
  have HI := Lib.hid (leap_is_no A n c x z _ (hz.below HB0) hn ht)
  clear hz ht hn
  go_enter Tryd.func16, Tryd.ntmps16
  go_wp2_with fail
  refine HI.out.mono ?_; rintro e w1 ⟨rfl, hb1⟩
  have HB1 : Below w.heap.size w w1 := HB0.trans (hb1.mono HB0.size)
  clear hb1
  go_wp2
  go_ret
  exact ⟨rfl, HB1⟩
theorem leap_length_no (A : Option Addr) (n c : Nat) (x day : Int) (z : Nat → Int) (w : World) (hz : FlatAt w A 2 n z) (hn : n ≤ maxLen) (ht : ¬ IsTab z n x) :
    Calls Tryd.prog 18 #[.agg #[.slice A n c, .int .i64 x], .int .i64 day] w fun e w' => e = .returned (.int .i64 86400) ∧ Below w.heap.size w w' := by
  have HB0 : Below w.heap.size w (w.alloc (.cells #[.slice A n c, .int .i64 x] 24)) := by (repeat' (first | (with_reducible exact Below.refl _ _) | (with_reducible assumption) | (with_reducible refine Below.trans ?_ (Below.mono (by with_reducible assumption) ?_)) | (with_reducible refine Below.alloc ?_ ?_ _) | (with_reducible refine Below.setCell ?_ ?_ _) | (with_reducible refine below_drewN ?_ _) | (with_reducible refine Below.drew ?_) | go_size))
  have HI := Lib.hid (leap_is_no A n c x z _ (hz.below HB0) hn ht)
  clear hz ht hn
  go_enter Tryd.func18, Tryd.ntmps18
  go_wp2_with fail
  refine HI.out.mono ?_; rintro e w1 ⟨rfl, hb1⟩
  have HB1 : Below w.heap.size w w1 := HB0.trans (hb1.mono HB0.size)
  clear hb1
  go_wp2
  go_ret
  exact ⟨rfl, HB1⟩
theorem ref3_offset_no (A : Option Addr) (n c : Nat) (x day : Int) (z : Nat → Int) (w : World) (hz : FlatAt w A 2 n z) (hn : n ≤ maxLen) (ht : ¬ IsTab z n x) :
    Calls Tryd.prog 17 #[.agg #[.slice A n c, .int .i64 x], .int .i64 day] w fun e w' => e = .returned (.int .i64 0) ∧ Below w.heap.size w w' := by
  have HB0 : Below w.heap.size w (w.alloc (.cells #[.slice A n c, .int .i64 x] 24)) := by (repeat' (first | (with_reducible exact Below.refl _ _) | (with_reducible assumption) | (with_reducible refine Below.trans ?_ (Below.mono (by with_reducible assumption) ?_)) | (with_reducible refine Below.alloc ?_ ?_ _) | (with_reducible refine Below.setCell ?_ ?_ _) | (with_reducible refine below_drewN ?_ _) | (with_reducible refine Below.drew ?_) | go_size))
  have HI := Lib.hid (ref3_is A n c x z _ false (hz.below HB0) hn (by simp [ht]))
  clear hz ht hn
  go_enter Tryd.func17, Tryd.ntmps17
  go_wp2_with fail
  refine HI.out.mono ?_; rintro e w1 ⟨rfl, hb1⟩
  have HB1 : Below w.heap.size w w1 := HB0.trans (hb1.mono HB0.size)
  clear hb1
  go_wp2
  go_ret
  exact ⟨rfl, HB1⟩
def MaxD : Int := 9223372036854775807
def nextD (d : Int) : Int := if d < MaxD then d + 1 else d
set_option maxHeartbeats 4000000 in
theorem leap_length_max (A : Option Addr) (n c : Nat) (x : Int) (z : Nat → Int) (w : World) (hz : FlatAt w A 2 n z) (ht : IsTab z n x) :
    Calls Tryd.prog 18 #[.agg #[.slice A n c, .int .i64 x], .int .i64 9223372036854775807] w fun e w' => e = .returned (.int .i64 86400) ∧ Below w.heap.size w w' := by
  have HB0 : Below w.heap.size w (w.alloc (.cells #[.slice A n c, .int .i64 x] 24)) := by (repeat' (first | (with_reducible exact Below.refl _ _) | (with_reducible assumption) | (with_reducible refine Below.trans ?_ (Below.mono (by with_reducible assumption) ?_)) | (with_reducible refine Below.alloc ?_ ?_ _) | (with_reducible refine Below.setCell ?_ ?_ _) | (with_reducible refine below_drewN ?_ _) | (with_reducible refine Below.drew ?_) | go_size))
  have n1 := ht.1
  have n100 := ht.2.1
  have b0 := offK_bd ht 9223372036854775807 n (Nat.le_refl _)
  have HT := Lib.hid ht
  have HZ := Lib.hid hz
  clear hz ht
  go_enter Tryd.func18, Tryd.ntmps18
  go_wp2_with fail
  refine (leap_is_yes A n c x z _ (HZ.out.below HB0) HT.out).mono ?_; rintro e w1 ⟨rfl, hb1⟩
  have HB1 : Below w.heap.size w w1 := HB0.trans (hb1.mono HB0.size)
  have q0 : w1.cell? ⟨w.heap.size, 0, none⟩ = some (.slice A n c) := (hb1.cell (p := ⟨w.heap.size, 0, none⟩) (by simp)).trans (by simp)
  have q1 : w1.cell? ⟨w.heap.size, 1, none⟩ = some (.int .i64 x) := (hb1.cell (p := ⟨w.heap.size, 1, none⟩) (by simp)).trans (by simp)
  have l1 : w.heap.size < w1.heap.size := by have := hb1.size; simp at this; omega
  clear hb1
  generalize hO0 : offK z 9223372036854775807 n = o0 at *
  have H0 := Lib.hid hO0
  have s1 : IntKind.i64.wrap (86400 + o0) = 86400 + o0 := IntWalk.i64_in _ (by omega)
  have s2 : IntKind.i64.wrap (86400 + o0 - o0) = 86400 := by rw [show 86400 + o0 - o0 = 86400 from by omega]; exact IntWalk.i64_in _ (by omega)
  clear hO0
  have s0 : wrap64 9223372036854775808 = -9223372036854775808 := by kernel_rfl
  go_wp2
  go_region_held3 (fun w' => w'.cell? ⟨w.heap.size, 0, none⟩ = some (.slice A n c) ∧ w'.cell? ⟨w.heap.size, 1, none⟩ = some (.int .i64 x)) (exact ⟨q0, q1⟩)
    (first | (go_at_call 28; refine (leap_off A n c x _ z _ (HZ.out.below (by (repeat' (first | (with_reducible exact Below.refl _ _) | (with_reducible assumption) | (with_reducible refine Below.trans ?_ (Below.mono (by with_reducible assumption) ?_)) | (with_reducible refine Below.alloc ?_ ?_ _) | (with_reducible refine Below.setCell ?_ ?_ _) | (with_reducible refine below_drewN ?_ _) | (with_reducible refine Below.drew ?_) | go_size)))) n1 (by omega)).mono ?_; rintro e w3 ⟨rfl, hb3⟩; rw [H0.out]; have q0 := (hb3.cell (p := ⟨w.heap.size, 0, none⟩) l1).trans q0; have q1 := (hb3.cell (p := ⟨w.heap.size, 1, none⟩) l1).trans q1; have l1 := Nat.lt_of_lt_of_le l1 hb3.size; have HB1 : Below w.heap.size w w3 := Below.trans (by (repeat' (first | (with_reducible exact Below.refl _ _) | (with_reducible assumption) | (with_reducible refine Below.trans ?_ (Below.mono (by with_reducible assumption) ?_)) | (with_reducible refine Below.alloc ?_ ?_ _) | (with_reducible refine Below.setCell ?_ ?_ _) | (with_reducible refine below_drewN ?_ _) | (with_reducible refine Below.drew ?_) | go_size))) (hb3.mono (Below.size (show Below w.heap.size w _ from (by (repeat' (first | (with_reducible exact Below.refl _ _) | (with_reducible assumption) | (with_reducible refine Below.trans ?_ (Below.mono (by with_reducible assumption) ?_)) | (with_reducible refine Below.alloc ?_ ?_ _) | (with_reducible refine Below.setCell ?_ ?_ _) | (with_reducible refine below_drewN ?_ _) | (with_reducible refine Below.drew ?_) | go_size))))))))
  go_wp2
  go_ret
  go_light
  exact ⟨rfl, by (repeat' (first | (with_reducible exact Below.refl _ _) | (with_reducible assumption) | (with_reducible refine Below.trans ?_ (Below.mono (by with_reducible assumption) ?_)) | (with_reducible refine Below.alloc ?_ ?_ _) | (with_reducible refine Below.setCell ?_ ?_ _) | (with_reducible refine below_drewN ?_ _) | (with_reducible refine Below.drew ?_) | go_size))⟩
theorem next_max : nextD 9223372036854775807 = 9223372036854775807 := by decide
theorem next_lt {d : Int} (h : d < 9223372036854775807) : nextD d = d + 1 := by unfold nextD MaxD; rw [if_pos h]
set_option maxHeartbeats 4000000 in
theorem ref3_length_any (A : Option Addr) (n c : Nat) (x day : Int) (z : Nat → Int) (off : Int → Int) (w : World) (hz : FlatAt w A 2 n z) (hb : ∀ d, 0 ≤ off d ∧ off d ≤ 1000)
    (hO : ∀ (d : Int) (w : World), FlatAt w A 2 n z → Calls Tryd.prog 17 #[.agg #[.slice A n c, .int .i64 x], .int .i64 d] w fun e w' => e = .returned (.int .i64 (off d)) ∧ Below w.heap.size w w') (d0 : -9223372036854775808 ≤ day) (d1 : day ≤ 9223372036854775807) :
    Calls Tryd.prog 19 #[.agg #[.slice A n c, .int .i64 x], .int .i64 day] w fun e w' => e = .returned (.int .i64 (86400 + off (nextD day) - off day)) ∧ Below w.heap.size w w' := by
  have HB0 : Below w.heap.size w (w.alloc (.cells #[.slice A n c, .int .i64 x] 24)) := by (repeat' (first | (with_reducible exact Below.refl _ _) | (with_reducible assumption) | (with_reducible refine Below.trans ?_ (Below.mono (by with_reducible assumption) ?_)) | (with_reducible refine Below.alloc ?_ ?_ _) | (with_reducible refine Below.setCell ?_ ?_ _) | (with_reducible refine below_drewN ?_ _) | (with_reducible refine Below.drew ?_) | go_size))
  have b0 := hb day
  have b1 := hb (nextD day)
  have HZ := Lib.hid hz
  have HO := Lib.hid hO
  have q0 : (w.alloc (.cells #[.slice A n c, .int .i64 x] 24)).cell? ⟨w.heap.size, 0, none⟩ = some (.slice A n c) := by simp
  have q1 : (w.alloc (.cells #[.slice A n c, .int .i64 x] 24)).cell? ⟨w.heap.size, 1, none⟩ = some (.int .i64 x) := by simp
  have l1 : w.heap.size < (w.alloc (.cells #[.slice A n c, .int .i64 x] 24)).heap.size := by simp
  generalize hn : nextD day = nx at *
  have s1 : IntKind.i64.wrap (86400 + off nx) = 86400 + off nx := IntWalk.i64_in _ (by omega)
  have s2 : IntKind.i64.wrap (86400 + off nx - off day) = 86400 + off nx - off day := IntWalk.i64_in _ (by omega)
  clear hz hO hb
  by_cases hd : day < 9223372036854775807
  · have dd : decide (day < 9223372036854775807) = true := decide_eq_true hd
    have hnx : nx = day + 1 := by rw [← hn]; exact next_lt hd
    have s0 : IntKind.i64.wrap (day + 1) = nx := by rw [hnx]; exact IntWalk.i64_in _ (by omega)
    clear hn hnx hd
    go_enter Tryd.func19, Tryd.ntmps19
    go_wp2
    go_region_held3 (fun w' => w'.cell? ⟨w.heap.size, 0, none⟩ = some (.slice A n c) ∧ w'.cell? ⟨w.heap.size, 1, none⟩ = some (.int .i64 x)) (exact ⟨q0, q1⟩)
      (first | (go_at_call 17; refine (HO.out _ _ (HZ.out.below (by (repeat' (first | (with_reducible exact Below.refl _ _) | (with_reducible assumption) | (with_reducible refine Below.trans ?_ (Below.mono (by with_reducible assumption) ?_)) | (with_reducible refine Below.alloc ?_ ?_ _) | (with_reducible refine Below.setCell ?_ ?_ _) | (with_reducible refine below_drewN ?_ _) | (with_reducible refine Below.drew ?_) | go_size))))).mono ?_; rintro e w3 ⟨rfl, hb3⟩; have q0 := (hb3.cell (p := ⟨w.heap.size, 0, none⟩) l1).trans q0; have q1 := (hb3.cell (p := ⟨w.heap.size, 1, none⟩) l1).trans q1; have l1 := Nat.lt_of_lt_of_le l1 hb3.size; have HB1 : Below w.heap.size w w3 := Below.trans (by (repeat' (first | (with_reducible exact Below.refl _ _) | (with_reducible assumption) | (with_reducible refine Below.trans ?_ (Below.mono (by with_reducible assumption) ?_)) | (with_reducible refine Below.alloc ?_ ?_ _) | (with_reducible refine Below.setCell ?_ ?_ _) | (with_reducible refine below_drewN ?_ _) | (with_reducible refine Below.drew ?_) | go_size))) (hb3.mono (Below.size (show Below w.heap.size w _ from (by (repeat' (first | (with_reducible exact Below.refl _ _) | (with_reducible assumption) | (with_reducible refine Below.trans ?_ (Below.mono (by with_reducible assumption) ?_)) | (with_reducible refine Below.alloc ?_ ?_ _) | (with_reducible refine Below.setCell ?_ ?_ _) | (with_reducible refine below_drewN ?_ _) | (with_reducible refine Below.drew ?_) | go_size))))))))
    go_wp2
    go_ret
    go_light
    exact ⟨rfl, by (repeat' (first | (with_reducible exact Below.refl _ _) | (with_reducible assumption) | (with_reducible refine Below.trans ?_ (Below.mono (by with_reducible assumption) ?_)) | (with_reducible refine Below.alloc ?_ ?_ _) | (with_reducible refine Below.setCell ?_ ?_ _) | (with_reducible refine below_drewN ?_ _) | (with_reducible refine Below.drew ?_) | go_size))⟩
  · have hdm : day = 9223372036854775807 := by omega
    have hnx : nx = day := by rw [← hn, hdm]; exact next_max
    subst hnx
    have dd : decide (nx < 9223372036854775807) = false := decide_eq_false hd
    clear hn hd hdm
    go_enter Tryd.func19, Tryd.ntmps19
    go_wp2
    go_region_held3 (fun w' => w'.cell? ⟨w.heap.size, 0, none⟩ = some (.slice A n c) ∧ w'.cell? ⟨w.heap.size, 1, none⟩ = some (.int .i64 x)) (exact ⟨q0, q1⟩)
      (first | (go_at_call 17; refine (HO.out _ _ (HZ.out.below (by (repeat' (first | (with_reducible exact Below.refl _ _) | (with_reducible assumption) | (with_reducible refine Below.trans ?_ (Below.mono (by with_reducible assumption) ?_)) | (with_reducible refine Below.alloc ?_ ?_ _) | (with_reducible refine Below.setCell ?_ ?_ _) | (with_reducible refine below_drewN ?_ _) | (with_reducible refine Below.drew ?_) | go_size))))).mono ?_; rintro e w3 ⟨rfl, hb3⟩; have q0 := (hb3.cell (p := ⟨w.heap.size, 0, none⟩) l1).trans q0; have q1 := (hb3.cell (p := ⟨w.heap.size, 1, none⟩) l1).trans q1; have l1 := Nat.lt_of_lt_of_le l1 hb3.size; have HB1 : Below w.heap.size w w3 := Below.trans (by (repeat' (first | (with_reducible exact Below.refl _ _) | (with_reducible assumption) | (with_reducible refine Below.trans ?_ (Below.mono (by with_reducible assumption) ?_)) | (with_reducible refine Below.alloc ?_ ?_ _) | (with_reducible refine Below.setCell ?_ ?_ _) | (with_reducible refine below_drewN ?_ _) | (with_reducible refine Below.drew ?_) | go_size))) (hb3.mono (Below.size (show Below w.heap.size w _ from (by (repeat' (first | (with_reducible exact Below.refl _ _) | (with_reducible assumption) | (with_reducible refine Below.trans ?_ (Below.mono (by with_reducible assumption) ?_)) | (with_reducible refine Below.alloc ?_ ?_ _) | (with_reducible refine Below.setCell ?_ ?_ _) | (with_reducible refine below_drewN ?_ _) | (with_reducible refine Below.drew ?_) | go_size))))))))
    go_wp2
    go_ret
    go_light
    exact ⟨ret_int (by rw [show IntKind.i64.wrap 86400 = 86400 from (IntWalk.i64_in _ (by omega))]; omega), by (repeat' (first | (with_reducible exact Below.refl _ _) | (with_reducible assumption) | (with_reducible refine Below.trans ?_ (Below.mono (by with_reducible assumption) ?_)) | (with_reducible refine Below.alloc ?_ ?_ _) | (with_reducible refine Below.setCell ?_ ?_ _) | (with_reducible refine below_drewN ?_ _) | (with_reducible refine Below.drew ?_) | go_size))⟩
/-- What is answered of some leaps, whatever they are. -/
structure LeapAns (A : Option Addr) (n c : Nat) (x : Int) (z : Nat → Int) (off : Int → Int) : Prop where
  bd : ∀ d, 0 ≤ off d ∧ off d ≤ 1000
  O : ∀ (d : Int) (w : World), FlatAt w A 2 n z → Calls Tryd.prog 16 #[.agg #[.slice A n c, .int .i64 x], .int .i64 d] w fun e w' => e = .returned (.int .i64 (off d)) ∧ Below w.heap.size w w'
  L : ∀ (d : Int) (w : World), FlatAt w A 2 n z → -9223372036854775808 ≤ d → d ≤ 9223372036854775807 → Calls Tryd.prog 18 #[.agg #[.slice A n c, .int .i64 x], .int .i64 d] w fun e w' => e = .returned (.int .i64 (86400 + off (nextD d) - off d)) ∧ Below w.heap.size w w'
  RO : ∀ (d : Int) (w : World), FlatAt w A 2 n z → Calls Tryd.prog 17 #[.agg #[.slice A n c, .int .i64 x], .int .i64 d] w fun e w' => e = .returned (.int .i64 (off d)) ∧ Below w.heap.size w w'
theorem leapAns_ex (A : Option Addr) (n c : Nat) (x : Int) (z : Nat → Int) (hn : n ≤ maxLen) : ∃ off, LeapAns A n c x z off := by
  by_cases ht : IsTab z n x
  · refine ⟨fun d => offK z d n, fun d => offK_bd ht d n (Nat.le_refl _), fun d w hz => leap_offset_yes A n c x d z w hz ht, fun d w hz d0 d1 => ?_, fun d w hz => ref3_offset_yes A n c x d z w hz ht⟩
    by_cases hd : d < 9223372036854775807
    · rw [next_lt hd]
      exact leap_length_yes A n c x d z w hz ht d0 hd
    · obtain rfl : d = 9223372036854775807 := by omega
      rw [next_max, show (86400 : Int) + offK z 9223372036854775807 n - offK z 9223372036854775807 n = 86400 from by omega]
      exact leap_length_max A n c x z w hz ht
  · exact ⟨fun _ => 0, fun _ => by omega, fun d w hz => leap_offset_no A n c x d z w hz hn ht, fun d w hz _ _ => leap_length_no A n c x d z w hz hn ht, fun d w hz => ref3_offset_no A n c x d z w hz hn ht⟩
end Go.Proofs.YtonleiffbfdikaaDoor
