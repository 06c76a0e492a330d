/- The contracts of package hlc: stamps, Compare, Pack. -/
import Derived.Test.YtpflbhcgkndpcaaGreatDoorBase
set_option linter.unusedSimpArgs false
set_option linter.unusedVariables false
namespace Go.Proofs.YtpflbhcgkndpcaaGreatDoor
open Go.RowKit

/-- Is it a count of milliseconds, a stamp? -/
def isMilliB (n : Int) : Bool := decide (0 ≤ n) && decide (n ≤ 281474976710655)
def isStampB (m c : Int) : Bool := isMilliB m && (decide (0 ≤ c) && decide (c ≤ 65535))
/-- Where a stamp stands to another one. -/
def cmp1 (a b : Int) : Int := if a < b then -1 else if b < a then 1 else 0
def or2 (a b : Int) : Int := if a = 0 then b else a
def cmp2 (m c m' c' : Int) : Int := or2 (cmp1 m m') (cmp1 c c')

theorem hlc_isMilli (n : Int) (w : World) : Calls Tryz.prog 167 #[.int .i64 n] w fun e w' => e = .returned (.bool (isMilliB n)) ∧ w = w' := by
  unfold isMilliB
  by_cases h : 0 ≤ n
  · go_enter Tryz.func167, Tryz.ntmps167
    go_wp2
    go_ret
    exact ⟨by simp [h], rfl⟩
  · have h' : decide (0 ≤ n) = false := by simpa using h
    go_enter Tryz.func167, Tryz.ntmps167
    go_wp2
    go_ret
    exact ⟨by simp [h'], rfl⟩
set_option maxHeartbeats 400000 in
theorem hlc_isStamp (m c : Int) (w : World) : Calls Tryz.prog 117 #[.agg #[.int .i64 m, .int .i64 c]] w fun e w' => e = .returned (.bool (isStampB m c)) ∧ Below w.heap.size w w' := by
  unfold isStampB
  cases h1 : isMilliB m
  · go_enter Tryz.func117, Tryz.ntmps117
    go_wp2_with (go_at_call 167; refine (hlc_isMilli _ _).mono ?_; rintro e w' ⟨rfl, rfl⟩)
    go_ret
    go_light
    exact ⟨by simp, by (repeat' (first | (with_reducible exact Below.refl _ _) | (with_reducible assumption) | (with_reducible refine Below.trans ?_ (Below.mono (by with_reducible assumption) ?_)) | (with_reducible refine Below.alloc ?_ ?_ _) | (with_reducible refine Below.setCell ?_ ?_ _) | (with_reducible refine below_drewN ?_ _) | (with_reducible refine Below.drew ?_) | go_size))⟩
  · by_cases h2 : 0 ≤ c
    · go_enter Tryz.func117, Tryz.ntmps117
      go_wp2_with (go_at_call 167; refine (hlc_isMilli _ _).mono ?_; rintro e w' ⟨rfl, rfl⟩)
      go_ret
      go_light
      exact ⟨by simp [h2], by (repeat' (first | (with_reducible exact Below.refl _ _) | (with_reducible assumption) | (with_reducible refine Below.trans ?_ (Below.mono (by with_reducible assumption) ?_)) | (with_reducible refine Below.alloc ?_ ?_ _) | (with_reducible refine Below.setCell ?_ ?_ _) | (with_reducible refine below_drewN ?_ _) | (with_reducible refine Below.drew ?_) | go_size))⟩
    · have h' : decide (0 ≤ c) = false := by simpa using h2
      go_enter Tryz.func117, Tryz.ntmps117
      go_wp2_with (go_at_call 167; refine (hlc_isMilli _ _).mono ?_; rintro e w' ⟨rfl, rfl⟩)
      go_ret
      go_light
      exact ⟨by simp [h'], by (repeat' (first | (with_reducible exact Below.refl _ _) | (with_reducible assumption) | (with_reducible refine Below.trans ?_ (Below.mono (by with_reducible assumption) ?_)) | (with_reducible refine Below.alloc ?_ ?_ _) | (with_reducible refine Below.setCell ?_ ?_ _) | (with_reducible refine below_drewN ?_ _) | (with_reducible refine Below.drew ?_) | go_size))⟩
theorem cmp_compare (a b : Int) (w : World) : Calls Tryz.prog 67 #[.int .i64 a, .int .i64 b] w fun e w' => e = .returned (.int .i64 (cmp1 a b)) ∧ w = w' := by
  go_enter Tryz.func67, Tryz.ntmps67
  go_wp2
  all_goals
    go_ret
    go_light
    exact ⟨ret_int (by unfold cmp1; first | rw [if_pos (by omega)] | (rw [if_neg (by omega)]; first | rw [if_pos (by omega)] | rw [if_neg (by omega)])), rfl⟩
theorem cmp_or2 (a b : Int) (B : Nat) (w : World) (h0 : w.cell? ⟨B, 0, none⟩ = some (.int .i64 a)) (h1 : w.cell? ⟨B, 1, none⟩ = some (.int .i64 b)) :
    Calls Tryz.prog 66 #[.slice (some ⟨B, 0, none⟩) 2 2] w fun e w' => e = .returned (.int .i64 (or2 a b)) ∧ w = w' := by
  unfold or2
  by_cases ha : a = 0
  · subst ha
    by_cases hb : b = 0
    · subst hb
      go_enter Tryz.func66, Tryz.ntmps66
      go_wp2
      go_rounds 3
      go_ret
      go_light
      exact ⟨rfl, rfl⟩
    · have hb' : (b == 0) = false := by simpa using hb
      go_enter Tryz.func66, Tryz.ntmps66
      go_wp2
      go_rounds 3
      go_ret
      go_light
      exact ⟨rfl, rfl⟩
  · have ha' : (a == 0) = false := by simpa using ha
    rw [if_neg ha]
    clear ha
    go_enter Tryz.func66, Tryz.ntmps66
    go_wp2
    go_rounds 3
    go_ret
    go_light
    exact ⟨rfl, rfl⟩
set_option maxHeartbeats 400000 in
theorem hlc_compare (m c m' c' : Int) (w : World) : Calls Tryz.prog 37 #[.agg #[.int .i64 m, .int .i64 c], .agg #[.int .i64 m', .int .i64 c']] w fun e w' => e = .returned (.int .i64 (cmp2 m c m' c')) ∧ Below w.heap.size w w' := by
  show Calls Tryz.prog 37 _ w fun e w' => e = .returned (.int .i64 (or2 (cmp1 m m') (cmp1 c c'))) ∧ Below w.heap.size w w'
  go_enter Tryz.func37, Tryz.ntmps37
  go_wp2
  go_region_held3 (fun w' => w'.cell? ⟨w.heap.size, 0, none⟩ = some (.int .i64 m) ∧ w'.cell? ⟨w.heap.size, 1, none⟩ = some (.int .i64 c) ∧ w'.cell? ⟨w.heap.size + 1, 0, none⟩ = some (.int .i64 m') ∧ w'.cell? ⟨w.heap.size + 1, 1, none⟩ = some (.int .i64 c')) (simp [go_sem, World.cell?_alloc_past])
    (first
      | (go_at_call 67; refine (cmp_compare _ _ _).mono ?_; rintro e w' ⟨rfl, rfl⟩)
      | (go_at_call 66; refine (cmp_or2 (cmp1 m m') (cmp1 c c') (w.heap.size + 1 + 1) _ (by simp [go_sem]) (by simp [go_sem])).mono ?_; rintro e w' ⟨rfl, rfl⟩))
  go_wp2
  go_ret
  go_light
  exact ⟨rfl, by (repeat' (first | (with_reducible exact Below.refl _ _) | (with_reducible assumption) | (with_reducible refine Below.trans ?_ (Below.mono (by with_reducible assumption) ?_)) | (with_reducible refine Below.alloc ?_ ?_ _) | (with_reducible refine Below.setCell ?_ ?_ _) | (with_reducible refine below_drewN ?_ _) | (with_reducible refine Below.drew ?_) | go_size))⟩
theorem hlc_pack_no (m c : Int) (w : World) (h : isStampB m c = false) : Calls Tryz.prog 65 #[.agg #[.int .i64 m, .int .i64 c]] w fun e w' => e = .returned (.tuple #[.int .u64 0, .int .i64 1]) ∧ Below w.heap.size w w' := by
  go_enter Tryz.func65, Tryz.ntmps65
  go_wp2_with (go_at_call 117; refine (hlc_isStamp m c _).mono ?_; rintro e w1 ⟨rfl, hb1⟩; obtain ⟨hc1, hf1⟩ := bcell hb1; have hz1 := hb1.size; (try simp only [World.size_alloc, World.size_setCell, World.heap_drewN] at hb1 hc1 hf1 hz1); (try have ha01 : w.heap.size < w1.heap.size := by omega); (try have ha11 : w.heap.size + 1 < w1.heap.size := by omega); (try have ha21 : w.heap.size + 2 < w1.heap.size := by omega); (try have hal1 : w.heap.size ≤ w1.heap.size := by omega); (try have ham1 : w.heap.size < w1.heap.size + 2 := by omega))
  go_ret2
  go_light
  exact ⟨rfl, by (repeat' (first | (with_reducible exact Below.refl _ _) | (with_reducible assumption) | (with_reducible refine Below.trans ?_ (Below.mono (by with_reducible assumption) ?_)) | (with_reducible refine Below.alloc ?_ ?_ _) | (with_reducible refine Below.setCell ?_ ?_ _) | (with_reducible refine below_drewN ?_ _) | (with_reducible refine Below.drew ?_) | go_size))⟩
theorem stamp_bd {m c : Int} (h : isStampB m c = true) : 0 ≤ m ∧ m ≤ 281474976710655 ∧ 0 ≤ c ∧ c ≤ 65535 := by
  simp [isStampB, isMilliB] at h; omega
theorem bits_pack (m c : Int) (m0 : 0 ≤ m) (m1 : m ≤ 281474976710655) (c0 : 0 ≤ c) (c1 : c ≤ 65535) : bits .or .u64 (IntKind.u64.wrap (IntKind.u64.wrap m * 65536)) (IntKind.u64.wrap c) = m * 65536 + c := by
  obtain ⟨m, rfl⟩ := Int.eq_ofNat_of_zero_le m0
  obtain ⟨c, rfl⟩ := Int.eq_ofNat_of_zero_le c0
  rw [IntWalk.u64_in (m : Int) (by omega), IntWalk.u64_in (c : Int) (by omega), IntWalk.u64_in ((m : Int) * 65536) (by omega)]
  show IntKind.u64.wrap ((BitVec.ofInt 64 ((m : Int) * 65536) ||| BitVec.ofInt 64 (c : Int)).toNat : Int) = _
  have e1 : (BitVec.ofInt 64 ((m : Int) * 65536)).toNat = m * 65536 := by
    rw [show ((m : Int) * 65536) = ((m * 65536 : Nat) : Int) from by omega, BitVec.ofInt_natCast, BitVec.toNat_ofNat]; exact Nat.mod_eq_of_lt (by omega)
  have e2 : (BitVec.ofInt 64 (c : Int)).toNat = c := by rw [BitVec.ofInt_natCast, BitVec.toNat_ofNat]; exact Nat.mod_eq_of_lt (by omega)
  have e3 : m * 65536 ||| c = m * 65536 + c := by
    have := Nat.two_pow_add_eq_or_of_lt (i := 16) (b := c) (by omega) m
    rw [show m * 65536 = 2 ^ 16 * m from by omega]
    exact this.symm
  rw [BitVec.toNat_or, e1, e2, e3, IntWalk.u64_in _ (by omega)]
  omega
set_option maxHeartbeats 400000 in
theorem hlc_pack_yes (m c : Int) (w : World) (h : isStampB m c = true) : Calls Tryz.prog 65 #[.agg #[.int .i64 m, .int .i64 c]] w fun e w' => e = .returned (.tuple #[.int .u64 (m * 65536 + c), .int .i64 0]) ∧ Below w.heap.size w w' := by
  obtain ⟨m0, m1, c0, c1⟩ := stamp_bd h
  have hp := Lib.hid (bits_pack m c m0 m1 c0 c1)
  clear m0 m1 c0 c1
  go_enter Tryz.func65, Tryz.ntmps65
  go_wp2_with (go_at_call 117; refine (hlc_isStamp m c _).mono ?_; rintro e w1 ⟨rfl, hb1⟩; obtain ⟨hc1, hf1⟩ := bcell hb1; have hz1 := hb1.size; (try simp only [World.size_alloc, World.size_setCell, World.heap_drewN] at hb1 hc1 hf1 hz1); (try have ha01 : w.heap.size < w1.heap.size := by omega); (try have ha11 : w.heap.size + 1 < w1.heap.size := by omega); (try have ha21 : w.heap.size + 2 < w1.heap.size := by omega); (try have hal1 : w.heap.size ≤ w1.heap.size := by omega); (try have ham1 : w.heap.size < w1.heap.size + 2 := by omega))
  go_ret2
  go_light
  refine ⟨?_, by (repeat' (first | (with_reducible exact Below.refl _ _) | (with_reducible assumption) | (with_reducible refine Below.trans ?_ (Below.mono (by with_reducible assumption) ?_)) | (with_reducible refine Below.alloc ?_ ?_ _) | (with_reducible refine Below.setCell ?_ ?_ _) | (with_reducible refine below_drewN ?_ _) | (with_reducible refine Below.drew ?_) | go_size))⟩
  show Ending.returned (.tuple #[.int .u64 (bits .or .u64 (IntKind.u64.wrap (IntKind.u64.wrap m * 65536)) (IntKind.u64.wrap c)), .int .i64 0]) = _
  rw [hp.out]
end Go.Proofs.YtpflbhcgkndpcaaGreatDoor
