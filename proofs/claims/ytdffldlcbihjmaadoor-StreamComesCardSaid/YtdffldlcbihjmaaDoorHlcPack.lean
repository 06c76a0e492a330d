/- The contracts of package hlc: stamps, Pack. -/
import Derived.Test.YtdffldlcbihjmaaDoorBase
set_option linter.unusedSimpArgs false
set_option linter.unusedVariables false
namespace Go.Proofs.YtdffldlcbihjmaaDoor
open Go.RowKit

/-- Is it a count of milliseconds, a stamp? -/
def isMilliB (n : Int) : Bool := decide (0 ≤ n) && decide (n ≤ 281474976710655)
def isStampB (m c : Int) : Bool := isMilliB m && (decide (0 ≤ c) && decide (c ≤ 65535))
/-- Where a stamp stands to another one. -/
theorem hlc_isMilli (n : Int) (w : World) : Calls Tryd.prog 107 #[.int .i64 n] w fun e w' => e = .returned (.bool (isMilliB n)) ∧ w = w' := by
  unfold isMilliB
  by_cases h : 0 ≤ n
  · go_enter Tryd.func107, Tryd.ntmps107
    go_wp2
    go_ret
    exact ⟨by simp [h], rfl⟩
  · have h' : decide (0 ≤ n) = false := by simpa using h
    go_enter Tryd.func107, Tryd.ntmps107
    go_wp2
    go_ret
    exact ⟨by simp [h'], rfl⟩
set_option maxHeartbeats 400000 in
theorem hlc_isStamp (m c : Int) (w : World) : Calls Tryd.prog 106 #[.agg #[.int .i64 m, .int .i64 c]] w fun e w' => e = .returned (.bool (isStampB m c)) ∧ Below w.heap.size w w' := by
  unfold isStampB
  cases h1 : isMilliB m
  · go_enter Tryd.func106, Tryd.ntmps106
    go_wp2_with (go_at_call 107; refine (hlc_isMilli _ _).mono ?_; rintro e w' ⟨rfl, rfl⟩)
    go_ret
    go_light
    exact ⟨by simp, by (repeat' (first | (with_reducible exact Below.refl _ _) | (with_reducible assumption) | (with_reducible refine Below.trans ?_ (Below.mono (by with_reducible assumption) ?_)) | (with_reducible refine Below.alloc ?_ ?_ _) | (with_reducible refine Below.setCell ?_ ?_ _) | (with_reducible refine below_drewN ?_ _) | (with_reducible refine Below.drew ?_) | go_size))⟩
  · by_cases h2 : 0 ≤ c
    · go_enter Tryd.func106, Tryd.ntmps106
      go_wp2_with (go_at_call 107; refine (hlc_isMilli _ _).mono ?_; rintro e w' ⟨rfl, rfl⟩)
      go_ret
      go_light
      exact ⟨by simp [h2], by (repeat' (first | (with_reducible exact Below.refl _ _) | (with_reducible assumption) | (with_reducible refine Below.trans ?_ (Below.mono (by with_reducible assumption) ?_)) | (with_reducible refine Below.alloc ?_ ?_ _) | (with_reducible refine Below.setCell ?_ ?_ _) | (with_reducible refine below_drewN ?_ _) | (with_reducible refine Below.drew ?_) | go_size))⟩
    · have h' : decide (0 ≤ c) = false := by simpa using h2
      go_enter Tryd.func106, Tryd.ntmps106
      go_wp2_with (go_at_call 107; refine (hlc_isMilli _ _).mono ?_; rintro e w' ⟨rfl, rfl⟩)
      go_ret
      go_light
      exact ⟨by simp [h'], by (repeat' (first | (with_reducible exact Below.refl _ _) | (with_reducible assumption) | (with_reducible refine Below.trans ?_ (Below.mono (by with_reducible assumption) ?_)) | (with_reducible refine Below.alloc ?_ ?_ _) | (with_reducible refine Below.setCell ?_ ?_ _) | (with_reducible refine below_drewN ?_ _) | (with_reducible refine Below.drew ?_) | go_size))⟩
theorem hlc_pack_no (m c : Int) (w : World) (h : isStampB m c = false) : Calls Tryd.prog 103 #[.agg #[.int .i64 m, .int .i64 c]] w fun e w' => e = .returned (.tuple #[.int .u64 0, .int .i64 1]) ∧ Below w.heap.size w w' := by
  go_enter Tryd.func103, Tryd.ntmps103
  go_wp2_with (go_at_call 106; refine (hlc_isStamp m c _).mono ?_; rintro e w1 ⟨rfl, hb1⟩; obtain ⟨hc1, hf1⟩ := bcell hb1; have hz1 := hb1.size; (try simp only [World.size_alloc, World.size_setCell, World.heap_drewN] at hb1 hc1 hf1 hz1); (try have ha01 : w.heap.size < w1.heap.size := by omega); (try have ha11 : w.heap.size + 1 < w1.heap.size := by omega); (try have ha21 : w.heap.size + 2 < w1.heap.size := by omega); (try have hal1 : w.heap.size ≤ w1.heap.size := by omega); (try have ham1 : w.heap.size < w1.heap.size + 2 := by omega))
  go_ret2
  go_light
  exact ⟨rfl, by (repeat' (first | (with_reducible exact Below.refl _ _) | (with_reducible assumption) | (with_reducible refine Below.trans ?_ (Below.mono (by with_reducible assumption) ?_)) | (with_reducible refine Below.alloc ?_ ?_ _) | (with_reducible refine Below.setCell ?_ ?_ _) | (with_reducible refine below_drewN ?_ _) | (with_reducible refine Below.drew ?_) | go_size))⟩
theorem stamp_bd {m c : Int} (h : isStampB m c = true) : 0 ≤ m ∧ m ≤ 281474976710655 ∧ 0 ≤ c ∧ c ≤ 65535 := by
  simp [isStampB, isMilliB] at h; omega
theorem bits_pack (m c : Int) (m0 : 0 ≤ m) (m1 : m ≤ 281474976710655) (c0 : 0 ≤ c) (c1 : c ≤ 65535) : bits .or .u64 (IntKind.u64.wrap (IntKind.u64.wrap m * 65536)) (IntKind.u64.wrap c) = m * 65536 + c := by
  obtain ⟨m, rfl⟩ := Int.eq_ofNat_of_zero_le m0
  obtain ⟨c, rfl⟩ := Int.eq_ofNat_of_zero_le c0
  rw [IntWalk.u64_in (m : Int) (by omega), IntWalk.u64_in (c : Int) (by omega), IntWalk.u64_in ((m : Int) * 65536) (by omega)]
  show IntKind.u64.wrap ((BitVec.ofInt 64 ((m : Int) * 65536) ||| BitVec.ofInt 64 (c : Int)).toNat : Int) = _
  have e1 : (BitVec.ofInt 64 ((m : Int) * 65536)).toNat = m * 65536 := by
    rw [show ((m : Int) * 65536) = ((m * 65536 : Nat) : Int) from by omega, BitVec.ofInt_natCast, BitVec.toNat_ofNat]; exact Nat.mod_eq_of_lt (by omega)
  have e2 : (BitVec.ofInt 64 (c : Int)).toNat = c := by rw [BitVec.ofInt_natCast, BitVec.toNat_ofNat]; exact Nat.mod_eq_of_lt (by omega)
  have e3 : m * 65536 ||| c = m * 65536 + c := by
    have := Nat.two_pow_add_eq_or_of_lt (i := 16) (b := c) (by omega) m
    rw [show m * 65536 = 2 ^ 16 * m from by omega]
    exact this.symm
  rw [BitVec.toNat_or, e1, e2, e3, IntWalk.u64_in _ (by omega)]
  omega
set_option maxHeartbeats 400000 in
theorem hlc_pack_yes (m c : Int) (w : World) (h : isStampB m c = true) : Calls Tryd.prog 103 #[.agg #[.int .i64 m, .int .i64 c]] w fun e w' => e = .returned (.tuple #[.int .u64 (m * 65536 + c), .int .i64 0]) ∧ Below w.heap.size w w' := by
  obtain ⟨m0, m1, c0, c1⟩ := stamp_bd h
  have hp := Lib.hid (bits_pack m c m0 m1 c0 c1)
  clear m0 m1 c0 c1
  go_enter Tryd.func103, Tryd.ntmps103
  go_wp2_with (go_at_call 106; refine (hlc_isStamp m c _).mono ?_; rintro e w1 ⟨rfl, hb1⟩; obtain ⟨hc1, hf1⟩ := bcell hb1; have hz1 := hb1.size; (try simp only [World.size_alloc, World.size_setCell, World.heap_drewN] at hb1 hc1 hf1 hz1); (try have ha01 : w.heap.size < w1.heap.size := by omega); (try have ha11 : w.heap.size + 1 < w1.heap.size := by omega); (try have ha21 : w.heap.size + 2 < w1.heap.size := by omega); (try have hal1 : w.heap.size ≤ w1.heap.size := by omega); (try have ham1 : w.heap.size < w1.heap.size + 2 := by omega))
  go_ret2
  go_light
  refine ⟨?_, by (repeat' (first | (with_reducible exact Below.refl _ _) | (with_reducible assumption) | (with_reducible refine Below.trans ?_ (Below.mono (by with_reducible assumption) ?_)) | (with_reducible refine Below.alloc ?_ ?_ _) | (with_reducible refine Below.setCell ?_ ?_ _) | (with_reducible refine below_drewN ?_ _) | (with_reducible refine Below.drew ?_) | go_size))⟩
  show Ending.returned (.tuple #[.int .u64 (bits .or .u64 (IntKind.u64.wrap (IntKind.u64.wrap m * 65536)) (IntKind.u64.wrap c)), .int .i64 0]) = _
  rw [hp.out]
end Go.Proofs.YtdffldlcbihjmaaDoor
