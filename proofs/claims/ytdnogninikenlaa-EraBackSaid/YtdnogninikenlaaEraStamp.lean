/- The contracts of era.Stamp and meridianref5.Stamp. -/
import Derived.Test.YtdnogninikenlaaEra
set_option linter.unusedSimpArgs false
set_option linter.unusedVariables false
namespace Go.Proofs.Ytdnogninikenlaa
open Go.RowKit

/-- May it be a moment? -/
def momOk (day nano : Int) : Bool := dayB day && decide (0 ≤ nano) && decide (nano < 86401000000000)
def cutNano (nano : Int) : Int := if nano ≤ 86399999999999 then nano else 86399999999999
def secsOf (day nano : Int) : Int := (day + 25567) * 86400 + cutNano nano / 1000000000
def partOf (nano : Int) : Int := cutNano nano % 1000000000 * 4294967296 / 1000000000
def stampOf (day nano : Int) : Int := secsOf day nano % 4294967296 * 4294967296 + partOf nano
set_option maxHeartbeats 400000 in
theorem era_stamp_no (day nano : Int) (w : World) (h : momOk day nano = false) : Calls Try.prog 9 #[.agg #[.int .i64 day, .int .i64 nano]] w fun e w' => e = .returned (.tuple #[.int .u64 0, .int .i64 1]) ∧ Below w.heap.size w w' := by
  cases hd : dayB day
  · clear h
    go_enter Try.func9, Try.ntmps9
    go_wp2_with (go_at_call 14; refine (era_isDay day _).mono ?_; rintro e w1 ⟨rfl, hb1⟩; obtain ⟨hc1, hf1⟩ := bcell hb1; have hz1 := hb1.size; (try simp only [World.size_alloc, World.size_setCell, World.heap_drewN] at hb1 hc1 hf1 hz1); (try have ha01 : w.heap.size < w1.heap.size := by omega); (try have ha11 : w.heap.size + 1 < w1.heap.size := by omega); (try have ha21 : w.heap.size + 2 < w1.heap.size := by omega); (try have hal1 : w.heap.size ≤ w1.heap.size := by omega); (try have ham1 : w.heap.size < w1.heap.size + 2 := by omega))
    go_ret2
    go_light
    exact ⟨rfl, by (repeat' (first | (with_reducible exact Below.refl _ _) | (with_reducible assumption) | (with_reducible refine Below.trans ?_ (Below.mono (by with_reducible assumption) ?_)) | (with_reducible refine Below.alloc ?_ ?_ _) | (with_reducible refine Below.setCell ?_ ?_ _) | (with_reducible refine below_drewN ?_ _) | (with_reducible refine Below.drew ?_) | go_size))⟩
  · simp only [momOk, hd, Bool.true_and] at h
    by_cases h0 : 0 ≤ nano
    · have h1 : 86401000000000 ≤ nano := by simp [h0] at h; omega
      clear h
      go_enter Try.func9, Try.ntmps9
      go_wp2_with (go_at_call 14; refine (era_isDay day _).mono ?_; rintro e w1 ⟨rfl, hb1⟩; obtain ⟨hc1, hf1⟩ := bcell hb1; have hz1 := hb1.size; (try simp only [World.size_alloc, World.size_setCell, World.heap_drewN] at hb1 hc1 hf1 hz1); (try have ha01 : w.heap.size < w1.heap.size := by omega); (try have ha11 : w.heap.size + 1 < w1.heap.size := by omega); (try have ha21 : w.heap.size + 2 < w1.heap.size := by omega); (try have hal1 : w.heap.size ≤ w1.heap.size := by omega); (try have ham1 : w.heap.size < w1.heap.size + 2 := by omega))
      go_ret2
      go_light
      exact ⟨rfl, by (repeat' (first | (with_reducible exact Below.refl _ _) | (with_reducible assumption) | (with_reducible refine Below.trans ?_ (Below.mono (by with_reducible assumption) ?_)) | (with_reducible refine Below.alloc ?_ ?_ _) | (with_reducible refine Below.setCell ?_ ?_ _) | (with_reducible refine below_drewN ?_ _) | (with_reducible refine Below.drew ?_) | go_size))⟩
    · clear h
      go_enter Try.func9, Try.ntmps9
      go_wp2_with (go_at_call 14; refine (era_isDay day _).mono ?_; rintro e w1 ⟨rfl, hb1⟩; obtain ⟨hc1, hf1⟩ := bcell hb1; have hz1 := hb1.size; (try simp only [World.size_alloc, World.size_setCell, World.heap_drewN] at hb1 hc1 hf1 hz1); (try have ha01 : w.heap.size < w1.heap.size := by omega); (try have ha11 : w.heap.size + 1 < w1.heap.size := by omega); (try have ha21 : w.heap.size + 2 < w1.heap.size := by omega); (try have hal1 : w.heap.size ≤ w1.heap.size := by omega); (try have ham1 : w.heap.size < w1.heap.size + 2 := by omega))
      go_ret2
      go_light
      exact ⟨rfl, by (repeat' (first | (with_reducible exact Below.refl _ _) | (with_reducible assumption) | (with_reducible refine Below.trans ?_ (Below.mono (by with_reducible assumption) ?_)) | (with_reducible refine Below.alloc ?_ ?_ _) | (with_reducible refine Below.setCell ?_ ?_ _) | (with_reducible refine below_drewN ?_ _) | (with_reducible refine Below.drew ?_) | go_size))⟩
theorem or32 (a b : Int) (a0 : 0 ≤ a) (a1 : a < 4294967296) (b0 : 0 ≤ b) (b1 : b < 4294967296) : bits .or .u64 (a * 4294967296) b = a * 4294967296 + b := by
  obtain ⟨a, rfl⟩ := Int.eq_ofNat_of_zero_le a0
  obtain ⟨b, rfl⟩ := Int.eq_ofNat_of_zero_le b0
  have e0 : ((a : Int) * 4294967296) = ((a * 4294967296 : Nat) : Int) := by omega
  rw [e0, u64_or_nat _ _ (by omega) (by omega)]
  have e3 : a * 4294967296 ||| b = a * 4294967296 + b := by
    have := Nat.two_pow_add_eq_or_of_lt (i := 32) (b := b) (by omega) a
    rw [show a * 4294967296 = 2 ^ 32 * a from by omega]
    exact this.symm
  rw [e3]
  omega
theorem stamp_in (day nano : Int) (h0 : 0 ≤ nano) : bits .or .u64 (secsOf day nano % 4294967296 * 4294967296) (partOf nano) = stampOf day nano :=
  or32 _ _ (by omega) (by omega) (by unfold partOf cutNano; split <;> omega) (by unfold partOf cutNano; split <;> omega)
theorem wrap_shl32 (s : Int) : IntKind.u64.wrap (IntKind.u64.wrap s * 4294967296) = s % 4294967296 * 4294967296 := by
  rw [IntKind.wrap_u64, IntKind.wrap_u64]; omega
theorem ret_or {a b c x : Int} (h : a = b) (h2 : bits .or .u64 b c = x) : Ending.returned (.tuple #[.int .u64 (bits .or .u64 a c), .int .i64 0]) = .returned (.tuple #[.int .u64 x, .int .i64 0]) := by rw [h, h2]
set_option maxHeartbeats 1000000 in
theorem era_stamp_yes1 (day nano : Int) (w : World) (hd : dayB day = true) (h0 : 0 ≤ nano) (h1 : nano ≤ 86399999999999) : Calls Try.prog 9 #[.agg #[.int .i64 day, .int .i64 nano]] w fun e w' => e = .returned (.tuple #[.int .u64 (stampOf day nano), .int .i64 0]) ∧ Below w.heap.size w w' := by
  obtain ⟨d0, d1⟩ := dayB_yes hd
  have hc : cutNano nano = nano := by unfold cutNano; split <;> omega
  have e1 : (day + 25567) * 86400 + nano / 1000000000 = secsOf day nano := by unfold secsOf; rw [hc]
  have e2 : nano % 1000000000 * 4294967296 / 1000000000 = partOf nano := by unfold partOf; rw [hc]
  have HS := Lib.hid (stamp_in day nano h0)
  have HE1 := Lib.hid e1
  have HE2 := Lib.hid e2
  clear e1 e2 hc
  go_enter Try.func9, Try.ntmps9
  go_wp2_with (first | (go_at_call 14; refine (era_isDay day _).mono ?_; rintro e w1 ⟨rfl, hb1⟩; obtain ⟨hc1, hf1⟩ := bcell hb1; have hz1 := hb1.size; (try simp only [World.size_alloc, World.size_setCell, World.heap_drewN] at hb1 hc1 hf1 hz1); (try have ha01 : w.heap.size < w1.heap.size := by omega); (try have ha11 : w.heap.size + 1 < w1.heap.size := by omega); (try have ha21 : w.heap.size + 2 < w1.heap.size := by omega); (try have hal1 : w.heap.size ≤ w1.heap.size := by omega); (try have ham1 : w.heap.size < w1.heap.size + 2 := by omega)) | (go_at_call 16; refine (era_begins _ _ (by omega) (by omega)).mono ?_; rintro e w' ⟨rfl, rfl⟩) | (go_at_call 15; refine (era_modulo _ _ _ (by omega) (by omega)).mono ?_; rintro e w' ⟨rfl, rfl⟩))
  go_ret2
  go_light
  refine ⟨?_, by (repeat' (first | (with_reducible exact Below.refl _ _) | (with_reducible assumption) | (with_reducible refine Below.trans ?_ (Below.mono (by with_reducible assumption) ?_)) | (with_reducible refine Below.alloc ?_ ?_ _) | (with_reducible refine Below.setCell ?_ ?_ _) | (with_reducible refine below_drewN ?_ _) | (with_reducible refine Below.drew ?_) | go_size))⟩
  show Ending.returned (.tuple #[.int .u64 (bits .or .u64 (((day + 25567) * 86400 + nano / 1000000000) % 4294967296 * 4294967296) (nano % 1000000000 * 4294967296 / 1000000000)), .int .i64 0]) = _
  rw [HE1.out, HE2.out, HS.out]
set_option maxHeartbeats 1000000 in
theorem era_stamp_yes2 (day nano : Int) (w : World) (hd : dayB day = true) (h0 : 0 ≤ nano) (h1 : 86399999999999 < nano) (h2 : nano < 86401000000000) : Calls Try.prog 9 #[.agg #[.int .i64 day, .int .i64 nano]] w fun e w' => e = .returned (.tuple #[.int .u64 (stampOf day nano), .int .i64 0]) ∧ Below w.heap.size w w' := by
  obtain ⟨d0, d1⟩ := dayB_yes hd
  have hc : cutNano nano = 86399999999999 := by unfold cutNano; split <;> omega
  have e1 : (day + 25567) * 86400 + 86399 = secsOf day nano := by unfold secsOf; rw [hc]; omega
  have e2 : 4294967291 = partOf nano := by unfold partOf; rw [hc]; rfl
  have HS := Lib.hid (stamp_in day nano h0)
  have HE1 := Lib.hid e1
  have HE2 := Lib.hid e2
  clear e1 e2 hc
  go_enter Try.func9, Try.ntmps9
  go_wp2_with (first | (go_at_call 14; refine (era_isDay day _).mono ?_; rintro e w1 ⟨rfl, hb1⟩; obtain ⟨hc1, hf1⟩ := bcell hb1; have hz1 := hb1.size; (try simp only [World.size_alloc, World.size_setCell, World.heap_drewN] at hb1 hc1 hf1 hz1); (try have ha01 : w.heap.size < w1.heap.size := by omega); (try have ha11 : w.heap.size + 1 < w1.heap.size := by omega); (try have ha21 : w.heap.size + 2 < w1.heap.size := by omega); (try have hal1 : w.heap.size ≤ w1.heap.size := by omega); (try have ham1 : w.heap.size < w1.heap.size + 2 := by omega)) | (go_at_call 16; refine (era_begins _ _ (by omega) (by omega)).mono ?_; rintro e w' ⟨rfl, rfl⟩) | (go_at_call 15; refine (era_modulo _ _ _ (by omega) (by omega)).mono ?_; rintro e w' ⟨rfl, rfl⟩))
  go_ret2
  go_light
  refine ⟨?_, by (repeat' (first | (with_reducible exact Below.refl _ _) | (with_reducible assumption) | (with_reducible refine Below.trans ?_ (Below.mono (by with_reducible assumption) ?_)) | (with_reducible refine Below.alloc ?_ ?_ _) | (with_reducible refine Below.setCell ?_ ?_ _) | (with_reducible refine below_drewN ?_ _) | (with_reducible refine Below.drew ?_) | go_size))⟩
  show Ending.returned (.tuple #[.int .u64 (bits .or .u64 (((day + 25567) * 86400 + 86399) % 4294967296 * 4294967296) (4294967291)), .int .i64 0]) = _
  rw [HE1.out, HE2.out, HS.out]
theorem ref2_in_dayB (n : Int) (w : World) : Calls Try.prog 17 #[.int .i64 n] w fun e w' => e = .returned (.bool (dayB n)) ∧ w = w' := by
  have h := ref2_in n w
  have e : (decide (-719162 ≤ n) && decide (n < 2932897)) = dayB n := by unfold dayB; congr 1; apply decide_eq_decide.2; omega
  rwa [e] at h
set_option maxHeartbeats 400000 in
theorem ref5_stamp_no (day nano : Int) (w : World) (h : momOk day nano = false) : Calls Try.prog 10 #[.agg #[.int .i64 day, .int .i64 nano]] w fun e w' => e = .returned (.tuple #[.int .u64 0, .int .i64 1]) ∧ Below w.heap.size w w' := by
  cases hd : dayB day
  · clear h
    go_enter Try.func10, Try.ntmps10
    go_wp2_with (go_at_call 17; refine (ref2_in_dayB day _).mono ?_; rintro e w' ⟨rfl, rfl⟩)
    go_ret2
    go_light
    exact ⟨rfl, by (repeat' (first | (with_reducible exact Below.refl _ _) | (with_reducible assumption) | (with_reducible refine Below.trans ?_ (Below.mono (by with_reducible assumption) ?_)) | (with_reducible refine Below.alloc ?_ ?_ _) | (with_reducible refine Below.setCell ?_ ?_ _) | (with_reducible refine below_drewN ?_ _) | (with_reducible refine Below.drew ?_) | go_size))⟩
  · simp only [momOk, hd, Bool.true_and] at h
    by_cases h0 : 0 ≤ nano
    · have h1 : 86401000000000 ≤ nano := by simp [h0] at h; omega
      clear h
      go_enter Try.func10, Try.ntmps10
      go_wp2_with (go_at_call 17; refine (ref2_in_dayB day _).mono ?_; rintro e w' ⟨rfl, rfl⟩)
      go_ret2
      go_light
      exact ⟨rfl, by (repeat' (first | (with_reducible exact Below.refl _ _) | (with_reducible assumption) | (with_reducible refine Below.trans ?_ (Below.mono (by with_reducible assumption) ?_)) | (with_reducible refine Below.alloc ?_ ?_ _) | (with_reducible refine Below.setCell ?_ ?_ _) | (with_reducible refine below_drewN ?_ _) | (with_reducible refine Below.drew ?_) | go_size))⟩
    · clear h
      go_enter Try.func10, Try.ntmps10
      go_wp2_with (go_at_call 17; refine (ref2_in_dayB day _).mono ?_; rintro e w' ⟨rfl, rfl⟩)
      go_ret2
      go_light
      exact ⟨rfl, by (repeat' (first | (with_reducible exact Below.refl _ _) | (with_reducible assumption) | (with_reducible refine Below.trans ?_ (Below.mono (by with_reducible assumption) ?_)) | (with_reducible refine Below.alloc ?_ ?_ _) | (with_reducible refine Below.setCell ?_ ?_ _) | (with_reducible refine below_drewN ?_ _) | (with_reducible refine Below.drew ?_) | go_size))⟩
set_option maxHeartbeats 1000000 in
theorem ref5_stamp_yes1 (day nano : Int) (w : World) (hd : dayB day = true) (h0 : 0 ≤ nano) (h1 : nano ≤ 86399999999999) : Calls Try.prog 10 #[.agg #[.int .i64 day, .int .i64 nano]] w fun e w' => e = .returned (.tuple #[.int .u64 (stampOf day nano), .int .i64 0]) ∧ Below w.heap.size w w' := by
  obtain ⟨d0, d1⟩ := dayB_yes hd
  have hc : cutNano nano = nano := by unfold cutNano; split <;> omega
  have e1 : (day + 25567) * 86400 + nano / 1000000000 = secsOf day nano := by unfold secsOf; rw [hc]
  have e2 : nano % 1000000000 * 4294967296 / 1000000000 = partOf nano := by unfold partOf; rw [hc]
  have HS := Lib.hid (stamp_in day nano h0)
  have HE1 := Lib.hid e1
  have HE2 := Lib.hid e2
  clear e1 e2 hc
  go_enter Try.func10, Try.ntmps10
  go_wp2_with (go_at_call 17; refine (ref2_in_dayB day _).mono ?_; rintro e w' ⟨rfl, rfl⟩)
  go_ret2
  go_light
  refine ⟨?_, by (repeat' (first | (with_reducible exact Below.refl _ _) | (with_reducible assumption) | (with_reducible refine Below.trans ?_ (Below.mono (by with_reducible assumption) ?_)) | (with_reducible refine Below.alloc ?_ ?_ _) | (with_reducible refine Below.setCell ?_ ?_ _) | (with_reducible refine below_drewN ?_ _) | (with_reducible refine Below.drew ?_) | go_size))⟩
  show Ending.returned (.tuple #[.int .u64 (bits .or .u64 (IntKind.u64.wrap (IntKind.u64.wrap ((day + 25567) * 86400 + nano / 1000000000) * 4294967296)) (nano % 1000000000 * 4294967296 / 1000000000)), .int .i64 0]) = _
  rw [wrap_shl32, HE1.out, HE2.out, HS.out]
set_option maxHeartbeats 1000000 in
theorem ref5_stamp_yes2 (day nano : Int) (w : World) (hd : dayB day = true) (h0 : 0 ≤ nano) (h1 : 86399999999999 < nano) (h2 : nano < 86401000000000) : Calls Try.prog 10 #[.agg #[.int .i64 day, .int .i64 nano]] w fun e w' => e = .returned (.tuple #[.int .u64 (stampOf day nano), .int .i64 0]) ∧ Below w.heap.size w w' := by
  obtain ⟨d0, d1⟩ := dayB_yes hd
  have hc : cutNano nano = 86399999999999 := by unfold cutNano; split <;> omega
  have e1 : (day + 25567) * 86400 + 86399 = secsOf day nano := by unfold secsOf; rw [hc]; omega
  have e2 : 4294967291 = partOf nano := by unfold partOf; rw [hc]; rfl
  have HS := Lib.hid (stamp_in day nano h0)
  have HE1 := Lib.hid e1
  have HE2 := Lib.hid e2
  clear e1 e2 hc
  go_enter Try.func10, Try.ntmps10
  go_wp2_with (go_at_call 17; refine (ref2_in_dayB day _).mono ?_; rintro e w' ⟨rfl, rfl⟩)
  go_ret2
  go_light
  refine ⟨?_, by (repeat' (first | (with_reducible exact Below.refl _ _) | (with_reducible assumption) | (with_reducible refine Below.trans ?_ (Below.mono (by with_reducible assumption) ?_)) | (with_reducible refine Below.alloc ?_ ?_ _) | (with_reducible refine Below.setCell ?_ ?_ _) | (with_reducible refine below_drewN ?_ _) | (with_reducible refine Below.drew ?_) | go_size))⟩
  show Ending.returned (.tuple #[.int .u64 (bits .or .u64 (IntKind.u64.wrap (IntKind.u64.wrap ((day + 25567) * 86400 + 86399) * 4294967296)) (4294967291)), .int .i64 0]) = _
  rw [wrap_shl32, HE1.out, HE2.out, HS.out]
theorem momOk_yes {day nano : Int} (h : momOk day nano = true) : dayB day = true ∧ 0 ≤ nano ∧ nano < 86401000000000 := by
  simp [momOk] at h; exact ⟨h.1.1, h.1.2, h.2⟩
theorem era_stamp_yes (day nano : Int) (w : World) (h : momOk day nano = true) : Calls Try.prog 9 #[.agg #[.int .i64 day, .int .i64 nano]] w fun e w' => e = .returned (.tuple #[.int .u64 (stampOf day nano), .int .i64 0]) ∧ Below w.heap.size w w' := by
  obtain ⟨a, b, c⟩ := momOk_yes h
  by_cases h1 : nano ≤ 86399999999999
  · exact era_stamp_yes1 day nano w a b h1
  · exact era_stamp_yes2 day nano w a b (by omega) c
theorem ref5_stamp_yes (day nano : Int) (w : World) (h : momOk day nano = true) : Calls Try.prog 10 #[.agg #[.int .i64 day, .int .i64 nano]] w fun e w' => e = .returned (.tuple #[.int .u64 (stampOf day nano), .int .i64 0]) ∧ Below w.heap.size w w' := by
  obtain ⟨a, b, c⟩ := momOk_yes h
  by_cases h1 : nano ≤ 86399999999999
  · exact ref5_stamp_yes1 day nano w a b h1
  · exact ref5_stamp_yes2 day nano w a b (by omega) c
end Go.Proofs.Ytdnogninikenlaa
