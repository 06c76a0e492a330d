/- The laws of stage 5, walked: EraBack, EraLeap, EraOrder, EraAnew. -/
import Derived.Test.YtepdnkpmkhjlgaaGreatM9A
import Derived.Test.YtepdnkpmkhjlgaaGreatM9A
import Derived.Test.YtepdnkpmkhjlgaaGreatM9A
import Derived.Test.YtepdnkpmkhjlgaaGreatLaw
/- The contracts of package era: small ones, and Stamp. -/
set_option linter.unusedSimpArgs false
set_option linter.unusedVariables false
namespace Go.Proofs.YtepdnkpmkhjlgaaGreat
open Go.RowKit

theorem ret_two {k : IntKind} {a b : Int} {v : Value} (h : a = b) : Ending.returned (.tuple #[.int k a, v]) = .returned (.tuple #[.int k b, v]) := by rw [h]
/-- Is a count a day's? -/
def dayB (n : Int) : Bool := decide (-719162 ≤ n) && decide (n ≤ 2932896)
theorem dayB_yes {n : Int} (h : dayB n = true) : -719162 ≤ n ∧ n ≤ 2932896 := by simpa [dayB] using h
theorem dayB_no {n : Int} (h : dayB n = false) : n < -719162 ∨ 2932896 < n := by
  by_cases h1 : -719162 ≤ n
  · by_cases h2 : n ≤ 2932896
    · simp [dayB, h1, h2] at h
    · exact .inr (by omega)
  · exact .inl (by omega)
theorem dayB_mk {n : Int} (h1 : -719162 ≤ n) (h2 : n ≤ 2932896) : dayB n = true := by simp [dayB, h1, h2]
theorem era_isDay (n : Int) (w : World) : Calls Tryz.prog 100 #[.int .i64 n] w fun e w' => e = .returned (.bool (dayB n)) ∧ Below w.heap.size w w' := by
  cases h : dayB n
  · have H := Lib.hid (dayB_no h)
    clear h
    go_enter Tryz.func100, Tryz.ntmps100
    go_wp2_with (go_at_call 78; refine (cal_date_no n _ H.out).mono ?_; rintro e w1 ⟨rfl, hb1⟩; obtain ⟨hc1, hf1⟩ := bcell hb1; have hz1 := hb1.size; (try simp only [World.size_alloc, World.size_setCell, World.heap_drewN] at hb1 hc1 hf1 hz1); (try have ha01 : w.heap.size < w1.heap.size := by omega); (try have ha11 : w.heap.size + 1 < w1.heap.size := by omega); (try have ha21 : w.heap.size + 2 < w1.heap.size := by omega); (try have hal1 : w.heap.size ≤ w1.heap.size := by omega); (try have ham1 : w.heap.size < w1.heap.size + 2 := by omega))
    go_ret
    go_light
    exact ⟨rfl, by (repeat' (first | (with_reducible exact Below.refl _ _) | (with_reducible assumption) | (with_reducible refine Below.trans ?_ (Below.mono (by with_reducible assumption) ?_)) | (with_reducible refine Below.alloc ?_ ?_ _) | (with_reducible refine Below.setCell ?_ ?_ _) | (with_reducible refine below_drewN ?_ _) | (with_reducible refine Below.drew ?_) | go_size))⟩
  · obtain ⟨y, m, d, v, hn⟩ := Cal.date_ex n (dayB_yes h).1 (dayB_yes h).2
    have V := Lib.hid v
    have HN := Lib.hid hn
    clear v hn h
    go_enter Tryz.func100, Tryz.ntmps100
    go_wp2_with (go_at_call 78; refine (cal_date_yes y m d n _ V.out HN.out.symm).mono ?_; rintro e w1 ⟨rfl, hb1⟩; obtain ⟨hc1, hf1⟩ := bcell hb1; have hz1 := hb1.size; (try simp only [World.size_alloc, World.size_setCell, World.heap_drewN] at hb1 hc1 hf1 hz1); (try have ha01 : w.heap.size < w1.heap.size := by omega); (try have ha11 : w.heap.size + 1 < w1.heap.size := by omega); (try have ha21 : w.heap.size + 2 < w1.heap.size := by omega); (try have hal1 : w.heap.size ≤ w1.heap.size := by omega); (try have ham1 : w.heap.size < w1.heap.size + 2 := by omega))
    go_ret
    go_light
    exact ⟨rfl, by (repeat' (first | (with_reducible exact Below.refl _ _) | (with_reducible assumption) | (with_reducible refine Below.trans ?_ (Below.mono (by with_reducible assumption) ?_)) | (with_reducible refine Below.alloc ?_ ?_ _) | (with_reducible refine Below.setCell ?_ ?_ _) | (with_reducible refine below_drewN ?_ _) | (with_reducible refine Below.drew ?_) | go_size))⟩
theorem tmod_bd (n b : Int) (hb : 0 < b) : -b < n.tmod b ∧ n.tmod b < b := by
  have := Int.emod_nonneg n (show b ≠ 0 by omega)
  have := Int.emod_lt_of_pos n hb
  rw [Int.tmod_eq_emod]
  split <;> omega
theorem tmod_fix (n b : Int) (hb : 0 < b) : (n.tmod b + b) % b = n % b := by
  rw [Int.add_emod_right]
  rw [Int.tmod_eq_emod]
  split
  · simp
  · rw [show (b.natAbs : Int) = b from by omega, Int.sub_emod_right, Int.emod_emod_of_dvd _ (Int.dvd_refl b)]
theorem era_modulo (n b : Int) (w : World) (h0 : 1 ≤ b) (h1 : b ≤ 4294967296) : Calls Tryz.prog 102 #[.int .i64 n, .int .i64 b] w fun e w' => e = .returned (.int .i64 (n % b)) ∧ w = w' := by
  have t := tmod_bd n b (by omega)
  have HF := Lib.hid (tmod_fix n b (by omega))
  have hb0 : (b == 0) = false := by simp; omega
  go_enter Tryz.func102, Tryz.ntmps102
  go_wp2
  go_ret
  exact ⟨ret_int HF.out, rfl⟩
theorem era_begins (n : Int) (w : World) (h0 : -719162 ≤ n) (h1 : n ≤ 2932896) : Calls Tryz.prog 101 #[.int .i64 n] w fun e w' => e = .returned (.int .i64 ((n + 25567) * 86400)) ∧ w = w' := by
  go_enter Tryz.func101, Tryz.ntmps101
  go_wp2
  go_ret
  exact ⟨rfl, rfl⟩
end Go.Proofs.YtepdnkpmkhjlgaaGreat

/- The contracts of era.Stamp and meridianref5.Stamp. -/
namespace Go.Proofs.YtepdnkpmkhjlgaaGreat
open Go.RowKit

/-- May it be a moment? -/
def momOk (day nano : Int) : Bool := dayB day && decide (0 ≤ nano) && decide (nano < 86401000000000)
def cutNano (nano : Int) : Int := if nano ≤ 86399999999999 then nano else 86399999999999
def secsOf (day nano : Int) : Int := (day + 25567) * 86400 + cutNano nano / 1000000000
def partOf (nano : Int) : Int := cutNano nano % 1000000000 * 4294967296 / 1000000000
def stampOf (day nano : Int) : Int := secsOf day nano % 4294967296 * 4294967296 + partOf nano
theorem or32 (a b : Int) (a0 : 0 ≤ a) (a1 : a < 4294967296) (b0 : 0 ≤ b) (b1 : b < 4294967296) : bits .or .u64 (a * 4294967296) b = a * 4294967296 + b := by
  obtain ⟨a, rfl⟩ := Int.eq_ofNat_of_zero_le a0
  obtain ⟨b, rfl⟩ := Int.eq_ofNat_of_zero_le b0
  have e0 : ((a : Int) * 4294967296) = ((a * 4294967296 : Nat) : Int) := by omega
  rw [e0, u64_or_nat _ _ (by omega) (by omega)]
  have e3 : a * 4294967296 ||| b = a * 4294967296 + b := by
    have := Nat.two_pow_add_eq_or_of_lt (i := 32) (b := b) (by omega) a
    rw [show a * 4294967296 = 2 ^ 32 * a from by omega]
    exact this.symm
  rw [e3]
  omega
theorem stamp_in (day nano : Int) (h0 : 0 ≤ nano) : bits .or .u64 (secsOf day nano % 4294967296 * 4294967296) (partOf nano) = stampOf day nano :=
  or32 _ _ (by omega) (by omega) (by unfold partOf cutNano; split <;> omega) (by unfold partOf cutNano; split <;> omega)
theorem wrap_shl32 (s : Int) : IntKind.u64.wrap (IntKind.u64.wrap s * 4294967296) = s % 4294967296 * 4294967296 := by
  rw [IntKind.wrap_u64, IntKind.wrap_u64]; omega
theorem ret_or {a b c x : Int} (h : a = b) (h2 : bits .or .u64 b c = x) : Ending.returned (.tuple #[.int .u64 (bits .or .u64 a c), .int .i64 0]) = .returned (.tuple #[.int .u64 x, .int .i64 0]) := by rw [h, h2]
theorem ref2_in_dayB (n : Int) (w : World) : Calls Tryz.prog 74 #[.int .i64 n] w fun e w' => e = .returned (.bool (dayB n)) ∧ w = w' := by
  have h := ref2_in n w
  have e : (decide (-719162 ≤ n) && decide (n < 2932897)) = dayB n := by unfold dayB; congr 1; apply decide_eq_decide.2; omega
  rwa [e] at h
set_option maxHeartbeats 400000 in
theorem ref5_stamp_no (day nano : Int) (w : World) (h : momOk day nano = false) : Calls Tryz.prog 44 #[.agg #[.int .i64 day, .int .i64 nano]] w fun e w' => e = .returned (.tuple #[.int .u64 0, .int .i64 1]) ∧ Below w.heap.size w w' := by
  cases hd : dayB day
  · clear h
    go_enter Tryz.func44, Tryz.ntmps44
    go_wp2_with (go_at_call 74; refine (ref2_in_dayB day _).mono ?_; rintro e w' ⟨rfl, rfl⟩)
    go_ret2
    go_light
    exact ⟨rfl, by (repeat' (first | (with_reducible exact Below.refl _ _) | (with_reducible assumption) | (with_reducible refine Below.trans ?_ (Below.mono (by with_reducible assumption) ?_)) | (with_reducible refine Below.alloc ?_ ?_ _) | (with_reducible refine Below.setCell ?_ ?_ _) | (with_reducible refine below_drewN ?_ _) | (with_reducible refine Below.drew ?_) | go_size))⟩
  · simp only [momOk, hd, Bool.true_and] at h
    by_cases h0 : 0 ≤ nano
    · have h1 : 86401000000000 ≤ nano := by simp [h0] at h; omega
      clear h
      go_enter Tryz.func44, Tryz.ntmps44
      go_wp2_with (go_at_call 74; refine (ref2_in_dayB day _).mono ?_; rintro e w' ⟨rfl, rfl⟩)
      go_ret2
      go_light
      exact ⟨rfl, by (repeat' (first | (with_reducible exact Below.refl _ _) | (with_reducible assumption) | (with_reducible refine Below.trans ?_ (Below.mono (by with_reducible assumption) ?_)) | (with_reducible refine Below.alloc ?_ ?_ _) | (with_reducible refine Below.setCell ?_ ?_ _) | (with_reducible refine below_drewN ?_ _) | (with_reducible refine Below.drew ?_) | go_size))⟩
    · clear h
      go_enter Tryz.func44, Tryz.ntmps44
      go_wp2_with (go_at_call 74; refine (ref2_in_dayB day _).mono ?_; rintro e w' ⟨rfl, rfl⟩)
      go_ret2
      go_light
      exact ⟨rfl, by (repeat' (first | (with_reducible exact Below.refl _ _) | (with_reducible assumption) | (with_reducible refine Below.trans ?_ (Below.mono (by with_reducible assumption) ?_)) | (with_reducible refine Below.alloc ?_ ?_ _) | (with_reducible refine Below.setCell ?_ ?_ _) | (with_reducible refine below_drewN ?_ _) | (with_reducible refine Below.drew ?_) | go_size))⟩
set_option maxHeartbeats 1000000 in
theorem ref5_stamp_yes1 (day nano : Int) (w : World) (hd : dayB day = true) (h0 : 0 ≤ nano) (h1 : nano ≤ 86399999999999) : Calls Tryz.prog 44 #[.agg #[.int .i64 day, .int .i64 nano]] w fun e w' => e = .returned (.tuple #[.int .u64 (stampOf day nano), .int .i64 0]) ∧ Below w.heap.size w w' := by
  obtain ⟨d0, d1⟩ := dayB_yes hd
  have hc : cutNano nano = nano := by unfold cutNano; split <;> omega
  have e1 : (day + 25567) * 86400 + nano / 1000000000 = secsOf day nano := by unfold secsOf; rw [hc]
  have e2 : nano % 1000000000 * 4294967296 / 1000000000 = partOf nano := by unfold partOf; rw [hc]
  have HS := Lib.hid (stamp_in day nano h0)
  have HE1 := Lib.hid e1
  have HE2 := Lib.hid e2
  clear e1 e2 hc
  go_enter Tryz.func44, Tryz.ntmps44
  go_wp2_with (go_at_call 74; refine (ref2_in_dayB day _).mono ?_; rintro e w' ⟨rfl, rfl⟩)
  go_ret2
  go_light
  refine ⟨?_, by (repeat' (first | (with_reducible exact Below.refl _ _) | (with_reducible assumption) | (with_reducible refine Below.trans ?_ (Below.mono (by with_reducible assumption) ?_)) | (with_reducible refine Below.alloc ?_ ?_ _) | (with_reducible refine Below.setCell ?_ ?_ _) | (with_reducible refine below_drewN ?_ _) | (with_reducible refine Below.drew ?_) | go_size))⟩
  show Ending.returned (.tuple #[.int .u64 (bits .or .u64 (IntKind.u64.wrap (IntKind.u64.wrap ((day + 25567) * 86400 + nano / 1000000000) * 4294967296)) (nano % 1000000000 * 4294967296 / 1000000000)), .int .i64 0]) = _
  rw [wrap_shl32, HE1.out, HE2.out, HS.out]
set_option maxHeartbeats 1000000 in
theorem ref5_stamp_yes2 (day nano : Int) (w : World) (hd : dayB day = true) (h0 : 0 ≤ nano) (h1 : 86399999999999 < nano) (h2 : nano < 86401000000000) : Calls Tryz.prog 44 #[.agg #[.int .i64 day, .int .i64 nano]] w fun e w' => e = .returned (.tuple #[.int .u64 (stampOf day nano), .int .i64 0]) ∧ Below w.heap.size w w' := by
  obtain ⟨d0, d1⟩ := dayB_yes hd
  have hc : cutNano nano = 86399999999999 := by unfold cutNano; split <;> omega
  have e1 : (day + 25567) * 86400 + 86399 = secsOf day nano := by unfold secsOf; rw [hc]; omega
  have e2 : 4294967291 = partOf nano := by unfold partOf; rw [hc]; rfl
  have HS := Lib.hid (stamp_in day nano h0)
  have HE1 := Lib.hid e1
  have HE2 := Lib.hid e2
  clear e1 e2 hc
  go_enter Tryz.func44, Tryz.ntmps44
  go_wp2_with (go_at_call 74; refine (ref2_in_dayB day _).mono ?_; rintro e w' ⟨rfl, rfl⟩)
  go_ret2
  go_light
  refine ⟨?_, by (repeat' (first | (with_reducible exact Below.refl _ _) | (with_reducible assumption) | (with_reducible refine Below.trans ?_ (Below.mono (by with_reducible assumption) ?_)) | (with_reducible refine Below.alloc ?_ ?_ _) | (with_reducible refine Below.setCell ?_ ?_ _) | (with_reducible refine below_drewN ?_ _) | (with_reducible refine Below.drew ?_) | go_size))⟩
  show Ending.returned (.tuple #[.int .u64 (bits .or .u64 (IntKind.u64.wrap (IntKind.u64.wrap ((day + 25567) * 86400 + 86399) * 4294967296)) (4294967291)), .int .i64 0]) = _
  rw [wrap_shl32, HE1.out, HE2.out, HS.out]
theorem momOk_yes {day nano : Int} (h : momOk day nano = true) : dayB day = true ∧ 0 ≤ nano ∧ nano < 86401000000000 := by
  simp [momOk] at h; exact ⟨h.1.1, h.1.2, h.2⟩
theorem ref5_stamp_yes (day nano : Int) (w : World) (h : momOk day nano = true) : Calls Tryz.prog 44 #[.agg #[.int .i64 day, .int .i64 nano]] w fun e w' => e = .returned (.tuple #[.int .u64 (stampOf day nano), .int .i64 0]) ∧ Below w.heap.size w w' := by
  obtain ⟨a, b, c⟩ := momOk_yes h
  by_cases h1 : nano ≤ 86399999999999
  · exact ref5_stamp_yes1 day nano w a b h1
  · exact ref5_stamp_yes2 day nano w a b (by omega) c
end Go.Proofs.YtepdnkpmkhjlgaaGreat

/- The contracts of era.Near and meridianref5.Near. -/
namespace Go.Proofs.YtepdnkpmkhjlgaaGreat
open Go.RowKit

/-- The second that a stamp tells near a day. -/
def nearT (s day : Int) : Int :=
  if (s / 4294967296 - (day + 25567) * 86400) % 4294967296 < 2147483648 then (day + 25567) * 86400 + (s / 4294967296 - (day + 25567) * 86400) % 4294967296
  else (day + 25567) * 86400 + (s / 4294967296 - (day + 25567) * 86400) % 4294967296 - 4294967296
def nearN (s : Int) : Int := if (s % 4294967296 * 1000000000 + 4294967295) / 4294967296 ≤ 999999999 then (s % 4294967296 * 1000000000 + 4294967295) / 4294967296 else 999999999
def nearDay (s day : Int) : Int := nearT s day / 86400 - 25567
def nearNano (s day : Int) : Int := nearT s day % 86400 * 1000000000 + nearN s
theorem low32 (s : Int) (h0 : 0 ≤ s) (h1 : s < 18446744073709551616) : bits .and .u64 s 4294967295 = s % 4294967296 := by
  obtain ⟨x, rfl⟩ := Int.eq_ofNat_of_zero_le h0
  rw [show (4294967295 : Int) = ((4294967295 : Nat) : Int) from rfl, u64_and_nat _ _ (by omega) (by omega)]
  have e3 : x &&& 4294967295 = x % 4294967296 := Nat.and_two_pow_sub_one_eq_mod x 32
  rw [e3]; omega
theorem exact_tdiv (x : Int) : (x - x % 86400).tdiv 86400 = x / 86400 := by
  have h : x - x % 86400 = 86400 * (x / 86400) := by omega
  rw [h, Int.mul_tdiv_cancel_left _ (by decide)]
theorem ret_utc {a b c d k : Int} (h1 : a = c) (h2 : b = d) : Ending.returned (.tuple #[.agg #[.int .i64 a, .int .i64 b], .int .i64 k]) = .returned (.tuple #[.agg #[.int .i64 c, .int .i64 d], .int .i64 k]) := by rw [h1, h2]
set_option maxHeartbeats 400000 in
theorem era_near_no (s day : Int) (w : World) (h : dayB day = false) : Calls Tryz.prog 87 #[.int .u64 s, .int .i64 day] w fun e w' => e = .returned (.tuple #[.agg #[.int .i64 0, .int .i64 0], .int .i64 1]) ∧ Below w.heap.size w w' := by
  go_enter Tryz.func87, Tryz.ntmps87
  go_wp2_with (go_at_call 100; refine (era_isDay day _).mono ?_; rintro e w1 ⟨rfl, hb1⟩; obtain ⟨hc1, hf1⟩ := bcell hb1; have hz1 := hb1.size; (try simp only [World.size_alloc, World.size_setCell, World.heap_drewN] at hb1 hc1 hf1 hz1); (try have ha01 : w.heap.size < w1.heap.size := by omega); (try have ha11 : w.heap.size + 1 < w1.heap.size := by omega); (try have ha21 : w.heap.size + 2 < w1.heap.size := by omega); (try have hal1 : w.heap.size ≤ w1.heap.size := by omega); (try have ham1 : w.heap.size < w1.heap.size + 2 := by omega))
  have z0 : w1.cell? ⟨w.heap.size, 0, none⟩ = some (.int .i64 0) := by rw [hc1 _ _ (by omega)]; simp
  have z1 : w1.cell? ⟨w.heap.size, 1, none⟩ = some (.int .i64 0) := by rw [hc1 _ _ (by omega)]; simp
  refine bodyPost_ret (v := .tuple #[.agg #[.int .i64 0, .int .i64 0], .int .i64 1]) (by simp [results, Tryz.results87, go_sem, z0, z1]) rfl ⟨rfl, ?_⟩
  go_light
  (repeat' (first | (with_reducible exact Below.refl _ _) | (with_reducible assumption) | (with_reducible refine Below.trans ?_ (Below.mono (by with_reducible assumption) ?_)) | (with_reducible refine Below.alloc ?_ ?_ _) | (with_reducible refine Below.setCell ?_ ?_ _) | (with_reducible refine below_drewN ?_ _) | (with_reducible refine Below.drew ?_) | go_size))
set_option maxHeartbeats 1000000 in
theorem era_near_Ax (s day : Int) (w : World) (h : dayB day = true) (s0 : 0 ≤ s) (s1 : s < 18446744073709551616) (hs : (s / 4294967296 - (day + 25567) * 86400) % 4294967296 < 2147483648) (hn : dayB (nearDay s day) = false)  : Calls Tryz.prog 87 #[.int .u64 s, .int .i64 day] w fun e w' => e = .returned (.tuple #[.agg #[.int .i64 0, .int .i64 0], .int .i64 11]) ∧ Below w.heap.size w w' := by
  obtain ⟨d0, d1⟩ := dayB_yes h
  have hT : (day + 25567) * 86400 + (s / 4294967296 - (day + 25567) * 86400) % 4294967296 = nearT s day := by unfold nearT; rw [if_pos hs]
  have hR : (s / 4294967296 - (day + 25567) * 86400) % 4294967296 % 86400 = ((day + 25567) * 86400 + (s / 4294967296 - (day + 25567) * 86400) % 4294967296) % 86400 := by omega
  have e1 : ((day + 25567) * 86400 + (s / 4294967296 - (day + 25567) * 86400) % 4294967296 - (s / 4294967296 - (day + 25567) * 86400) % 4294967296 % 86400).tdiv 86400 = ((day + 25567) * 86400 + (s / 4294967296 - (day + 25567) * 86400) % 4294967296) / 86400 := by rw [hR]; exact exact_tdiv _
  have h1 : ((day + 25567) * 86400 + (s / 4294967296 - (day + 25567) * 86400) % 4294967296) / 86400 - 25567 = nearDay s day := by rw [hT]; rfl
  have H1 := Lib.hid h1
  rw [← h1] at hn
  clear h1 hT hR
  go_enter Tryz.func87, Tryz.ntmps87
  go_wp2_with fail
  refine (era_isDay _ _).mono ?_; rintro e w1 ⟨rfl, hb1⟩; obtain ⟨hc1, hf1⟩ := bcell hb1; have hz1 := hb1.size; (try simp only [World.size_alloc, World.size_setCell, World.heap_drewN] at hb1 hc1 hf1 hz1); (try have ha01 : w.heap.size < w1.heap.size := by omega); (try have ha11 : w.heap.size + 1 < w1.heap.size := by omega); (try have ha21 : w.heap.size + 2 < w1.heap.size := by omega); (try have hal1 : w.heap.size ≤ w1.heap.size := by omega); (try have ham1 : w.heap.size < w1.heap.size + 2 := by omega)
  rw [h]
  go_wp2_with (first | (go_at_call 101; refine (era_begins _ _ (by omega) (by omega)).mono ?_; rintro e w' ⟨rfl, rfl⟩) | (go_at_call 102; refine (era_modulo _ _ _ (by omega) (by omega)).mono ?_; rintro e w' ⟨rfl, rfl⟩))
  refine (era_isDay _ _).mono ?_; rintro e w2 ⟨rfl, hb2⟩; obtain ⟨hc2, hf2⟩ := bcell hb2; have hz2 := hb2.size; (try simp only [World.size_alloc, World.size_setCell, World.heap_drewN] at hb2 hc2 hf2 hz2); (try have ha02 : w.heap.size < w2.heap.size := by omega); (try have ha12 : w.heap.size + 1 < w2.heap.size := by omega); (try have ha22 : w.heap.size + 2 < w2.heap.size := by omega); (try have hal2 : w.heap.size ≤ w2.heap.size := by omega); (try have ham2 : w.heap.size < w2.heap.size + 2 := by omega); (try have hb02 : w1.heap.size < w2.heap.size := by omega); (try have hb12 : w1.heap.size + 1 < w2.heap.size := by omega); (try have hb22 : w1.heap.size + 2 < w2.heap.size := by omega); (try have hbl2 : w1.heap.size ≤ w2.heap.size := by omega); (try have hbm2 : w1.heap.size < w2.heap.size + 2 := by omega)
  rw [hn]
  have y0 : w1.cell? ⟨w.heap.size, 0, none⟩ = some (.int .i64 0) := by rw [hc1 _ _ (by omega)]; simp
  have z0 : w2.cell? ⟨w.heap.size, 0, none⟩ = some (.int .i64 0) := by rw [hc2 _ _ (by omega), World.cell?_alloc_past _ _ _ ha01]; exact y0
  have y1 : w1.cell? ⟨w.heap.size, 1, none⟩ = some (.int .i64 0) := by rw [hc1 _ _ (by omega)]; simp
  have z1 : w2.cell? ⟨w.heap.size, 1, none⟩ = some (.int .i64 0) := by rw [hc2 _ _ (by omega), World.cell?_alloc_past _ _ _ ha01]; exact y1
  go_wp2_with fail
  refine bodyPost_ret (v := .tuple #[.agg #[.int .i64 0, .int .i64 0], .int .i64 11]) (by simp [results, Tryz.results87, go_sem, z0, z1]) rfl ⟨rfl, ?_⟩
  go_light
  (repeat' (first | (with_reducible exact Below.refl _ _) | (with_reducible assumption) | (with_reducible refine Below.trans ?_ (Below.mono (by with_reducible assumption) ?_)) | (with_reducible refine Below.alloc ?_ ?_ _) | (with_reducible refine Below.setCell ?_ ?_ _) | (with_reducible refine below_drewN ?_ _) | (with_reducible refine Below.drew ?_) | go_size))
set_option maxHeartbeats 1000000 in
theorem era_near_A1 (s day : Int) (w : World) (h : dayB day = true) (s0 : 0 ≤ s) (s1 : s < 18446744073709551616) (hs : (s / 4294967296 - (day + 25567) * 86400) % 4294967296 < 2147483648) (hn : dayB (nearDay s day) = true) (hp : (s % 4294967296 * 1000000000 + 4294967296 - 1) / 4294967296 ≤ 999999999) : Calls Tryz.prog 87 #[.int .u64 s, .int .i64 day] w fun e w' => e = .returned (.tuple #[.agg #[.int .i64 (nearDay s day), .int .i64 (nearNano s day)], .int .i64 0]) ∧ Below w.heap.size w w' := by
  obtain ⟨d0, d1⟩ := dayB_yes h
  have hT : (day + 25567) * 86400 + (s / 4294967296 - (day + 25567) * 86400) % 4294967296 = nearT s day := by unfold nearT; rw [if_pos hs]
  have hR : (s / 4294967296 - (day + 25567) * 86400) % 4294967296 % 86400 = ((day + 25567) * 86400 + (s / 4294967296 - (day + 25567) * 86400) % 4294967296) % 86400 := by omega
  have e1 : ((day + 25567) * 86400 + (s / 4294967296 - (day + 25567) * 86400) % 4294967296 - (s / 4294967296 - (day + 25567) * 86400) % 4294967296 % 86400).tdiv 86400 = ((day + 25567) * 86400 + (s / 4294967296 - (day + 25567) * 86400) % 4294967296) / 86400 := by rw [hR]; exact exact_tdiv _
  have h1 : ((day + 25567) * 86400 + (s / 4294967296 - (day + 25567) * 86400) % 4294967296) / 86400 - 25567 = nearDay s day := by rw [hT]; rfl
  have H1 := Lib.hid h1
  rw [← h1] at hn
  have h2 : (s / 4294967296 - (day + 25567) * 86400) % 4294967296 % 86400 * 1000000000 + (s % 4294967296 * 1000000000 + 4294967296 - 1) / 4294967296 = nearNano s day := by rw [hR, hT]; unfold nearNano nearN; rw [if_pos (by omega)]; omega
  have H2 := Lib.hid h2
  have e2 := low32 s s0 s1
  clear h2
  clear h1 hT hR
  go_enter Tryz.func87, Tryz.ntmps87
  go_wp2_with fail
  refine (era_isDay _ _).mono ?_; rintro e w1 ⟨rfl, hb1⟩; obtain ⟨hc1, hf1⟩ := bcell hb1; have hz1 := hb1.size; (try simp only [World.size_alloc, World.size_setCell, World.heap_drewN] at hb1 hc1 hf1 hz1); (try have ha01 : w.heap.size < w1.heap.size := by omega); (try have ha11 : w.heap.size + 1 < w1.heap.size := by omega); (try have ha21 : w.heap.size + 2 < w1.heap.size := by omega); (try have hal1 : w.heap.size ≤ w1.heap.size := by omega); (try have ham1 : w.heap.size < w1.heap.size + 2 := by omega)
  rw [h]
  go_wp2_with (first | (go_at_call 101; refine (era_begins _ _ (by omega) (by omega)).mono ?_; rintro e w' ⟨rfl, rfl⟩) | (go_at_call 102; refine (era_modulo _ _ _ (by omega) (by omega)).mono ?_; rintro e w' ⟨rfl, rfl⟩))
  refine (era_isDay _ _).mono ?_; rintro e w2 ⟨rfl, hb2⟩; obtain ⟨hc2, hf2⟩ := bcell hb2; have hz2 := hb2.size; (try simp only [World.size_alloc, World.size_setCell, World.heap_drewN] at hb2 hc2 hf2 hz2); (try have ha02 : w.heap.size < w2.heap.size := by omega); (try have ha12 : w.heap.size + 1 < w2.heap.size := by omega); (try have ha22 : w.heap.size + 2 < w2.heap.size := by omega); (try have hal2 : w.heap.size ≤ w2.heap.size := by omega); (try have ham2 : w.heap.size < w2.heap.size + 2 := by omega); (try have hb02 : w1.heap.size < w2.heap.size := by omega); (try have hb12 : w1.heap.size + 1 < w2.heap.size := by omega); (try have hb22 : w1.heap.size + 2 < w2.heap.size := by omega); (try have hbl2 : w1.heap.size ≤ w2.heap.size := by omega); (try have hbm2 : w1.heap.size < w2.heap.size + 2 := by omega)
  rw [hn]
  have y0 : w1.cell? ⟨w.heap.size, 0, none⟩ = some (.int .i64 0) := by rw [hc1 _ _ (by omega)]; simp
  have z0 : w2.cell? ⟨w.heap.size, 0, none⟩ = some (.int .i64 0) := by rw [hc2 _ _ (by omega), World.cell?_alloc_past _ _ _ ha01]; exact y0
  have y1 : w1.cell? ⟨w.heap.size, 1, none⟩ = some (.int .i64 0) := by rw [hc1 _ _ (by omega)]; simp
  have z1 : w2.cell? ⟨w.heap.size, 1, none⟩ = some (.int .i64 0) := by rw [hc2 _ _ (by omega), World.cell?_alloc_past _ _ _ ha01]; exact y1
  go_wp2_with fail
  refine bodyPost_ret (v := .tuple #[.agg #[.int .i64 (((day + 25567) * 86400 + (s / 4294967296 - (day + 25567) * 86400) % 4294967296) / 86400 - 25567), .int .i64 ((s / 4294967296 - (day + 25567) * 86400) % 4294967296 % 86400 * 1000000000 + (s % 4294967296 * 1000000000 + 4294967296 - 1) / 4294967296)], .int .i64 0]) (by simp [results, Tryz.results87, go_sem, z0, z1]) rfl ⟨ret_utc H1.out H2.out, ?_⟩
  go_light
  (repeat' (first | (with_reducible exact Below.refl _ _) | (with_reducible assumption) | (with_reducible refine Below.trans ?_ (Below.mono (by with_reducible assumption) ?_)) | (with_reducible refine Below.alloc ?_ ?_ _) | (with_reducible refine Below.setCell ?_ ?_ _) | (with_reducible refine below_drewN ?_ _) | (with_reducible refine Below.drew ?_) | go_size))
set_option maxHeartbeats 1000000 in
theorem era_near_A2 (s day : Int) (w : World) (h : dayB day = true) (s0 : 0 ≤ s) (s1 : s < 18446744073709551616) (hs : (s / 4294967296 - (day + 25567) * 86400) % 4294967296 < 2147483648) (hn : dayB (nearDay s day) = true) (hp : 999999999 < (s % 4294967296 * 1000000000 + 4294967296 - 1) / 4294967296) : Calls Tryz.prog 87 #[.int .u64 s, .int .i64 day] w fun e w' => e = .returned (.tuple #[.agg #[.int .i64 (nearDay s day), .int .i64 (nearNano s day)], .int .i64 0]) ∧ Below w.heap.size w w' := by
  obtain ⟨d0, d1⟩ := dayB_yes h
  have hT : (day + 25567) * 86400 + (s / 4294967296 - (day + 25567) * 86400) % 4294967296 = nearT s day := by unfold nearT; rw [if_pos hs]
  have hR : (s / 4294967296 - (day + 25567) * 86400) % 4294967296 % 86400 = ((day + 25567) * 86400 + (s / 4294967296 - (day + 25567) * 86400) % 4294967296) % 86400 := by omega
  have e1 : ((day + 25567) * 86400 + (s / 4294967296 - (day + 25567) * 86400) % 4294967296 - (s / 4294967296 - (day + 25567) * 86400) % 4294967296 % 86400).tdiv 86400 = ((day + 25567) * 86400 + (s / 4294967296 - (day + 25567) * 86400) % 4294967296) / 86400 := by rw [hR]; exact exact_tdiv _
  have h1 : ((day + 25567) * 86400 + (s / 4294967296 - (day + 25567) * 86400) % 4294967296) / 86400 - 25567 = nearDay s day := by rw [hT]; rfl
  have H1 := Lib.hid h1
  rw [← h1] at hn
  have h2 : (s / 4294967296 - (day + 25567) * 86400) % 4294967296 % 86400 * 1000000000 + 999999999 = nearNano s day := by rw [hR, hT]; unfold nearNano nearN; rw [if_neg (by omega)]
  have H2 := Lib.hid h2
  have e2 := low32 s s0 s1
  clear h2
  clear h1 hT hR
  go_enter Tryz.func87, Tryz.ntmps87
  go_wp2_with fail
  refine (era_isDay _ _).mono ?_; rintro e w1 ⟨rfl, hb1⟩; obtain ⟨hc1, hf1⟩ := bcell hb1; have hz1 := hb1.size; (try simp only [World.size_alloc, World.size_setCell, World.heap_drewN] at hb1 hc1 hf1 hz1); (try have ha01 : w.heap.size < w1.heap.size := by omega); (try have ha11 : w.heap.size + 1 < w1.heap.size := by omega); (try have ha21 : w.heap.size + 2 < w1.heap.size := by omega); (try have hal1 : w.heap.size ≤ w1.heap.size := by omega); (try have ham1 : w.heap.size < w1.heap.size + 2 := by omega)
  rw [h]
  go_wp2_with (first | (go_at_call 101; refine (era_begins _ _ (by omega) (by omega)).mono ?_; rintro e w' ⟨rfl, rfl⟩) | (go_at_call 102; refine (era_modulo _ _ _ (by omega) (by omega)).mono ?_; rintro e w' ⟨rfl, rfl⟩))
  refine (era_isDay _ _).mono ?_; rintro e w2 ⟨rfl, hb2⟩; obtain ⟨hc2, hf2⟩ := bcell hb2; have hz2 := hb2.size; (try simp only [World.size_alloc, World.size_setCell, World.heap_drewN] at hb2 hc2 hf2 hz2); (try have ha02 : w.heap.size < w2.heap.size := by omega); (try have ha12 : w.heap.size + 1 < w2.heap.size := by omega); (try have ha22 : w.heap.size + 2 < w2.heap.size := by omega); (try have hal2 : w.heap.size ≤ w2.heap.size := by omega); (try have ham2 : w.heap.size < w2.heap.size + 2 := by omega); (try have hb02 : w1.heap.size < w2.heap.size := by omega); (try have hb12 : w1.heap.size + 1 < w2.heap.size := by omega); (try have hb22 : w1.heap.size + 2 < w2.heap.size := by omega); (try have hbl2 : w1.heap.size ≤ w2.heap.size := by omega); (try have hbm2 : w1.heap.size < w2.heap.size + 2 := by omega)
  rw [hn]
  have y0 : w1.cell? ⟨w.heap.size, 0, none⟩ = some (.int .i64 0) := by rw [hc1 _ _ (by omega)]; simp
  have z0 : w2.cell? ⟨w.heap.size, 0, none⟩ = some (.int .i64 0) := by rw [hc2 _ _ (by omega), World.cell?_alloc_past _ _ _ ha01]; exact y0
  have y1 : w1.cell? ⟨w.heap.size, 1, none⟩ = some (.int .i64 0) := by rw [hc1 _ _ (by omega)]; simp
  have z1 : w2.cell? ⟨w.heap.size, 1, none⟩ = some (.int .i64 0) := by rw [hc2 _ _ (by omega), World.cell?_alloc_past _ _ _ ha01]; exact y1
  go_wp2_with fail
  refine bodyPost_ret (v := .tuple #[.agg #[.int .i64 (((day + 25567) * 86400 + (s / 4294967296 - (day + 25567) * 86400) % 4294967296) / 86400 - 25567), .int .i64 ((s / 4294967296 - (day + 25567) * 86400) % 4294967296 % 86400 * 1000000000 + 999999999)], .int .i64 0]) (by simp [results, Tryz.results87, go_sem, z0, z1]) rfl ⟨ret_utc H1.out H2.out, ?_⟩
  go_light
  (repeat' (first | (with_reducible exact Below.refl _ _) | (with_reducible assumption) | (with_reducible refine Below.trans ?_ (Below.mono (by with_reducible assumption) ?_)) | (with_reducible refine Below.alloc ?_ ?_ _) | (with_reducible refine Below.setCell ?_ ?_ _) | (with_reducible refine below_drewN ?_ _) | (with_reducible refine Below.drew ?_) | go_size))
set_option maxHeartbeats 1000000 in
theorem era_near_Bx (s day : Int) (w : World) (h : dayB day = true) (s0 : 0 ≤ s) (s1 : s < 18446744073709551616) (hs : 2147483648 ≤ (s / 4294967296 - (day + 25567) * 86400) % 4294967296) (hn : dayB (nearDay s day) = false)  : Calls Tryz.prog 87 #[.int .u64 s, .int .i64 day] w fun e w' => e = .returned (.tuple #[.agg #[.int .i64 0, .int .i64 0], .int .i64 11]) ∧ Below w.heap.size w w' := by
  obtain ⟨d0, d1⟩ := dayB_yes h
  have hT : (day + 25567) * 86400 + ((s / 4294967296 - (day + 25567) * 86400) % 4294967296 - 4294967296) = nearT s day := by unfold nearT; rw [if_neg (by omega)]; omega
  have hR : ((s / 4294967296 - (day + 25567) * 86400) % 4294967296 - 4294967296) % 86400 = ((day + 25567) * 86400 + ((s / 4294967296 - (day + 25567) * 86400) % 4294967296 - 4294967296)) % 86400 := by omega
  have e1 : ((day + 25567) * 86400 + ((s / 4294967296 - (day + 25567) * 86400) % 4294967296 - 4294967296) - ((s / 4294967296 - (day + 25567) * 86400) % 4294967296 - 4294967296) % 86400).tdiv 86400 = ((day + 25567) * 86400 + ((s / 4294967296 - (day + 25567) * 86400) % 4294967296 - 4294967296)) / 86400 := by rw [hR]; exact exact_tdiv _
  have h1 : ((day + 25567) * 86400 + ((s / 4294967296 - (day + 25567) * 86400) % 4294967296 - 4294967296)) / 86400 - 25567 = nearDay s day := by rw [hT]; rfl
  have H1 := Lib.hid h1
  rw [← h1] at hn
  clear h1 hT hR
  go_enter Tryz.func87, Tryz.ntmps87
  go_wp2_with fail
  refine (era_isDay _ _).mono ?_; rintro e w1 ⟨rfl, hb1⟩; obtain ⟨hc1, hf1⟩ := bcell hb1; have hz1 := hb1.size; (try simp only [World.size_alloc, World.size_setCell, World.heap_drewN] at hb1 hc1 hf1 hz1); (try have ha01 : w.heap.size < w1.heap.size := by omega); (try have ha11 : w.heap.size + 1 < w1.heap.size := by omega); (try have ha21 : w.heap.size + 2 < w1.heap.size := by omega); (try have hal1 : w.heap.size ≤ w1.heap.size := by omega); (try have ham1 : w.heap.size < w1.heap.size + 2 := by omega)
  rw [h]
  go_wp2_with (first | (go_at_call 101; refine (era_begins _ _ (by omega) (by omega)).mono ?_; rintro e w' ⟨rfl, rfl⟩) | (go_at_call 102; refine (era_modulo _ _ _ (by omega) (by omega)).mono ?_; rintro e w' ⟨rfl, rfl⟩))
  refine (era_isDay _ _).mono ?_; rintro e w2 ⟨rfl, hb2⟩; obtain ⟨hc2, hf2⟩ := bcell hb2; have hz2 := hb2.size; (try simp only [World.size_alloc, World.size_setCell, World.heap_drewN] at hb2 hc2 hf2 hz2); (try have ha02 : w.heap.size < w2.heap.size := by omega); (try have ha12 : w.heap.size + 1 < w2.heap.size := by omega); (try have ha22 : w.heap.size + 2 < w2.heap.size := by omega); (try have hal2 : w.heap.size ≤ w2.heap.size := by omega); (try have ham2 : w.heap.size < w2.heap.size + 2 := by omega); (try have hb02 : w1.heap.size < w2.heap.size := by omega); (try have hb12 : w1.heap.size + 1 < w2.heap.size := by omega); (try have hb22 : w1.heap.size + 2 < w2.heap.size := by omega); (try have hbl2 : w1.heap.size ≤ w2.heap.size := by omega); (try have hbm2 : w1.heap.size < w2.heap.size + 2 := by omega)
  rw [hn]
  have y0 : w1.cell? ⟨w.heap.size, 0, none⟩ = some (.int .i64 0) := by rw [hc1 _ _ (by omega)]; simp
  have z0 : w2.cell? ⟨w.heap.size, 0, none⟩ = some (.int .i64 0) := by rw [hc2 _ _ (by omega), World.cell?_alloc_past _ _ _ ha01]; exact y0
  have y1 : w1.cell? ⟨w.heap.size, 1, none⟩ = some (.int .i64 0) := by rw [hc1 _ _ (by omega)]; simp
  have z1 : w2.cell? ⟨w.heap.size, 1, none⟩ = some (.int .i64 0) := by rw [hc2 _ _ (by omega), World.cell?_alloc_past _ _ _ ha01]; exact y1
  go_wp2_with fail
  refine bodyPost_ret (v := .tuple #[.agg #[.int .i64 0, .int .i64 0], .int .i64 11]) (by simp [results, Tryz.results87, go_sem, z0, z1]) rfl ⟨rfl, ?_⟩
  go_light
  (repeat' (first | (with_reducible exact Below.refl _ _) | (with_reducible assumption) | (with_reducible refine Below.trans ?_ (Below.mono (by with_reducible assumption) ?_)) | (with_reducible refine Below.alloc ?_ ?_ _) | (with_reducible refine Below.setCell ?_ ?_ _) | (with_reducible refine below_drewN ?_ _) | (with_reducible refine Below.drew ?_) | go_size))
set_option maxHeartbeats 1000000 in
theorem era_near_B1 (s day : Int) (w : World) (h : dayB day = true) (s0 : 0 ≤ s) (s1 : s < 18446744073709551616) (hs : 2147483648 ≤ (s / 4294967296 - (day + 25567) * 86400) % 4294967296) (hn : dayB (nearDay s day) = true) (hp : (s % 4294967296 * 1000000000 + 4294967296 - 1) / 4294967296 ≤ 999999999) : Calls Tryz.prog 87 #[.int .u64 s, .int .i64 day] w fun e w' => e = .returned (.tuple #[.agg #[.int .i64 (nearDay s day), .int .i64 (nearNano s day)], .int .i64 0]) ∧ Below w.heap.size w w' := by
  obtain ⟨d0, d1⟩ := dayB_yes h
  have hT : (day + 25567) * 86400 + ((s / 4294967296 - (day + 25567) * 86400) % 4294967296 - 4294967296) = nearT s day := by unfold nearT; rw [if_neg (by omega)]; omega
  have hR : ((s / 4294967296 - (day + 25567) * 86400) % 4294967296 - 4294967296) % 86400 = ((day + 25567) * 86400 + ((s / 4294967296 - (day + 25567) * 86400) % 4294967296 - 4294967296)) % 86400 := by omega
  have e1 : ((day + 25567) * 86400 + ((s / 4294967296 - (day + 25567) * 86400) % 4294967296 - 4294967296) - ((s / 4294967296 - (day + 25567) * 86400) % 4294967296 - 4294967296) % 86400).tdiv 86400 = ((day + 25567) * 86400 + ((s / 4294967296 - (day + 25567) * 86400) % 4294967296 - 4294967296)) / 86400 := by rw [hR]; exact exact_tdiv _
  have h1 : ((day + 25567) * 86400 + ((s / 4294967296 - (day + 25567) * 86400) % 4294967296 - 4294967296)) / 86400 - 25567 = nearDay s day := by rw [hT]; rfl
  have H1 := Lib.hid h1
  rw [← h1] at hn
  have h2 : ((s / 4294967296 - (day + 25567) * 86400) % 4294967296 - 4294967296) % 86400 * 1000000000 + (s % 4294967296 * 1000000000 + 4294967296 - 1) / 4294967296 = nearNano s day := by rw [hR, hT]; unfold nearNano nearN; rw [if_pos (by omega)]; omega
  have H2 := Lib.hid h2
  have e2 := low32 s s0 s1
  clear h2
  clear h1 hT hR
  go_enter Tryz.func87, Tryz.ntmps87
  go_wp2_with fail
  refine (era_isDay _ _).mono ?_; rintro e w1 ⟨rfl, hb1⟩; obtain ⟨hc1, hf1⟩ := bcell hb1; have hz1 := hb1.size; (try simp only [World.size_alloc, World.size_setCell, World.heap_drewN] at hb1 hc1 hf1 hz1); (try have ha01 : w.heap.size < w1.heap.size := by omega); (try have ha11 : w.heap.size + 1 < w1.heap.size := by omega); (try have ha21 : w.heap.size + 2 < w1.heap.size := by omega); (try have hal1 : w.heap.size ≤ w1.heap.size := by omega); (try have ham1 : w.heap.size < w1.heap.size + 2 := by omega)
  rw [h]
  go_wp2_with (first | (go_at_call 101; refine (era_begins _ _ (by omega) (by omega)).mono ?_; rintro e w' ⟨rfl, rfl⟩) | (go_at_call 102; refine (era_modulo _ _ _ (by omega) (by omega)).mono ?_; rintro e w' ⟨rfl, rfl⟩))
  refine (era_isDay _ _).mono ?_; rintro e w2 ⟨rfl, hb2⟩; obtain ⟨hc2, hf2⟩ := bcell hb2; have hz2 := hb2.size; (try simp only [World.size_alloc, World.size_setCell, World.heap_drewN] at hb2 hc2 hf2 hz2); (try have ha02 : w.heap.size < w2.heap.size := by omega); (try have ha12 : w.heap.size + 1 < w2.heap.size := by omega); (try have ha22 : w.heap.size + 2 < w2.heap.size := by omega); (try have hal2 : w.heap.size ≤ w2.heap.size := by omega); (try have ham2 : w.heap.size < w2.heap.size + 2 := by omega); (try have hb02 : w1.heap.size < w2.heap.size := by omega); (try have hb12 : w1.heap.size + 1 < w2.heap.size := by omega); (try have hb22 : w1.heap.size + 2 < w2.heap.size := by omega); (try have hbl2 : w1.heap.size ≤ w2.heap.size := by omega); (try have hbm2 : w1.heap.size < w2.heap.size + 2 := by omega)
  rw [hn]
  have y0 : w1.cell? ⟨w.heap.size, 0, none⟩ = some (.int .i64 0) := by rw [hc1 _ _ (by omega)]; simp
  have z0 : w2.cell? ⟨w.heap.size, 0, none⟩ = some (.int .i64 0) := by rw [hc2 _ _ (by omega), World.cell?_alloc_past _ _ _ ha01]; exact y0
  have y1 : w1.cell? ⟨w.heap.size, 1, none⟩ = some (.int .i64 0) := by rw [hc1 _ _ (by omega)]; simp
  have z1 : w2.cell? ⟨w.heap.size, 1, none⟩ = some (.int .i64 0) := by rw [hc2 _ _ (by omega), World.cell?_alloc_past _ _ _ ha01]; exact y1
  go_wp2_with fail
  refine bodyPost_ret (v := .tuple #[.agg #[.int .i64 (((day + 25567) * 86400 + ((s / 4294967296 - (day + 25567) * 86400) % 4294967296 - 4294967296)) / 86400 - 25567), .int .i64 (((s / 4294967296 - (day + 25567) * 86400) % 4294967296 - 4294967296) % 86400 * 1000000000 + (s % 4294967296 * 1000000000 + 4294967296 - 1) / 4294967296)], .int .i64 0]) (by simp [results, Tryz.results87, go_sem, z0, z1]) rfl ⟨ret_utc H1.out H2.out, ?_⟩
  go_light
  (repeat' (first | (with_reducible exact Below.refl _ _) | (with_reducible assumption) | (with_reducible refine Below.trans ?_ (Below.mono (by with_reducible assumption) ?_)) | (with_reducible refine Below.alloc ?_ ?_ _) | (with_reducible refine Below.setCell ?_ ?_ _) | (with_reducible refine below_drewN ?_ _) | (with_reducible refine Below.drew ?_) | go_size))
set_option maxHeartbeats 1000000 in
theorem era_near_B2 (s day : Int) (w : World) (h : dayB day = true) (s0 : 0 ≤ s) (s1 : s < 18446744073709551616) (hs : 2147483648 ≤ (s / 4294967296 - (day + 25567) * 86400) % 4294967296) (hn : dayB (nearDay s day) = true) (hp : 999999999 < (s % 4294967296 * 1000000000 + 4294967296 - 1) / 4294967296) : Calls Tryz.prog 87 #[.int .u64 s, .int .i64 day] w fun e w' => e = .returned (.tuple #[.agg #[.int .i64 (nearDay s day), .int .i64 (nearNano s day)], .int .i64 0]) ∧ Below w.heap.size w w' := by
  obtain ⟨d0, d1⟩ := dayB_yes h
  have hT : (day + 25567) * 86400 + ((s / 4294967296 - (day + 25567) * 86400) % 4294967296 - 4294967296) = nearT s day := by unfold nearT; rw [if_neg (by omega)]; omega
  have hR : ((s / 4294967296 - (day + 25567) * 86400) % 4294967296 - 4294967296) % 86400 = ((day + 25567) * 86400 + ((s / 4294967296 - (day + 25567) * 86400) % 4294967296 - 4294967296)) % 86400 := by omega
  have e1 : ((day + 25567) * 86400 + ((s / 4294967296 - (day + 25567) * 86400) % 4294967296 - 4294967296) - ((s / 4294967296 - (day + 25567) * 86400) % 4294967296 - 4294967296) % 86400).tdiv 86400 = ((day + 25567) * 86400 + ((s / 4294967296 - (day + 25567) * 86400) % 4294967296 - 4294967296)) / 86400 := by rw [hR]; exact exact_tdiv _
  have h1 : ((day + 25567) * 86400 + ((s / 4294967296 - (day + 25567) * 86400) % 4294967296 - 4294967296)) / 86400 - 25567 = nearDay s day := by rw [hT]; rfl
  have H1 := Lib.hid h1
  rw [← h1] at hn
  have h2 : ((s / 4294967296 - (day + 25567) * 86400) % 4294967296 - 4294967296) % 86400 * 1000000000 + 999999999 = nearNano s day := by rw [hR, hT]; unfold nearNano nearN; rw [if_neg (by omega)]
  have H2 := Lib.hid h2
  have e2 := low32 s s0 s1
  clear h2
  clear h1 hT hR
  go_enter Tryz.func87, Tryz.ntmps87
  go_wp2_with fail
  refine (era_isDay _ _).mono ?_; rintro e w1 ⟨rfl, hb1⟩; obtain ⟨hc1, hf1⟩ := bcell hb1; have hz1 := hb1.size; (try simp only [World.size_alloc, World.size_setCell, World.heap_drewN] at hb1 hc1 hf1 hz1); (try have ha01 : w.heap.size < w1.heap.size := by omega); (try have ha11 : w.heap.size + 1 < w1.heap.size := by omega); (try have ha21 : w.heap.size + 2 < w1.heap.size := by omega); (try have hal1 : w.heap.size ≤ w1.heap.size := by omega); (try have ham1 : w.heap.size < w1.heap.size + 2 := by omega)
  rw [h]
  go_wp2_with (first | (go_at_call 101; refine (era_begins _ _ (by omega) (by omega)).mono ?_; rintro e w' ⟨rfl, rfl⟩) | (go_at_call 102; refine (era_modulo _ _ _ (by omega) (by omega)).mono ?_; rintro e w' ⟨rfl, rfl⟩))
  refine (era_isDay _ _).mono ?_; rintro e w2 ⟨rfl, hb2⟩; obtain ⟨hc2, hf2⟩ := bcell hb2; have hz2 := hb2.size; (try simp only [World.size_alloc, World.size_setCell, World.heap_drewN] at hb2 hc2 hf2 hz2); (try have ha02 : w.heap.size < w2.heap.size := by omega); (try have ha12 : w.heap.size + 1 < w2.heap.size := by omega); (try have ha22 : w.heap.size + 2 < w2.heap.size := by omega); (try have hal2 : w.heap.size ≤ w2.heap.size := by omega); (try have ham2 : w.heap.size < w2.heap.size + 2 := by omega); (try have hb02 : w1.heap.size < w2.heap.size := by omega); (try have hb12 : w1.heap.size + 1 < w2.heap.size := by omega); (try have hb22 : w1.heap.size + 2 < w2.heap.size := by omega); (try have hbl2 : w1.heap.size ≤ w2.heap.size := by omega); (try have hbm2 : w1.heap.size < w2.heap.size + 2 := by omega)
  rw [hn]
  have y0 : w1.cell? ⟨w.heap.size, 0, none⟩ = some (.int .i64 0) := by rw [hc1 _ _ (by omega)]; simp
  have z0 : w2.cell? ⟨w.heap.size, 0, none⟩ = some (.int .i64 0) := by rw [hc2 _ _ (by omega), World.cell?_alloc_past _ _ _ ha01]; exact y0
  have y1 : w1.cell? ⟨w.heap.size, 1, none⟩ = some (.int .i64 0) := by rw [hc1 _ _ (by omega)]; simp
  have z1 : w2.cell? ⟨w.heap.size, 1, none⟩ = some (.int .i64 0) := by rw [hc2 _ _ (by omega), World.cell?_alloc_past _ _ _ ha01]; exact y1
  go_wp2_with fail
  refine bodyPost_ret (v := .tuple #[.agg #[.int .i64 (((day + 25567) * 86400 + ((s / 4294967296 - (day + 25567) * 86400) % 4294967296 - 4294967296)) / 86400 - 25567), .int .i64 (((s / 4294967296 - (day + 25567) * 86400) % 4294967296 - 4294967296) % 86400 * 1000000000 + 999999999)], .int .i64 0]) (by simp [results, Tryz.results87, go_sem, z0, z1]) rfl ⟨ret_utc H1.out H2.out, ?_⟩
  go_light
  (repeat' (first | (with_reducible exact Below.refl _ _) | (with_reducible assumption) | (with_reducible refine Below.trans ?_ (Below.mono (by with_reducible assumption) ?_)) | (with_reducible refine Below.alloc ?_ ?_ _) | (with_reducible refine Below.setCell ?_ ?_ _) | (with_reducible refine below_drewN ?_ _) | (with_reducible refine Below.drew ?_) | go_size))
theorem ref4_floor (a b : Int) (w : World) (h0 : 1 ≤ b) (h1 : b ≤ 4294967296) (a0 : -9000000000000000000 ≤ a) (a1 : a ≤ 9000000000000000000) : Calls Tryz.prog 49 #[.int .i64 a, .int .i64 b] w fun e w' => e = .returned (.int .i64 (a / b)) ∧ w = w' := by
  have hb0 : (b == 0) = false := by simp; omega
  have q := Int.tdiv_eq_ediv (a := a) (b := b)
  have r := Int.tmod_eq_emod (a := a) (b := b)
  have m0 := Int.emod_nonneg a (show b ≠ 0 by omega)
  have m1 := Int.emod_lt_of_pos a (show 0 < b by omega)
  have dm := Int.mul_ediv_add_emod a b
  have sg : b.sign = 1 := Int.sign_eq_one_of_pos (by omega)
  have bd1 : -9000000000000000000 ≤ a / b := by
    rcases (show 0 ≤ a ∨ a < 0 from by omega) with h | h
    · have := Int.ediv_nonneg h (show 0 ≤ b by omega); omega
    · have := Int.le_ediv_of_mul_le (c := b) (a := a) (b := a) (by omega) (by have := Int.mul_le_mul_of_nonpos_left (show a ≤ 0 by omega) (show 1 ≤ b by omega); omega); omega
  have bd2 : a / b ≤ 9000000000000000000 := by
    rcases (show 0 ≤ a ∨ a < 0 from by omega) with h | h
    · have := Int.ediv_le_self b h; omega
    · have := Int.ediv_neg_of_neg_of_pos h (show 0 < b by omega); omega
  by_cases hc : 0 ≤ a ∨ b ∣ a
  · rw [if_pos hc] at q r
    have q1 : a.tdiv b = a / b := by omega
    have hr : decide (a.tmod b < 0) = false := by simp; omega
    have HQ := Lib.hid q1
    have b1 : -9000000000000000000 ≤ a.tdiv b ∧ a.tdiv b ≤ 9000000000000000000 := by omega
    clear q r dm q1 hc
    go_enter Tryz.func49, Tryz.ntmps49
    go_wp2
    go_ret
    exact ⟨ret_int HQ.out, rfl⟩
  · rw [if_neg hc] at q r
    have hd : a % b ≠ 0 := fun h => hc (.inr (Int.dvd_of_emod_eq_zero h))
    have q1 : a.tdiv b - 1 = a / b := by rw [sg] at q; omega
    have hr : a.tmod b < 0 := by
      have : (b.natAbs : Int) = b := by omega
      omega
    have HQ := Lib.hid q1
    have b1 : -9000000000000000000 ≤ a.tdiv b - 1 ∧ a.tdiv b - 1 ≤ 9000000000000000000 := by omega
    clear q r dm q1 hc
    go_enter Tryz.func49, Tryz.ntmps49
    go_wp2
    go_ret
    exact ⟨ret_int HQ.out, rfl⟩
set_option maxHeartbeats 400000 in
theorem ref5_near_no (s day : Int) (w : World) (h : dayB day = false) : Calls Tryz.prog 75 #[.int .u64 s, .int .i64 day] w fun e w' => e = .returned (.tuple #[.agg #[.int .i64 0, .int .i64 0], .int .i64 1]) ∧ Below w.heap.size w w' := by
  go_enter Tryz.func75, Tryz.ntmps75
  go_wp2_with (go_at_call 74; refine (ref2_in_dayB day _).mono ?_; rintro e w' ⟨rfl, rfl⟩)
  refine bodyPost_ret (v := .tuple #[.agg #[.int .i64 0, .int .i64 0], .int .i64 1]) (by simp [results, Tryz.results75, go_sem]) rfl ⟨rfl, ?_⟩
  go_light
  (repeat' (first | (with_reducible exact Below.refl _ _) | (with_reducible assumption) | (with_reducible refine Below.trans ?_ (Below.mono (by with_reducible assumption) ?_)) | (with_reducible refine Below.alloc ?_ ?_ _) | (with_reducible refine Below.setCell ?_ ?_ _) | (with_reducible refine below_drewN ?_ _) | (with_reducible refine Below.drew ?_) | go_size))
set_option maxHeartbeats 1000000 in
theorem ref5_near_Ax1 (s day : Int) (w : World) (h : dayB day = true) (s0 : 0 ≤ s) (s1 : s < 18446744073709551616) (hs : (day + 25567) * 86400 - (s / 4294967296 + ((day + 25567) * 86400 - s / 4294967296) / 4294967296 * 4294967296) ≤ s / 4294967296 + ((day + 25567) * 86400 - s / 4294967296) / 4294967296 * 4294967296 + 4294967296 - (day + 25567) * 86400) (hn : dayB (nearDay s day) = false) (hp : (s % 4294967296 * 1000000000 + 4294967296 - 1) / 4294967296 ≤ 999999999) : Calls Tryz.prog 75 #[.int .u64 s, .int .i64 day] w fun e w' => e = .returned (.tuple #[.agg #[.int .i64 0, .int .i64 0], .int .i64 11]) ∧ Below w.heap.size w w' := by
  obtain ⟨d0, d1⟩ := dayB_yes h
  have hT : s / 4294967296 + ((day + 25567) * 86400 - s / 4294967296) / 4294967296 * 4294967296 = nearT s day := by unfold nearT; split <;> omega
  have h1 : (s / 4294967296 + ((day + 25567) * 86400 - s / 4294967296) / 4294967296 * 4294967296) / 86400 - 25567 = nearDay s day := by rw [hT]; rfl
  have H1 := Lib.hid h1
  rw [← h1] at hn
  have e2 := low32 s s0 s1
  clear h1 hT
  go_enter Tryz.func75, Tryz.ntmps75
  go_wp2_with fail
  refine (ref2_in_dayB _ _).mono ?_; rintro e w' ⟨rfl, rfl⟩
  rw [h]
  go_wp2_with (go_at_call 49; refine (ref4_floor _ _ _ (by omega) (by omega) (by omega) (by omega)).mono ?_; rintro e w' ⟨rfl, rfl⟩)
  refine (ref2_in_dayB _ _).mono ?_; rintro e w' ⟨rfl, rfl⟩
  rw [hn]
  go_wp2_with fail
  refine bodyPost_ret (v := .tuple #[.agg #[.int .i64 0, .int .i64 0], .int .i64 11]) (by simp [results, Tryz.results75, go_sem]) rfl ⟨rfl, ?_⟩
  go_light
  (repeat' (first | (with_reducible exact Below.refl _ _) | (with_reducible assumption) | (with_reducible refine Below.trans ?_ (Below.mono (by with_reducible assumption) ?_)) | (with_reducible refine Below.alloc ?_ ?_ _) | (with_reducible refine Below.setCell ?_ ?_ _) | (with_reducible refine below_drewN ?_ _) | (with_reducible refine Below.drew ?_) | go_size))
set_option maxHeartbeats 1000000 in
theorem ref5_near_Ax2 (s day : Int) (w : World) (h : dayB day = true) (s0 : 0 ≤ s) (s1 : s < 18446744073709551616) (hs : (day + 25567) * 86400 - (s / 4294967296 + ((day + 25567) * 86400 - s / 4294967296) / 4294967296 * 4294967296) ≤ s / 4294967296 + ((day + 25567) * 86400 - s / 4294967296) / 4294967296 * 4294967296 + 4294967296 - (day + 25567) * 86400) (hn : dayB (nearDay s day) = false) (hp : 999999999 < (s % 4294967296 * 1000000000 + 4294967296 - 1) / 4294967296) : Calls Tryz.prog 75 #[.int .u64 s, .int .i64 day] w fun e w' => e = .returned (.tuple #[.agg #[.int .i64 0, .int .i64 0], .int .i64 11]) ∧ Below w.heap.size w w' := by
  obtain ⟨d0, d1⟩ := dayB_yes h
  have hT : s / 4294967296 + ((day + 25567) * 86400 - s / 4294967296) / 4294967296 * 4294967296 = nearT s day := by unfold nearT; split <;> omega
  have h1 : (s / 4294967296 + ((day + 25567) * 86400 - s / 4294967296) / 4294967296 * 4294967296) / 86400 - 25567 = nearDay s day := by rw [hT]; rfl
  have H1 := Lib.hid h1
  rw [← h1] at hn
  have e2 := low32 s s0 s1
  clear h1 hT
  go_enter Tryz.func75, Tryz.ntmps75
  go_wp2_with fail
  refine (ref2_in_dayB _ _).mono ?_; rintro e w' ⟨rfl, rfl⟩
  rw [h]
  go_wp2_with (go_at_call 49; refine (ref4_floor _ _ _ (by omega) (by omega) (by omega) (by omega)).mono ?_; rintro e w' ⟨rfl, rfl⟩)
  refine (ref2_in_dayB _ _).mono ?_; rintro e w' ⟨rfl, rfl⟩
  rw [hn]
  go_wp2_with fail
  refine bodyPost_ret (v := .tuple #[.agg #[.int .i64 0, .int .i64 0], .int .i64 11]) (by simp [results, Tryz.results75, go_sem]) rfl ⟨rfl, ?_⟩
  go_light
  (repeat' (first | (with_reducible exact Below.refl _ _) | (with_reducible assumption) | (with_reducible refine Below.trans ?_ (Below.mono (by with_reducible assumption) ?_)) | (with_reducible refine Below.alloc ?_ ?_ _) | (with_reducible refine Below.setCell ?_ ?_ _) | (with_reducible refine below_drewN ?_ _) | (with_reducible refine Below.drew ?_) | go_size))
set_option maxHeartbeats 1000000 in
theorem ref5_near_A1 (s day : Int) (w : World) (h : dayB day = true) (s0 : 0 ≤ s) (s1 : s < 18446744073709551616) (hs : (day + 25567) * 86400 - (s / 4294967296 + ((day + 25567) * 86400 - s / 4294967296) / 4294967296 * 4294967296) ≤ s / 4294967296 + ((day + 25567) * 86400 - s / 4294967296) / 4294967296 * 4294967296 + 4294967296 - (day + 25567) * 86400) (hn : dayB (nearDay s day) = true) (hp : (s % 4294967296 * 1000000000 + 4294967296 - 1) / 4294967296 ≤ 999999999) : Calls Tryz.prog 75 #[.int .u64 s, .int .i64 day] w fun e w' => e = .returned (.tuple #[.agg #[.int .i64 (nearDay s day), .int .i64 (nearNano s day)], .int .i64 0]) ∧ Below w.heap.size w w' := by
  obtain ⟨d0, d1⟩ := dayB_yes h
  have hT : s / 4294967296 + ((day + 25567) * 86400 - s / 4294967296) / 4294967296 * 4294967296 = nearT s day := by unfold nearT; split <;> omega
  have h1 : (s / 4294967296 + ((day + 25567) * 86400 - s / 4294967296) / 4294967296 * 4294967296) / 86400 - 25567 = nearDay s day := by rw [hT]; rfl
  have H1 := Lib.hid h1
  rw [← h1] at hn
  have e2 := low32 s s0 s1
  have h2 : (s / 4294967296 + ((day + 25567) * 86400 - s / 4294967296) / 4294967296 * 4294967296 - (s / 4294967296 + ((day + 25567) * 86400 - s / 4294967296) / 4294967296 * 4294967296) / 86400 * 86400) * 1000000000 + (s % 4294967296 * 1000000000 + 4294967296 - 1) / 4294967296 = nearNano s day := by rw [hT]; unfold nearNano nearN; rw [if_pos (by omega)]; omega
  have H2 := Lib.hid h2
  clear h2
  clear h1 hT
  go_enter Tryz.func75, Tryz.ntmps75
  go_wp2_with fail
  refine (ref2_in_dayB _ _).mono ?_; rintro e w' ⟨rfl, rfl⟩
  rw [h]
  go_wp2_with (go_at_call 49; refine (ref4_floor _ _ _ (by omega) (by omega) (by omega) (by omega)).mono ?_; rintro e w' ⟨rfl, rfl⟩)
  refine (ref2_in_dayB _ _).mono ?_; rintro e w' ⟨rfl, rfl⟩
  rw [hn]
  go_wp2_with fail
  refine bodyPost_ret (v := .tuple #[.agg #[.int .i64 ((s / 4294967296 + ((day + 25567) * 86400 - s / 4294967296) / 4294967296 * 4294967296) / 86400 - 25567), .int .i64 ((s / 4294967296 + ((day + 25567) * 86400 - s / 4294967296) / 4294967296 * 4294967296 - (s / 4294967296 + ((day + 25567) * 86400 - s / 4294967296) / 4294967296 * 4294967296) / 86400 * 86400) * 1000000000 + (s % 4294967296 * 1000000000 + 4294967296 - 1) / 4294967296)], .int .i64 0]) (by simp [results, Tryz.results75, go_sem]) rfl ⟨ret_utc H1.out H2.out, ?_⟩
  go_light
  (repeat' (first | (with_reducible exact Below.refl _ _) | (with_reducible assumption) | (with_reducible refine Below.trans ?_ (Below.mono (by with_reducible assumption) ?_)) | (with_reducible refine Below.alloc ?_ ?_ _) | (with_reducible refine Below.setCell ?_ ?_ _) | (with_reducible refine below_drewN ?_ _) | (with_reducible refine Below.drew ?_) | go_size))
set_option maxHeartbeats 1000000 in
theorem ref5_near_A2 (s day : Int) (w : World) (h : dayB day = true) (s0 : 0 ≤ s) (s1 : s < 18446744073709551616) (hs : (day + 25567) * 86400 - (s / 4294967296 + ((day + 25567) * 86400 - s / 4294967296) / 4294967296 * 4294967296) ≤ s / 4294967296 + ((day + 25567) * 86400 - s / 4294967296) / 4294967296 * 4294967296 + 4294967296 - (day + 25567) * 86400) (hn : dayB (nearDay s day) = true) (hp : 999999999 < (s % 4294967296 * 1000000000 + 4294967296 - 1) / 4294967296) : Calls Tryz.prog 75 #[.int .u64 s, .int .i64 day] w fun e w' => e = .returned (.tuple #[.agg #[.int .i64 (nearDay s day), .int .i64 (nearNano s day)], .int .i64 0]) ∧ Below w.heap.size w w' := by
  obtain ⟨d0, d1⟩ := dayB_yes h
  have hT : s / 4294967296 + ((day + 25567) * 86400 - s / 4294967296) / 4294967296 * 4294967296 = nearT s day := by unfold nearT; split <;> omega
  have h1 : (s / 4294967296 + ((day + 25567) * 86400 - s / 4294967296) / 4294967296 * 4294967296) / 86400 - 25567 = nearDay s day := by rw [hT]; rfl
  have H1 := Lib.hid h1
  rw [← h1] at hn
  have e2 := low32 s s0 s1
  have h2 : (s / 4294967296 + ((day + 25567) * 86400 - s / 4294967296) / 4294967296 * 4294967296 - (s / 4294967296 + ((day + 25567) * 86400 - s / 4294967296) / 4294967296 * 4294967296) / 86400 * 86400) * 1000000000 + 999999999 = nearNano s day := by rw [hT]; unfold nearNano nearN; rw [if_neg (by omega)]; omega
  have H2 := Lib.hid h2
  clear h2
  clear h1 hT
  go_enter Tryz.func75, Tryz.ntmps75
  go_wp2_with fail
  refine (ref2_in_dayB _ _).mono ?_; rintro e w' ⟨rfl, rfl⟩
  rw [h]
  go_wp2_with (go_at_call 49; refine (ref4_floor _ _ _ (by omega) (by omega) (by omega) (by omega)).mono ?_; rintro e w' ⟨rfl, rfl⟩)
  refine (ref2_in_dayB _ _).mono ?_; rintro e w' ⟨rfl, rfl⟩
  rw [hn]
  go_wp2_with fail
  refine bodyPost_ret (v := .tuple #[.agg #[.int .i64 ((s / 4294967296 + ((day + 25567) * 86400 - s / 4294967296) / 4294967296 * 4294967296) / 86400 - 25567), .int .i64 ((s / 4294967296 + ((day + 25567) * 86400 - s / 4294967296) / 4294967296 * 4294967296 - (s / 4294967296 + ((day + 25567) * 86400 - s / 4294967296) / 4294967296 * 4294967296) / 86400 * 86400) * 1000000000 + 999999999)], .int .i64 0]) (by simp [results, Tryz.results75, go_sem]) rfl ⟨ret_utc H1.out H2.out, ?_⟩
  go_light
  (repeat' (first | (with_reducible exact Below.refl _ _) | (with_reducible assumption) | (with_reducible refine Below.trans ?_ (Below.mono (by with_reducible assumption) ?_)) | (with_reducible refine Below.alloc ?_ ?_ _) | (with_reducible refine Below.setCell ?_ ?_ _) | (with_reducible refine below_drewN ?_ _) | (with_reducible refine Below.drew ?_) | go_size))
set_option maxHeartbeats 1000000 in
theorem ref5_near_Bx1 (s day : Int) (w : World) (h : dayB day = true) (s0 : 0 ≤ s) (s1 : s < 18446744073709551616) (hs : s / 4294967296 + ((day + 25567) * 86400 - s / 4294967296) / 4294967296 * 4294967296 + 4294967296 - (day + 25567) * 86400 < (day + 25567) * 86400 - (s / 4294967296 + ((day + 25567) * 86400 - s / 4294967296) / 4294967296 * 4294967296)) (hn : dayB (nearDay s day) = false) (hp : (s % 4294967296 * 1000000000 + 4294967296 - 1) / 4294967296 ≤ 999999999) : Calls Tryz.prog 75 #[.int .u64 s, .int .i64 day] w fun e w' => e = .returned (.tuple #[.agg #[.int .i64 0, .int .i64 0], .int .i64 11]) ∧ Below w.heap.size w w' := by
  obtain ⟨d0, d1⟩ := dayB_yes h
  have hT : s / 4294967296 + ((day + 25567) * 86400 - s / 4294967296) / 4294967296 * 4294967296 + 4294967296 = nearT s day := by unfold nearT; split <;> omega
  have h1 : (s / 4294967296 + ((day + 25567) * 86400 - s / 4294967296) / 4294967296 * 4294967296 + 4294967296) / 86400 - 25567 = nearDay s day := by rw [hT]; rfl
  have H1 := Lib.hid h1
  rw [← h1] at hn
  have e2 := low32 s s0 s1
  clear h1 hT
  go_enter Tryz.func75, Tryz.ntmps75
  go_wp2_with fail
  refine (ref2_in_dayB _ _).mono ?_; rintro e w' ⟨rfl, rfl⟩
  rw [h]
  go_wp2_with (go_at_call 49; refine (ref4_floor _ _ _ (by omega) (by omega) (by omega) (by omega)).mono ?_; rintro e w' ⟨rfl, rfl⟩)
  refine (ref2_in_dayB _ _).mono ?_; rintro e w' ⟨rfl, rfl⟩
  rw [hn]
  go_wp2_with fail
  refine bodyPost_ret (v := .tuple #[.agg #[.int .i64 0, .int .i64 0], .int .i64 11]) (by simp [results, Tryz.results75, go_sem]) rfl ⟨rfl, ?_⟩
  go_light
  (repeat' (first | (with_reducible exact Below.refl _ _) | (with_reducible assumption) | (with_reducible refine Below.trans ?_ (Below.mono (by with_reducible assumption) ?_)) | (with_reducible refine Below.alloc ?_ ?_ _) | (with_reducible refine Below.setCell ?_ ?_ _) | (with_reducible refine below_drewN ?_ _) | (with_reducible refine Below.drew ?_) | go_size))
set_option maxHeartbeats 1000000 in
theorem ref5_near_Bx2 (s day : Int) (w : World) (h : dayB day = true) (s0 : 0 ≤ s) (s1 : s < 18446744073709551616) (hs : s / 4294967296 + ((day + 25567) * 86400 - s / 4294967296) / 4294967296 * 4294967296 + 4294967296 - (day + 25567) * 86400 < (day + 25567) * 86400 - (s / 4294967296 + ((day + 25567) * 86400 - s / 4294967296) / 4294967296 * 4294967296)) (hn : dayB (nearDay s day) = false) (hp : 999999999 < (s % 4294967296 * 1000000000 + 4294967296 - 1) / 4294967296) : Calls Tryz.prog 75 #[.int .u64 s, .int .i64 day] w fun e w' => e = .returned (.tuple #[.agg #[.int .i64 0, .int .i64 0], .int .i64 11]) ∧ Below w.heap.size w w' := by
  obtain ⟨d0, d1⟩ := dayB_yes h
  have hT : s / 4294967296 + ((day + 25567) * 86400 - s / 4294967296) / 4294967296 * 4294967296 + 4294967296 = nearT s day := by unfold nearT; split <;> omega
  have h1 : (s / 4294967296 + ((day + 25567) * 86400 - s / 4294967296) / 4294967296 * 4294967296 + 4294967296) / 86400 - 25567 = nearDay s day := by rw [hT]; rfl
  have H1 := Lib.hid h1
  rw [← h1] at hn
  have e2 := low32 s s0 s1
  clear h1 hT
  go_enter Tryz.func75, Tryz.ntmps75
  go_wp2_with fail
  refine (ref2_in_dayB _ _).mono ?_; rintro e w' ⟨rfl, rfl⟩
  rw [h]
  go_wp2_with (go_at_call 49; refine (ref4_floor _ _ _ (by omega) (by omega) (by omega) (by omega)).mono ?_; rintro e w' ⟨rfl, rfl⟩)
  refine (ref2_in_dayB _ _).mono ?_; rintro e w' ⟨rfl, rfl⟩
  rw [hn]
  go_wp2_with fail
  refine bodyPost_ret (v := .tuple #[.agg #[.int .i64 0, .int .i64 0], .int .i64 11]) (by simp [results, Tryz.results75, go_sem]) rfl ⟨rfl, ?_⟩
  go_light
  (repeat' (first | (with_reducible exact Below.refl _ _) | (with_reducible assumption) | (with_reducible refine Below.trans ?_ (Below.mono (by with_reducible assumption) ?_)) | (with_reducible refine Below.alloc ?_ ?_ _) | (with_reducible refine Below.setCell ?_ ?_ _) | (with_reducible refine below_drewN ?_ _) | (with_reducible refine Below.drew ?_) | go_size))
set_option maxHeartbeats 1000000 in
theorem ref5_near_B1 (s day : Int) (w : World) (h : dayB day = true) (s0 : 0 ≤ s) (s1 : s < 18446744073709551616) (hs : s / 4294967296 + ((day + 25567) * 86400 - s / 4294967296) / 4294967296 * 4294967296 + 4294967296 - (day + 25567) * 86400 < (day + 25567) * 86400 - (s / 4294967296 + ((day + 25567) * 86400 - s / 4294967296) / 4294967296 * 4294967296)) (hn : dayB (nearDay s day) = true) (hp : (s % 4294967296 * 1000000000 + 4294967296 - 1) / 4294967296 ≤ 999999999) : Calls Tryz.prog 75 #[.int .u64 s, .int .i64 day] w fun e w' => e = .returned (.tuple #[.agg #[.int .i64 (nearDay s day), .int .i64 (nearNano s day)], .int .i64 0]) ∧ Below w.heap.size w w' := by
  obtain ⟨d0, d1⟩ := dayB_yes h
  have hT : s / 4294967296 + ((day + 25567) * 86400 - s / 4294967296) / 4294967296 * 4294967296 + 4294967296 = nearT s day := by unfold nearT; split <;> omega
  have h1 : (s / 4294967296 + ((day + 25567) * 86400 - s / 4294967296) / 4294967296 * 4294967296 + 4294967296) / 86400 - 25567 = nearDay s day := by rw [hT]; rfl
  have H1 := Lib.hid h1
  rw [← h1] at hn
  have e2 := low32 s s0 s1
  have h2 : (s / 4294967296 + ((day + 25567) * 86400 - s / 4294967296) / 4294967296 * 4294967296 + 4294967296 - (s / 4294967296 + ((day + 25567) * 86400 - s / 4294967296) / 4294967296 * 4294967296 + 4294967296) / 86400 * 86400) * 1000000000 + (s % 4294967296 * 1000000000 + 4294967296 - 1) / 4294967296 = nearNano s day := by rw [hT]; unfold nearNano nearN; rw [if_pos (by omega)]; omega
  have H2 := Lib.hid h2
  clear h2
  clear h1 hT
  go_enter Tryz.func75, Tryz.ntmps75
  go_wp2_with fail
  refine (ref2_in_dayB _ _).mono ?_; rintro e w' ⟨rfl, rfl⟩
  rw [h]
  go_wp2_with (go_at_call 49; refine (ref4_floor _ _ _ (by omega) (by omega) (by omega) (by omega)).mono ?_; rintro e w' ⟨rfl, rfl⟩)
  refine (ref2_in_dayB _ _).mono ?_; rintro e w' ⟨rfl, rfl⟩
  rw [hn]
  go_wp2_with fail
  refine bodyPost_ret (v := .tuple #[.agg #[.int .i64 ((s / 4294967296 + ((day + 25567) * 86400 - s / 4294967296) / 4294967296 * 4294967296 + 4294967296) / 86400 - 25567), .int .i64 ((s / 4294967296 + ((day + 25567) * 86400 - s / 4294967296) / 4294967296 * 4294967296 + 4294967296 - (s / 4294967296 + ((day + 25567) * 86400 - s / 4294967296) / 4294967296 * 4294967296 + 4294967296) / 86400 * 86400) * 1000000000 + (s % 4294967296 * 1000000000 + 4294967296 - 1) / 4294967296)], .int .i64 0]) (by simp [results, Tryz.results75, go_sem]) rfl ⟨ret_utc H1.out H2.out, ?_⟩
  go_light
  (repeat' (first | (with_reducible exact Below.refl _ _) | (with_reducible assumption) | (with_reducible refine Below.trans ?_ (Below.mono (by with_reducible assumption) ?_)) | (with_reducible refine Below.alloc ?_ ?_ _) | (with_reducible refine Below.setCell ?_ ?_ _) | (with_reducible refine below_drewN ?_ _) | (with_reducible refine Below.drew ?_) | go_size))
set_option maxHeartbeats 1000000 in
theorem ref5_near_B2 (s day : Int) (w : World) (h : dayB day = true) (s0 : 0 ≤ s) (s1 : s < 18446744073709551616) (hs : s / 4294967296 + ((day + 25567) * 86400 - s / 4294967296) / 4294967296 * 4294967296 + 4294967296 - (day + 25567) * 86400 < (day + 25567) * 86400 - (s / 4294967296 + ((day + 25567) * 86400 - s / 4294967296) / 4294967296 * 4294967296)) (hn : dayB (nearDay s day) = true) (hp : 999999999 < (s % 4294967296 * 1000000000 + 4294967296 - 1) / 4294967296) : Calls Tryz.prog 75 #[.int .u64 s, .int .i64 day] w fun e w' => e = .returned (.tuple #[.agg #[.int .i64 (nearDay s day), .int .i64 (nearNano s day)], .int .i64 0]) ∧ Below w.heap.size w w' := by
  obtain ⟨d0, d1⟩ := dayB_yes h
  have hT : s / 4294967296 + ((day + 25567) * 86400 - s / 4294967296) / 4294967296 * 4294967296 + 4294967296 = nearT s day := by unfold nearT; split <;> omega
  have h1 : (s / 4294967296 + ((day + 25567) * 86400 - s / 4294967296) / 4294967296 * 4294967296 + 4294967296) / 86400 - 25567 = nearDay s day := by rw [hT]; rfl
  have H1 := Lib.hid h1
  rw [← h1] at hn
  have e2 := low32 s s0 s1
  have h2 : (s / 4294967296 + ((day + 25567) * 86400 - s / 4294967296) / 4294967296 * 4294967296 + 4294967296 - (s / 4294967296 + ((day + 25567) * 86400 - s / 4294967296) / 4294967296 * 4294967296 + 4294967296) / 86400 * 86400) * 1000000000 + 999999999 = nearNano s day := by rw [hT]; unfold nearNano nearN; rw [if_neg (by omega)]; omega
  have H2 := Lib.hid h2
  clear h2
  clear h1 hT
  go_enter Tryz.func75, Tryz.ntmps75
  go_wp2_with fail
  refine (ref2_in_dayB _ _).mono ?_; rintro e w' ⟨rfl, rfl⟩
  rw [h]
  go_wp2_with (go_at_call 49; refine (ref4_floor _ _ _ (by omega) (by omega) (by omega) (by omega)).mono ?_; rintro e w' ⟨rfl, rfl⟩)
  refine (ref2_in_dayB _ _).mono ?_; rintro e w' ⟨rfl, rfl⟩
  rw [hn]
  go_wp2_with fail
  refine bodyPost_ret (v := .tuple #[.agg #[.int .i64 ((s / 4294967296 + ((day + 25567) * 86400 - s / 4294967296) / 4294967296 * 4294967296 + 4294967296) / 86400 - 25567), .int .i64 ((s / 4294967296 + ((day + 25567) * 86400 - s / 4294967296) / 4294967296 * 4294967296 + 4294967296 - (s / 4294967296 + ((day + 25567) * 86400 - s / 4294967296) / 4294967296 * 4294967296 + 4294967296) / 86400 * 86400) * 1000000000 + 999999999)], .int .i64 0]) (by simp [results, Tryz.results75, go_sem]) rfl ⟨ret_utc H1.out H2.out, ?_⟩
  go_light
  (repeat' (first | (with_reducible exact Below.refl _ _) | (with_reducible assumption) | (with_reducible refine Below.trans ?_ (Below.mono (by with_reducible assumption) ?_)) | (with_reducible refine Below.alloc ?_ ?_ _) | (with_reducible refine Below.setCell ?_ ?_ _) | (with_reducible refine below_drewN ?_ _) | (with_reducible refine Below.drew ?_) | go_size))
/-- Both, in one: what a stamp tells near a day. -/
def nearR (s day : Int) : Value := if dayB day then (if dayB (nearDay s day) then .tuple #[.agg #[.int .i64 (nearDay s day), .int .i64 (nearNano s day)], .int .i64 0] else .tuple #[.agg #[.int .i64 0, .int .i64 0], .int .i64 11]) else .tuple #[.agg #[.int .i64 0, .int .i64 0], .int .i64 1]
theorem era_near (s day : Int) (w : World) (s0 : 0 ≤ s) (s1 : s < 18446744073709551616) : Calls Tryz.prog 87 #[.int .u64 s, .int .i64 day] w fun e w' => e = .returned (nearR s day) ∧ Below w.heap.size w w' := by
  unfold nearR
  cases h : dayB day
  · exact era_near_no s day w h
  · cases hn : dayB (nearDay s day)
    · rcases (show (s / 4294967296 - (day + 25567) * 86400) % 4294967296 < 2147483648 ∨ 2147483648 ≤ (s / 4294967296 - (day + 25567) * 86400) % 4294967296 from by omega) with hs | hs
      · exact era_near_Ax s day w h s0 s1 hs hn
      · exact era_near_Bx s day w h s0 s1 hs hn
    · rcases (show (s % 4294967296 * 1000000000 + 4294967296 - 1) / 4294967296 ≤ 999999999 ∨ 999999999 < (s % 4294967296 * 1000000000 + 4294967296 - 1) / 4294967296 from by omega) with hp | hp <;>
      rcases (show (s / 4294967296 - (day + 25567) * 86400) % 4294967296 < 2147483648 ∨ 2147483648 ≤ (s / 4294967296 - (day + 25567) * 86400) % 4294967296 from by omega) with hs | hs
      · exact era_near_A1 s day w h s0 s1 hs hn hp
      · exact era_near_B1 s day w h s0 s1 hs hn hp
      · exact era_near_A2 s day w h s0 s1 hs hn hp
      · exact era_near_B2 s day w h s0 s1 hs hn hp
theorem ref5_near (s day : Int) (w : World) (s0 : 0 ≤ s) (s1 : s < 18446744073709551616) : Calls Tryz.prog 75 #[.int .u64 s, .int .i64 day] w fun e w' => e = .returned (nearR s day) ∧ Below w.heap.size w w' := by
  unfold nearR
  cases h : dayB day
  · exact ref5_near_no s day w h
  · rcases (show (s % 4294967296 * 1000000000 + 4294967296 - 1) / 4294967296 ≤ 999999999 ∨ 999999999 < (s % 4294967296 * 1000000000 + 4294967296 - 1) / 4294967296 from by omega) with hp | hp <;>
    rcases (show (day + 25567) * 86400 - (s / 4294967296 + ((day + 25567) * 86400 - s / 4294967296) / 4294967296 * 4294967296) ≤ s / 4294967296 + ((day + 25567) * 86400 - s / 4294967296) / 4294967296 * 4294967296 + 4294967296 - (day + 25567) * 86400 ∨ s / 4294967296 + ((day + 25567) * 86400 - s / 4294967296) / 4294967296 * 4294967296 + 4294967296 - (day + 25567) * 86400 < (day + 25567) * 86400 - (s / 4294967296 + ((day + 25567) * 86400 - s / 4294967296) / 4294967296 * 4294967296) from by omega) with hs | hs <;>
    cases hn : dayB (nearDay s day)
    · exact ref5_near_Ax1 s day w h s0 s1 hs hn hp
    · exact ref5_near_A1 s day w h s0 s1 hs hn hp
    · exact ref5_near_Bx1 s day w h s0 s1 hs hn hp
    · exact ref5_near_B1 s day w h s0 s1 hs hn hp
    · exact ref5_near_Ax2 s day w h s0 s1 hs hn hp
    · exact ref5_near_A2 s day w h s0 s1 hs hn hp
    · exact ref5_near_Bx2 s day w h s0 s1 hs hn hp
    · exact ref5_near_B2 s day w h s0 s1 hs hn hp
end Go.Proofs.YtepdnkpmkhjlgaaGreat

/- The laws of stage 5, walked. -/
namespace Go.Proofs.YtepdnkpmkhjlgaaGreat
open Go.RowKit

theorem vld_era : Cal.Vld 2036 2 7 := by unfold Cal.Vld; decide
theorem num_era : Cal.num 2036 2 7 = 24143 := by decide
theorem stamp_era : stampOf 24143 23296000000000 = 0 := by decide
theorem near_era : nearR 0 24143 = .tuple #[.agg #[.int .i64 24143, .int .i64 23296000000000], .int .i64 0] := by
  have h1 : nearDay 0 24143 = 24143 := by decide
  have h2 : nearNano 0 24143 = 23296000000000 := by decide
  have h3 : dayB 24143 = true := by decide
  unfold nearR
  rw [if_pos h3, h1, if_pos h3, h2]
theorem nearR_cases (s day : Int) : ∃ a b e : Int, nearR s day = .tuple #[.agg #[.int .i64 a, .int .i64 b], .int .i64 e] := by
  unfold nearR
  split
  · split <;> exact ⟨_, _, _, rfl⟩
  · exact ⟨_, _, _, rfl⟩
end Go.Proofs.YtepdnkpmkhjlgaaGreat

/- The laws of stage 5, walked: EraBack, EraLeap, EraOrder, EraAnew. -/
namespace Go.Proofs.YtepdnkpmkhjlgaaGreat
open Go.RowKit

theorem stampOf_div (day nano : Int) (h0 : 0 ≤ nano) : stampOf day nano / 4294967296 = secsOf day nano % 4294967296 ∧ stampOf day nano % 4294967296 = partOf nano ∧ 0 ≤ stampOf day nano ∧ stampOf day nano < 18446744073709551616 := by
  have p0 : 0 ≤ partOf nano ∧ partOf nano < 4294967296 := by unfold partOf cutNano; split <;> omega
  unfold stampOf; omega
theorem near_back (day nano away : Int) (h1 : dayB day = true) (h2 : dayB (day + away) = true) (n0 : 0 ≤ nano) (n1 : nano < 86400000000000) (w0 : -24820 ≤ away) (w1 : away ≤ 24820) :
    nearR (stampOf day nano) (day + away) = .tuple #[.agg #[.int .i64 day, .int .i64 nano], .int .i64 0] := by
  obtain ⟨e1, e2, _, _⟩ := stampOf_div day nano n0
  have c : cutNano nano = nano := by unfold cutNano; rw [if_pos (by omega)]
  have hS : secsOf day nano = (day + 25567) * 86400 + nano / 1000000000 := by unfold secsOf; rw [c]
  have hP : partOf nano = nano % 1000000000 * 4294967296 / 1000000000 := by unfold partOf; rw [c]
  have hT : nearT (stampOf day nano) (day + away) = secsOf day nano := by
    unfold nearT; rw [e1, hS]; split <;> omega
  have hD : nearDay (stampOf day nano) (day + away) = day := by unfold nearDay; rw [hT, hS]; omega
  have hN : nearN (stampOf day nano) = nano % 1000000000 := by
    unfold nearN; rw [e2, hP]; split <;> omega
  have hM : nearNano (stampOf day nano) (day + away) = nano := by unfold nearNano; rw [hT, hN, hS]; omega
  unfold nearR
  rw [if_pos h2, hD, if_pos h1, hM]
theorem momOk_mk {day nano : Int} (h1 : -719162 ≤ day) (h2 : day ≤ 2932896) (h3 : 0 ≤ nano) (h4 : nano < 86401000000000) : momOk day nano = true := by
  simp [momOk, dayB_mk h1 h2, h3, h4]
end Go.Proofs.YtepdnkpmkhjlgaaGreat

