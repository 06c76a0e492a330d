/- Stage 10: Raise, Last, Bound, what is known. -/
import Derived.Test.YtmbopdabbegbiaaHlcHear
set_option linter.unusedSimpArgs false
set_option linter.unusedVariables false
namespace Go.Proofs.Ytmbopdabbegbiaa
open Go.RowKit

theorem hlc_raise_ok (b : Nat) (m c bd n : Int) (w : World) (k : Ints3 w b m c bd) (h : bd ≤ n) (hn : isMilliB n = true) :
    Calls Try.prog 21 #[.pointer (some ⟨b, 0, none⟩), .int .i64 n] w fun e w' => e = .returned (.int .i64 0) ∧ Only b w w' ∧ Ints3 w' b m c n := by
  have k' := k
  obtain ⟨c0, c1, c2, f0, f1, f2, lt⟩ := k'
  go_enter Try.func21, Try.ntmps21
  go_wp2_with (go_at_call 34; refine (hlc_isMilli _ _).mono ?_; rintro e w' ⟨rfl, rfl⟩)
  go_ret
  refine ⟨rfl, ?_, ?_⟩
  · go_light
    (repeat' (first | (with_reducible exact Only.refl _ _) | (with_reducible assumption) | (with_reducible refine Only.alloc ?_ _) | (with_reducible refine Only.setB ?_ _) | (refine Only.setCell ?_ (Or.inr ?_) _) | (with_reducible refine Only.drewN ?_ _) | (with_reducible refine Only.drew ?_) | (with_reducible refine Only.trans ?_ (by with_reducible assumption)) | (with_reducible refine Only.trans ?_ (Only.of_below (by with_reducible assumption))) | go_size))
  · go_light
    (repeat' (first | (with_reducible assumption) | (with_reducible apply Ints3.set0) | (with_reducible apply Ints3.set1) | (with_reducible apply Ints3.set2) | (with_reducible refine Ints3.other ?_ ?_ _) | (with_reducible refine Ints3.alloc ?_ _) | (with_reducible refine Ints3.drewN ?_ _) | (with_reducible refine Ints3.drew ?_) | (with_reducible exact Ints3.new _ _ _ _ _) | go_size))
theorem hlc_raise_low (b : Nat) (m c bd n : Int) (w : World) (k : Ints3 w b m c bd) (h : n < bd) :
    Calls Try.prog 21 #[.pointer (some ⟨b, 0, none⟩), .int .i64 n] w fun e w' => e = .returned (.int .i64 1) ∧ w = w' := by
  obtain ⟨c0, c1, c2, f0, f1, f2, lt⟩ := k
  go_enter Try.func21, Try.ntmps21
  go_wp2
  go_ret
  exact ⟨rfl, rfl⟩
theorem hlc_raise_no (b : Nat) (m c bd n : Int) (w : World) (k : Ints3 w b m c bd) (hn : isMilliB n = false) :
    Calls Try.prog 21 #[.pointer (some ⟨b, 0, none⟩), .int .i64 n] w fun e w' => e = .returned (.int .i64 1) ∧ w = w' := by
  by_cases h : n < bd
  · exact hlc_raise_low b m c bd n w k h
  · obtain ⟨c0, c1, c2, f0, f1, f2, lt⟩ := k
    go_enter Try.func21, Try.ntmps21
    go_wp2_with (go_at_call 34; refine (hlc_isMilli _ _).mono ?_; rintro e w' ⟨rfl, rfl⟩)
    go_ret
    exact ⟨rfl, rfl⟩
theorem hlc_last (b : Nat) (m c bd : Int) (w : World) (k : Ints3 w b m c bd) :
    Calls Try.prog 23 #[.pointer (some ⟨b, 0, none⟩)] w fun e w' => e = .returned (.agg #[.int .i64 m, .int .i64 c]) ∧ Below w.heap.size w w' := by
  obtain ⟨c0, c1, c2, f0, f1, f2, lt⟩ := k
  go_enter Try.func23, Try.ntmps23
  go_wp2
  refine bodyPost_ret (v := .agg #[.int .i64 m, .int .i64 c]) (by simp [results, Try.results23, go_sem]) rfl ⟨rfl, ?_⟩
  go_light
  (repeat' (first | (with_reducible exact Below.refl _ _) | (with_reducible assumption) | (with_reducible refine Below.trans ?_ (Below.mono (by with_reducible assumption) ?_)) | (with_reducible refine Below.alloc ?_ ?_ _) | (with_reducible refine Below.setCell ?_ ?_ _) | (with_reducible refine below_drewN ?_ _) | (with_reducible refine Below.drew ?_) | go_size))
theorem hlc_bound (b : Nat) (m c bd : Int) (w : World) (k : Ints3 w b m c bd) :
    Calls Try.prog 24 #[.pointer (some ⟨b, 0, none⟩)] w fun e w' => e = .returned (.int .i64 bd) ∧ w = w' := by
  obtain ⟨c0, c1, c2, f0, f1, f2, lt⟩ := k
  go_enter Try.func24, Try.ntmps24
  go_wp2
  go_ret
  exact ⟨rfl, rfl⟩
theorem hlc_kmax : mx1 5 1 9 2 = 9 ∧ mx2 5 1 9 2 = 2 := by decide
set_option maxHeartbeats 1000000 in
theorem known10 (w : World) : Calls Try.prog 16 #[] w fun e w' => e = .returned (.bool true) ∧ Below w.heap.size w w' := by
  have HM := Lib.hid hlc_kmax
  go_enter Try.func16, Try.ntmps16
  go_wp2_with fail
  refine (hlc_new_ok 5 _ (by decide)).mono ?_; rintro e w' ⟨rfl, rfl⟩
  have k0 := Ints3.new w 5 0 5 73
  have HB0 : Below w.heap.size w (w.alloc (.cells #[.int .i64 5, .int .i64 0, .int .i64 5] 73)) := by (repeat' (first | (with_reducible exact Below.refl _ _) | (with_reducible assumption) | (with_reducible refine Below.trans ?_ (Below.mono (by with_reducible assumption) ?_)) | (with_reducible refine Below.alloc ?_ ?_ _) | (with_reducible refine Below.setCell ?_ ?_ _) | (with_reducible refine below_drewN ?_ _) | (with_reducible refine Below.drew ?_) | go_size))
  go_wp2_with fail
  refine (hlc_send_behind1 _ 5 0 5 3 _ k0 (by decide) (by decide) (by decide) (by decide)).mono ?_; rintro e w1 ⟨rfl, hb1⟩
  have k1 := k0.below hb1 (by simp)
  have HB1 : Below w.heap.size w w1 := HB0.trans (hb1.mono (by simp))
  go_wp2_with fail
  refine (hlc_raise_ok _ 5 0 5 100 _ (k1.alloc _) (by decide) (by decide)).mono ?_; rintro e w2 ⟨rfl, ho2, k2⟩
  have HB2 : Below w.heap.size w w2 := (HB1.alloc HB1.size _).trans (ho2.below (Nat.le_refl _) (by have := HB1.size; simp; omega))
  go_wp2_with fail
  refine (hlc_send_ok1 _ 5 0 100 3 _ k2 (by decide) (by decide) (by decide) (by decide)).mono ?_; rintro e w3 ⟨rfl, ho3, k3⟩
  have HB3 : Below w.heap.size w w3 := HB2.trans (ho3.below (Nat.le_refl _) HB2.size)
  have k3 : Ints3 w3 w.heap.size 5 1 100 := k3
  have l3 := k3.lt
  go_wp2_with fail
  refine (hlc_hear1_ok _ (w3.heap.size + 1) 5 1 100 7 9 2 _ ((k3.alloc _).alloc _) (by decide) (by decide) (by decide) (by simp [go_sem]) (by simp [go_sem]) (by simp) (by omega)).mono ?_; rintro e w4 ⟨rfl, ho4, k4⟩
  rw [HM.out.1, HM.out.2] at k4
  have A0 : w4.cell? ⟨w3.heap.size, 0, none⟩ = some (.int .i64 5) := (ho4.cell _ _ (by simp; omega) (by omega)).trans (by simp [go_sem])
  have A1 : w4.cell? ⟨w3.heap.size, 1, none⟩ = some (.int .i64 1) := (ho4.cell _ _ (by simp; omega) (by omega)).trans (by simp [go_sem])
  have z4 : w3.heap.size + 1 + 1 ≤ w4.heap.size := by have := ho4.size; simpa using this
  have HB4 : Below w.heap.size w w4 := ((HB3.alloc HB3.size _).alloc (by have := HB3.size; simp; omega) _).trans (ho4.below (Nat.le_refl _) (by have := HB3.size; simp; omega))
  go_wp2_with fail
  refine (hlc_send_ok1 _ 9 2 100 8 _ k4 (by decide) (by decide) (by decide) (by decide)).mono ?_; rintro e w5 ⟨rfl, ho5, k5⟩
  have B0 : w5.cell? ⟨w3.heap.size, 0, none⟩ = some (.int .i64 5) := (ho5.cell _ _ (by omega) (by omega)).trans A0
  have B1 : w5.cell? ⟨w3.heap.size, 1, none⟩ = some (.int .i64 1) := (ho5.cell _ _ (by omega) (by omega)).trans A1
  have z5 : w4.heap.size ≤ w5.heap.size := ho5.size
  have z6 : w3.heap.size < w5.heap.size := by omega
  have HB5 : Below w.heap.size w w5 := HB4.trans (ho5.below (Nat.le_refl _) HB4.size)
  have y5 := HB5.size
  go_wp2
  go_ret
  go_light
  exact ⟨rfl, by (repeat' (first | (with_reducible exact Below.refl _ _) | (with_reducible assumption) | (with_reducible refine Below.trans ?_ (Below.mono (by with_reducible assumption) ?_)) | (with_reducible refine Below.alloc ?_ ?_ _) | (with_reducible refine Below.setCell ?_ ?_ _) | (with_reducible refine below_drewN ?_ _) | (with_reducible refine Below.drew ?_) | go_size))⟩
theorem stampOk {m c : Int} (h : isStampB m c = false ∨ isStampB m c = true) : True := trivial
/-! The reference's values. -/
set_option maxHeartbeats 1000000 in
theorem ref10_is (m c : Int) (w : World) : Calls Try.prog 33 #[.agg #[.int .i64 m, .int .i64 c]] w fun e w' => e = .returned (.bool (isStampB m c)) ∧ Below w.heap.size w w' := by
  unfold isStampB isMilliB
  by_cases h1 : 0 ≤ m
  · by_cases h2 : m ≤ 281474976710655
    · by_cases h3 : 0 ≤ c
      · go_enter Try.func33, Try.ntmps33
        go_wp2
        go_ret
        go_light
        exact ⟨by simp [h1, h2, h3], by (repeat' (first | (with_reducible exact Below.refl _ _) | (with_reducible assumption) | (with_reducible refine Below.trans ?_ (Below.mono (by with_reducible assumption) ?_)) | (with_reducible refine Below.alloc ?_ ?_ _) | (with_reducible refine Below.setCell ?_ ?_ _) | (with_reducible refine below_drewN ?_ _) | (with_reducible refine Below.drew ?_) | go_size))⟩
      · have h3' : decide (0 ≤ c) = false := by simpa using h3
        go_enter Try.func33, Try.ntmps33
        go_wp2
        go_ret
        go_light
        exact ⟨by simp [h3'], by (repeat' (first | (with_reducible exact Below.refl _ _) | (with_reducible assumption) | (with_reducible refine Below.trans ?_ (Below.mono (by with_reducible assumption) ?_)) | (with_reducible refine Below.alloc ?_ ?_ _) | (with_reducible refine Below.setCell ?_ ?_ _) | (with_reducible refine below_drewN ?_ _) | (with_reducible refine Below.drew ?_) | go_size))⟩
    · have h2' : decide (m ≤ 281474976710655) = false := by simpa using h2
      go_enter Try.func33, Try.ntmps33
      go_wp2
      go_ret
      go_light
      exact ⟨by simp [h2'], by (repeat' (first | (with_reducible exact Below.refl _ _) | (with_reducible assumption) | (with_reducible refine Below.trans ?_ (Below.mono (by with_reducible assumption) ?_)) | (with_reducible refine Below.alloc ?_ ?_ _) | (with_reducible refine Below.setCell ?_ ?_ _) | (with_reducible refine below_drewN ?_ _) | (with_reducible refine Below.drew ?_) | go_size))⟩
  · have h1' : decide (0 ≤ m) = false := by simpa using h1
    go_enter Try.func33, Try.ntmps33
    go_wp2
    go_ret
    go_light
    exact ⟨by simp [h1'], by (repeat' (first | (with_reducible exact Below.refl _ _) | (with_reducible assumption) | (with_reducible refine Below.trans ?_ (Below.mono (by with_reducible assumption) ?_)) | (with_reducible refine Below.alloc ?_ ?_ _) | (with_reducible refine Below.setCell ?_ ?_ _) | (with_reducible refine below_drewN ?_ _) | (with_reducible refine Below.drew ?_) | go_size))⟩
theorem ref10_pack_no (m c : Int) (w : World) (h : isStampB m c = false) : Calls Try.prog 28 #[.agg #[.int .i64 m, .int .i64 c]] w fun e w' => e = .returned (.tuple #[.int .u64 0, .int .i64 1]) ∧ Below w.heap.size w w' := by
  go_enter Try.func28, Try.ntmps28
  go_wp2_with (go_at_call 33; refine (ref10_is m c _).mono ?_; rintro e w1 ⟨rfl, hb1⟩; obtain ⟨hc1, hf1⟩ := bcell hb1; have hz1 := hb1.size; (try simp only [World.size_alloc, World.size_setCell, World.heap_drewN] at hb1 hc1 hf1 hz1); (try have ha01 : w.heap.size < w1.heap.size := by omega); (try have ha11 : w.heap.size + 1 < w1.heap.size := by omega); (try have ha21 : w.heap.size + 2 < w1.heap.size := by omega); (try have hal1 : w.heap.size ≤ w1.heap.size := by omega); (try have ham1 : w.heap.size < w1.heap.size + 2 := by omega))
  go_ret2
  go_light
  exact ⟨rfl, by (repeat' (first | (with_reducible exact Below.refl _ _) | (with_reducible assumption) | (with_reducible refine Below.trans ?_ (Below.mono (by with_reducible assumption) ?_)) | (with_reducible refine Below.alloc ?_ ?_ _) | (with_reducible refine Below.setCell ?_ ?_ _) | (with_reducible refine below_drewN ?_ _) | (with_reducible refine Below.drew ?_) | go_size))⟩
set_option maxHeartbeats 400000 in
theorem ref10_pack_yes (m c : Int) (w : World) (h : isStampB m c = true) : Calls Try.prog 28 #[.agg #[.int .i64 m, .int .i64 c]] w fun e w' => e = .returned (.tuple #[.int .u64 (m * 65536 + c), .int .i64 0]) ∧ Below w.heap.size w w' := by
  obtain ⟨m0, m1, c0, c1⟩ := stamp_bd h
  have hp := Lib.hid (bits_pack m c m0 m1 c0 c1)
  clear m0 m1 c0 c1
  go_enter Try.func28, Try.ntmps28
  go_wp2_with (go_at_call 33; refine (ref10_is m c _).mono ?_; rintro e w1 ⟨rfl, hb1⟩; obtain ⟨hc1, hf1⟩ := bcell hb1; have hz1 := hb1.size; (try simp only [World.size_alloc, World.size_setCell, World.heap_drewN] at hb1 hc1 hf1 hz1); (try have ha01 : w.heap.size < w1.heap.size := by omega); (try have ha11 : w.heap.size + 1 < w1.heap.size := by omega); (try have ha21 : w.heap.size + 2 < w1.heap.size := by omega); (try have hal1 : w.heap.size ≤ w1.heap.size := by omega); (try have ham1 : w.heap.size < w1.heap.size + 2 := by omega))
  go_ret2
  go_light
  refine ⟨?_, by (repeat' (first | (with_reducible exact Below.refl _ _) | (with_reducible assumption) | (with_reducible refine Below.trans ?_ (Below.mono (by with_reducible assumption) ?_)) | (with_reducible refine Below.alloc ?_ ?_ _) | (with_reducible refine Below.setCell ?_ ?_ _) | (with_reducible refine below_drewN ?_ _) | (with_reducible refine Below.drew ?_) | go_size))⟩
  show Ending.returned (.tuple #[.int .u64 (bits .or .u64 (IntKind.u64.wrap (IntKind.u64.wrap m * 65536)) (IntKind.u64.wrap c)), .int .i64 0]) = _
  rw [hp.out]
theorem ref10_unpack (x : Int) (w : World) (h0 : 0 ≤ x) (h1 : x < 18446744073709551616) : Calls Try.prog 30 #[.int .u64 x] w fun e w' => e = .returned (.agg #[.int .i64 (x / 65536), .int .i64 (x % 65536)]) ∧ Below w.heap.size w w' := by
  have hp := Lib.hid (bits_low x h0 h1)
  go_enter Try.func30, Try.ntmps30
  go_wp2
  refine bodyPost_ret (v := .agg #[.int .i64 (x / 65536), .int .i64 (wrap64 (bits BinOp.and IntKind.u64 x 65535))]) (by simp [results, Try.results30, go_sem]) rfl ⟨?_, ?_⟩
  · rw [hp.out, IntWalk.wrap64_in _ (by omega)]
  · go_light
    (repeat' (first | (with_reducible exact Below.refl _ _) | (with_reducible assumption) | (with_reducible refine Below.trans ?_ (Below.mono (by with_reducible assumption) ?_)) | (with_reducible refine Below.alloc ?_ ?_ _) | (with_reducible refine Below.setCell ?_ ?_ _) | (with_reducible refine below_drewN ?_ _) | (with_reducible refine Below.drew ?_) | go_size))
set_option maxHeartbeats 1000000 in
theorem ref10_compare (m c p q : Int) (w : World) : Calls Try.prog 26 #[.agg #[.int .i64 m, .int .i64 c], .agg #[.int .i64 p, .int .i64 q]] w fun e w' => e = .returned (.int .i64 (cmp2 m c p q)) ∧ Below w.heap.size w w' := by
  rcases (show m < p ∨ m = p ∨ p < m from by omega) with h | h | h
  · have e : cmp2 m c p q = -1 := by simp [cmp2, or2, cmp1, h]
    rw [e]
    go_enter Try.func26, Try.ntmps26
    go_wp2
    go_ret
    go_light
    exact ⟨rfl, by (repeat' (first | (with_reducible exact Below.refl _ _) | (with_reducible assumption) | (with_reducible refine Below.trans ?_ (Below.mono (by with_reducible assumption) ?_)) | (with_reducible refine Below.alloc ?_ ?_ _) | (with_reducible refine Below.setCell ?_ ?_ _) | (with_reducible refine below_drewN ?_ _) | (with_reducible refine Below.drew ?_) | go_size))⟩
  · subst h
    rcases (show c < q ∨ c = q ∨ q < c from by omega) with h | h | h
    · have e : cmp2 m c m q = -1 := by simp [cmp2, or2, cmp1, h]
      rw [e]
      go_enter Try.func26, Try.ntmps26
      go_wp2
      go_ret
      go_light
      exact ⟨rfl, by (repeat' (first | (with_reducible exact Below.refl _ _) | (with_reducible assumption) | (with_reducible refine Below.trans ?_ (Below.mono (by with_reducible assumption) ?_)) | (with_reducible refine Below.alloc ?_ ?_ _) | (with_reducible refine Below.setCell ?_ ?_ _) | (with_reducible refine below_drewN ?_ _) | (with_reducible refine Below.drew ?_) | go_size))⟩
    · subst h
      have e : cmp2 m c m c = 0 := by simp [cmp2, or2, cmp1]
      rw [e]
      go_enter Try.func26, Try.ntmps26
      go_wp2
      go_ret
      go_light
      exact ⟨rfl, by (repeat' (first | (with_reducible exact Below.refl _ _) | (with_reducible assumption) | (with_reducible refine Below.trans ?_ (Below.mono (by with_reducible assumption) ?_)) | (with_reducible refine Below.alloc ?_ ?_ _) | (with_reducible refine Below.setCell ?_ ?_ _) | (with_reducible refine below_drewN ?_ _) | (with_reducible refine Below.drew ?_) | go_size))⟩
    · have e : cmp2 m c m q = 1 := by simp [cmp2, or2, cmp1, h]; omega
      rw [e]
      have d1 : decide (c < q) = false := by simp; omega
      have d2 : (c == q) = false := by simp; omega
      go_enter Try.func26, Try.ntmps26
      go_wp2
      go_ret
      go_light
      exact ⟨rfl, by (repeat' (first | (with_reducible exact Below.refl _ _) | (with_reducible assumption) | (with_reducible refine Below.trans ?_ (Below.mono (by with_reducible assumption) ?_)) | (with_reducible refine Below.alloc ?_ ?_ _) | (with_reducible refine Below.setCell ?_ ?_ _) | (with_reducible refine below_drewN ?_ _) | (with_reducible refine Below.drew ?_) | go_size))⟩
  · have e : cmp2 m c p q = 1 := by simp [cmp2, or2, cmp1, h]; omega
    rw [e]
    have d1 : decide (m < p) = false := by simp; omega
    have d2 : (m == p) = false := by simp; omega
    go_enter Try.func26, Try.ntmps26
    go_wp2
    go_ret
    go_light
    exact ⟨rfl, by (repeat' (first | (with_reducible exact Below.refl _ _) | (with_reducible assumption) | (with_reducible refine Below.trans ?_ (Below.mono (by with_reducible assumption) ?_)) | (with_reducible refine Below.alloc ?_ ?_ _) | (with_reducible refine Below.setCell ?_ ?_ _) | (with_reducible refine below_drewN ?_ _) | (with_reducible refine Below.drew ?_) | go_size))⟩
end Go.Proofs.Ytmbopdabbegbiaa
