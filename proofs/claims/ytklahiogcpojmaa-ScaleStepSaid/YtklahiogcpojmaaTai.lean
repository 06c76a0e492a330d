/- scale.TAI of a table and a moment that is one. -/
import Derived.Test.YtklahiogcpojmaaLeapLen
import Derived.Test.YtklahiogcpojmaaScaleMul
set_option linter.unusedSimpArgs false
set_option linter.unusedVariables false
namespace Go.Proofs.Ytklahiogcpojmaa
open Go.RowKit

theorem mulS_bd (a b : Int) : -9223372036854775808 ≤ mulS a b ∧ mulS a b ≤ 9223372036854775807 := by
  unfold mulS
  split
  · omega
  · split <;> omega
theorem scale_begins (d : Int) (w : World) (h0 : -9223372036854775808 ≤ d) (h1 : d ≤ 9223372036854775807) :
    Calls Try.prog 34 #[.int .i64 d] w fun e w' => e = .returned (.int .i64 (mulS d 86400000000000)) ∧ w = w' := by
  go_enter Try.func34, Try.ntmps34
  go_wp2_with (go_at_call 15; refine (scale_mul d 86400000000000 _ h0 h1 (by decide) (by decide)).mono ?_; rintro e w' ⟨rfl, rfl⟩)
  go_ret
  exact ⟨rfl, rfl⟩
set_option maxHeartbeats 1000000 in
theorem scale_offset_yes (A : Option Addr) (n c : Nat) (x day : Int) (z : Nat → Int) (w : World) (hz : FlatAt w A 2 n z) (ht : IsTab z n x) :
    Calls Try.prog 35 #[.agg #[.slice A n c, .int .i64 x], .int .i64 day] w fun e w' => e = .returned (.int .i64 (mulS (offK z day n) 1000000000)) ∧ Below w.heap.size w w' := by
  have HB0 : Below w.heap.size w (w.alloc (.cells #[.slice A n c, .int .i64 x] 30)) := by (repeat' (first | (with_reducible exact Below.refl _ _) | (with_reducible assumption) | (with_reducible refine Below.trans ?_ (Below.mono (by with_reducible assumption) ?_)) | (with_reducible refine Below.alloc ?_ ?_ _) | (with_reducible refine Below.setCell ?_ ?_ _) | (with_reducible refine below_drewN ?_ _) | (with_reducible refine Below.drew ?_) | go_size))
  have ob := offK_bd ht day n (Nat.le_refl _)
  have HL := Lib.hid fun (W : World) (hB : Below w.heap.size w W) => leap_offset_yes A n c x day z W (hz.below hB) ht
  clear hz ht
  generalize offK z day n = o at *
  go_enter Try.func35, Try.ntmps35
  go_wp2_with fail
  refine (HL.out _ HB0).mono ?_; rintro e w1 ⟨rfl, hb1⟩
  have HB1 : Below w.heap.size w w1 := HB0.trans (hb1.mono HB0.size)
  clear hb1
  go_wp2_with (go_at_call 15; refine (scale_mul o 1000000000 _ (by omega) (by omega) (by decide) (by decide)).mono ?_; rintro e w' ⟨rfl, rfl⟩)
  go_ret
  exact ⟨rfl, HB1⟩
/-- Three numbers. -/
theorem scale_add3 (a b d : Int) (B : Nat) (w : World) (ha : -9223372036854775808 ≤ a ∧ a ≤ 9223372036854775807) (hb : -9223372036854775808 ≤ b ∧ b ≤ 9223372036854775807) (hd : -9223372036854775808 ≤ d ∧ d ≤ 9223372036854775807) (h0 : w.cell? ⟨B, 0, none⟩ = some (.int .i64 a)) (h1 : w.cell? ⟨B, 1, none⟩ = some (.int .i64 b)) (h2 : w.cell? ⟨B, 2, none⟩ = some (.int .i64 d)) :
    Calls Try.prog 12 #[.slice (some ⟨B, 0, none⟩) 3 3] w fun e w' => e = .returned (.int .i64 (addS (addS a b) d)) ∧ w = w' := by
  have h := scale_add (fun j => if j = 0 then a else if j = 1 then b else d) B 0 3 3 w (by omega) (by intro j hj; rcases (show j = 0 ∨ j = 1 ∨ j = 2 from by omega) with rfl | rfl | rfl <;> simp [ha, hb, hd]) (by
    intro j hj
    rcases (show j = 0 ∨ j = 1 ∨ j = 2 from by omega) with rfl | rfl | rfl
    · simpa using h0
    · simpa using h1
    · simpa using h2)
  have e : sumS (fun j => if j = 0 then a else if j = 1 then b else d) 3 = addS (addS a b) d := by
    show addS (addS (addS 0 a) b) d = _
    rw [addS_in (a := 0) (b := a) (by omega) (by omega), Int.zero_add]
  rwa [e] at h
set_option maxRecDepth 100000 in
set_option maxHeartbeats 8000000 in
theorem scale_tai_ok (A : Option Addr) (n c : Nat) (x day nano : Int) (z : Nat → Int) (w : World) (hz : FlatAt w A 2 n z) (ht : IsTab z n x) (d0 : -719162 ≤ day) (d1 : day ≤ 2932896) (n0 : 0 ≤ nano) (n1 : nano < (86400 + offK z (day + 1) n - offK z day n) * 1000000000) :
    Calls Try.prog 17 #[.agg #[.slice A n c, .int .i64 x], .agg #[.int .i64 day, .int .i64 nano]] w fun e w' => e = .returned (.tuple #[.int .i64 (addS (addS (mulS day 86400000000000) nano) (mulS (offK z day n) 1000000000)), .int .i64 0]) ∧ Below w.heap.size w w' := by
  have HB0 : Below w.heap.size w ((w.alloc (.cells #[.slice A n c, .int .i64 x] 30)).alloc (.cells #[.int .i64 day, .int .i64 nano] 32)) := by (repeat' (first | (with_reducible exact Below.refl _ _) | (with_reducible assumption) | (with_reducible refine Below.trans ?_ (Below.mono (by with_reducible assumption) ?_)) | (with_reducible refine Below.alloc ?_ ?_ _) | (with_reducible refine Below.setCell ?_ ?_ _) | (with_reducible refine below_drewN ?_ _) | (with_reducible refine Below.drew ?_) | go_size))
  have b0 := offK_bd ht day n (Nat.le_refl _)
  have b1 := offK_bd ht (day + 1) n (Nat.le_refl _)
  obtain ⟨y, m, d, _, _, _, hd⟩ := cal_date_some day d0 d1
  have HD := Lib.hid hd
  have HT := Lib.hid ht
  have HZ := Lib.hid hz
  have M1 := mulS_bd day 86400000000000
  have M2 := mulS_bd (offK z day n) 1000000000
  clear hz ht hd
  have HL := Lib.hid fun (W : World) (hB : Below w.heap.size w W) => leap_length_yes A n c x day z W (HZ.out.below hB) HT.out (by omega) (by omega)
  have HO := Lib.hid fun (W : World) (hB : Below w.heap.size w W) => scale_offset_yes A n c x day z W (HZ.out.below hB) HT.out
  generalize mulS (offK z day n) 1000000000 = mo at *
  generalize hO1 : offK z (day + 1) n = o1 at *
  generalize hO0 : offK z day n = o0 at *
  generalize hLL : 86400 + o1 - o0 = L at *
  have hL : 0 ≤ L ∧ L ≤ 100000 := by omega
  clear hO1 hO0 hLL b0 b1
  have hw : IntKind.i64.wrap (L * 1000000000) = L * 1000000000 := IntWalk.i64_in _ (by omega)
  have HW := Lib.hid hw
  clear hw
  have hBg := Lib.hid fun W : World => scale_begins day W (by omega) (by omega)
  generalize mulS day 86400000000000 = md at *
  go_enter Try.func17, Try.ntmps17
  go_wp2_with fail
  refine (leap_is_yes A n c x z _ (HZ.out.below HB0) HT.out).mono ?_; rintro e w1 ⟨rfl, hb1⟩
  have HB1 : Below w.heap.size w w1 := HB0.trans (hb1.mono HB0.size)
  have q0 : w1.cell? ⟨w.heap.size, 0, none⟩ = some (.slice A n c) := (hb1.cell (p := ⟨w.heap.size, 0, none⟩) (by simp; omega)).trans (by simp [go_sem])
  have q1 : w1.cell? ⟨w.heap.size, 1, none⟩ = some (.int .i64 x) := (hb1.cell (p := ⟨w.heap.size, 1, none⟩) (by simp; omega)).trans (by simp [go_sem])
  have q2 : w1.cell? ⟨w.heap.size + 1, 0, none⟩ = some (.int .i64 day) := (hb1.cell (p := ⟨w.heap.size + 1, 0, none⟩) (by simp)).trans (by simp [go_sem])
  have q3 : w1.cell? ⟨w.heap.size + 1, 1, none⟩ = some (.int .i64 nano) := (hb1.cell (p := ⟨w.heap.size + 1, 1, none⟩) (by simp)).trans (by simp [go_sem])
  have l1 : w.heap.size + 1 < w1.heap.size := by have := hb1.size; simp at this; omega
  clear hb1
  go_wp2_with fail
  refine (HD.out _).mono ?_; rintro e w2 ⟨rfl, hb2⟩
  have HB2 : Below w.heap.size w w2 := HB1.trans (hb2.mono HB1.size)
  have l0 : w.heap.size < w1.heap.size := by omega
  have p0 := (hb2.cell (p := ⟨w.heap.size, 0, none⟩) l0).trans q0
  have p1 := (hb2.cell (p := ⟨w.heap.size, 1, none⟩) l0).trans q1
  have p2 := (hb2.cell (p := ⟨w.heap.size + 1, 0, none⟩) l1).trans q2
  have p3 := (hb2.cell (p := ⟨w.heap.size + 1, 1, none⟩) l1).trans q3
  have l2 : w.heap.size + 1 < w2.heap.size := Nat.lt_of_lt_of_le l1 hb2.size
  clear hb2 q0 q1 q2 q3 l0 l1
  have a0 : w.heap.size < w2.heap.size := by omega
  go_wp2
  have P0 : (w2.alloc (.cells #[.int .i64 y, .int .i64 m, .int .i64 d] 50)).cell? ⟨w.heap.size, 0, none⟩ = some (.slice A n c) := (World.cell?_alloc_past _ _ _ a0).trans p0
  have P1 : (w2.alloc (.cells #[.int .i64 y, .int .i64 m, .int .i64 d] 50)).cell? ⟨w.heap.size, 1, none⟩ = some (.int .i64 x) := (World.cell?_alloc_past _ _ _ a0).trans p1
  have P2 : (w2.alloc (.cells #[.int .i64 y, .int .i64 m, .int .i64 d] 50)).cell? ⟨w.heap.size + 1, 0, none⟩ = some (.int .i64 day) := (World.cell?_alloc_past _ _ _ l2).trans p2
  have P3 : (w2.alloc (.cells #[.int .i64 y, .int .i64 m, .int .i64 d] 50)).cell? ⟨w.heap.size + 1, 1, none⟩ = some (.int .i64 nano) := (World.cell?_alloc_past _ _ _ l2).trans p3
  have HB2' : Below w.heap.size w (w2.alloc (.cells #[.int .i64 y, .int .i64 m, .int .i64 d] 50)) := HB2.alloc HB2.size _
  have l2' : w.heap.size + 1 < (w2.alloc (.cells #[.int .i64 y, .int .i64 m, .int .i64 d] 50)).heap.size := by simp; omega
  generalize w2.alloc (.cells #[.int .i64 y, .int .i64 m, .int .i64 d] 50) = w3 at *
  clear p0 p1 p2 p3 l2 a0 HB2
  have a0 : w.heap.size < w3.heap.size := by omega
  have t1 : decide (L * 1000000000 ≤ nano) = false := by simp; omega
  have t0 : decide (nano < 0) = false := by simpa using n0
  have hw := HW.out
  go_region_held3 (fun w' => w'.cell? ⟨w.heap.size, 0, none⟩ = some (.slice A n c) ∧ w'.cell? ⟨w.heap.size, 1, none⟩ = some (.int .i64 x) ∧ w'.cell? ⟨w.heap.size + 1, 0, none⟩ = some (.int .i64 day) ∧ w'.cell? ⟨w.heap.size + 1, 1, none⟩ = some (.int .i64 nano)) (first | exact ⟨P0, P1, P2, P3⟩ | exact ⟨r0, r1, r2, r3⟩)
    (first | (go_at_call 33; refine (HL.out _ (by (repeat' (first | (with_reducible exact Below.refl _ _) | (with_reducible assumption) | (with_reducible refine Below.trans ?_ (Below.mono (by with_reducible assumption) ?_)) | (with_reducible refine Below.alloc ?_ ?_ _) | (with_reducible refine Below.setCell ?_ ?_ _) | (with_reducible refine below_drewN ?_ _) | (with_reducible refine Below.drew ?_) | go_size)))).mono ?_; rintro e w5 ⟨rfl, hb5⟩; have r0 := (hb5.cell (p := ⟨w.heap.size, 0, none⟩) a0).trans P0; have r1 := (hb5.cell (p := ⟨w.heap.size, 1, none⟩) a0).trans P1; have r2 := (hb5.cell (p := ⟨w.heap.size + 1, 0, none⟩) l2').trans P2; have r3 := (hb5.cell (p := ⟨w.heap.size + 1, 1, none⟩) l2').trans P3; have l5 : w.heap.size + 1 < w5.heap.size := Nat.lt_of_lt_of_le l2' hb5.size; have HB5 : Below w.heap.size w w5 := HB2'.trans (Below.trans (by (repeat' (first | (with_reducible exact Below.refl _ _) | (with_reducible assumption) | (with_reducible refine Below.trans ?_ (Below.mono (by with_reducible assumption) ?_)) | (with_reducible refine Below.alloc ?_ ?_ _) | (with_reducible refine Below.setCell ?_ ?_ _) | (with_reducible refine below_drewN ?_ _) | (with_reducible refine Below.drew ?_) | go_size))) (hb5.mono (Nat.le_of_lt a0)))))
  have a5 : w.heap.size < w5.heap.size := by omega
  clear hw P0 P1 P2 P3 hb5
  go_wp2
  go_region_held3 (fun w' => w'.cell? ⟨w.heap.size, 0, none⟩ = some (.slice A n c) ∧ w'.cell? ⟨w.heap.size, 1, none⟩ = some (.int .i64 x) ∧ w'.cell? ⟨w.heap.size + 1, 0, none⟩ = some (.int .i64 day) ∧ w'.cell? ⟨w.heap.size + 1, 1, none⟩ = some (.int .i64 nano)) (first | exact ⟨r0, r1, r2, r3⟩ | exact ⟨s0, s1, s2, s3⟩ | exact ⟨(World.cell?_alloc_past _ _ _ a6).trans s0, (World.cell?_alloc_past _ _ _ a6).trans s1, (World.cell?_alloc_past _ _ _ l6).trans s2, (World.cell?_alloc_past _ _ _ l6).trans s3⟩)
    (first
      | (go_at_call 34; refine (hBg.out _).mono ?_; rintro e w' ⟨rfl, rfl⟩)
      | (go_at_call 35; refine (HO.out _ (by (repeat' (first | (with_reducible exact Below.refl _ _) | (with_reducible assumption) | (with_reducible refine Below.trans ?_ (Below.mono (by with_reducible assumption) ?_)) | (with_reducible refine Below.alloc ?_ ?_ _) | (with_reducible refine Below.setCell ?_ ?_ _) | (with_reducible refine below_drewN ?_ _) | (with_reducible refine Below.drew ?_) | go_size)))).mono ?_; rintro e w6 ⟨rfl, hb6⟩; have s0 := (hb6.cell (p := ⟨w.heap.size, 0, none⟩) a5).trans r0; have s1 := (hb6.cell (p := ⟨w.heap.size, 1, none⟩) a5).trans r1; have s2 := (hb6.cell (p := ⟨w.heap.size + 1, 0, none⟩) l5).trans r2; have s3 := (hb6.cell (p := ⟨w.heap.size + 1, 1, none⟩) l5).trans r3; have l6 : w.heap.size + 1 < w6.heap.size := Nat.lt_of_lt_of_le l5 hb6.size; have a6 : w.heap.size < w6.heap.size := Nat.lt_of_lt_of_le a5 hb6.size; have HB6 : Below w.heap.size w w6 := HB5.trans (Below.trans (by (repeat' (first | (with_reducible exact Below.refl _ _) | (with_reducible assumption) | (with_reducible refine Below.trans ?_ (Below.mono (by with_reducible assumption) ?_)) | (with_reducible refine Below.alloc ?_ ?_ _) | (with_reducible refine Below.setCell ?_ ?_ _) | (with_reducible refine below_drewN ?_ _) | (with_reducible refine Below.drew ?_) | go_size))) (hb6.mono (Nat.le_of_lt a5))))
      | (go_at_call 12; refine (scale_add3 md nano mo w6.heap.size _ M1 (by omega) M2 (by simp [go_sem]) (by simp [go_sem]) (by simp [go_sem])).mono ?_; rintro e w' ⟨rfl, rfl⟩))
  go_wp2
  go_ret2
  go_light
  exact ⟨rfl, by (repeat' (first | (with_reducible exact Below.refl _ _) | (with_reducible assumption) | (with_reducible refine Below.trans ?_ (Below.mono (by with_reducible assumption) ?_)) | (with_reducible refine Below.alloc ?_ ?_ _) | (with_reducible refine Below.setCell ?_ ?_ _) | (with_reducible refine below_drewN ?_ _) | (with_reducible refine Below.drew ?_) | go_size))⟩
end Go.Proofs.Ytklahiogcpojmaa
