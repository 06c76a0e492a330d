/- scale.TAI of what is refused. -/
import Derived.Test.YtklahiogcpojmaaTai
import Derived.Test.YtklahiogcpojmaaLeapNo
set_option linter.unusedSimpArgs false
set_option linter.unusedVariables false
namespace Go.Proofs.Ytklahiogcpojmaa
open Go.RowKit

set_option maxRecDepth 100000 in
set_option maxHeartbeats 8000000 in
theorem scale_tai_late (A : Option Addr) (n c : Nat) (x day nano : Int) (z : Nat → Int) (w : World) (hz : FlatAt w A 2 n z) (ht : IsTab z n x) (d0 : -719162 ≤ day) (d1 : day ≤ 2932896) (n0 : 0 ≤ nano) (n1 : (86400 + offK z (day + 1) n - offK z day n) * 1000000000 ≤ nano) :
    Calls Try.prog 17 #[.agg #[.slice A n c, .int .i64 x], .agg #[.int .i64 day, .int .i64 nano]] w fun e w' => e = .returned (.tuple #[.int .i64 0, .int .i64 1]) ∧ Below w.heap.size w w' := by
  have HB0 : Below w.heap.size w ((w.alloc (.cells #[.slice A n c, .int .i64 x] 30)).alloc (.cells #[.int .i64 day, .int .i64 nano] 32)) := by (repeat' (first | (with_reducible exact Below.refl _ _) | (with_reducible assumption) | (with_reducible refine Below.trans ?_ (Below.mono (by with_reducible assumption) ?_)) | (with_reducible refine Below.alloc ?_ ?_ _) | (with_reducible refine Below.setCell ?_ ?_ _) | (with_reducible refine below_drewN ?_ _) | (with_reducible refine Below.drew ?_) | go_size))
  have b0 := offK_bd ht day n (Nat.le_refl _)
  have b1 := offK_bd ht (day + 1) n (Nat.le_refl _)
  obtain ⟨y, m, d, _, _, _, hd⟩ := cal_date_some day d0 d1
  have HD := Lib.hid hd
  have HT := Lib.hid ht
  have HZ := Lib.hid hz
  clear hz ht hd
  have HL := Lib.hid fun (W : World) (hB : Below w.heap.size w W) => leap_length_yes A n c x day z W (HZ.out.below hB) HT.out (by omega) (by omega)
  generalize hO1 : offK z (day + 1) n = o1 at *
  generalize hO0 : offK z day n = o0 at *
  generalize hLL : 86400 + o1 - o0 = L at *
  have hL : 0 ≤ L ∧ L ≤ 100000 := by omega
  clear hO1 hO0 hLL b0 b1
  have hw : IntKind.i64.wrap (L * 1000000000) = L * 1000000000 := IntWalk.i64_in _ (by omega)
  have HW := Lib.hid hw
  clear hw
  go_enter Try.func17, Try.ntmps17
  go_wp2_with fail
  refine (leap_is_yes A n c x z _ (HZ.out.below HB0) HT.out).mono ?_; rintro e w1 ⟨rfl, hb1⟩
  have HB1 : Below w.heap.size w w1 := HB0.trans (hb1.mono HB0.size)
  have q0 : w1.cell? ⟨w.heap.size, 0, none⟩ = some (.slice A n c) := (hb1.cell (p := ⟨w.heap.size, 0, none⟩) (by simp; omega)).trans (by simp [go_sem])
  have q1 : w1.cell? ⟨w.heap.size, 1, none⟩ = some (.int .i64 x) := (hb1.cell (p := ⟨w.heap.size, 1, none⟩) (by simp; omega)).trans (by simp [go_sem])
  have q2 : w1.cell? ⟨w.heap.size + 1, 0, none⟩ = some (.int .i64 day) := (hb1.cell (p := ⟨w.heap.size + 1, 0, none⟩) (by simp)).trans (by simp [go_sem])
  have q3 : w1.cell? ⟨w.heap.size + 1, 1, none⟩ = some (.int .i64 nano) := (hb1.cell (p := ⟨w.heap.size + 1, 1, none⟩) (by simp)).trans (by simp [go_sem])
  have l1 : w.heap.size + 1 < w1.heap.size := by have := hb1.size; simp at this; omega
  clear hb1
  go_wp2_with fail
  refine (HD.out _).mono ?_; rintro e w2 ⟨rfl, hb2⟩
  have HB2 : Below w.heap.size w w2 := HB1.trans (hb2.mono HB1.size)
  have l0 : w.heap.size < w1.heap.size := by omega
  have p0 := (hb2.cell (p := ⟨w.heap.size, 0, none⟩) l0).trans q0
  have p1 := (hb2.cell (p := ⟨w.heap.size, 1, none⟩) l0).trans q1
  have p2 := (hb2.cell (p := ⟨w.heap.size + 1, 0, none⟩) l1).trans q2
  have p3 := (hb2.cell (p := ⟨w.heap.size + 1, 1, none⟩) l1).trans q3
  have l2 : w.heap.size + 1 < w2.heap.size := Nat.lt_of_lt_of_le l1 hb2.size
  clear hb2 q0 q1 q2 q3 l0 l1
  have a0 : w.heap.size < w2.heap.size := by omega
  go_wp2
  have P0 : (w2.alloc (.cells #[.int .i64 y, .int .i64 m, .int .i64 d] 50)).cell? ⟨w.heap.size, 0, none⟩ = some (.slice A n c) := (World.cell?_alloc_past _ _ _ a0).trans p0
  have P1 : (w2.alloc (.cells #[.int .i64 y, .int .i64 m, .int .i64 d] 50)).cell? ⟨w.heap.size, 1, none⟩ = some (.int .i64 x) := (World.cell?_alloc_past _ _ _ a0).trans p1
  have P2 : (w2.alloc (.cells #[.int .i64 y, .int .i64 m, .int .i64 d] 50)).cell? ⟨w.heap.size + 1, 0, none⟩ = some (.int .i64 day) := (World.cell?_alloc_past _ _ _ l2).trans p2
  have P3 : (w2.alloc (.cells #[.int .i64 y, .int .i64 m, .int .i64 d] 50)).cell? ⟨w.heap.size + 1, 1, none⟩ = some (.int .i64 nano) := (World.cell?_alloc_past _ _ _ l2).trans p3
  have HB2' : Below w.heap.size w (w2.alloc (.cells #[.int .i64 y, .int .i64 m, .int .i64 d] 50)) := HB2.alloc HB2.size _
  have l2' : w.heap.size + 1 < (w2.alloc (.cells #[.int .i64 y, .int .i64 m, .int .i64 d] 50)).heap.size := by simp; omega
  generalize w2.alloc (.cells #[.int .i64 y, .int .i64 m, .int .i64 d] 50) = w3 at *
  clear p0 p1 p2 p3 l2 a0 HB2
  have a0 : w.heap.size < w3.heap.size := by omega
  have t1 : decide (L * 1000000000 ≤ nano) = true := by simp; omega
  have t0 : decide (nano < 0) = false := by simpa using n0
  have hw := HW.out
  go_region_held3 (fun w' => w'.cell? ⟨w.heap.size, 0, none⟩ = some (.slice A n c) ∧ w'.cell? ⟨w.heap.size, 1, none⟩ = some (.int .i64 x) ∧ w'.cell? ⟨w.heap.size + 1, 0, none⟩ = some (.int .i64 day) ∧ w'.cell? ⟨w.heap.size + 1, 1, none⟩ = some (.int .i64 nano)) (first | exact ⟨P0, P1, P2, P3⟩ | exact ⟨r0, r1, r2, r3⟩)
    (first | (go_at_call 33; refine (HL.out _ (by (repeat' (first | (with_reducible exact Below.refl _ _) | (with_reducible assumption) | (with_reducible refine Below.trans ?_ (Below.mono (by with_reducible assumption) ?_)) | (with_reducible refine Below.alloc ?_ ?_ _) | (with_reducible refine Below.setCell ?_ ?_ _) | (with_reducible refine below_drewN ?_ _) | (with_reducible refine Below.drew ?_) | go_size)))).mono ?_; rintro e w5 ⟨rfl, hb5⟩; have r0 := (hb5.cell (p := ⟨w.heap.size, 0, none⟩) a0).trans P0; have r1 := (hb5.cell (p := ⟨w.heap.size, 1, none⟩) a0).trans P1; have r2 := (hb5.cell (p := ⟨w.heap.size + 1, 0, none⟩) l2').trans P2; have r3 := (hb5.cell (p := ⟨w.heap.size + 1, 1, none⟩) l2').trans P3; have l5 : w.heap.size + 1 < w5.heap.size := Nat.lt_of_lt_of_le l2' hb5.size; have HB5 : Below w.heap.size w w5 := HB2'.trans (Below.trans (by (repeat' (first | (with_reducible exact Below.refl _ _) | (with_reducible assumption) | (with_reducible refine Below.trans ?_ (Below.mono (by with_reducible assumption) ?_)) | (with_reducible refine Below.alloc ?_ ?_ _) | (with_reducible refine Below.setCell ?_ ?_ _) | (with_reducible refine below_drewN ?_ _) | (with_reducible refine Below.drew ?_) | go_size))) (hb5.mono (Nat.le_of_lt a0)))))
  go_wp2
  go_ret2
  go_light
  exact ⟨rfl, HB5⟩
set_option maxRecDepth 100000 in
set_option maxHeartbeats 8000000 in
theorem scale_tai_neg (A : Option Addr) (n c : Nat) (x day nano : Int) (z : Nat → Int) (w : World) (hz : FlatAt w A 2 n z) (ht : IsTab z n x) (d0 : -719162 ≤ day) (d1 : day ≤ 2932896) (n0 : nano < 0) :
    Calls Try.prog 17 #[.agg #[.slice A n c, .int .i64 x], .agg #[.int .i64 day, .int .i64 nano]] w fun e w' => e = .returned (.tuple #[.int .i64 0, .int .i64 1]) ∧ Below w.heap.size w w' := by
  have HB0 : Below w.heap.size w ((w.alloc (.cells #[.slice A n c, .int .i64 x] 30)).alloc (.cells #[.int .i64 day, .int .i64 nano] 32)) := by (repeat' (first | (with_reducible exact Below.refl _ _) | (with_reducible assumption) | (with_reducible refine Below.trans ?_ (Below.mono (by with_reducible assumption) ?_)) | (with_reducible refine Below.alloc ?_ ?_ _) | (with_reducible refine Below.setCell ?_ ?_ _) | (with_reducible refine below_drewN ?_ _) | (with_reducible refine Below.drew ?_) | go_size))
  obtain ⟨y, m, d, _, _, _, hd⟩ := cal_date_some day d0 d1
  have HD := Lib.hid hd
  have HT := Lib.hid ht
  have HZ := Lib.hid hz
  clear hz ht hd
  go_enter Try.func17, Try.ntmps17
  go_wp2_with fail
  refine (leap_is_yes A n c x z _ (HZ.out.below HB0) HT.out).mono ?_; rintro e w1 ⟨rfl, hb1⟩
  have HB1 : Below w.heap.size w w1 := HB0.trans (hb1.mono HB0.size)
  have q0 : w1.cell? ⟨w.heap.size, 0, none⟩ = some (.slice A n c) := (hb1.cell (p := ⟨w.heap.size, 0, none⟩) (by simp; omega)).trans (by simp [go_sem])
  have q1 : w1.cell? ⟨w.heap.size, 1, none⟩ = some (.int .i64 x) := (hb1.cell (p := ⟨w.heap.size, 1, none⟩) (by simp; omega)).trans (by simp [go_sem])
  have q2 : w1.cell? ⟨w.heap.size + 1, 0, none⟩ = some (.int .i64 day) := (hb1.cell (p := ⟨w.heap.size + 1, 0, none⟩) (by simp)).trans (by simp [go_sem])
  have q3 : w1.cell? ⟨w.heap.size + 1, 1, none⟩ = some (.int .i64 nano) := (hb1.cell (p := ⟨w.heap.size + 1, 1, none⟩) (by simp)).trans (by simp [go_sem])
  have l1 : w.heap.size + 1 < w1.heap.size := by have := hb1.size; simp at this; omega
  clear hb1
  go_wp2_with fail
  refine (HD.out _).mono ?_; rintro e w2 ⟨rfl, hb2⟩
  have HB2 : Below w.heap.size w w2 := HB1.trans (hb2.mono HB1.size)
  have l0 : w.heap.size < w1.heap.size := by omega
  have p0 := (hb2.cell (p := ⟨w.heap.size, 0, none⟩) l0).trans q0
  have p1 := (hb2.cell (p := ⟨w.heap.size, 1, none⟩) l0).trans q1
  have p2 := (hb2.cell (p := ⟨w.heap.size + 1, 0, none⟩) l1).trans q2
  have p3 := (hb2.cell (p := ⟨w.heap.size + 1, 1, none⟩) l1).trans q3
  have l2 : w.heap.size + 1 < w2.heap.size := Nat.lt_of_lt_of_le l1 hb2.size
  clear hb2 q0 q1 q2 q3 l0 l1
  have a0 : w.heap.size < w2.heap.size := by omega
  go_wp2
  have P0 : (w2.alloc (.cells #[.int .i64 y, .int .i64 m, .int .i64 d] 50)).cell? ⟨w.heap.size, 0, none⟩ = some (.slice A n c) := (World.cell?_alloc_past _ _ _ a0).trans p0
  have P1 : (w2.alloc (.cells #[.int .i64 y, .int .i64 m, .int .i64 d] 50)).cell? ⟨w.heap.size, 1, none⟩ = some (.int .i64 x) := (World.cell?_alloc_past _ _ _ a0).trans p1
  have P2 : (w2.alloc (.cells #[.int .i64 y, .int .i64 m, .int .i64 d] 50)).cell? ⟨w.heap.size + 1, 0, none⟩ = some (.int .i64 day) := (World.cell?_alloc_past _ _ _ l2).trans p2
  have P3 : (w2.alloc (.cells #[.int .i64 y, .int .i64 m, .int .i64 d] 50)).cell? ⟨w.heap.size + 1, 1, none⟩ = some (.int .i64 nano) := (World.cell?_alloc_past _ _ _ l2).trans p3
  have HB2' : Below w.heap.size w (w2.alloc (.cells #[.int .i64 y, .int .i64 m, .int .i64 d] 50)) := HB2.alloc HB2.size _
  have l2' : w.heap.size + 1 < (w2.alloc (.cells #[.int .i64 y, .int .i64 m, .int .i64 d] 50)).heap.size := by simp; omega
  generalize w2.alloc (.cells #[.int .i64 y, .int .i64 m, .int .i64 d] 50) = w3 at *
  clear p0 p1 p2 p3 l2 a0 HB2
  have a0 : w.heap.size < w3.heap.size := by omega
  have t0 : decide (nano < 0) = true := by simpa using n0
  have z3 := HB2'.size
  go_quiet (fail)
  go_wp2
  go_ret2
  go_light
  exact ⟨rfl, by (repeat' (first | (with_reducible exact Below.refl _ _) | (with_reducible assumption) | (with_reducible refine Below.trans ?_ (Below.mono (by with_reducible assumption) ?_)) | (with_reducible refine Below.alloc ?_ ?_ _) | (with_reducible refine Below.setCell ?_ ?_ _) | (with_reducible refine below_drewN ?_ _) | (with_reducible refine Below.drew ?_) | go_size))⟩
set_option maxHeartbeats 1000000 in
theorem scale_tai_notab (A : Option Addr) (n c : Nat) (x day nano : Int) (z : Nat → Int) (w : World) (hz : FlatAt w A 2 n z) (hn : n ≤ maxLen) (ht : ¬ IsTab z n x) :
    Calls Try.prog 17 #[.agg #[.slice A n c, .int .i64 x], .agg #[.int .i64 day, .int .i64 nano]] w fun e w' => e = .returned (.tuple #[.int .i64 0, .int .i64 1]) ∧ Below w.heap.size w w' := by
  have HB0 : Below w.heap.size w ((w.alloc (.cells #[.slice A n c, .int .i64 x] 30)).alloc (.cells #[.int .i64 day, .int .i64 nano] 32)) := by (repeat' (first | (with_reducible exact Below.refl _ _) | (with_reducible assumption) | (with_reducible refine Below.trans ?_ (Below.mono (by with_reducible assumption) ?_)) | (with_reducible refine Below.alloc ?_ ?_ _) | (with_reducible refine Below.setCell ?_ ?_ _) | (with_reducible refine below_drewN ?_ _) | (with_reducible refine Below.drew ?_) | go_size))
  have HI := Lib.hid (leap_is_no A n c x z _ (hz.below HB0) hn ht)
  clear hz ht hn
  go_enter Try.func17, Try.ntmps17
  go_wp2_with fail
  refine HI.out.mono ?_; rintro e w1 ⟨rfl, hb1⟩
  have HB1 : Below w.heap.size w w1 := HB0.trans (hb1.mono HB0.size)
  clear hb1
  go_wp2
  go_ret2
  exact ⟨rfl, HB1⟩
end Go.Proofs.Ytklahiogcpojmaa
