/- lease.Leases with one lease: at, At, Floor; a nil one; what is known. -/
import Derived.Test.YtacchkokbibeaaaLease
set_option linter.unusedSimpArgs false
set_option linter.unusedVariables false
namespace Go.Proofs.Ytacchkokbibeaaa
open Go.RowKit

set_option maxHeartbeats 1000000 in
theorem lease_at_old (b g cap : Nat) (m c u now : Int) (w : World) (h : One w b g cap m c u) (hn : u ≤ now) : Calls Try.prog 27 #[.pointer (some ⟨b, 0, none⟩), .int .i64 0, .int .i64 now] w fun e w' => e = .returned (.tuple #[.pointer none, .int .i64 19]) ∧ Below w.heap.size w w' := by
  have HH := Lib.hid h
  clear h
  go_enter Try.func27, Try.ntmps27
  go_wp2_with fail
  refine (lease_find0 b g cap m c u _ HH.out).mono ?_; rintro e w1 ⟨rfl, hb1⟩
  have H1 := HH.out.below hb1
  have c0 := H1.c0
  have r3 := H1.r3
  clear H1
  go_wp2
  go_ret2
  exact ⟨rfl, hb1⟩
set_option maxHeartbeats 1000000 in
theorem lease_at_ok (b g cap : Nat) (m c u now : Int) (w : World) (h : One w b g cap m c u) (hn : now < u) : Calls Try.prog 27 #[.pointer (some ⟨b, 0, none⟩), .int .i64 0, .int .i64 now] w fun e w' => e = .returned (.tuple #[.pointer (some ⟨g, 0, none⟩), .int .i64 0]) ∧ Below w.heap.size w w' := by
  have HH := Lib.hid h
  clear h
  go_enter Try.func27, Try.ntmps27
  go_wp2_with fail
  refine (lease_find0 b g cap m c u _ HH.out).mono ?_; rintro e w1 ⟨rfl, hb1⟩
  have H1 := HH.out.below hb1
  have c0 := H1.c0
  have r3 := H1.r3
  clear H1
  go_wp2
  go_ret2
  exact ⟨rfl, hb1⟩
set_option maxHeartbeats 1000000 in
theorem lease_At_old (b g cap : Nat) (m c u now : Int) (w : World) (h : One w b g cap m c u) (hn : u ≤ now) : Calls Try.prog 11 #[.pointer (some ⟨b, 0, none⟩), .int .i64 0, .int .i64 now] w fun e w' => e = .returned (.tuple #[.agg #[.int .i64 0, .int .i64 0], .int .i64 19]) ∧ Below w.heap.size w w' := by
  have HB0 : Below w.heap.size w (w.alloc (.cells #[.int .i64 0, .int .i64 0] 30)) := by (repeat' (first | (with_reducible exact Below.refl _ _) | (with_reducible assumption) | (with_reducible refine Below.trans ?_ (Below.mono (by with_reducible assumption) ?_)) | (with_reducible refine Below.alloc ?_ ?_ _) | (with_reducible refine Below.setCell ?_ ?_ _) | (with_reducible refine below_drewN ?_ _) | (with_reducible refine Below.drew ?_) | go_size))
  have J0 := Ints2.new w 0 0 30
  have HH := Lib.hid (h.below HB0)
  clear h
  go_enter Try.func11, Try.ntmps11
  go_wp2_with fail
  refine (lease_at_old b g cap m c u now _ HH.out hn).mono ?_; rintro e w1 ⟨rfl, hb1⟩
  have J1 := J0.below hb1 (by simp)
  have HB1 := HB0.trans (hb1.mono HB0.size)
  have R0 := (J1.set0 0).c0
  have R1 := ((J1.set0 0).set1 0).c1
  obtain ⟨x0, x1, g0, g1, lt⟩ := J1
  clear J0 hb1
  go_wp2
  refine bodyPost_ret (v := .tuple #[.agg #[.int .i64 0, .int .i64 0], .int .i64 19]) (by simp [results, Try.results11, go_sem, R0, R1]) rfl ⟨rfl, ?_⟩
  go_light
  (repeat' (first | (with_reducible exact Below.refl _ _) | (with_reducible assumption) | (with_reducible refine Below.trans ?_ (Below.mono (by with_reducible assumption) ?_)) | (with_reducible refine Below.alloc ?_ ?_ _) | (with_reducible refine Below.setCell ?_ ?_ _) | (with_reducible refine below_drewN ?_ _) | (with_reducible refine Below.drew ?_) | go_size))
set_option maxHeartbeats 1000000 in
theorem lease_At_ok (b g cap : Nat) (m c u now : Int) (w : World) (h : One w b g cap m c u) (hn : now < u) : Calls Try.prog 11 #[.pointer (some ⟨b, 0, none⟩), .int .i64 0, .int .i64 now] w fun e w' => e = .returned (.tuple #[.agg #[.int .i64 m, .int .i64 c], .int .i64 0]) ∧ Below w.heap.size w w' := by
  have HB0 : Below w.heap.size w (w.alloc (.cells #[.int .i64 0, .int .i64 0] 30)) := by (repeat' (first | (with_reducible exact Below.refl _ _) | (with_reducible assumption) | (with_reducible refine Below.trans ?_ (Below.mono (by with_reducible assumption) ?_)) | (with_reducible refine Below.alloc ?_ ?_ _) | (with_reducible refine Below.setCell ?_ ?_ _) | (with_reducible refine below_drewN ?_ _) | (with_reducible refine Below.drew ?_) | go_size))
  have J0 := Ints2.new w 0 0 30
  have HH := Lib.hid (h.below HB0)
  clear h
  go_enter Try.func11, Try.ntmps11
  go_wp2_with fail
  refine (lease_at_ok b g cap m c u now _ HH.out hn).mono ?_; rintro e w1 ⟨rfl, hb1⟩
  have J1 := J0.below hb1 (by simp)
  have H1 := HH.out.below hb1
  have r1 := H1.r1
  have r2 := H1.r2
  have HB1 := HB0.trans (hb1.mono HB0.size)
  have R0 := (J1.set0 m).c0
  have R1 := ((J1.set0 m).set1 c).c1
  obtain ⟨x0, x1, g0, g1, lt⟩ := J1
  clear J0 hb1 H1
  go_wp2
  refine bodyPost_ret (v := .tuple #[.agg #[.int .i64 m, .int .i64 c], .int .i64 0]) (by simp [results, Try.results11, go_sem, R0, R1]) rfl ⟨rfl, ?_⟩
  go_light
  (repeat' (first | (with_reducible exact Below.refl _ _) | (with_reducible assumption) | (with_reducible refine Below.trans ?_ (Below.mono (by with_reducible assumption) ?_)) | (with_reducible refine Below.alloc ?_ ?_ _) | (with_reducible refine Below.setCell ?_ ?_ _) | (with_reducible refine below_drewN ?_ _) | (with_reducible refine Below.drew ?_) | go_size))
set_option maxRecDepth 100000 in
set_option maxHeartbeats 2000000 in
theorem lease_floor (b g cap : Nat) (m c u p q : Int) (w : World) (h : One w b g cap m c u) (hc : cmp2 m c p q = -1) : Calls Try.prog 21 #[.pointer (some ⟨b, 0, none⟩), .agg #[.int .i64 p, .int .i64 q]] w fun e w' => e = .returned (.agg #[.int .i64 m, .int .i64 c]) ∧ Below w.heap.size w w' := by
  have HB0 : Below w.heap.size w ((w.alloc (.cells #[.int .i64 p, .int .i64 q] 30)).alloc (.cells #[.int .i64 0, .int .i64 0] 30)) := by (repeat' (first | (with_reducible exact Below.refl _ _) | (with_reducible assumption) | (with_reducible refine Below.trans ?_ (Below.mono (by with_reducible assumption) ?_)) | (with_reducible refine Below.alloc ?_ ?_ _) | (with_reducible refine Below.setCell ?_ ?_ _) | (with_reducible refine below_drewN ?_ _) | (with_reducible refine Below.drew ?_) | go_size))
  have J0 := (Ints2.new w p q 30).alloc (.cells #[.int .i64 0, .int .i64 0] 30)
  have J1 := Ints2.new1 w (.cells #[.int .i64 p, .int .i64 q] 30) 0 0 30
  have HH := h.below HB0
  have HJ0 := Lib.hid J0
  have HJ1 := Lib.hid J1
  have HHH := Lib.hid HH
  have c0 := h.c0
  have r0 := h.r0
  have r1 := h.r1
  have r2 := h.r2
  have r3 := h.r3
  have lb := h.lt
  have lg := h.gt
  have lb1 : b < w.heap.size + 1 := by omega
  have lg1 : g < w.heap.size + 1 := by omega
  have lb2 : b < w.heap.size + 1 + 1 := by omega
  have lg2 : g < w.heap.size + 1 + 1 := by omega
  have HC := Lib.hid hc
  clear h J0 J1 HH hc
  go_enter Try.func21, Try.ntmps21
  go_wp2
  refine wp_loop_rounds 2 ?_
  rw [rounds_succ]
  go_wp2_with fail
  refine (hlc_compare m c p q _).mono ?_; rw [HC.out]; rintro e w5 ⟨rfl, hb5⟩
  have K0 := (HJ0.out.alloc (.cells #[.int .i64 0, .int .i64 m, .int .i64 c, .int .i64 u] 65)).below hb5 (by simp; omega)
  have K1 := (HJ1.out.alloc (.cells #[.int .i64 0, .int .i64 m, .int .i64 c, .int .i64 u] 65)).below hb5 (by simp)
  have x1 : w5.cell? ⟨w.heap.size + 1 + 1, 1, none⟩ = some (.int .i64 m) := (hb5.cell (p := ⟨w.heap.size + 1 + 1, 1, none⟩) (by simp)).trans (by simp [go_sem])
  have x2 : w5.cell? ⟨w.heap.size + 1 + 1, 2, none⟩ = some (.int .i64 c) := (hb5.cell (p := ⟨w.heap.size + 1 + 1, 2, none⟩) (by simp)).trans (by simp [go_sem])
  have HB5 : Below w.heap.size w w5 := Below.trans (show Below w.heap.size w _ from (by (repeat' (first | (with_reducible exact Below.refl _ _) | (with_reducible assumption) | (with_reducible refine Below.trans ?_ (Below.mono (by with_reducible assumption) ?_)) | (with_reducible refine Below.alloc ?_ ?_ _) | (with_reducible refine Below.setCell ?_ ?_ _) | (with_reducible refine below_drewN ?_ _) | (with_reducible refine Below.drew ?_) | go_size)))) (hb5.mono (by simp; omega))
  have z5 := HB5.size
  have K0' := K0
  obtain ⟨p0, p1, e0, e1, pl⟩ := K0'
  have K0s := Lib.hid ((K0.set0 m).set1 c)
  have K1s := Lib.hid K1
  clear hb5 c0 r0 r1 r2 r3 K0 K1
  go_wp2
  rw [rounds_succ]
  have S0 := K0s.out.c0
  have S1 := K0s.out.c1
  have K1' := (K1s.out.other (p := ⟨w.heap.size, 0, none⟩) (by simp) (.int .i64 m)).other (p := ⟨w.heap.size, 1, none⟩) (by simp) (.int .i64 c)
  have R0 := (K1'.set0 m).c0
  have R1 := ((K1'.set0 m).set1 c).c1
  obtain ⟨u0, u1, v0, v1, ul⟩ := K1'
  clear p0 p1 e0 e1 x1 x2
  go_wp2
  refine bodyPost_ret (v := .agg #[.int .i64 m, .int .i64 c]) (by simp [results, Try.results21, go_sem, R0, R1]) rfl ⟨rfl, ?_⟩
  go_light
  (repeat' (first | (with_reducible exact Below.refl _ _) | (with_reducible assumption) | (with_reducible refine Below.trans ?_ (Below.mono (by with_reducible assumption) ?_)) | (with_reducible refine Below.alloc ?_ ?_ _) | (with_reducible refine Below.setCell ?_ ?_ _) | (with_reducible refine below_drewN ?_ _) | (with_reducible refine Below.drew ?_) | go_size))
set_option maxHeartbeats 2000000 in
theorem known21 (w : World) : Calls Try.prog 23 #[] w fun e w' => e = .returned (.bool true) ∧ Below w.heap.size w w' := by
  go_enter Try.func23, Try.ntmps23
  go_wp2_with fail
  refine (lease_new _).mono ?_; rintro e w' ⟨rfl, rfl⟩
  have HB1 : Below w.heap.size w (w.alloc (.cells #[.slice none 0 0, .int .i64 0] 60)) := by (repeat' (first | (with_reducible exact Below.refl _ _) | (with_reducible assumption) | (with_reducible refine Below.trans ?_ (Below.mono (by with_reducible assumption) ?_)) | (with_reducible refine Below.alloc ?_ ?_ _) | (with_reducible refine Below.setCell ?_ ?_ _) | (with_reducible refine below_drewN ?_ _) | (with_reducible refine Below.drew ?_) | go_size))
  go_wp2_with fail
  refine (lease_open w.heap.size 5 0 10 _ (none_new w) (by decide) (by decide)).mono ?_; rintro e w2 ⟨rfl, ho2, g, cap, hg, O2⟩
  have HB2 : Below w.heap.size w w2 := HB1.trans (ho2.below (Nat.le_refl _) HB1.size)
  clear ho2
  go_wp2_with fail
  refine (lease_At_ok _ g cap 5 0 10 9 _ O2 (by decide)).mono ?_; rintro e w3 ⟨rfl, hb3⟩
  have O3 := O2.below (hb3.trans ((Below.refl w3.heap.size w3).alloc (Nat.le_refl _) (.cells #[.int .i64 5, .int .i64 0] 30) |>.mono hb3.size))
  have HB3 : Below w.heap.size w (w3.alloc (.cells #[.int .i64 5, .int .i64 0] 30)) := (HB2.trans (hb3.mono HB2.size)).alloc (HB2.trans (hb3.mono HB2.size)).size _
  have J3 := Ints2.new w3 5 0 30
  clear hb3 O2
  go_wp2_with fail
  refine (lease_At_old _ g cap 5 0 10 10 _ O3 (by decide)).mono ?_; rintro e w4 ⟨rfl, hb4⟩
  have O4 := O3.below (hb4.trans ((Below.refl w4.heap.size w4).alloc (Nat.le_refl _) (.cells #[.int .i64 0, .int .i64 0] 30) |>.mono hb4.size))
  have HB4 : Below w.heap.size w (w4.alloc (.cells #[.int .i64 0, .int .i64 0] 30)) := (HB3.trans (hb4.mono HB3.size)).alloc (HB3.trans (hb4.mono HB3.size)).size _
  have J4 := (J3.below hb4 (by simp)).alloc (.cells #[.int .i64 0, .int .i64 0] 30)
  obtain ⟨x0, x1, g0, g1, lt⟩ := J4
  clear hb4 O3 J3
  go_wp2_with fail
  refine (lease_floor _ g cap 5 0 10 7 0 _ O4 (by decide)).mono ?_; rintro e w5 ⟨rfl, hb5⟩
  have HB5 := HB4.trans (hb5.mono HB4.size)
  clear hb5 O4 x0 x1 g0 g1
  go_wp2
  go_ret
  go_light
  exact ⟨rfl, HB5⟩
end Go.Proofs.Ytacchkokbibeaaa
