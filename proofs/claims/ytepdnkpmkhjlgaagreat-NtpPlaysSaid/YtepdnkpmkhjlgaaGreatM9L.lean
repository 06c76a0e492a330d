/- NTP: has, sampleOf in one, and what stays right of a client's state. -/
import Derived.Test.YtepdnkpmkhjlgaaGreatTk9
import Derived.Test.YtepdnkpmkhjlgaaGreatM9K
import Derived.Test.YtepdnkpmkhjlgaaGreatM9I
import Derived.Laws.AppendOwn
/- NTP: a sample of four moments (written by gen/ntsmp.py). -/
set_option linter.unusedSimpArgs false
set_option linter.unusedVariables false
namespace Go.Proofs.YtepdnkpmkhjlgaaGreat
open Go.RowKit Go.Sort

theorem byV_bd (d r e : Int) (h0 : 0 ≤ d) (h1 : d ≤ 16000000000) (r0 : 0 ≤ r) (r1 : r ≤ 4294967295) (e0 : 0 ≤ e) (e1 : e ≤ 4294967295) : 0 ≤ byV d r e ∧ byV d r e ≤ 200000000000000 := by
  have a := nan_bd e e0 e1
  have b := nan_bd (r / 2) (by omega) (by omega)
  unfold byV
  rw [addS_in (a := d / 2) (by omega) (by omega), addS_in (a := d / 2 + 1) (by omega) (by omega), addS_in (by omega) (by omega)]
  omega
def SmpAns (w : World) (lo hi er : Int) (e : Ending) (w' : World) : Prop := e = .returned (.tuple #[.agg #[.int .i64 lo, .int .i64 hi], .int .i64 er]) ∧ Below w.heap.size w w'
set_option maxRecDepth 100000 in
theorem smp_order (a t2 t3 hd pl pm ps pd pr po pv pt : Int) (w : World) (a0 : 0 ≤ a) (a1 : a ≤ 9223372036854775807) (b0 : -9000000000000000000 ≤ t2) (b1 : t2 ≤ 9223372036854775807) (c0 : -9000000000000000000 ≤ t3) (c1 : t3 ≤ 9223372036854775807) (h0 : 0 ≤ hd) (h1 : hd ≤ 9223372036854775807) (h : t3 < t2) : Calls Tryz.prog 41 #[.int .i64 a, .int .i64 t2, .int .i64 t3, .int .i64 hd, .agg #[.int .i64 pl, .int .i64 pm, .int .i64 ps, .int .i64 pd, .int .i64 pr, .int .u64 po, .int .u64 pv, .int .u64 pt]] w (SmpAns w 0 0 12) := by
  have HB0 : Below w.heap.size w ((w.alloc (.cells #[.int .i64 pl, .int .i64 pm, .int .i64 ps, .int .i64 pd, .int .i64 pr, .int .u64 po, .int .u64 pv, .int .u64 pt] 93)).alloc (.cells #[.int .i64 0, .int .i64 0] 67)) := by (repeat' (first | (with_reducible exact Below.refl _ _) | (with_reducible assumption) | (with_reducible refine Below.trans ?_ (Below.mono (by with_reducible assumption) ?_)) | (with_reducible refine Below.alloc ?_ ?_ _) | (with_reducible refine Below.setCell ?_ ?_ _) | (with_reducible refine below_drewN ?_ _) | (with_reducible refine Below.drew ?_) | go_size))
  have J0 : Ints2 ((w.alloc (.cells #[.int .i64 pl, .int .i64 pm, .int .i64 ps, .int .i64 pd, .int .i64 pr, .int .u64 po, .int .u64 pv, .int .u64 pt] 93)).alloc (.cells #[.int .i64 0, .int .i64 0] 67)) (w.heap.size + 1) 0 0 := by
    have := Ints2.new (w.alloc (.cells #[.int .i64 pl, .int .i64 pm, .int .i64 ps, .int .i64 pd, .int .i64 pr, .int .u64 po, .int .u64 pv, .int .u64 pt] 93)) 0 0 67
    rwa [World.size_alloc] at this
  have y3 : ((w.alloc (.cells #[.int .i64 pl, .int .i64 pm, .int .i64 ps, .int .i64 pd, .int .i64 pr, .int .u64 po, .int .u64 pv, .int .u64 pt] 93)).alloc (.cells #[.int .i64 0, .int .i64 0] 67)).cell? ⟨w.heap.size, 3, none⟩ = some (.int .i64 pd) := by simp
  have y4 : ((w.alloc (.cells #[.int .i64 pl, .int .i64 pm, .int .i64 ps, .int .i64 pd, .int .i64 pr, .int .u64 po, .int .u64 pv, .int .u64 pt] 93)).alloc (.cells #[.int .i64 0, .int .i64 0] 67)).cell? ⟨w.heap.size, 4, none⟩ = some (.int .i64 pr) := by simp
  have t : decide (t3 < t2) = true := by simpa using h
  have HB9 := Lib.hid HB0
  have j0 := J0.c0
  have j1 := J0.c1
  clear J0 HB0 y3 y4
  go_enter Tryz.func41, Tryz.ntmps41
  go_wp2_with fail
  refine bodyPost_ret (v := .tuple #[.agg #[.int .i64 0, .int .i64 0], .int .i64 12]) (by simp [results, Tryz.results41, go_sem, j0, j1]) rfl ⟨rfl, HB9.out⟩
set_option maxRecDepth 100000 in
set_option maxHeartbeats 2000000 in
theorem smp_range (a t2 t3 hd pl pm ps pd pr po pv pt : Int) (w : World) (a0 : 0 ≤ a) (a1 : a ≤ 9223372036854775807) (b0 : -9000000000000000000 ≤ t2) (b1 : t2 ≤ 9223372036854775807) (c0 : -9000000000000000000 ≤ t3) (c1 : t3 ≤ 9223372036854775807) (h0 : 0 ≤ hd) (h1 : hd ≤ 9223372036854775807) (h : t2 ≤ t3) (hr : dlyV hd a t2 t3 < 0 ∨ 16000000000 < dlyV hd a t2 t3) : Calls Tryz.prog 41 #[.int .i64 a, .int .i64 t2, .int .i64 t3, .int .i64 hd, .agg #[.int .i64 pl, .int .i64 pm, .int .i64 ps, .int .i64 pd, .int .i64 pr, .int .u64 po, .int .u64 pv, .int .u64 pt]] w (SmpAns w 0 0 11) := by
  have HB0 : Below w.heap.size w ((w.alloc (.cells #[.int .i64 pl, .int .i64 pm, .int .i64 ps, .int .i64 pd, .int .i64 pr, .int .u64 po, .int .u64 pv, .int .u64 pt] 93)).alloc (.cells #[.int .i64 0, .int .i64 0] 67)) := by (repeat' (first | (with_reducible exact Below.refl _ _) | (with_reducible assumption) | (with_reducible refine Below.trans ?_ (Below.mono (by with_reducible assumption) ?_)) | (with_reducible refine Below.alloc ?_ ?_ _) | (with_reducible refine Below.setCell ?_ ?_ _) | (with_reducible refine below_drewN ?_ _) | (with_reducible refine Below.drew ?_) | go_size))
  have J0 : Ints2 ((w.alloc (.cells #[.int .i64 pl, .int .i64 pm, .int .i64 ps, .int .i64 pd, .int .i64 pr, .int .u64 po, .int .u64 pv, .int .u64 pt] 93)).alloc (.cells #[.int .i64 0, .int .i64 0] 67)) (w.heap.size + 1) 0 0 := by
    have := Ints2.new (w.alloc (.cells #[.int .i64 pl, .int .i64 pm, .int .i64 ps, .int .i64 pd, .int .i64 pr, .int .u64 po, .int .u64 pv, .int .u64 pt] 93)) 0 0 67
    rwa [World.size_alloc] at this
  have y3 : ((w.alloc (.cells #[.int .i64 pl, .int .i64 pm, .int .i64 ps, .int .i64 pd, .int .i64 pr, .int .u64 po, .int .u64 pv, .int .u64 pt] 93)).alloc (.cells #[.int .i64 0, .int .i64 0] 67)).cell? ⟨w.heap.size, 3, none⟩ = some (.int .i64 pd) := by simp
  have y4 : ((w.alloc (.cells #[.int .i64 pl, .int .i64 pm, .int .i64 ps, .int .i64 pd, .int .i64 pr, .int .u64 po, .int .u64 pv, .int .u64 pt] 93)).alloc (.cells #[.int .i64 0, .int .i64 0] 67)).cell? ⟨w.heap.size, 4, none⟩ = some (.int .i64 pr) := by simp
  have t : decide (t3 < t2) = false := by simp; omega
  have n1 : IntKind.i64.wrap (-a) = -a := IntWalk.i64_in _ (by omega)
  have n2 : IntKind.i64.wrap (-t3) = -t3 := IntWalk.i64_in _ (by omega)
  have n3 : IntKind.i64.wrap (-hd) = -hd := IntWalk.i64_in _ (by omega)
  have ia : I64 (-a) := by unfold I64; omega
  have it3 : I64 (-t3) := by unfold I64; omega
  have it3' : I64 t3 := by unfold I64; omega
  have it2 : I64 t2 := by unfold I64; omega
  have ihd : I64 hd := by unfold I64; omega
  have ihd' : I64 (-hd) := by unfold I64; omega
  have HD := Lib.hid fun (B : Nat) (W : World) q0 q1 q2 q3 => scale_add4 hd (-a) (-t3) t2 B W ihd ia it3 it2 q0 q1 q2 q3
  have dB := addS_bd (addS (addS hd (-a)) (-t3)) t2
  have HO := Lib.hid fun (B : Nat) (W : World) q0 q1 q2 q3 => scale_add4 t2 (-a) t3 (-hd) B W it2 ia it3' ihd' q0 q1 q2 q3
  have oB := addS_bd (addS (addS t2 (-a)) t3) (-hd)
  have hdv : addS (addS (addS hd (-a)) (-t3)) t2 = dlyV hd a t2 t3 := rfl
  rw [hdv] at HD dB
  have hov : offV hd a t2 t3 = addS (addS (addS t2 (-a)) t3) (-hd) / 2 := rfl
  generalize addS (addS (addS t2 (-a)) t3) (-hd) = ov at *
  generalize dlyV hd a t2 t3 = dv at *
  have HB0 := Lib.hid HB0
  have J0 := Lib.hid J0
  clear ia it3 it3' it2 ihd ihd' hdv
  go_enter Tryz.func41, Tryz.ntmps41
  go_wp2_with fail
  refine (HD.out _ _ ?_ ?_ ?_ ?_).mono ?_; iterate 4 (focus (simp [go_sem]; done))
  rintro e w' ⟨rfl, rfl⟩
  have HB1 := Lib.hid (HB0.out.trans ((show Below ((w.alloc (.cells #[.int .i64 pl, .int .i64 pm, .int .i64 ps, .int .i64 pd, .int .i64 pr, .int .u64 po, .int .u64 pv, .int .u64 pt] 93)).alloc (.cells #[.int .i64 0, .int .i64 0] 67)).heap.size ((w.alloc (.cells #[.int .i64 pl, .int .i64 pm, .int .i64 ps, .int .i64 pd, .int .i64 pr, .int .u64 po, .int .u64 pv, .int .u64 pt] 93)).alloc (.cells #[.int .i64 0, .int .i64 0] 67)) (((w.alloc (.cells #[.int .i64 pl, .int .i64 pm, .int .i64 ps, .int .i64 pd, .int .i64 pr, .int .u64 po, .int .u64 pv, .int .u64 pt] 93)).alloc (.cells #[.int .i64 0, .int .i64 0] 67)).alloc (.cells #[.int .i64 hd, .int .i64 (-a), .int .i64 (-t3), .int .i64 t2] 3)) from (Below.refl _ _).alloc (Nat.le_refl _) _).mono HB0.out.size))
  have J1 := Lib.hid (J0.out.alloc (.cells #[.int .i64 hd, .int .i64 (-a), .int .i64 (-t3), .int .i64 t2] 3))
  have y3 : (((w.alloc (.cells #[.int .i64 pl, .int .i64 pm, .int .i64 ps, .int .i64 pd, .int .i64 pr, .int .u64 po, .int .u64 pv, .int .u64 pt] 93)).alloc (.cells #[.int .i64 0, .int .i64 0] 67)).alloc (.cells #[.int .i64 hd, .int .i64 (-a), .int .i64 (-t3), .int .i64 t2] 3)).cell? ⟨w.heap.size, 3, none⟩ = some (.int .i64 pd) := by rw [World.cell?_alloc_past _ _ _ (by simp; omega)]; exact y3
  have y4 : (((w.alloc (.cells #[.int .i64 pl, .int .i64 pm, .int .i64 ps, .int .i64 pd, .int .i64 pr, .int .u64 po, .int .u64 pv, .int .u64 pt] 93)).alloc (.cells #[.int .i64 0, .int .i64 0] 67)).alloc (.cells #[.int .i64 hd, .int .i64 (-a), .int .i64 (-t3), .int .i64 t2] 3)).cell? ⟨w.heap.size, 4, none⟩ = some (.int .i64 pr) := by rw [World.cell?_alloc_past _ _ _ (by simp; omega)]; exact y4
  clear HB0 J0
  generalize ((w.alloc (.cells #[.int .i64 pl, .int .i64 pm, .int .i64 ps, .int .i64 pd, .int .i64 pr, .int .u64 po, .int .u64 pv, .int .u64 pt] 93)).alloc (.cells #[.int .i64 0, .int .i64 0] 67)).alloc (.cells #[.int .i64 hd, .int .i64 (-a), .int .i64 (-t3), .int .i64 t2] 3) = W1 at *
  have HB9 := HB1
  have J9 := J1
  clear HB1 J1
  by_cases hr0 : dv < 0
  · have td : decide (dv < 0) = true := by simpa using hr0
    clear hr hr0
    have J := Lib.hid ((J9.out.set0 0).set1 0)
    obtain ⟨i0, i1, if0, if1, il⟩ := J9.out
    have HB8 := Lib.hid ((HB9.out.setCell (p := ⟨w.heap.size + 1, 0, none⟩) (Nat.le_succ _) (.int .i64 0)).setCell (p := ⟨w.heap.size + 1, 1, none⟩) (Nat.le_succ _) (.int .i64 0))
    clear J9 HB9
    go_wp2_with fail
    have j0 := J.out.c0
    have j1 := J.out.c1
    refine bodyPost_ret (v := .tuple #[.agg #[.int .i64 0, .int .i64 0], .int .i64 11]) (by simp [results, Tryz.results41, go_sem, j0, j1]) rfl ⟨rfl, HB8.out⟩
  · have td : decide (dv < 0) = false := by simpa using hr0
    have td2 : decide (dv > 16000000000) = true := by simp; omega
    have td3 : decide (16000000000 < dv) = true := by simp; omega
    clear hr hr0
    have J := Lib.hid ((J9.out.set0 0).set1 0)
    obtain ⟨i0, i1, if0, if1, il⟩ := J9.out
    have HB8 := Lib.hid ((HB9.out.setCell (p := ⟨w.heap.size + 1, 0, none⟩) (Nat.le_succ _) (.int .i64 0)).setCell (p := ⟨w.heap.size + 1, 1, none⟩) (Nat.le_succ _) (.int .i64 0))
    clear J9 HB9
    go_wp2_with fail
    have j0 := J.out.c0
    have j1 := J.out.c1
    refine bodyPost_ret (v := .tuple #[.agg #[.int .i64 0, .int .i64 0], .int .i64 11]) (by simp [results, Tryz.results41, go_sem, j0, j1]) rfl ⟨rfl, HB8.out⟩
set_option maxRecDepth 100000 in
set_option maxHeartbeats 4000000 in
theorem smp_ok (a t2 t3 hd pl pm ps pd pr po pv pt : Int) (w : World) (a0 : 0 ≤ a) (a1 : a ≤ 9223372036854775807) (b0 : -9000000000000000000 ≤ t2) (b1 : t2 ≤ 9223372036854775807) (c0 : -9000000000000000000 ≤ t3) (c1 : t3 ≤ 9223372036854775807) (h0 : 0 ≤ hd) (h1 : hd ≤ 9223372036854775807) (d0 : 0 ≤ pd) (d1 : pd ≤ 4294967295) (r0 : 0 ≤ pr) (r1 : pr ≤ 4294967295) (h : t2 ≤ t3) (hr : 0 ≤ dlyV hd a t2 t3) (hr2 : dlyV hd a t2 t3 ≤ 16000000000) : Calls Tryz.prog 41 #[.int .i64 a, .int .i64 t2, .int .i64 t3, .int .i64 hd, .agg #[.int .i64 pl, .int .i64 pm, .int .i64 ps, .int .i64 pd, .int .i64 pr, .int .u64 po, .int .u64 pv, .int .u64 pt]] w (SmpAns w (addS (offV hd a t2 t3) (-(byV (dlyV hd a t2 t3) pd pr))) (addS (offV hd a t2 t3) (byV (dlyV hd a t2 t3) pd pr)) 0) := by
  have HB0 : Below w.heap.size w ((w.alloc (.cells #[.int .i64 pl, .int .i64 pm, .int .i64 ps, .int .i64 pd, .int .i64 pr, .int .u64 po, .int .u64 pv, .int .u64 pt] 93)).alloc (.cells #[.int .i64 0, .int .i64 0] 67)) := by (repeat' (first | (with_reducible exact Below.refl _ _) | (with_reducible assumption) | (with_reducible refine Below.trans ?_ (Below.mono (by with_reducible assumption) ?_)) | (with_reducible refine Below.alloc ?_ ?_ _) | (with_reducible refine Below.setCell ?_ ?_ _) | (with_reducible refine below_drewN ?_ _) | (with_reducible refine Below.drew ?_) | go_size))
  have J0 : Ints2 ((w.alloc (.cells #[.int .i64 pl, .int .i64 pm, .int .i64 ps, .int .i64 pd, .int .i64 pr, .int .u64 po, .int .u64 pv, .int .u64 pt] 93)).alloc (.cells #[.int .i64 0, .int .i64 0] 67)) (w.heap.size + 1) 0 0 := by
    have := Ints2.new (w.alloc (.cells #[.int .i64 pl, .int .i64 pm, .int .i64 ps, .int .i64 pd, .int .i64 pr, .int .u64 po, .int .u64 pv, .int .u64 pt] 93)) 0 0 67
    rwa [World.size_alloc] at this
  have y3 : ((w.alloc (.cells #[.int .i64 pl, .int .i64 pm, .int .i64 ps, .int .i64 pd, .int .i64 pr, .int .u64 po, .int .u64 pv, .int .u64 pt] 93)).alloc (.cells #[.int .i64 0, .int .i64 0] 67)).cell? ⟨w.heap.size, 3, none⟩ = some (.int .i64 pd) := by simp
  have y4 : ((w.alloc (.cells #[.int .i64 pl, .int .i64 pm, .int .i64 ps, .int .i64 pd, .int .i64 pr, .int .u64 po, .int .u64 pv, .int .u64 pt] 93)).alloc (.cells #[.int .i64 0, .int .i64 0] 67)).cell? ⟨w.heap.size, 4, none⟩ = some (.int .i64 pr) := by simp
  have t : decide (t3 < t2) = false := by simp; omega
  have n1 : IntKind.i64.wrap (-a) = -a := IntWalk.i64_in _ (by omega)
  have n2 : IntKind.i64.wrap (-t3) = -t3 := IntWalk.i64_in _ (by omega)
  have n3 : IntKind.i64.wrap (-hd) = -hd := IntWalk.i64_in _ (by omega)
  have ia : I64 (-a) := by unfold I64; omega
  have it3 : I64 (-t3) := by unfold I64; omega
  have it3' : I64 t3 := by unfold I64; omega
  have it2 : I64 t2 := by unfold I64; omega
  have ihd : I64 hd := by unfold I64; omega
  have ihd' : I64 (-hd) := by unfold I64; omega
  have HD := Lib.hid fun (B : Nat) (W : World) q0 q1 q2 q3 => scale_add4 hd (-a) (-t3) t2 B W ihd ia it3 it2 q0 q1 q2 q3
  have dB := addS_bd (addS (addS hd (-a)) (-t3)) t2
  have HO := Lib.hid fun (B : Nat) (W : World) q0 q1 q2 q3 => scale_add4 t2 (-a) t3 (-hd) B W it2 ia it3' ihd' q0 q1 q2 q3
  have oB := addS_bd (addS (addS t2 (-a)) t3) (-hd)
  have hdv : addS (addS (addS hd (-a)) (-t3)) t2 = dlyV hd a t2 t3 := rfl
  rw [hdv] at HD dB
  have hov : offV hd a t2 t3 = addS (addS (addS t2 (-a)) t3) (-hd) / 2 := rfl
  generalize addS (addS (addS t2 (-a)) t3) (-hd) = ov at *
  rw [hov]
  generalize dlyV hd a t2 t3 = dv at *
  have HB0 := Lib.hid HB0
  have J0 := Lib.hid J0
  clear ia it3 it3' it2 ihd ihd' hdv
  go_enter Tryz.func41, Tryz.ntmps41
  go_wp2_with fail
  refine (HD.out _ _ ?_ ?_ ?_ ?_).mono ?_; iterate 4 (focus (simp [go_sem]; done))
  rintro e w' ⟨rfl, rfl⟩
  have HB1 := Lib.hid (HB0.out.trans ((show Below ((w.alloc (.cells #[.int .i64 pl, .int .i64 pm, .int .i64 ps, .int .i64 pd, .int .i64 pr, .int .u64 po, .int .u64 pv, .int .u64 pt] 93)).alloc (.cells #[.int .i64 0, .int .i64 0] 67)).heap.size ((w.alloc (.cells #[.int .i64 pl, .int .i64 pm, .int .i64 ps, .int .i64 pd, .int .i64 pr, .int .u64 po, .int .u64 pv, .int .u64 pt] 93)).alloc (.cells #[.int .i64 0, .int .i64 0] 67)) (((w.alloc (.cells #[.int .i64 pl, .int .i64 pm, .int .i64 ps, .int .i64 pd, .int .i64 pr, .int .u64 po, .int .u64 pv, .int .u64 pt] 93)).alloc (.cells #[.int .i64 0, .int .i64 0] 67)).alloc (.cells #[.int .i64 hd, .int .i64 (-a), .int .i64 (-t3), .int .i64 t2] 3)) from (Below.refl _ _).alloc (Nat.le_refl _) _).mono HB0.out.size))
  have J1 := Lib.hid (J0.out.alloc (.cells #[.int .i64 hd, .int .i64 (-a), .int .i64 (-t3), .int .i64 t2] 3))
  have y3 : (((w.alloc (.cells #[.int .i64 pl, .int .i64 pm, .int .i64 ps, .int .i64 pd, .int .i64 pr, .int .u64 po, .int .u64 pv, .int .u64 pt] 93)).alloc (.cells #[.int .i64 0, .int .i64 0] 67)).alloc (.cells #[.int .i64 hd, .int .i64 (-a), .int .i64 (-t3), .int .i64 t2] 3)).cell? ⟨w.heap.size, 3, none⟩ = some (.int .i64 pd) := by rw [World.cell?_alloc_past _ _ _ (by simp; omega)]; exact y3
  have y4 : (((w.alloc (.cells #[.int .i64 pl, .int .i64 pm, .int .i64 ps, .int .i64 pd, .int .i64 pr, .int .u64 po, .int .u64 pv, .int .u64 pt] 93)).alloc (.cells #[.int .i64 0, .int .i64 0] 67)).alloc (.cells #[.int .i64 hd, .int .i64 (-a), .int .i64 (-t3), .int .i64 t2] 3)).cell? ⟨w.heap.size, 4, none⟩ = some (.int .i64 pr) := by rw [World.cell?_alloc_past _ _ _ (by simp; omega)]; exact y4
  clear HB0 J0
  generalize ((w.alloc (.cells #[.int .i64 pl, .int .i64 pm, .int .i64 ps, .int .i64 pd, .int .i64 pr, .int .u64 po, .int .u64 pv, .int .u64 pt] 93)).alloc (.cells #[.int .i64 0, .int .i64 0] 67)).alloc (.cells #[.int .i64 hd, .int .i64 (-a), .int .i64 (-t3), .int .i64 t2] 3) = W1 at *
  have td : decide (dv < 0) = false := by simp; omega
  have td2 : decide (dv > 16000000000) = false := by simp; omega
  have td3 : decide (16000000000 < dv) = false := by simp; omega
  go_wp2_with fail
  refine (HO.out _ _ ?_ ?_ ?_ ?_).mono ?_; iterate 4 (focus (simp [go_sem]; done))
  rintro e w' ⟨rfl, rfl⟩
  have hq1 : dv.tdiv 2 = dv / 2 := Int.tdiv_eq_ediv_of_nonneg hr
  have hq2 : pd.tdiv 2 = pd / 2 := Int.tdiv_eq_ediv_of_nonneg d0
  have wq1 : IntKind.i64.wrap (dv / 2) = dv / 2 := IntWalk.i64_in _ (by omega)
  have wq2 : IntKind.i64.wrap (pd / 2) = pd / 2 := IntWalk.i64_in _ (by omega)
  have HN1 := Lib.hid fun W : World => ntp_nanos pr W r0 r1
  have HN2 := Lib.hid fun W : World => ntp_nanos (pd / 2) W (by omega) (by omega)
  have nb1 := nan_bd pr r0 r1
  have nb2 := nan_bd (pd / 2) (by omega) (by omega)
  have HBY := Lib.hid fun (B : Nat) (W : World) q0 q1 q2 q3 => scale_add4 (dv / 2) 1 (nanV pr) (nanV (pd / 2)) B W (by omega) (by omega) (by omega) (by omega) q0 q1 q2 q3
  have hbv : addS (addS (addS (dv / 2) 1) (nanV pr)) (nanV (pd / 2)) = byV dv pd pr := rfl
  rw [hbv] at HBY
  have bB := byV_bd dv pd pr hr hr2 d0 d1 r0 r1
  have oB2 : -4611686018427387904 ≤ ov / 2 ∧ ov / 2 ≤ 4611686018427387903 := by omega
  have HLO := Lib.hid fun (B : Nat) (W : World) q0 q1 => scale_add2 (ov / 2) (-(byV dv pd pr)) B W (by omega) (by omega) q0 q1
  have HHI := Lib.hid fun (B : Nat) (W : World) q0 q1 => scale_add2 (ov / 2) (byV dv pd pr) B W (by omega) (by omega) q0 q1
  have wby : IntKind.i64.wrap (-(byV dv pd pr)) = -(byV dv pd pr) := IntWalk.i64_in _ (by omega)
  have lW1 : w.heap.size + 1 < W1.heap.size := J1.out.lt
  have HB2 := Lib.hid (HB1.out.trans ((show Below W1.heap.size W1 (W1.alloc (.cells #[.int .i64 t2, .int .i64 (-a), .int .i64 t3, .int .i64 (-hd)] 3)) from (Below.refl _ _).alloc (Nat.le_refl _) _).mono HB1.out.size))
  have J2 := Lib.hid (J1.out.alloc (.cells #[.int .i64 t2, .int .i64 (-a), .int .i64 t3, .int .i64 (-hd)] 3))
  have y3 : (W1.alloc (.cells #[.int .i64 t2, .int .i64 (-a), .int .i64 t3, .int .i64 (-hd)] 3)).cell? ⟨w.heap.size, 3, none⟩ = some (.int .i64 pd) := by rw [World.cell?_alloc_past _ _ _ (by show w.heap.size < _; omega)]; exact y3
  have y4 : (W1.alloc (.cells #[.int .i64 t2, .int .i64 (-a), .int .i64 t3, .int .i64 (-hd)] 3)).cell? ⟨w.heap.size, 4, none⟩ = some (.int .i64 pr) := by rw [World.cell?_alloc_past _ _ _ (by show w.heap.size < _; omega)]; exact y4
  go_wp2_with fail
  clear HB1 J1 oB dB hbv HD HO
  generalize W1.alloc (.cells #[.int .i64 t2, .int .i64 (-a), .int .i64 t3, .int .i64 (-hd)] 3) = W2 at *
  generalize byV dv pd pr = bv at *
  generalize nanV pr = m1 at *
  generalize nanV (pd / 2) = m2 at *
  refine wp_region_held_drew (S := fun w' => w'.cell? ⟨w.heap.size, 3, none⟩ = some (.int .i64 pd) ∧ w'.cell? ⟨w.heap.size, 4, none⟩ = some (.int .i64 pr)) (by kernel_rfl) ?_ (fun hHeld => ?_)
  · exact ⟨y3, y4⟩
  have HB3 := Lib.hid HB2.out.drew
  have J3 := Lib.hid J2.out.drew
  have y3 : W2.drew.cell? ⟨w.heap.size, 3, none⟩ = some (.int .i64 pd) := y3
  have y4 : W2.drew.cell? ⟨w.heap.size, 4, none⟩ = some (.int .i64 pr) := y4
  clear HB2 J2
  generalize W2.drew = V at *
  refine tk9 0 ?_
  refine tk9 1 ?_
  refine tk9 2 ?_
  refine tk9 3 ?_
  refine tk9 5 ?_
  refine tk9 6 ?_
  refine tk9 7 ?_
  refine wpAnyH_ready (rs := [4]) (by kernel_rfl) (by simp) ?_
  refine AllReadyH.cons rfl (fun K hK => ?_) (AllReadyH.nil)
  go_simp
  (go_at_call 69; refine (HN1.out _).mono ?_; rintro e w' ⟨rfl, rfl⟩)
  (try dsimp only)
  refine hK.out _ _ ?_ (fun hHeld => ?_)
  · exact ⟨y3, y4⟩
  clear hK K
  refine pt9 ?_
  refine wpAnyH_ready (rs := [8]) (by kernel_rfl) (by simp) ?_
  refine AllReadyH.cons rfl (fun K hK => ?_) (AllReadyH.nil)
  go_simp
  (go_at_call 69; refine (HN2.out _).mono ?_; rintro e w' ⟨rfl, rfl⟩)
  (try dsimp only)
  refine hK.out _ _ ?_ (fun hHeld => ?_)
  · exact ⟨y3, y4⟩
  clear hK K
  refine pt9 ?_
  refine wpAnyH_ready (rs := [9]) (by kernel_rfl) (by simp) ?_
  refine AllReadyH.cons rfl (fun K hK => ?_) (AllReadyH.nil)
  go_simp
  have lV : w.heap.size + 1 < V.heap.size := J3.out.lt
  have HB4 := Lib.hid (HB3.out.trans ((show Below V.heap.size V (V.alloc (.cells #[.int .i64 (dv / 2), .int .i64 1, .int .i64 m1, .int .i64 m2] 3)) from (Below.refl _ _).alloc (Nat.le_refl _) _).mono HB3.out.size))
  have J4 := Lib.hid (J3.out.alloc (.cells #[.int .i64 (dv / 2), .int .i64 1, .int .i64 m1, .int .i64 m2] 3))
  have y3 : (V.alloc (.cells #[.int .i64 (dv / 2), .int .i64 1, .int .i64 m1, .int .i64 m2] 3)).cell? ⟨w.heap.size, 3, none⟩ = some (.int .i64 pd) := by rw [World.cell?_alloc_past _ _ _ (by show w.heap.size < _; omega)]; exact y3
  have y4 : (V.alloc (.cells #[.int .i64 (dv / 2), .int .i64 1, .int .i64 m1, .int .i64 m2] 3)).cell? ⟨w.heap.size, 4, none⟩ = some (.int .i64 pr) := by rw [World.cell?_alloc_past _ _ _ (by show w.heap.size < _; omega)]; exact y4
  have x0 : (V.alloc (.cells #[.int .i64 (dv / 2), .int .i64 1, .int .i64 m1, .int .i64 m2] 3)).cell? ⟨V.heap.size, 0, none⟩ = some (.int .i64 (dv / 2)) := by simp
  have x1 : (V.alloc (.cells #[.int .i64 (dv / 2), .int .i64 1, .int .i64 m1, .int .i64 m2] 3)).cell? ⟨V.heap.size, 1, none⟩ = some (.int .i64 1) := by simp
  have x2 : (V.alloc (.cells #[.int .i64 (dv / 2), .int .i64 1, .int .i64 m1, .int .i64 m2] 3)).cell? ⟨V.heap.size, 2, none⟩ = some (.int .i64 m1) := by simp
  have x3 : (V.alloc (.cells #[.int .i64 (dv / 2), .int .i64 1, .int .i64 m1, .int .i64 m2] 3)).cell? ⟨V.heap.size, 3, none⟩ = some (.int .i64 m2) := by simp
  (try dsimp only)
  refine hK.out _ _ ?_ (fun hHeld => ?_)
  · exact ⟨y3, y4⟩
  clear hK K
  refine pt9 ?_
  clear HB3 J3 lV
  generalize (V.alloc (.cells #[.int .i64 (dv / 2), .int .i64 1, .int .i64 m1, .int .i64 m2] 3)) = V4 at *
  generalize V.heap.size = G4 at *
  refine wpAnyH_ready (rs := [10]) (by kernel_rfl) (by simp) ?_
  refine AllReadyH.cons rfl (fun K hK => ?_) (AllReadyH.nil)
  go_simp
  (go_at_call 52; refine (HBY.out G4 V4 x0 x1 x2 x3).mono ?_; rintro e w' ⟨rfl, rfl⟩)
  (try dsimp only)
  refine hK.out _ _ ?_ (fun hHeld => ?_)
  · exact ⟨y3, y4⟩
  clear hK K
  refine pt9 ?_
  refine tk9 11 ?_
  refine wpAnyH_done (by kernel_rfl) ?_ _
  clear x0 x1 x2 x3 y3 y4 hHeld
  go_wp2_with fail
  refine (HLO.out _ _ ?_ ?_).mono ?_; iterate 2 (focus (simp [go_sem]; done))
  rintro e w' ⟨rfl, rfl⟩
  go_wp2_with fail
  refine (HHI.out _ _ ?_ ?_).mono ?_; iterate 2 (focus (simp [go_sem]; done))
  rintro e w' ⟨rfl, rfl⟩
  have lV4 : w.heap.size + 1 < V4.heap.size := J4.out.lt
  have J9 := Lib.hid ((J4.out.alloc (.cells #[.int .i64 (ov / 2), .int .i64 (-bv)] 3)).alloc (.cells #[.int .i64 (ov / 2), .int .i64 bv] 3))
  have HB9 := Lib.hid ((HB4.out.alloc HB4.out.size (.cells #[.int .i64 (ov / 2), .int .i64 (-bv)] 3)).alloc (by have := HB4.out.size; simp only [World.size_alloc]; omega) (.cells #[.int .i64 (ov / 2), .int .i64 bv] 3))
  clear J4 HB4 HLO HHI
  have J := Lib.hid ((J9.out.set0 (addS (ov / 2) (-bv))).set1 (addS (ov / 2) bv))
  obtain ⟨i0, i1, if0, if1, il⟩ := J9.out
  have HB8 := Lib.hid ((HB9.out.setCell (p := ⟨w.heap.size + 1, 0, none⟩) (Nat.le_succ _) (.int .i64 (addS (ov / 2) (-bv)))).setCell (p := ⟨w.heap.size + 1, 1, none⟩) (Nat.le_succ _) (.int .i64 (addS (ov / 2) bv)))
  clear J9 HB9
  go_wp2_with fail
  have j0 := J.out.c0
  have j1 := J.out.c1
  refine bodyPost_ret (v := .tuple #[.agg #[.int .i64 (addS (ov / 2) (-bv)), .int .i64 (addS (ov / 2) bv)], .int .i64 0]) (by simp [results, Tryz.results41, go_sem, j0, j1]) rfl ⟨rfl, HB8.out⟩
end Go.Proofs.YtepdnkpmkhjlgaaGreat

/- NTP: turn: what most servers say (written by gen/ntturn.py). -/
namespace Go.Proofs.YtepdnkpmkhjlgaaGreat
open Go.RowKit Go.Sort

theorem cand_tells {S : Nat → Srv} {hd : Int} {N : Nat} (h : ∀ i, i < N → (S i).ok) : ∀ k, k ≤ N → Tells (cand S hd k)
  | 0, _ => fun i hi => by cases hi
  | k + 1, hk => fun i hi => by
    unfold cand at hi
    rw [List.mem_append] at hi
    rcases hi with hi | hi
    · exact cand_tells h k (by omega) i hi
    · split at hi
      · have := h k (by omega)
        rw [List.mem_singleton] at hi
        subst hi
        exact ⟨this.l, this.u⟩
      · cases hi
theorem Nc.congr {L : Srv → Nat → Value} {w : World} {b bc bs : Nat} {A : Option Addr} {n cc : Nat} {x : Int} {z : Nat → Int} {N : Nat} {K : Cs} (h : Nc L w b bc bs A n cc x z N K) {S' : Nat → Srv} (e : ∀ i, i < N → K.S i = S' i) : Nc L w b bc bs A n cc x z N { K with S := S' } :=
  ⟨h.c0, h.c1, h.c2, h.c3, h.c4, h.c5, h.f, h.lt, h.clk, h.tab, fun i hi j hj => by rw [h.sv i hi j hj, e i hi], h.sf, h.sl, h.d1, h.d2, h.d3, h.dA, h.tb⟩
theorem most_bd {l : List (Int × Int)} {a b : Int} {m : Nat} (h : Ag.MostIs l a b m) (t : Tells l) : I64 a ∧ I64 b := by
  unfold I64
  rcases Nat.eq_zero_or_pos m with h0 | h0
  · obtain ⟨rfl, rfl⟩ := h.zero h0
    omega
  · obtain ⟨i, hi, hx, rfl⟩ := h.high h0
    have := t i hi
    simp [Ag.inB] at hx
    omega
/-- The first servers are forgotten. -/
def rstTo (rs : Srv → Srv) (S : Nat → Srv) (k : Nat) : Nat → Srv := fun j => if j < k then rs (S j) else S j
theorem rst_stepP (S : Nat → Srv) (k : Nat) : updS (updS (updS (updS (rstTo rstP S k) k { S k with has := false }) k { S k with has := false, h := 0 }) k { S k with has := false, h := 0, lo := 0 }) k { S k with has := false, h := 0, lo := 0, hi := 0 } = rstTo rstP S (k + 1) := by
  funext j
  by_cases h : j = k
  · subst h
    simp [updS, rstTo, rstP]
  · simp only [updS_other _ _ _ h, rstTo]
    by_cases h2 : j < k
    · rw [if_pos h2, if_pos (by omega)]
    · rw [if_neg h2, if_neg (by omega)]
theorem mostP_le (l : List (Int × Int)) (a b : Int) (m : Nat) (h : Ag.MostIs l a b m) : m ≤ l.length := most_le h
set_option maxRecDepth 100000 in
set_option maxHeartbeats 8000000 in
theorem ntp_turn {w : World} {b bc bs : Nat} {A : Option Addr} {n cc : Nat} {x : Int} {z : Nat → Int} {N : Nat} {K : Cs} (h : Nc layP w b bc bs A n cc x z N K) (hK : K.Ok N) (hN : N ≤ 8) (count : Int) (hc : count ≤ K.c) :
    Calls Tryz.prog 42 #[.pointer (some ⟨b, 0, none⟩), .int .i64 count, .int .i64 K.t] w fun e w' => e = .returned (.int .i64 0) ∧ Nc layP w' b bc bs A n cc x z N (turnK rstP K N K.t) ∧ But (Ft b bc bs) w w' := by
  obtain ⟨i0, hi0, hz0, hz1, hz2⟩ := info_parts iv_info
  have hlb := h.lt
  have hlc := h.clk.lt
  have hls := h.sl
  have ht0 : 0 ≤ K.t ∧ K.t ≤ 9223372036854775807 := by have := hK.clk; unfold Ok3 at this; omega
  obtain ⟨hd, hhd⟩ : ∃ hd, K.t = hd := ⟨_, rfl⟩
  have HHD := Lib.hid hhd
  rw [hhd] at ht0 ⊢
  have c3 := h.c3
  have HH := Lib.hid (fun (W : World) (k : Below w.heap.size w W) => h.below k)
  have HKK := Lib.hid hK
  have HTL := Lib.hid (cand_tells (hd := hd) hK.srv)
  have HB0 := Lib.hid (Below.refl w.heap.size w)
  clear hhd
  have hN' : (N : Int) ≤ 8 := by omega
  go_enter Tryz.func42, Tryz.ntmps42
  go_wp2_with fail
  go_loopw [7, 22] (fun l i wr => ∃ k : Nat, k ≤ N ∧ i = .int .i64 k ∧ POwn w.heap.size wr l (cand K.S hd k) ∧ Below w.heap.size w wr) (fun _ i _ => N - (intOf i).toNat)
  case atStart => exact ⟨0, by omega, rfl, POwn.nil _ _, HB0.out⟩
  case round =>
    obtain ⟨k, hk, rfl, hP, HB⟩ := hrel
    clear HB0 c3
    by_cases hlt : k < N
    · have hW := HH.out wr HB
      have s6 := hW.six k hlt
      obtain ⟨x0, x1, x2, x3, x4, x5⟩ := s6
      have hok := HKK.out.srv k hlt
      have hh0 := hok.h0
      have hh1 := hok.h1
      have HCS := Lib.hid (show cand K.S hd (k + 1) = cand K.S hd k ++ (if frB (K.S k) hd then [((K.S k).lo, (K.S k).hi)] else []) from rfl)
      have hfr : frB (K.S k) hd = ((K.S k).has && decide (hd - (K.S k).h ≤ 1024000000000)) := rfl
      rw [hfr] at HCS
      have hlen := cand_len K.S hd k
      have lk : (k : Int) < (N : Int) := by omega
      have zr := HB.size
      have lsr : bs < wr.heap.size := by omega
      obtain ⟨C, hC⟩ : ∃ C, cand K.S hd k = C := ⟨_, rfl⟩
      have HCB := Lib.hid HB
      rw [hC] at hP HCS hlen
      obtain ⟨C', hC'⟩ : ∃ C', cand K.S hd (k + 1) = C' := ⟨_, rfl⟩
      rw [hC'] at HCS
      have HC' := Lib.hid hC'
      generalize (K.S k).q = q at *
      generalize (K.S k).a = a at *
      generalize (K.S k).h = hh at *
      generalize (K.S k).lo = lo at *
      generalize (K.S k).hi = hi at *
      have wh : IntKind.i64.wrap (-hh) = -hh := IntWalk.i64_in _ (by omega)
      have HAD := Lib.hid fun (B : Nat) (W : World) q0 q1 => scale_add2 hd (-hh) B W (by omega) (by omega) q0 q1
      rw [addS_in (a := hd) (b := -hh) (by omega) (by omega)] at HAD
      clear hW hok hfr hC hC' HB
      cases hhas : (K.S k).has
      · as_aux_lemma =>
        rw [hhas] at x2 HCS
        simp only [Bool.false_and, Bool.false_eq_true, if_false, List.append_nil] at HCS
        have HPP := Lib.hid hP
        clear hP hhas HAD
        go_wp2_with fail
        go_roundw
        case rel =>
          refine ⟨k + 1, by omega, by go_num, ?_, HCB.out.alloc zr _⟩
          rw [HC'.out, HCS.out]
          exact HPP.out.alloc _
        all_goals (simp [intOf]; omega)
      · rw [hhas] at x2 HCS
        simp only [Bool.true_and] at HCS
        by_cases hold : hd - hh ≤ 1024000000000
        · as_aux_lemma =>
          rw [if_pos (by simpa using hold)] at HCS
          have td : decide (hd + -hh ≤ 1024000000000) = true := by simp; omega
          have td2 : decide (hd - hh ≤ 1024000000000) = true := by simpa using hold
          have HPP := Lib.hid hP
          have x4' : (wr.alloc (.cells #[.int .u64 q, .int .i64 a, .bool true, .int .i64 hh, .int .i64 lo, .int .i64 hi] 98)).cell? ⟨wr.heap.size, 4, none⟩ = some (.int .i64 lo) := by simp
          clear hP hhas hold
          go_wp2_with fail
          refine (HAD.out _ _ ?_ ?_).mono ?_; iterate 2 (focus (simp [go_sem]; done))
          rintro e w' ⟨rfl, rfl⟩
          have HCB2 := Lib.hid (show Below w.heap.size w ((wr.alloc (.cells #[.int .u64 q, .int .i64 a, .bool true, .int .i64 hh, .int .i64 lo, .int .i64 hi] 98)).alloc (.cells #[.int .i64 hd, .int .i64 (-hh)] 3)) from (HCB.out.alloc zr _).alloc (by simp; omega) _)
          have HP2 := Lib.hid (show POwn w.heap.size ((wr.alloc (.cells #[.int .u64 q, .int .i64 a, .bool true, .int .i64 hh, .int .i64 lo, .int .i64 hi] 98)).alloc (.cells #[.int .i64 hd, .int .i64 (-hh)] 3)) u7 C from (HPP.out.alloc _).alloc _)
          have z2 : w.heap.size ≤ ((wr.alloc (.cells #[.int .u64 q, .int .i64 a, .bool true, .int .i64 hh, .int .i64 lo, .int .i64 hi] 98)).alloc (.cells #[.int .i64 hd, .int .i64 (-hh)] 3)).heap.size := HCB2.out.size
          have y4 : ((wr.alloc (.cells #[.int .u64 q, .int .i64 a, .bool true, .int .i64 hh, .int .i64 lo, .int .i64 hi] 98)).alloc (.cells #[.int .i64 hd, .int .i64 (-hh)] 3)).cell? ⟨wr.heap.size, 4, none⟩ = some (.int .i64 lo) := by rw [World.cell?_alloc_past _ _ _ (by simp only [World.size_alloc]; omega)]; simp
          have y5 : ((wr.alloc (.cells #[.int .u64 q, .int .i64 a, .bool true, .int .i64 hh, .int .i64 lo, .int .i64 hi] 98)).alloc (.cells #[.int .i64 hd, .int .i64 (-hh)] 3)).cell? ⟨wr.heap.size, 5, none⟩ = some (.int .i64 hi) := by rw [World.cell?_alloc_past _ _ _ (by simp only [World.size_alloc]; omega)]; simp
          clear HCB HPP x0 x1 x2 x3 x4 x5 x4'
          generalize ((wr.alloc (.cells #[.int .u64 q, .int .i64 a, .bool true, .int .i64 hh, .int .i64 lo, .int .i64 hi] 98)).alloc (.cells #[.int .i64 hd, .int .i64 (-hh)] 3)) = W2 at *
          go_wp2_with (at_builtin; refine wpList_append_own _ rfl (.tmp 37) (.tmp 40) _ rfl w.heap.size 67 i0 _ 2 16 Tryz.underlying135 hi0 hz0 hz1 hz2 rfl (by decide) u7 C.length _ rfl (HP2.out.alloc _) ⟨W2.heap.size, 0, none⟩ 1 1 [.int .i64 lo, .int .i64 hi] rfl rfl (World.news_of_block (cs := #[.int .i64 lo, .int .i64 hi]) (t := 67) (fr := (0, 0)) (heap_alloc_new W2 _)) (by simp [Value.oneCell']) (by unfold maxLen; omega) (by omega) (by simp; omega) ?_; intro v1 w1 hown1 hg1 hat1)
          have hP1 : POwn w.heap.size w1 v1 C' := by
            rw [HCS.out]
            exact POwn.snoc hown1
          have HB1 : Below w.heap.size w w1 := (HCB2.out.alloc z2 _).grown hg1 (by simp; omega) (fun j hj => by have := (World.ownsRow.lt HP2.out j hj).1; omega)
          have HP1 := Lib.hid hP1
          clear hP1 hown1 hg1 hat1 HP2 HCB2
          go_wp2
          go_roundw
          case rel => exact ⟨k + 1, by omega, by go_num, by rw [HC'.out]; exact HP1.out, HB1⟩
          all_goals (simp [intOf]; omega)
        · as_aux_lemma =>
          rw [if_neg (by simpa using hold)] at HCS
          have HPP := Lib.hid hP
          have td : decide (hd + -hh ≤ 1024000000000) = false := by simp; omega
          clear hP hhas hold
          go_wp2_with fail
          refine (HAD.out _ _ ?_ ?_).mono ?_; iterate 2 (focus (simp [go_sem]; done))
          rintro e w' ⟨rfl, rfl⟩
          go_wp2_with fail
          go_roundw
          case rel =>
            refine ⟨k + 1, by omega, by go_num, ?_, (HCB.out.alloc zr _).alloc (by simp; omega) _⟩
            rw [HC'.out, HCS.out, List.append_nil]
            exact (HPP.out.alloc _).alloc _
          all_goals (simp [intOf]; omega)
    · obtain rfl : k = N := by omega
      obtain ⟨A1, c1, rfl, hf⟩ := hP.flat (HTL.out k (Nat.le_refl _))
      have HM := Lib.hid (most_list (c := c1) hf (by have := cand_len K.S hd k; omega))
      have hW := HH.out wr HB
      have HCB := Lib.hid HB
      have hmv : turnK rstP K k hd = turnK rstP K k hd := rfl
      have zr := HB.size
      clear hP hf HB hmv hk hlt
      go_wp2_with fail
      refine HM.out.mono ?_; rintro e w2 ⟨ma, mb, mm, rfl, hmi, k2⟩
      have hmp := mostP_eq hmi
      have hml := most_le hmi
      have hcl := cand_len K.S hd k
      have kk : Below wr.heap.size wr (w2.alloc (.cells #[.int .i64 ma, .int .i64 mb] 67)) := k2.alloc k2.size _
      have HK2 := Lib.hid (hW.below kk)
      have HB2 := Lib.hid (HCB.out.trans (kk.mono HCB.out.size))
      have c3 := HK2.out.c3
      have c0 := HK2.out.c0
      have wm : IntKind.i64.wrap ((mm : Int) * 2) = (mm : Int) * 2 := IntWalk.i64_in _ (by omega)
      have y0 : (w2.alloc (.cells #[.int .i64 ma, .int .i64 mb] 67)).cell? ⟨w2.heap.size, 0, none⟩ = some (.int .i64 ma) := by simp
      have y1 : (w2.alloc (.cells #[.int .i64 ma, .int .i64 mb] 67)).cell? ⟨w2.heap.size, 1, none⟩ = some (.int .i64 mb) := by simp
      have hY : w2.heap.size < (w2.alloc (.cells #[.int .i64 ma, .int .i64 mb] 67)).heap.size := by simp
      have hab : I64 ma ∧ I64 mb := most_bd hmi (HTL.out k (Nat.le_refl _))
      obtain ⟨⟨ma0, ma1⟩, mb0, mb1⟩ := hab
      clear k2 kk HM hW hmi HCB
      by_cases hmaj : 2 * mm ≤ k
      · as_aux_lemma =>
        have tm : decide ((mm : Int) * 2 ≤ (k : Int)) = true := by simp; omega
        have hv : turnK rstP K k hd = K := by unfold turnK; rw [hmp, if_pos hmaj]
        have HV := Lib.hid hv
        have HKO := Lib.hid (HK2.out)
        clear hmp hmaj hv
        go_wp2_with fail
        go_ret
        exact ⟨rfl, by rw [HV.out]; exact HKO.out, But.of_below HB2.out⟩
      · have tm : decide ((mm : Int) * 2 ≤ (k : Int)) = false := by simp; omega
        have hsb := addS_bd ma mb
        have hv : turnK rstP K k hd = { K with t := tt K.t (addS ma mb / 2), l := tl (addS ma mb / 2), syn := K.syn + 1, S := fun j => rstP (K.S j) } := by unfold turnK; rw [hmp, if_neg hmaj]
        have HA2 := Lib.hid fun (B : Nat) (W : World) q0 q1 => scale_add2 ma mb B W ⟨ma0, ma1⟩ ⟨mb0, mb1⟩ q0 q1
        generalize addS ma mb = sm at *
        have HV := Lib.hid hv
        have hmx : max (sm / 2) (-4611686018427387904) = sm / 2 := by omega
        have hmn : min (sm / 2) 4611686018427387904 = sm / 2 := by omega
        have kA : Below (w2.alloc (.cells #[.int .i64 ma, .int .i64 mb] 67)).heap.size (w2.alloc (.cells #[.int .i64 ma, .int .i64 mb] 67)) ((w2.alloc (.cells #[.int .i64 ma, .int .i64 mb] 67)).alloc (.cells #[.int .i64 ma, .int .i64 mb] 3)) := (Below.refl _ _).alloc (Nat.le_refl _) _
        have HK3 := Lib.hid (HK2.out.below kA)
        have HB3 := Lib.hid (HB2.out.trans (kA.mono HB2.out.size))
        have d0 := HK3.out.c0
        have hok := HKK.out.clk
        have HTN := Lib.hid fun (W : World) q => slew_turn_all bc K.c K.t K.l count (sm / 2) W q hok (by unfold Ok3 at hok; omega) (by omega) (by omega)
        have hrc : rc K.c count = K.c := by unfold rc; rw [if_neg (by omega)]
        have hrt : rt K.c K.t K.l count = K.t := by unfold rt; rw [if_neg (by omega)]
        rw [hrc, hrt] at HTN
        clear hmp hmaj hv kA hok hrc hrt
        go_wp2_with fail
        refine (HA2.out _ _ ?_ ?_).mono ?_; iterate 2 (focus (simp [go_sem]; done))
        rintro e w' ⟨rfl, rfl⟩
        clear HA2 y0 y1 hY HK2 HB2
        generalize ((w2.alloc (.cells #[.int .i64 ma, .int .i64 mb] 67)).alloc (.cells #[.int .i64 ma, .int .i64 mb] 3)) = W3 at *
        go_wp2_with fail
        refine (HTN.out _ HK3.out.clk).mono ?_; rintro e w4 ⟨rfl, ho4, k4⟩
        have HK4 := Lib.hid (HK3.out.clock ho4 k4)
        have HF4 : Hid (But (Ft b bc bs) w w4) := Lib.hid ((But.of_below HB3.out).trans (T := Ft b bc bs) (But.of_only ho4 (.inr (.inl rfl))) (fun _ _ q => q))
        have c3 := HK4.out.c3
        clear ho4 k4 HK3 HB3 HTN d0 c0
        go_wp2_with fail
        go_loopw [83] (fun i wr => ∃ j : Nat, j ≤ k ∧ i = .int .i64 j ∧ Nc layP wr b bc bs A n cc x z k { K with t := tt K.t (sm / 2), l := tl (sm / 2), S := rstTo rstP K.S j } ∧ But (Ft b bc bs) w wr) (fun i _ => k - (intOf i).toNat)
        case atStart => exact ⟨0, by omega, rfl, HK4.out.congr (fun i _ => by simp [rstTo]), HF4.out⟩
        case round =>
          obtain ⟨j, hj, rfl, hN4, hF⟩ := hrel
          clear c3
          by_cases hlt : j < k
          · as_aux_lemma =>
            have c3 := hN4.c3
            have lj : (j : Int) < (k : Int) := by omega
            have e1 : rstTo rstP K.S j j = K.S j := by simp [rstTo]
            obtain ⟨x0, x1, x2, x3, x4, x5⟩ := hN4.six j hlt
            have f2 := hN4.sf (j * 6 + 2)
            have f3 := hN4.sf (j * 6 + 3)
            have f4 := hN4.sf (j * 6 + 4)
            have f5 := hN4.sf (j * 6 + 5)
            have r1 := hN4.store j 2 hlt (by omega) { K.S j with has := false } (.bool false) rfl (fun q hq hne => by show layP _ q = layP (rstTo rstP K.S j j) q; rw [e1]; unfold layP; simp [hne])
            have r2 := r1.store j 3 hlt (by omega) { K.S j with has := false, h := 0 } (.int .i64 0) rfl (fun q hq hne => by simp only [updS_same]; unfold layP; simp [hne])
            have r3 := r2.store j 4 hlt (by omega) { K.S j with has := false, h := 0, lo := 0 } (.int .i64 0) rfl (fun q hq hne => by simp only [updS_same]; unfold layP; simp [hne])
            have r4 := r3.store j 5 hlt (by omega) { K.S j with has := false, h := 0, lo := 0, hi := 0 } (.int .i64 0) rfl (fun q hq hne => by simp only [updS_same]; rcases (show q = 0 ∨ q = 1 ∨ q = 2 ∨ q = 3 ∨ q = 4 from by omega) with rfl | rfl | rfl | rfl | rfl <;> simp [layP])
            have HR := Lib.hid (r4.congr (S' := rstTo rstP K.S (j + 1)) (fun i _ => by simp only; rw [rst_stepP]))
            have HFF := Lib.hid ((((hF.setCell (p := ⟨bs, j * 6 + 2, none⟩) (fun _ => .inr (.inr rfl)) (.bool false)).setCell (p := ⟨bs, j * 6 + 3, none⟩) (fun _ => .inr (.inr rfl)) (.int .i64 0)).setCell (p := ⟨bs, j * 6 + 4, none⟩) (fun _ => .inr (.inr rfl)) (.int .i64 0)).setCell (p := ⟨bs, j * 6 + 5, none⟩) (fun _ => .inr (.inr rfl)) (.int .i64 0))
            clear r1 r2 r3 r4 hF
            go_wp2_with fail
            go_roundw
            case rel => exact ⟨j + 1, by omega, by go_num, HR.out, HFF.out⟩
            all_goals (simp [intOf]; omega)
          · as_aux_lemma =>
            obtain rfl : j = k := by omega
            have c5 := hN4.c5
            have f5 := hN4.f 5
            have s0 := HKK.out.s0
            have s1 := HKK.out.s1
            have ws : IntKind.i64.wrap (K.syn + 1) = K.syn + 1 := IntWalk.i64_in _ (by omega)
            have HR := Lib.hid ((hN4.setY (K.syn + 1)).congr (S' := fun i => rstP (K.S i)) (fun i hi => by simp [rstTo, hi]))
            have HFF := Lib.hid (hF.setCell (p := ⟨b, 5, none⟩) (fun _ => .inl rfl) (.int .i64 (K.syn + 1)))
            have hlb4 := hN4.lt
            clear hF
            go_wp2_with fail
            go_ret
            exact ⟨rfl, by rw [HV.out]; exact HR.out, HFF.out⟩
end Go.Proofs.YtepdnkpmkhjlgaaGreat

/- NTP: has, sampleOf in one, and what stays right of a client's state. -/
namespace Go.Proofs.YtepdnkpmkhjlgaaGreat
open Go.RowKit Go.Sort

theorem updS_upd (S : Nat → Srv) (i : Nat) (a b : Srv) : updS (updS S i a) i b = updS S i b := by
  funext j
  by_cases h : j = i
  · subst h; simp [updS]
  · simp [updS, h]
def smpV (a t2 t3 hd d r : Int) : Int × Int × Int :=
  if t3 < t2 then (0, 0, 12) else if dlyV hd a t2 t3 < 0 ∨ 16000000000 < dlyV hd a t2 t3 then (0, 0, 11)
  else (addS (offV hd a t2 t3) (-(byV (dlyV hd a t2 t3) d r)), addS (offV hd a t2 t3) (byV (dlyV hd a t2 t3) d r), 0)
theorem ntp_sample (a t2 t3 hd : Int) (p : Pk) (w : World) (a0 : 0 ≤ a) (a1 : a ≤ 9223372036854775807) (b0 : -9000000000000000000 ≤ t2) (b1 : t2 ≤ 9223372036854775807) (c0 : -9000000000000000000 ≤ t3) (c1 : t3 ≤ 9223372036854775807) (h0 : 0 ≤ hd) (h1 : hd ≤ 9223372036854775807) (hp : p.ok) :
    Calls Tryz.prog 41 #[.int .i64 a, .int .i64 t2, .int .i64 t3, .int .i64 hd, pkVal p] w (SmpAns w (smpV a t2 t3 hd p.d p.r).1 (smpV a t2 t3 hd p.d p.r).2.1 (smpV a t2 t3 hd p.d p.r).2.2) := by
  unfold smpV
  by_cases h : t3 < t2
  · rw [if_pos h]
    exact smp_order a t2 t3 hd p.l p.m p.s p.d p.r p.o p.v p.t w a0 a1 b0 b1 c0 c1 h0 h1 h
  · rw [if_neg h]
    by_cases hr : dlyV hd a t2 t3 < 0 ∨ 16000000000 < dlyV hd a t2 t3
    · rw [if_pos hr]
      exact smp_range a t2 t3 hd p.l p.m p.s p.d p.r p.o p.v p.t w a0 a1 b0 b1 c0 c1 h0 h1 (by omega) hr
    · rw [if_neg hr]
      exact smp_ok a t2 t3 hd p.l p.m p.s p.d p.r p.o p.v p.t w a0 a1 b0 b1 c0 c1 h0 h1 hp.d.1 hp.d.2 hp.r.1 hp.r.2 (by omega) (by omega) (by omega)
theorem smpV_bd (a t2 t3 hd d r : Int) : I64 (smpV a t2 t3 hd d r).1 ∧ I64 (smpV a t2 t3 hd d r).2.1 := by
  unfold smpV I64
  split
  · simp
  split
  · simp
  · exact ⟨addS_bd _ _, addS_bd _ _⟩
theorem hear2_eq (rs : Srv → Srv) (N : Nat) (K : Cs) (i : Nat) (p : Pk) (t2 t3 : Int) : hear2 rs N K i p t2 t3 = if (smpV (K.S i).a t2 t3 K.t p.d p.r).2.2 ≠ 0 then ((smpV (K.S i).a t2 t3 K.t p.d p.r).2.2, K) else (0, turnK rs (smpK K i K.t (smpV (K.S i).a t2 t3 K.t p.d p.r).1 (smpV (K.S i).a t2 t3 K.t p.d p.r).2.1) N K.t) := by
  unfold hear2 smpV
  by_cases h : t3 < t2
  · simp [h]
  · by_cases hr : dlyV K.t (K.S i).a t2 t3 < 0 ∨ 16000000000 < dlyV K.t (K.S i).a t2 t3
    · simp [h, hr]
    · simp [h, hr]
theorem hear1_eq (rs : Srv → Srv) (z : Nat → Int) (n : Nat) (x : Int) (N : Nat) (K : Cs) (i : Nat) (p : Pk) : hear1 rs z n x N K i p = if (tmsV z n x p K.t).2.2 ≠ 0 then ((tmsV z n x p K.t).2.2, K) else hear2 rs N K i p (tmsV z n x p K.t).1 (tmsV z n x p K.t).2.1 := by
  unfold hear1 tmsV
  by_cases h : K.t = 9223372036854775807
  · simp [h]
  · simp only [if_neg h]
    by_cases h2 : (momV z n x p.v (utcD z n K.t)).2 = 0
    · by_cases h3 : (momV z n x p.t (utcD z n K.t)).2 = 0
      · simp [h2, h3]
      · simp [h2, h3]
    · simp [h2]
theorem tmsV_bd {z : Nat → Int} {n : Nat} {x : Int} (hT : IsTab z n x) (p : Pk) (hp : p.ok) (hd : Int) (h0 : 0 ≤ hd) (h1 : hd ≤ 9223372036854775807) : (-9000000000000000000 ≤ (tmsV z n x p hd).1 ∧ (tmsV z n x p hd).1 ≤ 9223372036854775807) ∧ (-9000000000000000000 ≤ (tmsV z n x p hd).2.1 ∧ (tmsV z n x p hd).2.1 ≤ 9223372036854775807) := by
  have bd := utcD_bd (z := z) (n := n) hd h0 h1
  have a := momV_bd hT p.v _ bd.1 bd.2 hp.v.1
  have b := momV_bd hT p.t _ bd.1 bd.2 hp.t.1
  unfold tmsV
  split
  · simp
  split
  · simp
  split
  · simp
  · exact ⟨a, b⟩
theorem Cs.Ok.read {K : Cs} {N : Nat} (h : K.Ok N) (count : Int) (hc : count ≤ 9223372036854775807) : (readK K count).Ok N := ⟨(ok_read h.clk hc).1, h.srv, h.n0, h.n1, h.s0, h.s1⟩
theorem Cs.Ok.upd {K : Cs} {N : Nat} (h : K.Ok N) (i : Nat) (s : Srv) (hs : s.ok) : ({ K with S := updS K.S i s } : Cs).Ok N :=
  ⟨h.clk, fun j hj => by
    by_cases e : j = i
    · subst e; simp only [updS_same]; exact hs
    · simp only [updS_other _ _ _ e]; exact h.srv j hj, h.n0, h.n1, h.s0, h.s1⟩
theorem Cs.Ok.clr {K : Cs} {N : Nat} (h : K.Ok N) (i : Nat) (hi : i < N) : (clrK K i).Ok N := h.upd i _ (by have := h.srv i hi; exact ⟨by simp, by simp, this.a0, this.a1, this.h0, this.h1, this.l, this.u⟩)
theorem Cs.Ok.smp {K : Cs} {N : Nat} (h : K.Ok N) (i : Nat) (hi : i < N) (heard lo hi' : Int) (h0 : 0 ≤ heard) (h1 : heard ≤ 9223372036854775807) (hl : I64 lo) (hu : I64 hi') : (smpK K i heard lo hi').Ok N := h.upd i _ (by have := h.srv i hi; exact ⟨this.q0, this.q1, this.a0, this.a1, h0, h1, hl, hu⟩)
theorem Cs.Ok.ask {K : Cs} {N : Nat} (h : K.Ok N) (hn : K.n < 1000000000) (i : Nat) (hi : i < N) (count : Int) (hc : count ≤ 9223372036854775807) : (askK K i count).Ok N := by
  have r := (h.read count hc).upd i { K.S i with q := K.n + 1, a := rt K.c K.t K.l count } (by
    have := h.srv i hi
    have n0 := h.n0
    have c := (ok_read h.clk hc).1
    unfold Ok3 at c
    exact ⟨by show 0 ≤ K.n + 1; omega, by show K.n + 1 < _; omega, by show 0 ≤ rt _ _ _ _; omega, by show rt _ _ _ _ ≤ _; omega, this.h0, this.h1, this.l, this.u⟩)
  exact ⟨r.clk, r.srv, by show 0 ≤ K.n + 1; have := h.n0; omega, by show K.n + 1 ≤ _; omega, h.s0, h.s1⟩
theorem ntp_has {w : World} {b bc bs : Nat} {A : Option Addr} {n cc : Nat} {x : Int} {z : Nat → Int} {N : Nat} {K : Cs} (h : Nc layP w b bc bs A n cc x z N K) (i : Nat) (hi : i < N) : Calls Tryz.prog 38 #[.pointer (some ⟨b, 0, none⟩), .int .i64 i] w fun e w' => e = .returned (.bool true) ∧ w = w' := by
  have c3 := h.c3
  have li : (i : Int) < (N : Int) := by omega
  have t0 : decide ((i : Int) ≥ 0) = true := by simp
  have t1 : decide (0 ≤ (i : Int)) = true := by simp
  go_enter Tryz.func38, Tryz.ntmps38
  go_wp2
  go_ret
  exact ⟨rfl, rfl⟩
theorem ntp_has_no {w : World} {b bc bs : Nat} {A : Option Addr} {n cc : Nat} {x : Int} {z : Nat → Int} {N : Nat} {K : Cs} (h : Nc layP w b bc bs A n cc x z N K) (i : Int) (hi : i < 0 ∨ (N : Int) ≤ i) : Calls Tryz.prog 38 #[.pointer (some ⟨b, 0, none⟩), .int .i64 i] w fun e w' => e = .returned (.bool false) ∧ w = w' := by
  have c3 := h.c3
  by_cases h0 : i < 0
  · have t0 : decide (i ≥ 0) = false := by simp; omega
    have t1 : decide (0 ≤ i) = false := by simp; omega
    go_enter Tryz.func38, Tryz.ntmps38
    go_wp2
    go_ret
    exact ⟨rfl, rfl⟩
  · have t0 : decide (i ≥ 0) = true := by simp; omega
    have t1 : decide (0 ≤ i) = true := by simp; omega
    have t2 : decide (i < (N : Int)) = false := by simp; omega
    go_enter Tryz.func38, Tryz.ntmps38
    go_wp2
    go_ret
    exact ⟨rfl, rfl⟩
theorem ntp_has_nil (i : Int) (w : World) : Calls Tryz.prog 38 #[.pointer none, .int .i64 i] w fun e w' => e = .returned (.bool false) ∧ w = w' := by
  go_enter Tryz.func38, Tryz.ntmps38
  go_wp2
  go_ret
  exact ⟨rfl, rfl⟩
end Go.Proofs.YtepdnkpmkhjlgaaGreat

