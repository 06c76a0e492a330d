/- Stage 3: LeapSteps: a day has a second more, or less, just if the next one begins a new offset: for every table and leap of it. -/
import Derived.Test.YtonleiffbfdikaaDoorDoor3
import Derived.Test.YtonleiffbfdikaaDoorRef3Is
import Derived.Test.YtonleiffbfdikaaDoorLeap3M
import Derived.Test.YtonleiffbfdikaaDoorLow8
import Derived.Lib.QuietBelow
set_option linter.unusedSimpArgs false
set_option linter.unusedVariables false
namespace Go.Proofs.YtonleiffbfdikaaDoor
open Go.ChangeShapes Go.WideShapes Go.ChangeAt Go.RowKit Go.Joins Go.Sort

theorem steps_out (A : Option Addr) (n c : Nat) (x y : Int) (w : World) (hm : Mx w) (h : 300 < n) :
    Calls Tryd.prog 7 #[.agg #[.slice A n c, .int .i64 x], .int .i64 y] w fun e w' => e = .returned (.bool true) ∧ Below w.heap.size w w' := by
  have HB0 : Below w.heap.size w (w.alloc (.cells #[.slice A n c, .int .i64 x] 24)) := by (repeat' (first | (with_reducible exact Below.refl _ _) | (with_reducible assumption) | (with_reducible refine Below.trans ?_ (Below.mono (by with_reducible assumption) ?_)) | (with_reducible refine Below.alloc ?_ ?_ _) | (with_reducible refine Below.setCell ?_ ?_ _) | (with_reducible refine below_drewN ?_ _) | (with_reducible refine Below.drew ?_) | go_size))
  have HK := Lib.hid (known3 _ (hm.below HB0))
  have k1 : decide ((300 : Int) < (n : Int)) = true := by simp only [decide_eq_true_eq]; omega
  clear h hm
  go_enter Tryd.func7, Tryd.ntmps7
  go_wp2_with fail
  refine HK.out.mono ?_; rintro e w1 ⟨rfl, hb1⟩
  have HB1 := HB0.trans (hb1.mono HB0.size)
  clear hb1
  go_wp2
  go_ret
  exact ⟨rfl, HB1⟩
theorem steps_no (A : Option Addr) (n c : Nat) (x y : Int) (z : Nat → Int) (w : World) (hm : Mx w) (hz : FlatAt w A 2 n z) (hn : n ≤ 300) (ht : ¬ IsTab z n x) :
    Calls Tryd.prog 7 #[.agg #[.slice A n c, .int .i64 x], .int .i64 y] w fun e w' => e = .returned (.bool true) ∧ Below w.heap.size w w' := by
  have HB0 : Below w.heap.size w (w.alloc (.cells #[.slice A n c, .int .i64 x] 24)) := by (repeat' (first | (with_reducible exact Below.refl _ _) | (with_reducible assumption) | (with_reducible refine Below.trans ?_ (Below.mono (by with_reducible assumption) ?_)) | (with_reducible refine Below.alloc ?_ ?_ _) | (with_reducible refine Below.setCell ?_ ?_ _) | (with_reducible refine below_drewN ?_ _) | (with_reducible refine Below.drew ?_) | go_size))
  have HM := Lib.hid hm
  have HI := Lib.hid (ref3_is A n c x z _ false (hz.below HB0) (by unfold maxLen; omega) (by simp [ht]))
  have k1 : decide ((300 : Int) < (n : Int)) = false := by simp only [decide_eq_false_iff_not]; omega
  clear hm hz hn ht
  go_enter Tryd.func7, Tryd.ntmps7
  go_wp2_with fail
  refine HI.out.mono ?_; rintro e w1 ⟨rfl, hb1⟩
  have HB1 := HB0.trans (hb1.mono HB0.size)
  clear hb1
  go_wp2_with fail
  refine (known3 _ (HM.out.below HB1)).mono ?_; rintro e w2 ⟨rfl, hb2⟩
  have HB2 := HB1.trans (hb2.mono HB1.size)
  clear hb2
  go_wp2
  go_ret
  exact ⟨rfl, HB2⟩
set_option maxRecDepth 100000 in
set_option maxHeartbeats 8000000 in
theorem steps_pos (B O n c kk : Nat) (x y : Int) (z : Nat → Int) (w : World) (hm : Mx w) (hz : FlatAt w (some ⟨B, O, none⟩) 2 n z) (ht : IsTab z n x) (hy : bits .and .i64 y 65535 % (n : Int) = (kk : Nat)) (k0 : 1 ≤ kk) (hk : kk < n) :
    Calls Tryd.prog 7 #[.agg #[.slice (some ⟨B, O, none⟩) n c, .int .i64 x], .int .i64 y] w fun e w' => e = .returned (.bool true) ∧ Below w.heap.size w w' := by
  have HB0 : Below w.heap.size w (w.alloc (.cells #[.slice (some ⟨B, O, none⟩) n c, .int .i64 x] 24)) := by (repeat' (first | (with_reducible exact Below.refl _ _) | (with_reducible assumption) | (with_reducible refine Below.trans ?_ (Below.mono (by with_reducible assumption) ?_)) | (with_reducible refine Below.alloc ?_ ?_ _) | (with_reducible refine Below.setCell ?_ ?_ _) | (with_reducible refine below_drewN ?_ _) | (with_reducible refine Below.drew ?_) | go_size))
  have HM := Lib.hid hm
  have HZ := Lib.hid hz
  have n1 : 1 ≤ n := ht.1
  have n100 : n ≤ 100 := ht.2.1
  have HI := Lib.hid (ref3_is (some ⟨B, O, none⟩) n c x z _ true (hz.below HB0) (by unfold maxLen; omega) (by simp [ht]))
  have t1 : decide ((300 : Int) < (n : Int)) = false := by simp only [decide_eq_false_iff_not]; omega
  obtain ⟨B', O', hBO, lB, hc⟩ := hz (by omega)
  injection hBO with hBO
  injection hBO with e1 e2
  subst e1
  subst e2
  have bb := bits_and_le y 65535 (by omega)
  have bb' : 0 ≤ bits .and .i64 y 65535 ∧ bits .and .i64 y 65535 ≤ 65535 := bb
  have c0 := (hc (kk * 2) (by omega)).1
  have c1 := (hc (kk * 2 + 1) (by omega)).1
  have c2 := (hc ((kk - 1) * 2 + 1) (by omega)).1
  have bk := ht.2.2.1 kk hk
  have bp := ht.2.2.1 (kk - 1) (by omega)
  have s0 : -719162 ≤ z (kk * 2) ∧ z (kk * 2) ≤ 2932896 := ⟨bk.1, bk.2.1⟩
  have s1 : 0 ≤ z (kk * 2 + 1) ∧ z (kk * 2 + 1) ≤ 1000 := ⟨bk.2.2.1, bk.2.2.2.1⟩
  have s2 : 0 ≤ z ((kk - 1) * 2 + 1) ∧ z ((kk - 1) * 2 + 1) ≤ 1000 := ⟨bp.2.2.1, bp.2.2.2.1⟩
  have O1 := off_leap ht kk hk
  have O2 := off_ahead ht (kk - 1) (by omega)
  rw [show kk - 1 + 1 = kk from by omega] at O2
  have HLEN := Lib.hid fun (w : World) (h : FlatAt w (some ⟨B, O, none⟩) 2 n z) => leap_length_yes (some ⟨B, O, none⟩) n c x (z (kk * 2) - 1) z w h ht (by omega) (by omega)
  rw [Int.sub_add_cancel, O1, O2] at HLEN
  have HOFF := Lib.hid fun (w : World) (h : FlatAt w (some ⟨B, O, none⟩) 2 n z) => leap_offset_yes (some ⟨B, O, none⟩) n c x (z (kk * 2)) z w h ht
  rw [O1] at HOFF
  have HOFP := Lib.hid fun (w : World) (h : FlatAt w (some ⟨B, O, none⟩) 2 n z) => leap_offset_yes (some ⟨B, O, none⟩) n c x (z (kk * 2) - 1) z w h ht
  rw [O2] at HOFP
  generalize z (kk * 2) = zk at *
  generalize z (kk * 2 + 1) = ok at *
  generalize z ((kk - 1) * 2 + 1) = op at *
  have w0 : IntKind.i64.wrap (zk - 1) = zk - 1 := IntWalk.i64_in _ (by omega)
  have w1 : IntKind.i64.wrap (86400 + ok) = 86400 + ok := IntWalk.i64_in _ (by omega)
  have w2 : IntKind.i64.wrap (86400 + ok - op) = 86400 + ok - op := IntWalk.i64_in _ (by omega)
  have i0 : (0 : Int) ≤ (kk : Int) := by omega
  have i1 : (kk : Int) < (n : Int) := by omega
  have i2 : IntKind.i64.wrap ((kk : Int) - 1) = (kk : Int) - 1 := IntWalk.i64_in _ (by omega)
  have i3 : (0 : Int) ≤ (kk : Int) - 1 := by omega
  have i3' : (1 : Int) ≤ (kk : Int) := by omega
  have i4 : (kk : Int) - 1 < (n : Int) := by omega
  have i5 : ((kk : Int) - 1).toNat = kk - 1 := by omega
  have i5' : (kk : Int).toNat - 1 = kk - 1 := by omega
  have i6 : decide ((0 : Int) < (kk : Int)) = true := by simp only [decide_eq_true_eq]; omega
  have i7 : ((kk : Int) == 0) = false := by simp; omega
  have i8 : 0 < kk := by omega
  clear bk bp O1 O2
  have bb0 : 0 ≤ bits .and .i64 y 65535 := bb'.1
  have bb1 : bits .and .i64 y 65535 ≤ 65535 := bb'.2
  have hyt : (bits .and .i64 y 65535).tmod (n : Int) = bits .and .i64 y 65535 % (n : Int) := Int.tmod_eq_emod_of_nonneg bb0
  rw [hy] at hyt
  clear hm hz ht hc bb bb'
  go_enter Tryd.func7, Tryd.ntmps7
  go_wp2_with fail
  refine HI.out.mono ?_; rintro e v1 ⟨rfl, hb1⟩
  have HB1 := HB0.trans (hb1.mono HB0.size)
  have p0 : v1.cell? ⟨w.heap.size, 0, none⟩ = some (.slice (some ⟨B, O, none⟩) n c) := (hb1.cell (p := ⟨w.heap.size, 0, none⟩) (by simp)).trans (by simp [go_sem])
  have p1 : v1.cell? ⟨w.heap.size, 1, none⟩ = some (.int .i64 x) := (hb1.cell (p := ⟨w.heap.size, 1, none⟩) (by simp)).trans (by simp [go_sem])
  have lw : w.heap.size < v1.heap.size := by have := hb1.size; simp at this; omega
  have c0 : v1.cell? ⟨B, O + kk * 2, none⟩ = some (.int .i64 zk) := (HB1.cell (p := ⟨B, O + kk * 2, none⟩) lB).trans c0
  have c1 : v1.cell? ⟨B, O + kk * 2 + 1, none⟩ = some (.int .i64 ok) := (HB1.cell (p := ⟨B, O + kk * 2 + 1, none⟩) lB).trans c1
  have c2 : v1.cell? ⟨B, O + (kk - 1) * 2 + 1, none⟩ = some (.int .i64 op) := (HB1.cell (p := ⟨B, O + (kk - 1) * 2 + 1, none⟩) lB).trans c2
  have lB1 : B < v1.heap.size := Nat.lt_of_lt_of_le lB HB1.size
  have HBv1 := Lib.hid HB1
  clear hb1 HB0 HB1
  go_wp2_with fail
  go_quiet (fail)
  go_wp2_with fail
  have HBv2 : Hid (Below w.heap.size w (v1.drewN nq)) := Lib.hid (below_drewN HBv1.out nq)
  have p0 : (v1.drewN nq).cell? ⟨w.heap.size, 0, none⟩ = some (.slice (some ⟨B, O, none⟩) n c) := p0
  have p1 : (v1.drewN nq).cell? ⟨w.heap.size, 1, none⟩ = some (.int .i64 x) := p1
  have c0 : (v1.drewN nq).cell? ⟨B, O + kk * 2, none⟩ = some (.int .i64 zk) := c0
  have c1 : (v1.drewN nq).cell? ⟨B, O + kk * 2 + 1, none⟩ = some (.int .i64 ok) := c1
  have c2 : (v1.drewN nq).cell? ⟨B, O + (kk - 1) * 2 + 1, none⟩ = some (.int .i64 op) := c2
  have lw : w.heap.size < (v1.drewN nq).heap.size := lw
  have lB1 : B < (v1.drewN nq).heap.size := lB1
  generalize v1.drewN nq = v2 at *
  have Kp0 := fun d os => cell_regrown p0 d os
  have Kp1 := fun d os => cell_regrown p1 d os
  have Kc0 := fun d os => cell_regrown c0 d os
  have Kc1 := fun d os => cell_regrown c1 d os
  have Kc2 := fun d os => cell_regrown c2 d os
  have ALEN := Lib.hid fun (d' : Nat) (os : Array Obj) => Calls.regrown_of (HLEN.out (grow (redrawn v2 d') os) (HZ.out.below (HBv2.out.trans ((below_regrown v2 d' os).mono HBv2.out.size))))
  have AOFF := Lib.hid fun (d' : Nat) (os : Array Obj) => Calls.regrown_of (HOFF.out (grow (redrawn v2 d') os) (HZ.out.below (HBv2.out.trans ((below_regrown v2 d' os).mono HBv2.out.size))))
  have AOFP := Lib.hid fun (d' : Nat) (os : Array Obj) => Calls.regrown_of (HOFP.out (grow (redrawn v2 d') os) (HZ.out.below (HBv2.out.trans ((below_regrown v2 d' os).mono HBv2.out.size))))
  have AKN := Lib.hid fun (d' : Nat) (os : Array Obj) => Calls.regrown_of (known3 (grow (redrawn v2 d') os) (HM.out.below (HBv2.out.trans ((below_regrown v2 d' os).mono HBv2.out.size))))
  clear p0 p1 c0 c1 c2
  refine wp_region_quiet_below (by kernel_rfl) (by kernel_rfl) ?_
  repeat (go_big_quiet_step ((first | (go_at_call 18; exact ALEN.out _ _) | (go_at_call 16; (first | with_reducible exact AOFF.out _ _ | with_reducible exact AOFP.out _ _)) | (go_at_call 15; exact AKN.out _ _))))
  refine wpQuiet_nil ?_
  intro _ hw'
  obtain ⟨⟨dq, osq⟩, hw''⟩ := hw'
  subst hw''
  have HX := below_regrown v2 dq osq
  have HBE := HBv2.out.trans (HX.mono HBv2.out.size)
  go_wp2
  go_ret
  go_light
  exact ⟨rfl, HBE⟩
set_option maxRecDepth 100000 in
set_option maxHeartbeats 8000000 in
theorem steps_zero (B O n c : Nat) (x y : Int) (z : Nat → Int) (w : World) (hm : Mx w) (hz : FlatAt w (some ⟨B, O, none⟩) 2 n z) (ht : IsTab z n x) (hy : bits .and .i64 y 65535 % (n : Int) = (0 : Nat)) :
    Calls Tryd.prog 7 #[.agg #[.slice (some ⟨B, O, none⟩) n c, .int .i64 x], .int .i64 y] w fun e w' => e = .returned (.bool true) ∧ Below w.heap.size w w' := by
  have HB0 : Below w.heap.size w (w.alloc (.cells #[.slice (some ⟨B, O, none⟩) n c, .int .i64 x] 24)) := by (repeat' (first | (with_reducible exact Below.refl _ _) | (with_reducible assumption) | (with_reducible refine Below.trans ?_ (Below.mono (by with_reducible assumption) ?_)) | (with_reducible refine Below.alloc ?_ ?_ _) | (with_reducible refine Below.setCell ?_ ?_ _) | (with_reducible refine below_drewN ?_ _) | (with_reducible refine Below.drew ?_) | go_size))
  have HM := Lib.hid hm
  have HZ := Lib.hid hz
  have n1 : 1 ≤ n := ht.1
  have n100 : n ≤ 100 := ht.2.1
  have HI := Lib.hid (ref3_is (some ⟨B, O, none⟩) n c x z _ true (hz.below HB0) (by unfold maxLen; omega) (by simp [ht]))
  have t1 : decide ((300 : Int) < (n : Int)) = false := by simp only [decide_eq_false_iff_not]; omega
  obtain ⟨B', O', hBO, lB, hc⟩ := hz (by omega)
  injection hBO with hBO
  injection hBO with e1 e2
  subst e1
  subst e2
  have bb := bits_and_le y 65535 (by omega)
  have bb' : 0 ≤ bits .and .i64 y 65535 ∧ bits .and .i64 y 65535 ≤ 65535 := bb
  have c0 := (hc 0 (by omega)).1
  have c1 := (hc 1 (by omega)).1
  rw [Nat.add_zero] at c0
  have bk := ht.2.2.1 0 (by omega)
  have s0 : -719162 ≤ z 0 ∧ z 0 ≤ 2932896 := ⟨bk.1, bk.2.1⟩
  have s1 : 0 ≤ z 1 ∧ z 1 ≤ 1000 := ⟨bk.2.2.1, bk.2.2.2.1⟩
  have O1 : offK z (z 0) n = z 1 := off_leap ht 0 (by omega)
  have O2 : offK z (z 0 - 1) n = z 1 := off_first ht (by omega)
  have HLEN := Lib.hid fun (w : World) (h : FlatAt w (some ⟨B, O, none⟩) 2 n z) => leap_length_yes (some ⟨B, O, none⟩) n c x (z 0 - 1) z w h ht (by omega) (by omega)
  rw [Int.sub_add_cancel, O1, O2, Int.add_sub_cancel] at HLEN
  have HOFF := Lib.hid fun (w : World) (h : FlatAt w (some ⟨B, O, none⟩) 2 n z) => leap_offset_yes (some ⟨B, O, none⟩) n c x (z 0) z w h ht
  rw [O1] at HOFF
  generalize z 0 = zk at *
  generalize z 1 = ok at *
  have w0 : IntKind.i64.wrap (zk - 1) = zk - 1 := IntWalk.i64_in _ (by omega)
  have i1 : (0 : Int) < (n : Int) := by omega
  have hy : bits .and .i64 y 65535 % (n : Int) = 0 := hy
  clear bk O1 O2
  have bb0 : 0 ≤ bits .and .i64 y 65535 := bb'.1
  have bb1 : bits .and .i64 y 65535 ≤ 65535 := bb'.2
  have hyt : (bits .and .i64 y 65535).tmod (n : Int) = bits .and .i64 y 65535 % (n : Int) := Int.tmod_eq_emod_of_nonneg bb0
  rw [hy] at hyt
  clear hm hz ht hc bb bb'
  go_enter Tryd.func7, Tryd.ntmps7
  go_wp2_with fail
  refine HI.out.mono ?_; rintro e v1 ⟨rfl, hb1⟩
  have HB1 := HB0.trans (hb1.mono HB0.size)
  have p0 : v1.cell? ⟨w.heap.size, 0, none⟩ = some (.slice (some ⟨B, O, none⟩) n c) := (hb1.cell (p := ⟨w.heap.size, 0, none⟩) (by simp)).trans (by simp [go_sem])
  have p1 : v1.cell? ⟨w.heap.size, 1, none⟩ = some (.int .i64 x) := (hb1.cell (p := ⟨w.heap.size, 1, none⟩) (by simp)).trans (by simp [go_sem])
  have lw : w.heap.size < v1.heap.size := by have := hb1.size; simp at this; omega
  have c0 : v1.cell? ⟨B, O, none⟩ = some (.int .i64 zk) := (HB1.cell (p := ⟨B, O, none⟩) lB).trans c0
  have c1 : v1.cell? ⟨B, O + 1, none⟩ = some (.int .i64 ok) := (HB1.cell (p := ⟨B, O + 1, none⟩) lB).trans c1
  have lB1 : B < v1.heap.size := Nat.lt_of_lt_of_le lB HB1.size
  have HBv1 := Lib.hid HB1
  clear hb1 HB0 HB1
  go_wp2_with fail
  have Kp0 := fun d os => cell_regrown p0 d os
  have Kp1 := fun d os => cell_regrown p1 d os
  have Kc0 := fun d os => cell_regrown c0 d os
  have Kc1 := fun d os => cell_regrown c1 d os
  have ALEN := Lib.hid fun (d' : Nat) (os : Array Obj) => Calls.regrown_of (HLEN.out (grow (redrawn v1 d') os) (HZ.out.below (HBv1.out.trans ((below_regrown v1 d' os).mono HBv1.out.size))))
  have AOFF := Lib.hid fun (d' : Nat) (os : Array Obj) => Calls.regrown_of (HOFF.out (grow (redrawn v1 d') os) (HZ.out.below (HBv1.out.trans ((below_regrown v1 d' os).mono HBv1.out.size))))
  have AKN := Lib.hid fun (d' : Nat) (os : Array Obj) => Calls.regrown_of (known3 (grow (redrawn v1 d') os) (HM.out.below (HBv1.out.trans ((below_regrown v1 d' os).mono HBv1.out.size))))
  clear p0 p1 c0 c1
  refine wp_region_quiet_below (by kernel_rfl) (by kernel_rfl) ?_
  repeat (go_big_quiet_step ((first | (go_at_call 18; exact ALEN.out _ _) | (go_at_call 16; (first | with_reducible exact AOFF.out _ _)) | (go_at_call 15; exact AKN.out _ _))))
  refine wpQuiet_nil ?_
  intro _ hw'
  obtain ⟨⟨dq, osq⟩, hw''⟩ := hw'
  subst hw''
  have HX := below_regrown v1 dq osq
  have HBE := HBv1.out.trans (HX.mono HBv1.out.size)
  go_wp2
  go_ret
  go_light
  exact ⟨rfl, HBE⟩
set_option maxRecDepth 100000 in
theorem leapSteps_contract (H : Type) (enc : TypeId × Value → H) (W : World) (base : Nat) (args : Array Value) (ds gs : List (DataW H)) (before : List MemPlace)
    (hval0 : ∀ (j : Nat) t v, Tryd.f7.params[j]? = some t → args[j]? = some v → Value.okWide Tryd.prog W .any base t v)
    (hW : DataW.Whole enc Tryd.prog Tryd.f7.params.toList Rows.leapStepsSpec.vars false W args.toList ds gs before)
    (hsz0 : (DataW.weightsEach Tryd.prog (Tryd.f7.params.toList ++ (OpenSpec.ofChange Rows.leapStepsSpec).bare.plain.varTypes Tryd.prog) (ds ++ gs)).all (· ≤ reachBytes) = true) (hL : laidMetH Tryd.prog Rows.leapStepsRow.laid W) (hS : W.ShapedOpen Tryd.prog) :
    Calls Tryd.prog 7 args W fun e W' => ∃ v, e = .returned v ∧ Rows.leapStepsSpec.post enc Tryd.prog Tryd.f7 false true false false W args v W' := by
  have hval : ∀ (j : Nat) t v, Tryd.f7.params[j]? = some t → args[j]? = some v → Value.okWide Tryd.prog W .any base t v := hval0
  have hsz := hsz0
  have hW' := hW
  obtain ⟨p, q, hA0, hV, rfl, hfz, hnd⟩ := hW
  have hA : DataW.TrodAll enc Tryd.prog W 0 (fun _ => true) true Tryd.f7.params.toList args.toList ds p := hA0
  rw [Tryd.params7] at hA hval hsz
  have hsame : (Rows.leapStepsSpec.fn H (ds ++ gs)).results = [.lit (.bool true)] ∧ (Rows.leapStepsSpec.fn H (ds ++ gs)).args = ds ∧ (Rows.leapStepsSpec.fn H (ds ++ gs)).vars = [] → ∀ W', Below W.heap.size W W' → Rows.leapStepsSpec.post enc Tryd.prog Tryd.f7 false true false false W args (.bool true) W' :=
    fun h W' hb => law_post (tb := 4) hW' law_laid (by kernel_rfl) rfl Tryd.underlying4 h.1 h.2.1 rfl h.2.2 hb
  obtain ⟨v0, vs0, d0, ds0, p0, q0, hargs, rfl, rfl, h0, r0⟩ := trodAll_cons hA
  obtain ⟨v1, vs1, d1, ds1, p1, q1, rfl, rfl, rfl, h1, r1⟩ := trodAll_cons r0
  obtain ⟨rfl, rfl, rfl⟩ := trodAll_nil r1
  obtain rfl : args = #[v0, v1] := by cases args; simp_all
  obtain ⟨rfl, rfl⟩ := trodVars_none hV
  have hpost := hsame ⟨rfl, rfl, rfl⟩
  clear hsame hA0 hval0 hsz0
  obtain ⟨A, n, c, z, x, rfl, hn, hz, _⟩ := open_table (hval 0 24 v0 rfl rfl) h0
  obtain ⟨a1, rfl, rfl, rfl, wf1⟩ := open_int Tryd.underlying3 (hval 1 3 v1 rfl rfl) h1
  have hm := mx_of_shaped hS
  by_cases h : 300 < n
  · exact (steps_out A n c x a1 W hm h).mono fun e W' ⟨he, hb⟩ => ⟨_, he, hpost W' hb⟩
  · by_cases ht : IsTab z n x
    · obtain ⟨B, O, rfl, _, _⟩ := hz ht.1
      have bb := bits_and_le a1 65535 (by omega)
      have bb' : 0 ≤ bits .and .i64 a1 65535 ∧ bits .and .i64 a1 65535 ≤ 65535 := bb
      have hn1 : 0 < (n : Int) := by have := ht.1; omega
      have h1 := Int.emod_nonneg (bits .and .i64 a1 65535) (show (n : Int) ≠ 0 by omega)
      have h2 := Int.emod_lt_of_pos (bits .and .i64 a1 65535) hn1
      obtain ⟨kk, hkk⟩ := Int.eq_ofNat_of_zero_le h1
      by_cases hk0 : kk = 0
      · subst hk0
        exact (steps_zero B O n c x a1 z W hm hz ht hkk).mono fun e W' ⟨he, hb⟩ => ⟨_, he, hpost W' hb⟩
      · exact (steps_pos B O n c kk x a1 z W hm hz ht hkk (by omega) (by omega)).mono fun e W' ⟨he, hb⟩ => ⟨_, he, hpost W' hb⟩
    · exact (steps_no A n c x a1 z W hm hz (by omega) ht).mono fun e W' ⟨he, hb⟩ => ⟨_, he, hpost W' hb⟩
theorem leapSteps_reads (os : Os) {H : Type} (enc : TypeId × Value → H) : (DataW.whole enc Tryd.prog ((layW os).forCall (fun _ _ => 0) ⟨#[], #[.agg #[.slice none 0 0, .int .i64 0], .int .i64 0], []⟩).memory Tryd.f7.params.toList Rows.leapStepsSpec.vars false #[.agg #[.slice none 0 0, .int .i64 0], .int .i64 0].toList 8).isSome = true := by kernel_rfl
theorem leapSteps_met (os : Os) : laidMet Tryd.prog Rows.leapStepsRow.laid ((layW os).forCall (fun _ _ => 0) ⟨#[], #[.agg #[.slice none 0 0, .int .i64 0], .int .i64 0], []⟩).memory := laidMet_of_run' 8 (by kernel_rfl) (by kernel_rfl)
set_option maxRecDepth 100000 in
theorem leapSteps_lifted (os : Os) (started : os.Started) (H : Type) (enc : TypeId × Value → H) (F : Stop.Interp) :
    ReturnsInHanded {} Tryd.checked os 7 .any ((OpenSpec.ofChange Rows.leapStepsSpec).preRow enc Tryd.prog Tryd.f7 Rows.leapStepsRow.domain false Rows.leapStepsRow.laid) (((OpenSpec.ofChange Rows.leapStepsSpec).at F).post enc Tryd.prog Tryd.f7 false true false false) := by
  obtain ⟨x, hx⟩ := Option.isSome_iff_exists.1 (leapSteps_reads os enc)
  refine returnsInHanded_of_row (C := Tryd.checked) (s := OpenSpec.ofChange Rows.leapStepsSpec) law_own started (by kernel_rfl) Tryd.func7
    (witness_row_at (enc := enc) (C := Tryd.checked) false (layW os) #[.agg #[.slice none 0 0, .int .i64 0], .int .i64 0] rfl (by kernel_rfl) (by kernel_rfl) (by kernel_rfl)
      (OpenSpec.preRow_of_cond 8 hx (by rfl) (fun k hk => by cases hk) (by kernel_rfl) (leapSteps_met os))) ?_
  intro W base args ds gs before hval hW _ _ hsz hL hS _
  exact leapSteps_contract H enc W base args ds gs before hval hW hsz hL hS
theorem leapSteps_said : Rows.LeapStepsSaid :=
  OpenClaim.holds_of_cond 7 Tryd.f7 rfl rfl rfl rfl rfl rfl rfl ⟨rfl, rfl, rfl, rfl, rfl⟩ rfl rfl rfl rfl rfl (by kernel_rfl) Tryd.func7 (by kernel_rfl)
    (of_decide_eq_true (by kernel_rfl)) (by unfold Func.isWrapper; first | (rw [if_pos (by decide +kernel)]; kernel_rfl) | (rw [if_neg (by decide +kernel)]; exact ⟨rfl, rfl⟩))
    (fun os started H enc _ F => by rw [OpenClaim.pre_eq_preRow]; exact leapSteps_lifted os started H enc F)
theorem leapSteps_holds : Rows.LeapStepsCardSaid :=
  Claim7.holds_tied_plain_at .later [] _ _ _ _ leapSteps_said (fun _ h => by cases h) (by kernel_rfl) (fun _ h => by cases h) leapSteps_row_tie rfl ⟨rfl, rfl⟩ (by kernel_rfl) rfl (plain_of (f0 := 7) (fn0 := Tryd.f7) (by kernel_rfl) Tryd.func7 (by kernel_rfl) (by kernel_rfl)) (by kernel_rfl)
end Go.Proofs.YtonleiffbfdikaaDoor
