/- cal.Print, the reference's Print: a date's text. -/
import Derived.Test.YtonleiffbfdikaaDoorPrt2
set_option linter.unusedSimpArgs false
set_option linter.unusedVariables false
namespace Go.Proofs.YtonleiffbfdikaaDoor
open Go.RowKit Go.Sort

/-- A date's text. -/
def dateS (y m d : Nat) : ByteArray := strOf (lowd 4 y ++ [45] ++ lowd 2 m ++ [45] ++ lowd 2 d)
theorem strOf_app (a b : List UInt8) : strOf a ++ strOf b = strOf (a ++ b) := by
  apply ByteArray.ext
  simp [strOf]
theorem dateS_eq (y m d : Nat) : strOf (lowd 4 y) ++ ⟨#[45]⟩ ++ strOf (lowd 2 m) ++ ⟨#[45]⟩ ++ strOf (lowd 2 d) = dateS y m d := by
  show strOf (lowd 4 y) ++ strOf [45] ++ strOf (lowd 2 m) ++ strOf [45] ++ strOf (lowd 2 d) = _
  rw [strOf_app, strOf_app, strOf_app, strOf_app]; rfl
set_option maxRecDepth 100000 in
set_option maxHeartbeats 2000000 in
theorem cal_print_yes (y m d : Nat) (w : World) (ht : Tab w) (hv : Cal.Vld y m d) : Calls Tryd.prog 44 #[.agg #[.int .i64 y, .int .i64 m, .int .i64 d]] w fun e w' => e = .returned (.tuple #[.string (dateS y m d), .int .i64 0]) ∧ Below w.heap.size w w' := by
  have HB0 : Below w.heap.size w (w.alloc (.cells #[.int .i64 y, .int .i64 m, .int .i64 d] 48)) := by (repeat' (first | (with_reducible exact Below.refl _ _) | (with_reducible assumption) | (with_reducible refine Below.trans ?_ (Below.mono (by with_reducible assumption) ?_)) | (with_reducible refine Below.alloc ?_ ?_ _) | (with_reducible refine Below.setCell ?_ ?_ _) | (with_reducible refine below_drewN ?_ _) | (with_reducible refine Below.drew ?_) | go_size))
  have hb := hv
  obtain ⟨a1, a2, a3, a4, a5, a6⟩ := hb
  have hdm := Cal.dim_bd y m
  have HE := Lib.hid (dateS_eq y m d)
  have HV := Lib.hid hv
  have P1 : Hid (∀ w : World, Tab w → Calls Tryd.prog 57 #[.int .i64 (y : Int), .int .i64 4] w fun e w' => e = .returned (.string (strOf (lowd (3 + 1) y))) ∧ Below w.heap.size w w') := fun w h => cal_padded y 3 w h (by omega) (by omega)
  have P2 : Hid (∀ w : World, Tab w → Calls Tryd.prog 57 #[.int .i64 (m : Int), .int .i64 2] w fun e w' => e = .returned (.string (strOf (lowd (1 + 1) m))) ∧ Below w.heap.size w w') := fun w h => cal_padded m 1 w h (by omega) (by omega)
  have P3 : Hid (∀ w : World, Tab w → Calls Tryd.prog 57 #[.int .i64 (d : Int), .int .i64 2] w fun e w' => e = .returned (.string (strOf (lowd (1 + 1) d))) ∧ Below w.heap.size w w') := fun w h => cal_padded d 1 w h (by omega) (by omega)
  have z1 : (strOf (lowd (3 + 1) y)).size = 4 := by rw [strOf_size, lowd_len]
  have z2 : (strOf (lowd (1 + 1) m)).size = 2 := by rw [strOf_size, lowd_len]
  have z3 : (strOf (lowd (1 + 1) d)).size = 2 := by rw [strOf_size, lowd_len]
  have HE : Hid (strOf (lowd (3 + 1) y) ++ ⟨#[45]⟩ ++ strOf (lowd (1 + 1) m) ++ ⟨#[45]⟩ ++ strOf (lowd (1 + 1) d) = dateS y m d) := HE
  generalize strOf (lowd (3 + 1) y) = S1 at *
  generalize strOf (lowd (1 + 1) m) = S2 at *
  generalize strOf (lowd (1 + 1) d) = S3 at *
  have n1 : ¬ 9223372036854775807 < S1.size + 1 := by omega
  have n2 : ¬ 9223372036854775807 < S1.size + 1 + S2.size := by omega
  have n3 : ¬ 9223372036854775807 < S1.size + 1 + S2.size + 1 := by omega
  have n4 : ¬ 9223372036854775807 < S1.size + 1 + S2.size + 1 + S3.size := by omega
  have TB := Lib.hid ht
  clear ht hv a1 a2 a3 a4 a5 a6 hdm z1 z2 z3
  go_enter Tryd.func44, Tryd.ntmps44
  go_wp2_with fail
  refine (cal_is_yes y m d _ HV.out).mono ?_; rintro e w1 ⟨rfl, hb1⟩
  have HB1 := HB0.trans (hb1.mono HB0.size)
  have T1 := Lib.hid (TB.out.below HB1)
  have c0 : w1.cell? ⟨w.heap.size, 0, none⟩ = some (.int .i64 y) := (hb1.cell (p := ⟨w.heap.size, 0, none⟩) (by simp)).trans (by simp [go_sem])
  have c1 : w1.cell? ⟨w.heap.size, 1, none⟩ = some (.int .i64 m) := (hb1.cell (p := ⟨w.heap.size, 1, none⟩) (by simp)).trans (by simp [go_sem])
  have c2 : w1.cell? ⟨w.heap.size, 2, none⟩ = some (.int .i64 d) := (hb1.cell (p := ⟨w.heap.size, 2, none⟩) (by simp)).trans (by simp [go_sem])
  have k0 := fun d os => cell_regrown c0 d os
  have k1 := fun d os => cell_regrown c1 d os
  have k2 := fun d os => cell_regrown c2 d os
  have A1 := Lib.hid fun (d' : Nat) (os : Array Obj) => Calls.regrown_of (P1.out (grow (redrawn w1 d') os) (T1.out.below (below_regrown w1 d' os)))
  have A2 := Lib.hid fun (d' : Nat) (os : Array Obj) => Calls.regrown_of (P2.out (grow (redrawn w1 d') os) (T1.out.below (below_regrown w1 d' os)))
  have A3 := Lib.hid fun (d' : Nat) (os : Array Obj) => Calls.regrown_of (P3.out (grow (redrawn w1 d') os) (T1.out.below (below_regrown w1 d' os)))
  clear hb1 c0 c1 c2
  go_wp2_with fail
  refine wp_region_quiet_below (by kernel_rfl) (by kernel_rfl) ?_
  repeat (quiet_step ((go_at_call 57; (first | with_reducible exact A1.out _ _ | with_reducible exact A2.out _ _ | with_reducible exact A3.out _ _))))
  refine wpQuiet_nil ?_
  intro _ hw'
  obtain ⟨⟨dq, osq⟩, hw''⟩ := hw'
  subst hw''
  have HBF := Lib.hid (HB1.trans ((below_regrown w1 dq osq).mono HB1.size))
  rw [HE.out]
  go_wp2
  go_ret2
  exact ⟨rfl, HBF.out⟩
set_option maxHeartbeats 1000000 in
theorem cal_print_no (y m d : Int) (w : World) (hv : ¬ Cal.Vld y m d) : Calls Tryd.prog 44 #[.agg #[.int .i64 y, .int .i64 m, .int .i64 d]] w fun e w' => e = .returned (.tuple #[.string ⟨#[]⟩, .int .i64 1]) ∧ Below w.heap.size w w' := by
  have HB0 : Below w.heap.size w (w.alloc (.cells #[.int .i64 y, .int .i64 m, .int .i64 d] 48)) := by (repeat' (first | (with_reducible exact Below.refl _ _) | (with_reducible assumption) | (with_reducible refine Below.trans ?_ (Below.mono (by with_reducible assumption) ?_)) | (with_reducible refine Below.alloc ?_ ?_ _) | (with_reducible refine Below.setCell ?_ ?_ _) | (with_reducible refine below_drewN ?_ _) | (with_reducible refine Below.drew ?_) | go_size))
  have HV := Lib.hid hv
  clear hv
  go_enter Tryd.func44, Tryd.ntmps44
  go_wp2_with fail
  refine (cal_is_no y m d _ HV.out).mono ?_; rintro e w1 ⟨rfl, hb1⟩
  have HB1 := HB0.trans (hb1.mono HB0.size)
  clear hb1
  go_wp2
  go_ret2
  exact ⟨rfl, HB1⟩
set_option maxRecDepth 100000 in
set_option maxHeartbeats 2000000 in
theorem ref2_print_yes (y m d : Nat) (w : World) (hv : Cal.Vld y m d) : Calls Tryd.prog 47 #[.agg #[.int .i64 y, .int .i64 m, .int .i64 d]] w fun e w' => e = .returned (.tuple #[.string (dateS y m d), .int .i64 0]) ∧ Below w.heap.size w w' := by
  have HB0 : Below w.heap.size w (w.alloc (.cells #[.int .i64 y, .int .i64 m, .int .i64 d] 48)) := by (repeat' (first | (with_reducible exact Below.refl _ _) | (with_reducible assumption) | (with_reducible refine Below.trans ?_ (Below.mono (by with_reducible assumption) ?_)) | (with_reducible refine Below.alloc ?_ ?_ _) | (with_reducible refine Below.setCell ?_ ?_ _) | (with_reducible refine below_drewN ?_ _) | (with_reducible refine Below.drew ?_) | go_size))
  have hb := hv
  obtain ⟨a1, a2, a3, a4, a5, a6⟩ := hb
  have hdm := Cal.dim_bd y m
  have HE := Lib.hid (dateS_eq y m d)
  have HV := Lib.hid hv
  have P1 : Hid (∀ w : World, Calls Tryd.prog 60 #[.int .i64 (y : Int), .int .i64 4] w fun e w' => e = .returned (.string (strOf (lowd 4 y))) ∧ Below w.heap.size w w') := fun w => ref2_digits y 4 w (by omega) (by omega)
  have P2 : Hid (∀ w : World, Calls Tryd.prog 60 #[.int .i64 (m : Int), .int .i64 2] w fun e w' => e = .returned (.string (strOf (lowd 2 m))) ∧ Below w.heap.size w w') := fun w => ref2_digits m 2 w (by omega) (by omega)
  have P3 : Hid (∀ w : World, Calls Tryd.prog 60 #[.int .i64 (d : Int), .int .i64 2] w fun e w' => e = .returned (.string (strOf (lowd 2 d))) ∧ Below w.heap.size w w') := fun w => ref2_digits d 2 w (by omega) (by omega)
  have z1 : (strOf (lowd 4 y)).size = 4 := by rw [strOf_size, lowd_len]
  have z2 : (strOf (lowd 2 m)).size = 2 := by rw [strOf_size, lowd_len]
  have z3 : (strOf (lowd 2 d)).size = 2 := by rw [strOf_size, lowd_len]
  have HE : Hid (strOf (lowd 4 y) ++ ⟨#[45]⟩ ++ strOf (lowd 2 m) ++ ⟨#[45]⟩ ++ strOf (lowd 2 d) = dateS y m d) := HE
  generalize strOf (lowd 4 y) = S1 at *
  generalize strOf (lowd 2 m) = S2 at *
  generalize strOf (lowd 2 d) = S3 at *
  have n1 : ¬ 9223372036854775807 < S1.size + 1 := by omega
  have n2 : ¬ 9223372036854775807 < S1.size + 1 + S2.size := by omega
  have n3 : ¬ 9223372036854775807 < S1.size + 1 + S2.size + 1 := by omega
  have n4 : ¬ 9223372036854775807 < S1.size + 1 + S2.size + 1 + S3.size := by omega
  clear hv a1 a2 a3 a4 a5 a6 hdm z1 z2 z3
  go_enter Tryd.func47, Tryd.ntmps47
  go_wp2_with fail
  refine (ref2_is_yes y m d _ HV.out).mono ?_; rintro e w1 ⟨rfl, hb1⟩
  have HB1 := HB0.trans (hb1.mono HB0.size)
  have c0 : w1.cell? ⟨w.heap.size, 0, none⟩ = some (.int .i64 y) := (hb1.cell (p := ⟨w.heap.size, 0, none⟩) (by simp)).trans (by simp [go_sem])
  have c1 : w1.cell? ⟨w.heap.size, 1, none⟩ = some (.int .i64 m) := (hb1.cell (p := ⟨w.heap.size, 1, none⟩) (by simp)).trans (by simp [go_sem])
  have c2 : w1.cell? ⟨w.heap.size, 2, none⟩ = some (.int .i64 d) := (hb1.cell (p := ⟨w.heap.size, 2, none⟩) (by simp)).trans (by simp [go_sem])
  have k0 := fun d os => cell_regrown c0 d os
  have k1 := fun d os => cell_regrown c1 d os
  have k2 := fun d os => cell_regrown c2 d os
  have A1 := Lib.hid fun (d' : Nat) (os : Array Obj) => Calls.regrown_of (P1.out (grow (redrawn w1 d') os))
  have A2 := Lib.hid fun (d' : Nat) (os : Array Obj) => Calls.regrown_of (P2.out (grow (redrawn w1 d') os))
  have A3 := Lib.hid fun (d' : Nat) (os : Array Obj) => Calls.regrown_of (P3.out (grow (redrawn w1 d') os))
  clear hb1 c0 c1 c2
  go_wp2_with fail
  refine wp_region_quiet_below (by kernel_rfl) (by kernel_rfl) ?_
  repeat (quiet_step ((go_at_call 60; (first | with_reducible exact A1.out _ _ | with_reducible exact A2.out _ _ | with_reducible exact A3.out _ _))))
  refine wpQuiet_nil ?_
  intro _ hw'
  obtain ⟨⟨dq, osq⟩, hw''⟩ := hw'
  subst hw''
  have HBF := Lib.hid (HB1.trans ((below_regrown w1 dq osq).mono HB1.size))
  rw [HE.out]
  go_wp2
  go_ret2
  exact ⟨rfl, HBF.out⟩
set_option maxHeartbeats 1000000 in
theorem ref2_print_no (y m d : Int) (w : World) (hv : ¬ Cal.Vld y m d) : Calls Tryd.prog 47 #[.agg #[.int .i64 y, .int .i64 m, .int .i64 d]] w fun e w' => e = .returned (.tuple #[.string ⟨#[]⟩, .int .i64 1]) ∧ Below w.heap.size w w' := by
  have HB0 : Below w.heap.size w (w.alloc (.cells #[.int .i64 y, .int .i64 m, .int .i64 d] 48)) := by (repeat' (first | (with_reducible exact Below.refl _ _) | (with_reducible assumption) | (with_reducible refine Below.trans ?_ (Below.mono (by with_reducible assumption) ?_)) | (with_reducible refine Below.alloc ?_ ?_ _) | (with_reducible refine Below.setCell ?_ ?_ _) | (with_reducible refine below_drewN ?_ _) | (with_reducible refine Below.drew ?_) | go_size))
  have HV := Lib.hid hv
  clear hv
  go_enter Tryd.func47, Tryd.ntmps47
  go_wp2_with fail
  refine (ref2_is_no y m d _ HV.out).mono ?_; rintro e w1 ⟨rfl, hb1⟩
  have HB1 := HB0.trans (hb1.mono HB0.size)
  clear hb1
  go_wp2
  go_ret2
  exact ⟨rfl, HB1⟩
end Go.Proofs.YtonleiffbfdikaaDoor
