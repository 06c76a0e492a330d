/- Stage 3: LeapEnds: for every table and number: ahead of all leaps the first offset holds, behind all the last one. -/
import Derived.Test.YtonleiffbfdikaaDoorDoor3
import Derived.Test.YtonleiffbfdikaaDoorRef3Is
import Derived.Test.YtonleiffbfdikaaDoorLeap3M
set_option linter.unusedSimpArgs false
set_option linter.unusedVariables false
namespace Go.Proofs.YtonleiffbfdikaaDoor
open Go.ChangeShapes Go.WideShapes Go.ChangeAt Go.RowKit Go.Joins

theorem ends_out (A : Option Addr) (n c : Nat) (x y : Int) (w : World) (hm : Mx w) (h : 100 < n ∨ y < 0 ∨ 1099511627776 < y) :
    Calls Tryd.prog 10 #[.agg #[.slice A n c, .int .i64 x], .int .i64 y] w fun e w' => e = .returned (.bool true) ∧ Below w.heap.size w w' := by
  have HB0 : Below w.heap.size w (w.alloc (.cells #[.slice A n c, .int .i64 x] 24)) := by (repeat' (first | (with_reducible exact Below.refl _ _) | (with_reducible assumption) | (with_reducible refine Below.trans ?_ (Below.mono (by with_reducible assumption) ?_)) | (with_reducible refine Below.alloc ?_ ?_ _) | (with_reducible refine Below.setCell ?_ ?_ _) | (with_reducible refine below_drewN ?_ _) | (with_reducible refine Below.drew ?_) | go_size))
  have HK := Lib.hid (known3 _ (hm.below HB0))
  clear hm
  rcases (show decide ((100 : Int) < (n : Int)) = true ∨ (decide ((100 : Int) < (n : Int)) = false ∧ decide (y < 0) = true) ∨ (decide ((100 : Int) < (n : Int)) = false ∧ decide (y < 0) = false ∧ decide (1099511627776 < y) = true) from by simp only [decide_eq_true_eq, decide_eq_false_iff_not]; omega) with k1 | ⟨k1, k2⟩ | ⟨k1, k2, k3⟩
  all_goals
    clear h
    go_enter Tryd.func10, Tryd.ntmps10
    go_wp2_with fail
    refine HK.out.mono ?_; rintro e w1 ⟨rfl, hb1⟩
    have HB1 := HB0.trans (hb1.mono HB0.size)
    clear hb1
    go_wp2
    go_ret
    exact ⟨rfl, HB1⟩
theorem ends_no (A : Option Addr) (n c : Nat) (x y : Int) (z : Nat → Int) (w : World) (hm : Mx w) (hz : FlatAt w A 2 n z) (hn : n ≤ 100) (y0 : 0 ≤ y) (y1 : y ≤ 1099511627776) (ht : ¬ IsTab z n x) :
    Calls Tryd.prog 10 #[.agg #[.slice A n c, .int .i64 x], .int .i64 y] w fun e w' => e = .returned (.bool true) ∧ Below w.heap.size w w' := by
  have HB0 : Below w.heap.size w (w.alloc (.cells #[.slice A n c, .int .i64 x] 24)) := by (repeat' (first | (with_reducible exact Below.refl _ _) | (with_reducible assumption) | (with_reducible refine Below.trans ?_ (Below.mono (by with_reducible assumption) ?_)) | (with_reducible refine Below.alloc ?_ ?_ _) | (with_reducible refine Below.setCell ?_ ?_ _) | (with_reducible refine below_drewN ?_ _) | (with_reducible refine Below.drew ?_) | go_size))
  have HM := Lib.hid hm
  have HI := Lib.hid (ref3_is A n c x z _ false (hz.below HB0) (by unfold maxLen; omega) (by simp [ht]))
  have k1 : decide ((100 : Int) < (n : Int)) = false := by simp only [decide_eq_false_iff_not]; omega
  have k2 : decide (y < 0) = false := by simp only [decide_eq_false_iff_not]; omega
  have k3 : decide (1099511627776 < y) = false := by simp only [decide_eq_false_iff_not]; omega
  clear hm hz hn ht
  go_enter Tryd.func10, Tryd.ntmps10
  go_wp2_with fail
  refine HI.out.mono ?_; rintro e w1 ⟨rfl, hb1⟩
  have HB1 := HB0.trans (hb1.mono HB0.size)
  clear hb1
  go_wp2_with fail
  refine (known3 _ (HM.out.below HB1)).mono ?_; rintro e w2 ⟨rfl, hb2⟩
  have HB2 := HB1.trans (hb2.mono HB1.size)
  clear hb2
  go_wp2
  go_ret
  exact ⟨rfl, HB2⟩
set_option maxRecDepth 100000 in
set_option maxHeartbeats 8000000 in
theorem ends_in (B O m c : Nat) (x y : Int) (z : Nat → Int) (w : World) (hm : Mx w) (hz : FlatAt w (some ⟨B, O, none⟩) 2 (m + 1) z) (y0 : 0 ≤ y) (y1 : y ≤ 1099511627776) (ht : IsTab z (m + 1) x) :
    Calls Tryd.prog 10 #[.agg #[.slice (some ⟨B, O, none⟩) (m + 1) c, .int .i64 x], .int .i64 y] w fun e w' => e = .returned (.bool true) ∧ Below w.heap.size w w' := by
  have HB0 : Below w.heap.size w (w.alloc (.cells #[.slice (some ⟨B, O, none⟩) (m + 1) c, .int .i64 x] 24)) := by (repeat' (first | (with_reducible exact Below.refl _ _) | (with_reducible assumption) | (with_reducible refine Below.trans ?_ (Below.mono (by with_reducible assumption) ?_)) | (with_reducible refine Below.alloc ?_ ?_ _) | (with_reducible refine Below.setCell ?_ ?_ _) | (with_reducible refine below_drewN ?_ _) | (with_reducible refine Below.drew ?_) | go_size))
  have HM := Lib.hid hm
  have HZ := Lib.hid hz
  have HT := Lib.hid ht
  have hm100 : m + 1 ≤ 100 := ht.2.1
  have HI := Lib.hid (ref3_is (some ⟨B, O, none⟩) (m + 1) c x z _ true (hz.below HB0) (by unfold maxLen; omega) (by simp [ht]))
  have im0 : (0 : Int) ≤ (m : Int) := by omega
  have im1 : (m : Int) < (m : Int) + 1 := by omega
  have im2 : m < m + 1 := by omega
  have k1 : decide ((100 : Int) < ((m + 1 : Nat) : Int)) = false := by simp only [decide_eq_false_iff_not]; omega
  have k2 : decide (y < 0) = false := by simp only [decide_eq_false_iff_not]; omega
  have k3 : decide (1099511627776 < y) = false := by simp only [decide_eq_false_iff_not]; omega
  obtain ⟨B', O', hBO, lB, hc⟩ := hz (by omega)
  injection hBO with hBO
  injection hBO with e1 e2
  subst e1
  subst e2
  have c0 := (hc 0 (by omega)).1
  have c1 := (hc 1 (by omega)).1
  have d0 := (hc (m * 2) (by omega)).1
  have d1 := (hc (m * 2 + 1) (by omega)).1
  rw [Nat.add_zero] at c0
  have b0 := ht.2.2.1 0 (by omega)
  have bm := ht.2.2.1 m (by omega)
  have s0 : -719162 ≤ z 0 ∧ z 0 ≤ 2932896 := ⟨b0.1, b0.2.1⟩
  have sm : -719162 ≤ z (m * 2) ∧ z (m * 2) ≤ 2932896 := ⟨bm.1, bm.2.1⟩
  have w0 : IntKind.i64.wrap (z 0 - y) = z 0 - y := IntWalk.i64_in _ (by omega)
  have w1' : IntKind.i64.wrap (z (m * 2) + y) = z (m * 2) + y := IntWalk.i64_in _ (by omega)
  have O1 := Lib.hid (off_first ht y0)
  have O2 := Lib.hid (off_last (z := z) (m := m) (day := z (m * 2) + y) (by omega))
  have O3 := Lib.hid (off_last (z := z) (m := m) (day := z (m * 2) + y + 1) (by omega))
  clear hm hz ht hc b0 bm
  go_enter Tryd.func10, Tryd.ntmps10
  go_wp2_with fail
  refine HI.out.mono ?_; rintro e v1 ⟨rfl, hb1⟩
  have HB1 := HB0.trans (hb1.mono HB0.size)
  have p0 : v1.cell? ⟨w.heap.size, 0, none⟩ = some (.slice (some ⟨B, O, none⟩) (m + 1) c) := (hb1.cell (p := ⟨w.heap.size, 0, none⟩) (by simp)).trans (by simp [go_sem])
  have p1 : v1.cell? ⟨w.heap.size, 1, none⟩ = some (.int .i64 x) := (hb1.cell (p := ⟨w.heap.size, 1, none⟩) (by simp)).trans (by simp [go_sem])
  have lw : w.heap.size < v1.heap.size := by have := hb1.size; simp at this; omega
  have c0 := (HB1.cell (p := ⟨B, O, none⟩) lB).trans c0
  have c1 := (HB1.cell (p := ⟨B, O + 1, none⟩) lB).trans c1
  have d0 := (HB1.cell (p := ⟨B, O + m * 2, none⟩) lB).trans d0
  have d1 := (HB1.cell (p := ⟨B, O + (m * 2 + 1), none⟩) lB).trans d1
  have lB1 : B < v1.heap.size := Nat.lt_of_lt_of_le lB HB1.size
  clear hb1
  go_wp2_with fail
  rw [← Nat.add_assoc] at d1
  have HBv1 := Lib.hid HB1
  clear HB1 HB0
  go_region_held3 (fun w' => w'.cell? ⟨w.heap.size, 0, none⟩ = some (.slice (some ⟨B, O, none⟩) (m + 1) c) ∧ w'.cell? ⟨w.heap.size, 1, none⟩ = some (.int .i64 x) ∧ w'.cell? ⟨B, O, none⟩ = some (.int .i64 (z 0)) ∧ w'.cell? ⟨B, O + 1, none⟩ = some (.int .i64 (z 1)) ∧ w'.cell? ⟨B, O + m * 2, none⟩ = some (.int .i64 (z (m * 2))) ∧ w'.cell? ⟨B, O + m * 2 + 1, none⟩ = some (.int .i64 (z (m * 2 + 1)))) (exact ⟨p0, p1, c0, c1, d0, d1⟩)
    (first
      | (go_at_call 16; refine (leap_offset_yes (some ⟨B, O, none⟩) (m + 1) c x (z 0 - y) z _ (HZ.out.below (HBv1.out.trans (Below.mono (show Below v1.heap.size v1 _ from (by (repeat' (first | (with_reducible exact Below.refl _ _) | (with_reducible assumption) | (with_reducible refine Below.trans ?_ (Below.mono (by with_reducible assumption) ?_)) | (with_reducible refine Below.alloc ?_ ?_ _) | (with_reducible refine Below.setCell ?_ ?_ _) | (with_reducible refine below_drewN ?_ _) | (with_reducible refine Below.drew ?_) | go_size)))) HBv1.out.size))) HT.out).mono ?_; rw [O1.out]; rintro e v2 ⟨rfl, hb2⟩; have p0 := (hb2.cell (p := ⟨w.heap.size, 0, none⟩) lw).trans p0; have p1 := (hb2.cell (p := ⟨w.heap.size, 1, none⟩) lw).trans p1; have c0 := (hb2.cell (p := ⟨B, O, none⟩) lB1).trans c0; have c1 := (hb2.cell (p := ⟨B, O + 1, none⟩) lB1).trans c1; have d0 := (hb2.cell (p := ⟨B, O + m * 2, none⟩) lB1).trans d0; have d1 := (hb2.cell (p := ⟨B, O + m * 2 + 1, none⟩) lB1).trans d1; have lw := Nat.lt_of_lt_of_le lw hb2.size; have lB1 := Nat.lt_of_lt_of_le lB1 hb2.size; have HXv1 : Below v1.heap.size v1 v2 := Below.trans (by (repeat' (first | (with_reducible exact Below.refl _ _) | (with_reducible assumption) | (with_reducible refine Below.trans ?_ (Below.mono (by with_reducible assumption) ?_)) | (with_reducible refine Below.alloc ?_ ?_ _) | (with_reducible refine Below.setCell ?_ ?_ _) | (with_reducible refine below_drewN ?_ _) | (with_reducible refine Below.drew ?_) | go_size))) (hb2.mono (Below.size (show Below v1.heap.size v1 _ from (by (repeat' (first | (with_reducible exact Below.refl _ _) | (with_reducible assumption) | (with_reducible refine Below.trans ?_ (Below.mono (by with_reducible assumption) ?_)) | (with_reducible refine Below.alloc ?_ ?_ _) | (with_reducible refine Below.setCell ?_ ?_ _) | (with_reducible refine below_drewN ?_ _) | (with_reducible refine Below.drew ?_) | go_size))))))))
  have HBv2 := Lib.hid (HBv1.out.trans (HXv1.mono HBv1.out.size))
  clear hb2 HXv1
  go_wp2_with fail
  go_region_held3 (fun w' => w'.cell? ⟨w.heap.size, 0, none⟩ = some (.slice (some ⟨B, O, none⟩) (m + 1) c) ∧ w'.cell? ⟨w.heap.size, 1, none⟩ = some (.int .i64 x) ∧ w'.cell? ⟨B, O, none⟩ = some (.int .i64 (z 0)) ∧ w'.cell? ⟨B, O + 1, none⟩ = some (.int .i64 (z 1)) ∧ w'.cell? ⟨B, O + m * 2, none⟩ = some (.int .i64 (z (m * 2))) ∧ w'.cell? ⟨B, O + m * 2 + 1, none⟩ = some (.int .i64 (z (m * 2 + 1)))) (exact ⟨p0, p1, c0, c1, d0, d1⟩)
    (first
      | (go_at_call 16; refine (leap_offset_yes (some ⟨B, O, none⟩) (m + 1) c x (z (m * 2) + y) z _ (HZ.out.below (HBv2.out.trans (Below.mono (show Below v2.heap.size v2 _ from (by (repeat' (first | (with_reducible exact Below.refl _ _) | (with_reducible assumption) | (with_reducible refine Below.trans ?_ (Below.mono (by with_reducible assumption) ?_)) | (with_reducible refine Below.alloc ?_ ?_ _) | (with_reducible refine Below.setCell ?_ ?_ _) | (with_reducible refine below_drewN ?_ _) | (with_reducible refine Below.drew ?_) | go_size)))) HBv2.out.size))) HT.out).mono ?_; rw [O2.out]; rintro e v3 ⟨rfl, hb3⟩; have p0 := (hb3.cell (p := ⟨w.heap.size, 0, none⟩) lw).trans p0; have p1 := (hb3.cell (p := ⟨w.heap.size, 1, none⟩) lw).trans p1; have c0 := (hb3.cell (p := ⟨B, O, none⟩) lB1).trans c0; have c1 := (hb3.cell (p := ⟨B, O + 1, none⟩) lB1).trans c1; have d0 := (hb3.cell (p := ⟨B, O + m * 2, none⟩) lB1).trans d0; have d1 := (hb3.cell (p := ⟨B, O + m * 2 + 1, none⟩) lB1).trans d1; have lw := Nat.lt_of_lt_of_le lw hb3.size; have lB1 := Nat.lt_of_lt_of_le lB1 hb3.size; have HXv2 : Below v2.heap.size v2 v3 := Below.trans (by (repeat' (first | (with_reducible exact Below.refl _ _) | (with_reducible assumption) | (with_reducible refine Below.trans ?_ (Below.mono (by with_reducible assumption) ?_)) | (with_reducible refine Below.alloc ?_ ?_ _) | (with_reducible refine Below.setCell ?_ ?_ _) | (with_reducible refine below_drewN ?_ _) | (with_reducible refine Below.drew ?_) | go_size))) (hb3.mono (Below.size (show Below v2.heap.size v2 _ from (by (repeat' (first | (with_reducible exact Below.refl _ _) | (with_reducible assumption) | (with_reducible refine Below.trans ?_ (Below.mono (by with_reducible assumption) ?_)) | (with_reducible refine Below.alloc ?_ ?_ _) | (with_reducible refine Below.setCell ?_ ?_ _) | (with_reducible refine below_drewN ?_ _) | (with_reducible refine Below.drew ?_) | go_size))))))))
  have HBv3 := Lib.hid (HBv2.out.trans (HXv2.mono HBv2.out.size))
  clear hb3 HXv2
  go_wp2_with fail
  go_region_held3 (fun w' => w'.cell? ⟨w.heap.size, 0, none⟩ = some (.slice (some ⟨B, O, none⟩) (m + 1) c) ∧ w'.cell? ⟨w.heap.size, 1, none⟩ = some (.int .i64 x) ∧ w'.cell? ⟨B, O, none⟩ = some (.int .i64 (z 0)) ∧ w'.cell? ⟨B, O + 1, none⟩ = some (.int .i64 (z 1)) ∧ w'.cell? ⟨B, O + m * 2, none⟩ = some (.int .i64 (z (m * 2))) ∧ w'.cell? ⟨B, O + m * 2 + 1, none⟩ = some (.int .i64 (z (m * 2 + 1)))) (exact ⟨p0, p1, c0, c1, d0, d1⟩)
    (first
      | (go_at_call 18; refine (leap_length_yes (some ⟨B, O, none⟩) (m + 1) c x (z (m * 2) + y) z _ (HZ.out.below (HBv3.out.trans (Below.mono (show Below v3.heap.size v3 _ from (by (repeat' (first | (with_reducible exact Below.refl _ _) | (with_reducible assumption) | (with_reducible refine Below.trans ?_ (Below.mono (by with_reducible assumption) ?_)) | (with_reducible refine Below.alloc ?_ ?_ _) | (with_reducible refine Below.setCell ?_ ?_ _) | (with_reducible refine below_drewN ?_ _) | (with_reducible refine Below.drew ?_) | go_size)))) HBv3.out.size))) HT.out (by omega) (by omega)).mono ?_; rw [O2.out, O3.out, Int.add_sub_cancel]; rintro e v4 ⟨rfl, hb4⟩; have p0 := (hb4.cell (p := ⟨w.heap.size, 0, none⟩) lw).trans p0; have p1 := (hb4.cell (p := ⟨w.heap.size, 1, none⟩) lw).trans p1; have c0 := (hb4.cell (p := ⟨B, O, none⟩) lB1).trans c0; have c1 := (hb4.cell (p := ⟨B, O + 1, none⟩) lB1).trans c1; have d0 := (hb4.cell (p := ⟨B, O + m * 2, none⟩) lB1).trans d0; have d1 := (hb4.cell (p := ⟨B, O + m * 2 + 1, none⟩) lB1).trans d1; have lw := Nat.lt_of_lt_of_le lw hb4.size; have lB1 := Nat.lt_of_lt_of_le lB1 hb4.size; have HXv3 : Below v3.heap.size v3 v4 := Below.trans (by (repeat' (first | (with_reducible exact Below.refl _ _) | (with_reducible assumption) | (with_reducible refine Below.trans ?_ (Below.mono (by with_reducible assumption) ?_)) | (with_reducible refine Below.alloc ?_ ?_ _) | (with_reducible refine Below.setCell ?_ ?_ _) | (with_reducible refine below_drewN ?_ _) | (with_reducible refine Below.drew ?_) | go_size))) (hb4.mono (Below.size (show Below v3.heap.size v3 _ from (by (repeat' (first | (with_reducible exact Below.refl _ _) | (with_reducible assumption) | (with_reducible refine Below.trans ?_ (Below.mono (by with_reducible assumption) ?_)) | (with_reducible refine Below.alloc ?_ ?_ _) | (with_reducible refine Below.setCell ?_ ?_ _) | (with_reducible refine below_drewN ?_ _) | (with_reducible refine Below.drew ?_) | go_size)))))))
      | (go_at_call 15; refine (known3 _ (HM.out.below (HBv3.out.trans (Below.mono (show Below v3.heap.size v3 _ from (by (repeat' (first | (with_reducible exact Below.refl _ _) | (with_reducible assumption) | (with_reducible refine Below.trans ?_ (Below.mono (by with_reducible assumption) ?_)) | (with_reducible refine Below.alloc ?_ ?_ _) | (with_reducible refine Below.setCell ?_ ?_ _) | (with_reducible refine below_drewN ?_ _) | (with_reducible refine Below.drew ?_) | go_size)))) HBv3.out.size)))).mono ?_; rintro e v4 ⟨rfl, hb4⟩; have p0 := (hb4.cell (p := ⟨w.heap.size, 0, none⟩) lw).trans p0; have p1 := (hb4.cell (p := ⟨w.heap.size, 1, none⟩) lw).trans p1; have c0 := (hb4.cell (p := ⟨B, O, none⟩) lB1).trans c0; have c1 := (hb4.cell (p := ⟨B, O + 1, none⟩) lB1).trans c1; have d0 := (hb4.cell (p := ⟨B, O + m * 2, none⟩) lB1).trans d0; have d1 := (hb4.cell (p := ⟨B, O + m * 2 + 1, none⟩) lB1).trans d1; have lw := Nat.lt_of_lt_of_le lw hb4.size; have lB1 := Nat.lt_of_lt_of_le lB1 hb4.size; have HXv3 : Below v3.heap.size v3 v4 := Below.trans (by (repeat' (first | (with_reducible exact Below.refl _ _) | (with_reducible assumption) | (with_reducible refine Below.trans ?_ (Below.mono (by with_reducible assumption) ?_)) | (with_reducible refine Below.alloc ?_ ?_ _) | (with_reducible refine Below.setCell ?_ ?_ _) | (with_reducible refine below_drewN ?_ _) | (with_reducible refine Below.drew ?_) | go_size))) (hb4.mono (Below.size (show Below v3.heap.size v3 _ from (by (repeat' (first | (with_reducible exact Below.refl _ _) | (with_reducible assumption) | (with_reducible refine Below.trans ?_ (Below.mono (by with_reducible assumption) ?_)) | (with_reducible refine Below.alloc ?_ ?_ _) | (with_reducible refine Below.setCell ?_ ?_ _) | (with_reducible refine below_drewN ?_ _) | (with_reducible refine Below.drew ?_) | go_size))))))))
  have HBv4 := HBv3.out.trans (HXv3.mono HBv3.out.size)
  go_wp2
  go_ret
  go_light
  exact ⟨rfl, HBv4⟩
set_option maxRecDepth 100000 in
theorem leapEnds_contract (H : Type) (enc : TypeId × Value → H) (W : World) (base : Nat) (args : Array Value) (ds gs : List (DataW H)) (before : List MemPlace)
    (hval0 : ∀ (j : Nat) t v, Tryd.f10.params[j]? = some t → args[j]? = some v → Value.okWide Tryd.prog W .any base t v)
    (hW : DataW.Whole enc Tryd.prog Tryd.f10.params.toList Rows.leapEndsSpec.vars false W args.toList ds gs before)
    (hsz0 : (DataW.weightsEach Tryd.prog (Tryd.f10.params.toList ++ (OpenSpec.ofChange Rows.leapEndsSpec).bare.plain.varTypes Tryd.prog) (ds ++ gs)).all (· ≤ reachBytes) = true) (hL : laidMetH Tryd.prog Rows.leapEndsRow.laid W) (hS : W.ShapedOpen Tryd.prog) :
    Calls Tryd.prog 10 args W fun e W' => ∃ v, e = .returned v ∧ Rows.leapEndsSpec.post enc Tryd.prog Tryd.f10 false true false false W args v W' := by
  have hval : ∀ (j : Nat) t v, Tryd.f10.params[j]? = some t → args[j]? = some v → Value.okWide Tryd.prog W .any base t v := hval0
  have hsz := hsz0
  have hW' := hW
  obtain ⟨p, q, hA0, hV, rfl, hfz, hnd⟩ := hW
  have hA : DataW.TrodAll enc Tryd.prog W 0 (fun _ => true) true Tryd.f10.params.toList args.toList ds p := hA0
  rw [Tryd.params10] at hA hval hsz
  have hsame : (Rows.leapEndsSpec.fn H (ds ++ gs)).results = [.lit (.bool true)] ∧ (Rows.leapEndsSpec.fn H (ds ++ gs)).args = ds ∧ (Rows.leapEndsSpec.fn H (ds ++ gs)).vars = [] → ∀ W', Below W.heap.size W W' → Rows.leapEndsSpec.post enc Tryd.prog Tryd.f10 false true false false W args (.bool true) W' :=
    fun h W' hb => law_post (tb := 4) hW' law_laid (by kernel_rfl) rfl Tryd.underlying4 h.1 h.2.1 rfl h.2.2 hb
  obtain ⟨v0, vs0, d0, ds0, p0, q0, hargs, rfl, rfl, h0, r0⟩ := trodAll_cons hA
  obtain ⟨v1, vs1, d1, ds1, p1, q1, rfl, rfl, rfl, h1, r1⟩ := trodAll_cons r0
  obtain ⟨rfl, rfl, rfl⟩ := trodAll_nil r1
  obtain rfl : args = #[v0, v1] := by cases args; simp_all
  obtain ⟨rfl, rfl⟩ := trodVars_none hV
  have hpost := hsame ⟨rfl, rfl, rfl⟩
  clear hsame hA0 hval0 hsz0
  obtain ⟨A, n, c, z, x, rfl, hn, hz, _⟩ := open_table (hval 0 24 v0 rfl rfl) h0
  obtain ⟨a1, rfl, rfl, rfl, wf1⟩ := open_int Tryd.underlying3 (hval 1 3 v1 rfl rfl) h1
  have hm := mx_of_shaped hS
  by_cases h : 100 < n ∨ a1 < 0 ∨ 1099511627776 < a1
  · exact (ends_out A n c x a1 W hm h).mono fun e W' ⟨he, hb⟩ => ⟨_, he, hpost W' hb⟩
  · by_cases ht : IsTab z n x
    · obtain ⟨m, rfl⟩ : ∃ m, n = m + 1 := ⟨n - 1, by have := ht.1; omega⟩
      obtain ⟨B, O, rfl, _, _⟩ := hz (by omega)
      exact (ends_in B O m c x a1 z W hm hz (by omega) (by omega) ht).mono fun e W' ⟨he, hb⟩ => ⟨_, he, hpost W' hb⟩
    · exact (ends_no A n c x a1 z W hm hz (by omega) (by omega) (by omega) ht).mono fun e W' ⟨he, hb⟩ => ⟨_, he, hpost W' hb⟩
theorem leapEnds_reads (os : Os) {H : Type} (enc : TypeId × Value → H) : (DataW.whole enc Tryd.prog ((layW os).forCall (fun _ _ => 0) ⟨#[], #[.agg #[.slice none 0 0, .int .i64 0], .int .i64 0], []⟩).memory Tryd.f10.params.toList Rows.leapEndsSpec.vars false #[.agg #[.slice none 0 0, .int .i64 0], .int .i64 0].toList 8).isSome = true := by kernel_rfl
theorem leapEnds_met (os : Os) : laidMet Tryd.prog Rows.leapEndsRow.laid ((layW os).forCall (fun _ _ => 0) ⟨#[], #[.agg #[.slice none 0 0, .int .i64 0], .int .i64 0], []⟩).memory := laidMet_of_run' 8 (by kernel_rfl) (by kernel_rfl)
set_option maxRecDepth 100000 in
theorem leapEnds_lifted (os : Os) (started : os.Started) (H : Type) (enc : TypeId × Value → H) (F : Stop.Interp) :
    ReturnsInHanded {} Tryd.checked os 10 .any ((OpenSpec.ofChange Rows.leapEndsSpec).preRow enc Tryd.prog Tryd.f10 Rows.leapEndsRow.domain false Rows.leapEndsRow.laid) (((OpenSpec.ofChange Rows.leapEndsSpec).at F).post enc Tryd.prog Tryd.f10 false true false false) := by
  obtain ⟨x, hx⟩ := Option.isSome_iff_exists.1 (leapEnds_reads os enc)
  refine returnsInHanded_of_row (C := Tryd.checked) (s := OpenSpec.ofChange Rows.leapEndsSpec) law_own started (by kernel_rfl) Tryd.func10
    (witness_row_at (enc := enc) (C := Tryd.checked) false (layW os) #[.agg #[.slice none 0 0, .int .i64 0], .int .i64 0] rfl (by kernel_rfl) (by kernel_rfl) (by kernel_rfl)
      (OpenSpec.preRow_of_cond 8 hx (by rfl) (fun k hk => by cases hk) (by kernel_rfl) (leapEnds_met os))) ?_
  intro W base args ds gs before hval hW _ _ hsz hL hS _
  exact leapEnds_contract H enc W base args ds gs before hval hW hsz hL hS
theorem leapEnds_said : Rows.LeapEndsSaid :=
  OpenClaim.holds_of_cond 10 Tryd.f10 rfl rfl rfl rfl rfl rfl rfl ⟨rfl, rfl, rfl, rfl, rfl⟩ rfl rfl rfl rfl rfl (by kernel_rfl) Tryd.func10 (by kernel_rfl)
    (of_decide_eq_true (by kernel_rfl)) (by unfold Func.isWrapper; first | (rw [if_pos (by decide +kernel)]; kernel_rfl) | (rw [if_neg (by decide +kernel)]; exact ⟨rfl, rfl⟩))
    (fun os started H enc _ F => by rw [OpenClaim.pre_eq_preRow]; exact leapEnds_lifted os started H enc F)
theorem leapEnds_holds : Rows.LeapEndsCardSaid :=
  Claim7.holds_tied_plain_at .later [] _ _ _ _ leapEnds_said (fun _ h => by cases h) (by kernel_rfl) (fun _ h => by cases h) leapEnds_row_tie rfl ⟨rfl, rfl⟩ (by kernel_rfl) rfl (plain_of (f0 := 10) (fn0 := Tryd.f10) (by kernel_rfl) Tryd.func10 (by kernel_rfl) (by kernel_rfl)) (by kernel_rfl)
end Go.Proofs.YtonleiffbfdikaaDoor
