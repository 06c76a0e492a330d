/- Stage 3: what is known. -/
import Derived.Test.YtonleiffbfdikaaDoorKnownP
import Derived.Test.YtonleiffbfdikaaDoorLeapLen
import Derived.Test.YtonleiffbfdikaaDoorRef2B
set_option linter.unusedSimpArgs false
set_option linter.unusedVariables false
namespace Go.Proofs.YtonleiffbfdikaaDoor
open Go.RowKit

theorem day3 (w : World) : Calls Tryd.prog 27 #[.int .i64 2016, .int .i64 12, .int .i64 31] w fun e w' => e = .returned (.int .i64 17166) ∧ Below w.heap.size w w' := by
  go_enter Tryd.func27, Tryd.ntmps27
  go_wp2_with fail
  refine (ref2_days_yes 2016 12 31 _ (by unfold Cal.Vld; decide)).mono ?_; rintro e w1 ⟨rfl, hb1⟩
  rw [show Cal.num 2016 12 31 = 17166 from by decide]
  go_wp2
  go_ret
  exact ⟨rfl, hb1⟩
theorem off3 : offK kz 17166 2 = 36 ∧ offK kz 17167 2 = 37 := by decide
set_option maxHeartbeats 4000000 in
theorem known3 (w : World) (hm : Mx w) : Calls Tryd.prog 15 #[] w fun e w' => e = .returned (.bool true) ∧ Below w.heap.size w w' := by
  have HP := Lib.hid (parse_known w hm)
  clear hm
  go_enter Tryd.func15, Tryd.ntmps15
  go_wp2_with fail
  refine HP.out.mono ?_; rintro e w1 ⟨A, c, rfl, hf, hb1⟩
  have B2 : Below w1.heap.size w1 (w1.alloc (.cells #[.slice A 2 c, .int .i64 20815] 24)) := by (repeat' (first | (with_reducible exact Below.refl _ _) | (with_reducible assumption) | (with_reducible refine Below.trans ?_ (Below.mono (by with_reducible assumption) ?_)) | (with_reducible refine Below.alloc ?_ ?_ _) | (with_reducible refine Below.setCell ?_ ?_ _) | (with_reducible refine below_drewN ?_ _) | (with_reducible refine Below.drew ?_) | go_size))
  have hf2 := hf.below B2
  have HB := hb1.trans (B2.mono hb1.size)
  have q0 : (w1.alloc (.cells #[.slice A 2 c, .int .i64 20815] 24)).cell? ⟨w1.heap.size, 0, none⟩ = some (.slice A 2 c) := by simp
  have q1 : (w1.alloc (.cells #[.slice A 2 c, .int .i64 20815] 24)).cell? ⟨w1.heap.size, 1, none⟩ = some (.int .i64 20815) := by simp
  have l1 : w1.heap.size < (w1.alloc (.cells #[.slice A 2 c, .int .i64 20815] 24)).heap.size := by simp
  have HF := Lib.hid hf2
  clear hf hf2 B2 HP hb1
  go_wp2_with fail
  generalize w1.alloc (.cells #[.slice A 2 c, .int .i64 20815] 24) = w2 at *
  go_region_held3 (fun w' => w'.cell? ⟨w1.heap.size, 0, none⟩ = some (.slice A 2 c) ∧ w'.cell? ⟨w1.heap.size, 1, none⟩ = some (.int .i64 20815)) (exact ⟨q0, q1⟩)
    (first
      | (go_at_call 27; refine (day3 _).mono ?_; rintro e w3 ⟨rfl, hb3⟩; have q0 := (hb3.cell (p := ⟨w1.heap.size, 0, none⟩) l1).trans q0; have q1 := (hb3.cell (p := ⟨w1.heap.size, 1, none⟩) l1).trans q1; have l1 := Nat.lt_of_lt_of_le l1 hb3.size; have HX : Below w2.heap.size w2 w3 := Below.trans (by (repeat' (first | (with_reducible exact Below.refl _ _) | (with_reducible assumption) | (with_reducible refine Below.trans ?_ (Below.mono (by with_reducible assumption) ?_)) | (with_reducible refine Below.alloc ?_ ?_ _) | (with_reducible refine Below.setCell ?_ ?_ _) | (with_reducible refine below_drewN ?_ _) | (with_reducible refine Below.drew ?_) | go_size))) (hb3.mono (Below.size (show Below w2.heap.size w2 _ from (by (repeat' (first | (with_reducible exact Below.refl _ _) | (with_reducible assumption) | (with_reducible refine Below.trans ?_ (Below.mono (by with_reducible assumption) ?_)) | (with_reducible refine Below.alloc ?_ ?_ _) | (with_reducible refine Below.setCell ?_ ?_ _) | (with_reducible refine below_drewN ?_ _) | (with_reducible refine Below.drew ?_) | go_size)))))))
      | (go_at_call 16; refine (leap_offset_yes A 2 c 20815 17166 kz _ (HF.out.below (by (repeat' (first | (with_reducible exact Below.refl _ _) | (with_reducible assumption) | (with_reducible refine Below.trans ?_ (Below.mono (by with_reducible assumption) ?_)) | (with_reducible refine Below.alloc ?_ ?_ _) | (with_reducible refine Below.setCell ?_ ?_ _) | (with_reducible refine below_drewN ?_ _) | (with_reducible refine Below.drew ?_) | go_size)))) (kz_tab _ (by omega) (by omega))).mono ?_; rw [off3.1]; rintro e w3 ⟨rfl, hb3⟩; have q0 := (hb3.cell (p := ⟨w1.heap.size, 0, none⟩) l1).trans q0; have q1 := (hb3.cell (p := ⟨w1.heap.size, 1, none⟩) l1).trans q1; have l1 := Nat.lt_of_lt_of_le l1 hb3.size; have HX : Below w2.heap.size w2 w3 := Below.trans (by (repeat' (first | (with_reducible exact Below.refl _ _) | (with_reducible assumption) | (with_reducible refine Below.trans ?_ (Below.mono (by with_reducible assumption) ?_)) | (with_reducible refine Below.alloc ?_ ?_ _) | (with_reducible refine Below.setCell ?_ ?_ _) | (with_reducible refine below_drewN ?_ _) | (with_reducible refine Below.drew ?_) | go_size))) (hb3.mono (Below.size (show Below w2.heap.size w2 _ from (by (repeat' (first | (with_reducible exact Below.refl _ _) | (with_reducible assumption) | (with_reducible refine Below.trans ?_ (Below.mono (by with_reducible assumption) ?_)) | (with_reducible refine Below.alloc ?_ ?_ _) | (with_reducible refine Below.setCell ?_ ?_ _) | (with_reducible refine below_drewN ?_ _) | (with_reducible refine Below.drew ?_) | go_size)))))))
      | (go_at_call 18; refine (leap_length_yes A 2 c 20815 17166 kz _ (HF.out.below (by (repeat' (first | (with_reducible exact Below.refl _ _) | (with_reducible assumption) | (with_reducible refine Below.trans ?_ (Below.mono (by with_reducible assumption) ?_)) | (with_reducible refine Below.alloc ?_ ?_ _) | (with_reducible refine Below.setCell ?_ ?_ _) | (with_reducible refine below_drewN ?_ _) | (with_reducible refine Below.drew ?_) | go_size)))) (kz_tab _ (by omega) (by omega)) (by omega) (by omega)).mono ?_; rw [show (17166 : Int) + 1 = 17167 from rfl, off3.1, off3.2]; rintro e w3 ⟨rfl, hb3⟩; have q0 := (hb3.cell (p := ⟨w1.heap.size, 0, none⟩) l1).trans q0; have q1 := (hb3.cell (p := ⟨w1.heap.size, 1, none⟩) l1).trans q1; have l1 := Nat.lt_of_lt_of_le l1 hb3.size; have HX : Below w2.heap.size w2 w3 := Below.trans (by (repeat' (first | (with_reducible exact Below.refl _ _) | (with_reducible assumption) | (with_reducible refine Below.trans ?_ (Below.mono (by with_reducible assumption) ?_)) | (with_reducible refine Below.alloc ?_ ?_ _) | (with_reducible refine Below.setCell ?_ ?_ _) | (with_reducible refine below_drewN ?_ _) | (with_reducible refine Below.drew ?_) | go_size))) (hb3.mono (Below.size (show Below w2.heap.size w2 _ from (by (repeat' (first | (with_reducible exact Below.refl _ _) | (with_reducible assumption) | (with_reducible refine Below.trans ?_ (Below.mono (by with_reducible assumption) ?_)) | (with_reducible refine Below.alloc ?_ ?_ _) | (with_reducible refine Below.setCell ?_ ?_ _) | (with_reducible refine below_drewN ?_ _) | (with_reducible refine Below.drew ?_) | go_size))))))))
  go_wp2
  go_ret
  go_light
  exact ⟨rfl, HB.trans (HX.mono HB.size)⟩
end Go.Proofs.YtonleiffbfdikaaDoor
