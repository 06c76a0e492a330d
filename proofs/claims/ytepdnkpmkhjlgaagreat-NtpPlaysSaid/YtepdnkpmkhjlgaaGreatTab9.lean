/- The table of the law: three leaps. -/
import Derived.Test.YtepdnkpmkhjlgaaGreatM9C
import Derived.Test.YtepdnkpmkhjlgaaGreatM9A
import Derived.Laws.Rows
set_option linter.unusedSimpArgs false
set_option linter.unusedVariables false
namespace Go.Proofs.YtepdnkpmkhjlgaaGreat
open Go.RowKit

theorem new_cell (v : World) {b : Nat} (h : v.heap.size = b) (cs : Array Value) (t : TypeId) (j : Nat) : (v.alloc (.cells cs t)).cell? ⟨b, j, none⟩ = cs[j]? := by
  subst h
  exact cell_of_row _ _ _ cs t (0, 0) (heap_alloc_new v _)
/-- The three leaps. -/
def zt (j : Nat) : Int := if j = 0 then 730 else if j = 1 then 35 else if j = 2 then 16617 else if j = 3 then 36 else if j = 4 then 17167 else 37
theorem zt_tab : IsTab zt 3 21167 := by
  refine ⟨by omega, by omega, ?_, by decide, by decide, by decide⟩
  intro k hk
  rcases (show k = 0 ∨ k = 1 ∨ k = 2 from by omega) with rfl | rfl | rfl
  · exact ⟨by decide, by decide, by decide, by decide, .inl rfl⟩
  · exact ⟨by decide, by decide, by decide, by decide, .inr ⟨by decide, ⟨2015, 7, by unfold Cal.Vld; decide, by decide⟩, by decide⟩⟩
  · exact ⟨by decide, by decide, by decide, by decide, .inr ⟨by decide, ⟨2017, 1, by unfold Cal.Vld; decide, by decide⟩, by decide⟩⟩
def TabPost (w : World) (e : Ending) (w' : World) : Prop := ∃ B : Nat, e = .returned (.agg #[.slice (some ⟨B, 0, none⟩) 3 3, .int .i64 21167]) ∧ Below w.heap.size w w' ∧ FlatAt w' (some ⟨B, 0, none⟩) 2 3 zt
theorem n1972 : Cal.num 1972 1 1 = 730 ∧ Cal.num 2015 7 1 = 16617 ∧ Cal.num 2017 1 1 = 17167 ∧ Cal.num 2016 12 31 = 17166 := by decide
theorem vlds : Cal.Vld 1972 1 1 ∧ Cal.Vld 2015 7 1 ∧ Cal.Vld 2017 1 1 ∧ Cal.Vld 2016 12 31 := by unfold Cal.Vld; decide
theorem days_of {y m d v : Int} (hv : Cal.Vld y m d) (e : Cal.num y m d = v) (w : World) : Calls Tryz.prog 36 #[.agg #[.int .i64 y, .int .i64 m, .int .i64 d]] w fun e w' => e = .returned (.tuple #[.int .i64 v, .int .i64 0]) ∧ Below w.heap.size w w' := by
  subst e
  exact ref2_days_yes y m d w hv
set_option maxHeartbeats 1000000 in
theorem table4 (w : World) : Calls Tryz.prog 15 #[] w (TabPost w) := by
  have k0 := Ints2.new w 0 0 24
  have HB0 : Below w.heap.size w (w.alloc (.cells #[.slice none 0 0, .int .i64 0] 24)) := by (repeat' (first | (with_reducible exact Below.refl _ _) | (with_reducible assumption) | (with_reducible refine Below.trans ?_ (Below.mono (by with_reducible assumption) ?_)) | (with_reducible refine Below.alloc ?_ ?_ _) | (with_reducible refine Below.setCell ?_ ?_ _) | (with_reducible refine below_drewN ?_ _) | (with_reducible refine Below.drew ?_) | go_size))
  go_enter Tryz.func15, Tryz.ntmps15
  go_wp2_with fail
  refine (days_of vlds.1 n1972.1 _).mono ?_; rintro e w1 ⟨rfl, hb1⟩
  have HB1 : Below w.heap.size w w1 := HB0.trans (hb1.mono HB0.size)
  have l1 : w.heap.size < w1.heap.size := by have := hb1.size; simp at this; omega
  have f0 : w1.frozen? ⟨w.heap.size, 0, none⟩ = false := (hb1.frozen (p := ⟨w.heap.size, 0, none⟩) (by simp)).trans (by simp)
  have f1 : w1.frozen? ⟨w.heap.size, 1, none⟩ = false := (hb1.frozen (p := ⟨w.heap.size, 1, none⟩) (by simp)).trans (by simp)
  have c0 : w1.cell? ⟨w.heap.size, 0, none⟩ = some (.slice none 0 0) := (hb1.cell (p := ⟨w.heap.size, 0, none⟩) (by simp)).trans (by simp)
  have c1 : w1.cell? ⟨w.heap.size, 1, none⟩ = some (.int .i64 0) := (hb1.cell (p := ⟨w.heap.size, 1, none⟩) (by simp)).trans (by simp)
  clear hb1
  go_wp2_with fail
  refine (days_of vlds.2.1 n1972.2.1 _).mono ?_; rintro e w2 ⟨rfl, hb2⟩
  have HB2 : Below w.heap.size w w2 := HB1.trans (hb2.mono HB1.size)
  have l2 := Nat.lt_of_lt_of_le l1 hb2.size
  have f0 := (hb2.frozen (p := ⟨w.heap.size, 0, none⟩) l1).trans f0
  have f1 := (hb2.frozen (p := ⟨w.heap.size, 1, none⟩) l1).trans f1
  have c0 := (hb2.cell (p := ⟨w.heap.size, 0, none⟩) l1).trans c0
  have c1 := (hb2.cell (p := ⟨w.heap.size, 1, none⟩) l1).trans c1
  clear hb2
  go_wp2_with fail
  refine (days_of vlds.2.2.1 n1972.2.2.1 _).mono ?_; rintro e w3 ⟨rfl, hb3⟩
  have HB3 : Below w.heap.size w w3 := HB2.trans (hb3.mono HB2.size)
  have l3 := Nat.lt_of_lt_of_le l2 hb3.size
  have f0 := (hb3.frozen (p := ⟨w.heap.size, 0, none⟩) l2).trans f0
  have f1 := (hb3.frozen (p := ⟨w.heap.size, 1, none⟩) l2).trans f1
  have c0 := (hb3.cell (p := ⟨w.heap.size, 0, none⟩) l2).trans c0
  have c1 := (hb3.cell (p := ⟨w.heap.size, 1, none⟩) l2).trans c1
  clear hb3
  have R0 := World.cell?_setCell_same w3 ⟨w.heap.size, 0, none⟩ (.slice (some ⟨w3.heap.size, 0, none⟩) 3 3) c0
  have R1 := World.cell?_setCell_same (w3.setCell ⟨w.heap.size, 0, none⟩ (.slice (some ⟨w3.heap.size, 0, none⟩) 3 3)) ⟨w.heap.size, 1, none⟩ (.int .i64 21167) ((World.cell?_setCell_other _ _ _ _ (by simp)).trans c1)
  have R0 := Lib.hid R0
  have R1 := Lib.hid R1
  go_wp2
  have R0 := R0.out
  have R1 := R1.out
  refine bodyPost_ret (v := .agg #[.slice (some ⟨w3.heap.size, 0, none⟩) 3 3, .int .i64 21167]) ?_ rfl ?_
  · simp [results, Tryz.results15, go_sem, R0, R1, l3]
  · refine ⟨w3.heap.size, rfl, ?_, ?_⟩
    · go_light
      (repeat' (first | (with_reducible exact Below.refl _ _) | (with_reducible assumption) | (with_reducible refine Below.trans ?_ (Below.mono (by with_reducible assumption) ?_)) | (with_reducible refine Below.alloc ?_ ?_ _) | (with_reducible refine Below.setCell ?_ ?_ _) | (with_reducible refine below_drewN ?_ _) | (with_reducible refine Below.drew ?_) | go_size))
    · intro _
      refine ⟨w3.heap.size, 0, rfl, by simp, fun j hj => ?_⟩
      rcases (show j = 0 ∨ j = 1 ∨ j = 2 ∨ j = 3 ∨ j = 4 ∨ j = 5 from by omega) with rfl | rfl | rfl | rfl | rfl | rfl <;> refine ⟨?_, by decide, by decide⟩ <;> (show World.cell? _ ⟨w3.heap.size, 0 + _, none⟩ = _; rw [new_cell _ (by simp)]; rfl)
end Go.Proofs.YtepdnkpmkhjlgaaGreat
