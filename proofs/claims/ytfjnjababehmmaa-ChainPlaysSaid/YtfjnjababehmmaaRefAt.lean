/- The reference's At (written by gen/refat.py). -/
import Derived.Test.YtfjnjababehmmaaRefPlace
import Derived.Test.YtfjnjababehmmaaChAny
set_option linter.unusedSimpArgs false
set_option linter.unusedVariables false
namespace Go.Proofs.Ytfjnjababehmmaa
open Go.RowKit Go.Sort

set_option maxRecDepth 100000 in
set_option maxHeartbeats 4000000 in
theorem ref_at_none (P : Nat → Prop) (b : Nat) (v : Value) (L : List Mv) (tm tc : Int) (w : World) (h : Ch P w b v L) (hl : L.length ≤ 1000000) (hs : StandV L (fun x => cmp2 x.ml x.ct tm tc ≤ 0) 0) :
    Calls Try.prog 22 #[.pointer (some ⟨b, 0, none⟩), .agg #[.int .i64 tm, .int .i64 tc]] w fun e w' => e = .returned (.tuple #[verV 0 0 0 none 0 0 false 0, .bool false]) ∧ Below w.heap.size w w' := by
  have HB0 : Below w.heap.size w ((w.alloc (.cells #[.int .i64 tm, .int .i64 tc] 25)).alloc (verO 0 0 0 none 0 0 false 0)) := by (repeat' (first | (with_reducible exact Below.refl _ _) | (with_reducible assumption) | (with_reducible refine Below.trans ?_ (Below.mono (by with_reducible assumption) ?_)) | (with_reducible refine Below.alloc ?_ ?_ _) | (with_reducible refine Below.setCell ?_ ?_ _) | (with_reducible refine below_drewN ?_ _) | (with_reducible refine Below.drew ?_) | go_size))
  have HU : Hid (Calls Try.prog 42 #[.pointer (some ⟨b, 0, none⟩), .agg #[.int .i64 tm, .int .i64 tc]] ((w.alloc (.cells #[.int .i64 tm, .int .i64 tc] 25)).alloc (verO 0 0 0 none 0 0 false 0)) fun e w' => e = .returned (.int .i64 (-1)) ∧ Below ((w.alloc (.cells #[.int .i64 tm, .int .i64 tc] 25)).alloc (verO 0 0 0 none 0 0 false 0)).heap.size ((w.alloc (.cells #[.int .i64 tm, .int .i64 tc] 25)).alloc (verO 0 0 0 none 0 0 false 0)) w') := Lib.hid ((ref_place P b v L tm tc 0 _ (h.below HB0) hl hs).mono fun e w' ⟨h1, h2⟩ => ⟨h1, h2⟩)
  clear h hs
  go_enter Try.func22, Try.ntmps22
  go_wp2_with fail
  refine HU.out.mono ?_
  rintro e w1 ⟨rfl, hb1⟩
  have r0 : w1.cell? ⟨w.heap.size + 1, 0, none⟩ = some (.int .i64 0) := (hb1.cell (p := ⟨w.heap.size + 1, 0, none⟩) (by simp)).trans (by simp)
  have r1 : w1.cell? ⟨w.heap.size + 1, 1, none⟩ = some (.int .i64 0) := (hb1.cell (p := ⟨w.heap.size + 1, 1, none⟩) (by simp)).trans (by simp)
  have r2 : w1.cell? ⟨w.heap.size + 1, 2, none⟩ = some (.int .i64 0) := (hb1.cell (p := ⟨w.heap.size + 1, 2, none⟩) (by simp)).trans (by simp)
  have r3 : w1.cell? ⟨w.heap.size + 1, 3, none⟩ = some (.slice none 0 0) := (hb1.cell (p := ⟨w.heap.size + 1, 3, none⟩) (by simp)).trans (by simp)
  have r4 : w1.cell? ⟨w.heap.size + 1, 4, none⟩ = some (.bool false) := (hb1.cell (p := ⟨w.heap.size + 1, 4, none⟩) (by simp)).trans (by simp)
  have r5 : w1.cell? ⟨w.heap.size + 1, 5, none⟩ = some (.int .i64 0) := (hb1.cell (p := ⟨w.heap.size + 1, 5, none⟩) (by simp)).trans (by simp)
  have f0 : ∀ k, w1.frozen? ⟨w.heap.size + 1, k, none⟩ = false := (fun k => (hb1.frozen (p := ⟨w.heap.size + 1, k, none⟩) (by simp)).trans (by simp))
  have z1 : w.heap.size + 1 + 1 ≤ w1.heap.size := (by have := hb1.size; simpa using this)
  have hbb := HB0.trans (hb1.mono HB0.size)
  have HB1 := Lib.hid hbb
  clear hb1 hbb HU HB0
  go_wp2
  have HF : Below w.heap.size w ((((((w1.setCell ⟨w.heap.size + 1, 0, none⟩ (.int .i64 0)).setCell ⟨w.heap.size + 1, 1, none⟩ (.int .i64 0)).setCell ⟨w.heap.size + 1, 2, none⟩ (.int .i64 0)).setCell ⟨w.heap.size + 1, 3, none⟩ (.slice none 0 0)).setCell ⟨w.heap.size + 1, 4, none⟩ (.bool false)).setCell ⟨w.heap.size + 1, 5, none⟩ (.int .i64 0)) := by
    have h0 := HB1.out
    clear HB1
    (repeat' (first | (with_reducible exact Below.refl _ _) | (with_reducible assumption) | (with_reducible refine Below.trans ?_ (Below.mono (by with_reducible assumption) ?_)) | (with_reducible refine Below.alloc ?_ ?_ _) | (with_reducible refine Below.setCell ?_ ?_ _) | (with_reducible refine below_drewN ?_ _) | (with_reducible refine Below.drew ?_) | go_size))
  refine bodyPost_ret (v := .tuple #[verV 0 0 0 none 0 0 false 0, .bool false]) (by simp [results, Try.results22, go_sem, r0, r1, r2, r3, r4, r5]) rfl ⟨rfl, HF⟩
set_option maxRecDepth 100000 in
set_option maxHeartbeats 4000000 in
theorem ref_at_some (P : Nat → Prop) (b : Nat) (v : Value) (L : List Mv) (tm tc : Int) (k : Nat) (x : Mv) (w : World) (h : Ch P w b v L) (hl : L.length ≤ 1000000) (hs : StandV L (fun x => cmp2 x.ml x.ct tm tc ≤ 0) (k + 1)) (hx : L[k]? = some x) :
    Calls Try.prog 22 #[.pointer (some ⟨b, 0, none⟩), .agg #[.int .i64 tm, .int .i64 tc]] w fun e w' => e = .returned (.tuple #[x.val, .bool true]) ∧ Below w.heap.size w w' := by
  have HB0 : Below w.heap.size w ((w.alloc (.cells #[.int .i64 tm, .int .i64 tc] 25)).alloc (verO 0 0 0 none 0 0 false 0)) := by (repeat' (first | (with_reducible exact Below.refl _ _) | (with_reducible assumption) | (with_reducible refine Below.trans ?_ (Below.mono (by with_reducible assumption) ?_)) | (with_reducible refine Below.alloc ?_ ?_ _) | (with_reducible refine Below.setCell ?_ ?_ _) | (with_reducible refine below_drewN ?_ _) | (with_reducible refine Below.drew ?_) | go_size))
  have HU : Hid (Calls Try.prog 42 #[.pointer (some ⟨b, 0, none⟩), .agg #[.int .i64 tm, .int .i64 tc]] ((w.alloc (.cells #[.int .i64 tm, .int .i64 tc] 25)).alloc (verO 0 0 0 none 0 0 false 0)) fun e w' => e = .returned (.int .i64 (k : Int)) ∧ Below ((w.alloc (.cells #[.int .i64 tm, .int .i64 tc] 25)).alloc (verO 0 0 0 none 0 0 false 0)).heap.size ((w.alloc (.cells #[.int .i64 tm, .int .i64 tc] 25)).alloc (verO 0 0 0 none 0 0 false 0)) w') := Lib.hid ((ref_place P b v L tm tc (k + 1) _ (h.below HB0) hl hs).mono fun e w' ⟨h1, h2⟩ => ⟨h1.trans (by rw [show ((k + 1 : Nat) : Int) - 1 = (k : Int) from by omega]), h2⟩)
  have hkl : k < L.length := (List.getElem?_eq_some_iff.1 hx).1
  obtain ⟨g, cap, rfl, _⟩ := row_shape h.row (by omega)
  have HH := Lib.hid h
  have HX := Lib.hid hx
  obtain ⟨⟨ml, ct, vo, val, gn, tt⟩, A, cc⟩ := x
  have hk2 : (k : Int) < (L.length : Int) := by omega
  have tk : decide ((k : Int) < 0) = false := by simp
  clear h hs hx hkl
  go_enter Try.func22, Try.ntmps22
  go_wp2_with fail
  refine HU.out.mono ?_
  rintro e w1 ⟨rfl, hb1⟩
  have r0 : w1.cell? ⟨w.heap.size + 1, 0, none⟩ = some (.int .i64 0) := (hb1.cell (p := ⟨w.heap.size + 1, 0, none⟩) (by simp)).trans (by simp)
  have r1 : w1.cell? ⟨w.heap.size + 1, 1, none⟩ = some (.int .i64 0) := (hb1.cell (p := ⟨w.heap.size + 1, 1, none⟩) (by simp)).trans (by simp)
  have r2 : w1.cell? ⟨w.heap.size + 1, 2, none⟩ = some (.int .i64 0) := (hb1.cell (p := ⟨w.heap.size + 1, 2, none⟩) (by simp)).trans (by simp)
  have r3 : w1.cell? ⟨w.heap.size + 1, 3, none⟩ = some (.slice none 0 0) := (hb1.cell (p := ⟨w.heap.size + 1, 3, none⟩) (by simp)).trans (by simp)
  have r4 : w1.cell? ⟨w.heap.size + 1, 4, none⟩ = some (.bool false) := (hb1.cell (p := ⟨w.heap.size + 1, 4, none⟩) (by simp)).trans (by simp)
  have r5 : w1.cell? ⟨w.heap.size + 1, 5, none⟩ = some (.int .i64 0) := (hb1.cell (p := ⟨w.heap.size + 1, 5, none⟩) (by simp)).trans (by simp)
  have f0 : ∀ k, w1.frozen? ⟨w.heap.size + 1, k, none⟩ = false := (fun k => (hb1.frozen (p := ⟨w.heap.size + 1, k, none⟩) (by simp)).trans (by simp))
  have z1 : w.heap.size + 1 + 1 ≤ w1.heap.size := (by have := hb1.size; simpa using this)
  have hbb := HB0.trans (hb1.mono HB0.size)
  have H1 := HH.out.below hbb
  have c0 := H1.c0
  obtain ⟨q0, q1, q2, q3, q4, q5⟩ := H1.ver HX.out
  clear H1
  have HB1 := Lib.hid hbb
  clear hb1 hbb HU HB0
  go_wp2
  have HF : Below w.heap.size w ((((((w1.setCell ⟨w.heap.size + 1, 0, none⟩ (.int .i64 ml)).setCell ⟨w.heap.size + 1, 1, none⟩ (.int .i64 ct)).setCell ⟨w.heap.size + 1, 2, none⟩ (.int .i64 vo)).setCell ⟨w.heap.size + 1, 3, none⟩ (.slice A val.length cc)).setCell ⟨w.heap.size + 1, 4, none⟩ (.bool gn)).setCell ⟨w.heap.size + 1, 5, none⟩ (.int .i64 tt)) := by
    have h0 := HB1.out
    clear HB1
    (repeat' (first | (with_reducible exact Below.refl _ _) | (with_reducible assumption) | (with_reducible refine Below.trans ?_ (Below.mono (by with_reducible assumption) ?_)) | (with_reducible refine Below.alloc ?_ ?_ _) | (with_reducible refine Below.setCell ?_ ?_ _) | (with_reducible refine below_drewN ?_ _) | (with_reducible refine Below.drew ?_) | go_size))
  refine bodyPost_ret (v := .tuple #[verV ml ct vo A val.length cc gn tt, .bool true]) (by simp [results, Try.results22, go_sem, r0, r1, r2, r3, r4, r5]) rfl ⟨rfl, HF⟩
def RefAt (L : List Mv) (t : Int × Int) (w w' : World) (e : Ending) : Prop :=
  (atM (L.map Mv.v) t = none ∧ e = .returned (.tuple #[verV 0 0 0 none 0 0 false 0, .bool false]) ∧ Below w.heap.size w w') ∨ (∃ x, x ∈ L ∧ atM (L.map Mv.v) t = some x.v ∧ e = .returned (.tuple #[x.val, .bool true]) ∧ Below w.heap.size w w')
theorem ref_at (P : Nat → Prop) (b : Nat) (v : Value) (L : List Mv) (tm tc : Int) (w : World) (h : Ch P w b v L) (hl : L.length ≤ 1000000) (hr : Rise (L.map Mv.v)) :
    Calls Try.prog 22 #[.pointer (some ⟨b, 0, none⟩), .agg #[.int .i64 tm, .int .i64 tc]] w fun e w' => RefAt L (tm, tc) w w' e := by
  have hs := stand_t hr (tm, tc)
  rcases atM_cases (L := L) (tm, tc) with ⟨h0, ha⟩ | ⟨k, x, h0, hx, ha⟩
  · rw [h0] at hs
    exact (ref_at_none P b v L tm tc w h hl hs).mono fun e w' ⟨h1, h2⟩ => .inl ⟨ha, h1, h2⟩
  · rw [h0] at hs
    exact (ref_at_some P b v L tm tc k x w h hl hs hx).mono fun e w' ⟨h1, h2⟩ => .inr ⟨x, List.mem_of_getElem? hx, ha, h1, h2⟩
end Go.Proofs.Ytfjnjababehmmaa
